package tests

import (
	"bytes"
	"math"
	"math/rand"
	"reflect"
	"slices"
	"strings"
	"testing"

	"loop.example/g00356/impl"
)

// call is one call with its arguments fixed: it tells all that was answered.
type call struct {
	name string
	do   func() []any
}

func TestCallsHangOnNothingAhead(t *testing.T) {
	calls := sampleCalls()
	first := make([][]any, len(calls))
	for i, c := range calls {
		first[i] = c.do()
	}
	for i, c := range slices.Backward(calls) {
		if again := c.do(); !reflect.DeepEqual(again, first[i]) {
			t.Errorf("%s answered %v, then %v", c.name, first[i], again)
		}
	}
}

func TestArgumentsStayAsTheyWere(t *testing.T) {
	for size := range 20 {
		// What stands behind the end of the argument must stay, too.
		room := sampleBytes(size+8, size)
		before := bytes.Clone(room)
		impl.Check16(room[:size])
		impl.NumberOf(room[:size])
		if !bytes.Equal(room, before) {
			t.Errorf("with %d bytes handed in, %v became %v", size, before, room)
		}
	}
}

func TestFramesHandedInStayAsTheyWere(t *testing.T) {
	frame := []byte(macA + macB + "\x08\x00body")
	arp := []byte("\x00\x01\x08\x00\x06\x04\x00\x02" + macA + "\x0a\x00\x00\x02" + macB + "\x0a\x00\x00\x01")
	for _, text := range [][]byte{nil, sampleBytes(19, 1), frame, arp, packetBytes(samplePacket(5)),
		segmentBytes(1, 2, sampleSegment(5)), datagramBytes(1, 2, sampleDatagram(5)), sampleBytes(420, 2)} {
		room := append(bytes.Clone(text), sampleBytes(40, 3)...)
		before := bytes.Clone(room)
		b := room[:len(text)]
		impl.ReadFrame(b)
		impl.ReadArp(b)
		impl.ReadPacket(b)
		impl.ReadSegment(1, 2, b)
		impl.ReadDatagram(1, 2, b)
		if !bytes.Equal(room, before) {
			t.Errorf("with %d bytes handed in, %x became %x", len(text), before, room)
		}
	}
}

func TestMessagesHandedInStayAsTheyWere(t *testing.T) {
	question, lease := dnsBytes(impl.Dns{Id: 1, Type: 2, Name: "a.bc"}), dhcpBytes(impl.Dhcp{Kind: 3, Mac: macA})
	for _, text := range [][]byte{nil, sampleBytes(19, 1), question, question[:14], question[:len(question)-1], lease, lease[:240], lease[:242], lease[:243],
		rawDhcp("\x00\x0c\x09ab"), sampleBytes(420, 2)} {
		room := append(bytes.Clone(text), sampleBytes(40, 3)...)
		before := bytes.Clone(room)
		impl.ReadDns(room[:len(text)])
		impl.ReadDhcp(room[:len(text)])
		if !bytes.Equal(room, before) {
			t.Errorf("with %d bytes handed in, %x became %x", len(text), before, room)
		}
	}
}

func TestHashedTextsStayAsTheyWere(t *testing.T) {
	for _, size := range []int{0, 1, 54, 55, 56, 63, 64, 65, 119, 120, 128, impl.MaxText, impl.MaxText + 1} {
		// A hash lays up to two blocks behind a text: there is room for them.
		room := sampleBytes(size+200, size)
		before := bytes.Clone(room)
		h, sum := impl.Hash(room[:size]), impl.Check32(room[:size])
		if !bytes.Equal(room, before) {
			t.Errorf("with %d bytes handed in, what was there changed", size)
		}
		tight := bytes.Clone(room[:size])
		if impl.Hash(tight[:size:size]) != h || impl.Check32(tight[:size:size]) != sum {
			t.Errorf("of %d bytes the answers hang on what stands behind them", size)
		}
	}
}

// What stands behind the end of an argument is not of it, even if it would make it whole.
func TestMessagesEndAtTheirEnd(t *testing.T) {
	question, lease := dnsBytes(impl.Dns{Id: 1, Type: 2, Name: "a.bc"}), dhcpBytes(impl.Dhcp{Kind: 3, Mac: macA})
	for size := range len(question) {
		if _, code := impl.ReadDns(question[:size:len(question)]); code != impl.ErrForm {
			t.Errorf("ReadDns of %d bytes: %d", size, code)
		}
	}
	for size := range len(lease) {
		if _, code := impl.ReadDhcp(lease[:size:len(lease)]); code != impl.ErrForm {
			t.Errorf("ReadDhcp of %d bytes: %d", size, code)
		}
	}
}

func TestMessagesReadAreNewMemory(t *testing.T) {
	question, lease := impl.Dns{Id: 1, Type: 2, Name: "a.bc"}, impl.Dhcp{Xid: 4, Kind: 3, Mac: macA}
	b := dnsBytes(question)
	d, _ := impl.ReadDns(b)
	clear(b)
	if d != question {
		t.Errorf("a question was changed through the bytes it was read from: %v", d)
	}
	b = dhcpBytes(lease)
	h, _ := impl.ReadDhcp(b)
	clear(b)
	if h != lease {
		t.Errorf("a message was changed through the bytes it was read from: %v", h)
	}
}

func TestMessagesMadeAreNewMemory(t *testing.T) {
	question, lease := impl.Dns{Id: 1, Type: 2, Name: "a.bc"}, impl.Dhcp{Xid: 4, Kind: 3, Mac: macA}
	for range 2 {
		b, _ := impl.DnsBytes(question)
		h, _ := impl.DhcpBytes(lease)
		if !bytes.Equal(b, dnsBytes(question)) || !bytes.Equal(h, dhcpBytes(lease)) {
			t.Errorf("an answer was changed through another one: %x, %x", b, h)
		}
		clear(b[:cap(b)])
		clear(h[:cap(h)])
	}
}

func TestFramesReadAreNewMemory(t *testing.T) {
	b := []byte(macA + macB + "\x08\x00body")
	f, _ := impl.ReadFrame(b)
	clear(b)
	if want := (impl.Frame{Dst: macA, Src: macB, Kind: impl.KindIp, Body: "body"}); f != want {
		t.Errorf("a frame was changed through the bytes it was read from: %v", f)
	}
	b = packetBytes(samplePacket(5))
	p, _ := impl.ReadPacket(b)
	clear(b)
	if p != samplePacket(5) {
		t.Errorf("a packet was changed through the bytes it was read from: %v", p)
	}
}

func TestAnswersAreNewMemory(t *testing.T) {
	a, _ := impl.NumberBytes(0x010203, 3)
	b, _ := impl.NumberBytes(0x010203, 3)
	for i := range a {
		a[i] = 0xff
	}
	_ = append(a, 0xff)
	if c, _ := impl.NumberBytes(0x010203, 3); string(b) != "\x01\x02\x03" || string(c) != "\x01\x02\x03" {
		t.Errorf("an answer was changed through another one: %v, %v", b, c)
	}
}

func TestEmptyFramesAreAlike(t *testing.T) {
	for _, read := range []func(b []byte) int{
		func(b []byte) int { _, code := impl.ReadFrame(b); return code },
		func(b []byte) int { _, code := impl.ReadArp(b); return code },
		func(b []byte) int { _, code := impl.ReadPacket(b); return code },
		func(b []byte) int { _, code := impl.ReadSegment(1, 2, b); return code },
		func(b []byte) int { _, code := impl.ReadDatagram(1, 2, b); return code },
		func(b []byte) int { _, code := impl.ReadDns(b); return code },
		func(b []byte) int { _, code := impl.ReadDhcp(b); return code },
	} {
		if a, b := read(nil), read([]byte{}); a != impl.ErrForm || b != impl.ErrForm {
			t.Errorf("of nil %d, of an empty list %d", a, b)
		}
	}
}

func TestEmptyAndNilAreAlike(t *testing.T) {
	if impl.Check16(nil) != impl.Check16([]byte{}) {
		t.Error("Check16 tells nil from an empty list")
	}
	n, code := impl.NumberOf(nil)
	if m, other := impl.NumberOf([]byte{}); n != m || code != other {
		t.Error("NumberOf tells nil from an empty list")
	}
	if h := impl.Hash(nil); h != impl.Hash([]byte{}) || h == "" {
		t.Error("Hash tells nil from an empty list")
	}
	if impl.Check32(nil) != impl.Check32([]byte{}) {
		t.Error("Check32 tells nil from an empty list")
	}
}

// sampleCalls has the calls of the chapters with right arguments, edges and
// wrong ones: a panic in any of them fails the test.
func sampleCalls() []call {
	var calls []call
	add := func(name string, do func() []any) { calls = append(calls, call{name, do}) }
	for _, s := range []string{"", "a", "ok", "more", "1.2.3.4", "1.2.3", "02:00:00:00:00:ff", "02:00:00:00:00:zz", "123456", "\xff\x00",
		strings.Repeat(".", impl.MaxText), strings.Repeat(":", impl.MaxText+1)} {
		add("NameOK", func() []any { return []any{impl.NameOK(s)} })
		add("CodeOf", func() []any { return []any{impl.CodeOf(s)} })
		add("ReadAddress", func() []any { n, code := impl.ReadAddress(s); return []any{n, code} })
		add("MacText", func() []any { text, code := impl.MacText(s); return []any{text, code} })
		add("ReadMac", func() []any { mac, code := impl.ReadMac(s); return []any{mac, code} })
		add("Check16", func() []any { return []any{impl.Check16([]byte(s))} })
		add("NumberOf", func() []any { n, code := impl.NumberOf([]byte(s)); return []any{n, code} })
	}
	for _, n := range []int{math.MinInt, -1, 0, 1, 6, 7, 19, 20, 255, 256, impl.MaxAddress, impl.MaxAddress + 1, math.MaxInt} {
		add("CodeWord", func() []any { return []any{impl.CodeWord(n)} })
		add("AddressText", func() []any { text, code := impl.AddressText(n); return []any{text, code} })
		for _, size := range []int{math.MinInt, -1, 0, 1, 2, 4, 6, 7, math.MaxInt} {
			add("NumberBytes", func() []any { b, code := impl.NumberBytes(n, size); return []any{string(b), code} })
		}
	}
	return slices.Concat(calls, wireCalls(), appCalls(), hashCalls(), setsCalls(), meterCalls(), policyCalls(), guestsCalls(), flowsCalls(), tcpdCalls(), httpCalls(), portalCalls(), gateCalls(), auditCalls(), scriptCalls(), consoleCalls())
}

// wireCalls has the calls of chapter 3 likewise.
func wireCalls() []call {
	var calls []call
	add := func(name string, do func() []any) { calls = append(calls, call{name, do}) }
	for _, b := range [][]byte{nil, make([]byte, 8), make([]byte, 20), sampleBytes(28, 4), sampleBytes(400, 5), sampleBytes(414, 6),
		[]byte(macA + macB + "\x08\x06"), packetBytes(samplePacket(380)), segmentBytes(1, 2, sampleSegment(360)),
		datagramBytes(1, 2, sampleDatagram(372)), make([]byte, impl.MaxText), make([]byte, impl.MaxText+1)} {
		add("ReadFrame", func() []any { f, code := impl.ReadFrame(b); return []any{f, code} })
		add("ReadArp", func() []any { a, code := impl.ReadArp(b); return []any{a, code} })
		add("ReadPacket", func() []any { p, code := impl.ReadPacket(b); return []any{p, code} })
		add("ReadSegment", func() []any { g, code := impl.ReadSegment(1, 2, b); return []any{g, code} })
		add("ReadDatagram", func() []any { d, code := impl.ReadDatagram(1, 2, b); return []any{d, code} })
	}
	for _, n := range []int{math.MinInt, -1, 0, 1, 2, 31, 32, 255, 256, 0x0800, 0x0806, 65535, 65536, impl.MaxAddress, impl.MaxAddress + 1, math.MaxInt} {
		add("FlagsText", func() []any { text, code := impl.FlagsText(n); return []any{text, code} })
		for _, text := range []string{"", macA, string(sampleBytes(400, 7)), strings.Repeat("t", impl.MaxText+1)} {
			add("FrameBytes", func() []any {
				b, code := impl.FrameBytes(impl.Frame{Dst: macA, Src: macB, Kind: n, Body: text})
				return []any{string(b), code}
			})
			add("ArpBytes", func() []any {
				b, code := impl.ArpBytes(impl.Arp{Op: 1, SrcMac: text, DstMac: macB, SrcIp: n, DstIp: n})
				return []any{string(b), code}
			})
			add("PacketBytes", func() []any {
				b, code := impl.PacketBytes(impl.Packet{Src: n, Dst: n, Proto: n, Ttl: n, Id: n, Body: text})
				return []any{string(b), code}
			})
			add("SegmentBytes", func() []any {
				b, code := impl.SegmentBytes(n, n, impl.Segment{SrcPort: n, DstPort: n, Seq: n, Ack: n, Flags: n, Window: n, Data: text})
				return []any{string(b), code}
			})
			add("DatagramBytes", func() []any {
				b, code := impl.DatagramBytes(n, n, impl.Datagram{SrcPort: n, DstPort: n, Data: text})
				return []any{string(b), code}
			})
		}
	}
	return calls
}

// appCalls has the calls of chapter 4 likewise.
func appCalls() []call {
	var calls []call
	add := func(name string, do func() []any) { calls = append(calls, call{name, do}) }
	for _, b := range [][]byte{nil, make([]byte, 12), make([]byte, 240), sampleBytes(300, 4), rawDns("\x3f"), rawDns("\xc0\x0c"), rawDns("\x02a.\x00"),
		dnsBytes(impl.Dns{Name: "a.b"}), dhcpBytes(impl.Dhcp{Kind: 1, Mac: macA}), rawDhcp("\x35"), rawDhcp("\x35\xff"), rawDhcp("\x0c\xffab"),
		rawDhcp("\x35\x01\x09\x35\x01\x02\xff"), rawDns(strings.Repeat("\x01a", 32000)), rawDhcp(strings.Repeat("\x35\x01\x03", 21000)),
		make([]byte, impl.MaxText), make([]byte, impl.MaxText+1)} {
		add("ReadDns", func() []any { d, code := impl.ReadDns(b); return []any{d, code} })
		add("ReadDhcp", func() []any { d, code := impl.ReadDhcp(b); return []any{d, code} })
	}
	for _, text := range []string{"", ".", "a.b", macA, "\xff", joined("h", 8), strings.Repeat("a.", impl.MaxText), strings.Repeat("t", impl.MaxText+1)} {
		add("DnsNameOK", func() []any { return []any{impl.DnsNameOK(text)} })
		for _, n := range []int{math.MinInt, -1, 0, 1, 8, 9, 255, 256, 65535, 65536, impl.MaxAddress, impl.MaxAddress + 1, math.MaxInt} {
			add("DnsBytes", func() []any {
				b, code := impl.DnsBytes(impl.Dns{Id: n, Type: n, Answer: n%2 == 0, Name: text})
				return []any{string(b), code}
			})
			add("DhcpBytes", func() []any {
				b, code := impl.DhcpBytes(impl.Dhcp{Xid: n, Yours: n, Kind: n, Reply: n%2 == 0, Mac: text})
				return []any{string(b), code}
			})
		}
	}
	return calls
}

// hashCalls has the calls of chapter 5 likewise.
func hashCalls() []call {
	var calls []call
	add := func(name string, do func() []any) { calls = append(calls, call{name, do}) }
	for _, size := range []int{0, 1, 31, 32, 33, 40, 41, 55, 56, 63, 64, 65, 119, 120, impl.MaxText, impl.MaxText + 1} {
		for _, s := range []string{string(sampleBytes(size, 8)), strings.Repeat("0", size)} {
			add("Hash", func() []any { return []any{impl.Hash([]byte(s))} })
			add("Check32", func() []any { return []any{impl.Check32([]byte(s))} })
			add("HashText", func() []any { text, code := impl.HashText(s); return []any{text, code} })
			add("ReadHash", func() []any { h, code := impl.ReadHash(s); return []any{h, code} })
			add("HashBits", func() []any { signs, code := impl.HashBits(s); return []any{signs, code} })
			add("SameHash", func() []any { return []any{impl.SameHash(s, s), impl.SameHash(s, ""), impl.SameHash("", s)} })
			for _, rounds := range []int{math.MinInt, -1, 0, 1, 20, 21, math.MaxInt} {
				add("PassHash", func() []any { h, code := impl.PassHash(s, "word", rounds); return []any{h, code} })
				add("PassHash", func() []any { h, code := impl.PassHash("salt", s, rounds); return []any{h, code} })
			}
		}
	}
	return calls
}

// setsCalls has the calls of chapter 6 likewise.
func setsCalls() []call {
	var calls []call
	add := func(name string, do func() []any) { calls = append(calls, call{name, do}) }
	nets := append(wrongNets(), impl.Net{}, impl.Net{Bits: 32}, impl.Net{Ip: 0x80000000, Bits: 1}, impl.Net{Ip: 0x0a000000, Bits: 24})
	for _, n := range nets {
		add("NetOK", func() []any { return []any{impl.NetOK(n)} })
		add("NetText", func() []any { text, code := impl.NetText(n); return []any{text, code} })
		for _, ip := range append(outside(4), 0, 0x0a000005, impl.MaxAddress) {
			add("NetHas", func() []any { has, code := impl.NetHas(n, ip); return []any{has, code} })
			for _, size := range []int{0, 1, 2, 20, 21, impl.MaxList, impl.MaxList + 1} {
				list := slices.Repeat([]impl.Net{n}, size)
				add("LongestNet", func() []any { k, code := impl.LongestNet(list, ip); return []any{k, code} })
			}
		}
	}
	for _, text := range []string{"", "/", "10.0.0.0/8", "10.0.0.0/-8", "0.0.0.0/0", "1.2.3.4/32", "1.2.3.4/99", strings.Repeat("/", impl.MaxText), strings.Repeat("/", impl.MaxText+1)} {
		add("ReadNet", func() []any { n, code := impl.ReadNet(text); return []any{n, code} })
	}
	for _, list := range append(wrongTimers(), nil, rising(1), rising(5), rising(20), rising(impl.MaxList), rising(impl.MaxList+1)) {
		for _, n := range []int{math.MinInt, -1, 0, 1, 4, 20, 1000000, 1000001, math.MaxInt} {
			add("TimerPut", func() []any { next, code := impl.TimerPut(list, impl.Timer{At: n, Id: 3}); return []any{next, code} })
			add("TimerPut", func() []any { next, code := impl.TimerPut(list, impl.Timer{At: 3, Id: n}); return []any{next, code} })
			add("TimersDue", func() []any { left, ids, code := impl.TimersDue(list, n); return []any{left, ids, code} })
			add("TimerDrop", func() []any { next, code := impl.TimerDrop(list, n); return []any{next, code} })
		}
	}
	return calls
}

// meterCalls has the calls of chapter 7 likewise.
func meterCalls() []call {
	var calls []call
	add := func(name string, do func() []any) { calls = append(calls, call{name, do}) }
	words := append(wrongWords(), impl.Word{}, impl.Word{High: 0x80000000}, impl.Word{High: 0x7ff00000}, impl.Word{High: 0x7ff00000, Low: 1},
		impl.Word{High: 0x3ff00000}, impl.Word{High: 0xffffffff, Low: 0xffffffff})
	for _, w := range words {
		add("ClassOf", func() []any { class, code := impl.ClassOf(w); return []any{class, code} })
		add("NegOf", func() []any { turned, code := impl.NegOf(w); return []any{turned, code} })
		add("RateWord", func() []any { return []any{impl.RateWord(w)} })
		for _, other := range words {
			add("OrderOf", func() []any { n, code := impl.OrderOf(w, other); return []any{n, code} })
		}
		for _, size := range []int{0, 1, 99, 100, 4095, 4096} {
			list := append(fallingWords(size), w)
			add("SortWords", func() []any { sorted, code := impl.SortWords(list); return []any{sorted, code} })
		}
	}
	meters := append(wrongMeters(), impl.Meter{}, impl.Meter{Count: 1}, impl.Meter{Mean: 3, Least: -4, Most: 5, Count: 1000000})
	for _, x := range append(wrongAmounts(), -impl.MaxValue, -1, 0, 1, impl.MaxValue) {
		for _, size := range []int{0, 1, impl.MaxList, impl.MaxList + 1} {
			list := slices.Repeat([]int{x}, size)
			add("MeanOf", func() []any { n, code := impl.MeanOf(list); return []any{n, code} })
		}
		for _, m := range meters {
			add("MeterAdd", func() []any { next, code := impl.MeterAdd(m, x); return []any{next, code} })
		}
		for _, b := range append(wrongAmounts(), -impl.MaxValue, -1, 0, 1, impl.MaxValue) {
			add("ShareOf", func() []any { n, code := impl.ShareOf(x, b); return []any{n, code} })
		}
	}
	return calls
}

// policyCalls has the calls of chapter 8 likewise.
func policyCalls() []call {
	var calls []call
	add := func(name string, do func() []any) { calls = append(calls, call{name, do}) }
	for _, r := range append(wrongRules(), impl.Rule{}, impl.Rule{Proto: 17, Ports: impl.Range{Low: 65535, High: 65535}, Allow: true}) {
		add("RuleOK", func() []any { return []any{impl.RuleOK(r)} })
		add("RuleText", func() []any { text, code := impl.RuleText(r); return []any{text, code} })
	}
	for _, text := range []string{"", " ", "allow any 0.0.0.0/0 80 443", " deny  tcp 5.5.6.0/24 0 65535 ", "deny tcp 5.5.6.1/24 0 65535", "allow udp / - -", "allow", "\xff \x00 / 1 2",
		strings.Repeat(" ", impl.MaxText), strings.Repeat("a ", impl.MaxText/2), strings.Repeat("a", impl.MaxText+1)} {
		add("ReadRule", func() []any { r, code := impl.ReadRule(text); return []any{r, code} })
	}
	numbers := []int{math.MinInt, -1, 0, 6, 80, 255, 256, 65535, 65536, impl.MaxAddress, impl.MaxAddress + 1, math.MaxInt}
	for _, r := range append(wrongRoles(), plainConfig().Roles...) {
		add("RoleOK", func() []any { return []any{impl.RoleOK(r)} })
		for _, n := range numbers {
			for _, ends := range [][3]int{{n, quadOne, 80}, {6, n, 80}, {6, quadOne, n}} {
				add("FirstRule", func() []any { k, code := impl.FirstRule(r, ends[0], ends[1], ends[2]); return []any{k, code} })
				add("RoleAllows", func() []any { ok, code := impl.RoleAllows(r, ends[0], ends[1], ends[2]); return []any{ok, code} })
			}
		}
	}
	for _, c := range append(wrongConfigs(), plainConfig(), crowdedConfig()) {
		add("ConfigOK", func() []any { return []any{impl.ConfigOK(c)} })
		for _, n := range numbers {
			add("InGarden", func() []any { in, code := impl.InGarden(c, n, 443); return []any{in, code} })
			add("InGarden", func() []any { in, code := impl.InGarden(c, quadNine, n); return []any{in, code} })
		}
	}
	return calls
}

// guestsCalls has the calls of chapter 9 likewise.
func guestsCalls() []call {
	var calls []call
	add := func(name string, do func() []any) { calls = append(calls, call{name, do}) }
	numbers := []int{math.MinInt, -1, 0, 1, 5, 7, 25, 301, 10000, impl.MaxNow, impl.MaxNow + 1, 1000001, guestIp(1), impl.MaxAddress + 1, math.MaxInt}
	texts := []string{"", "ann", "apple", "dan", "dates", macA, guestMac(5), "\xff\x00", strings.Repeat("t", 41), strings.Repeat("t", impl.MaxText+1)}
	for _, n := range numbers {
		add("CauseWord", func() []any { return []any{impl.CauseWord(n)} })
		for _, s := range texts {
			add("MakeUser", func() []any { u, code := impl.MakeUser(s, s, s, n, n); return []any{u, code} })
			add("MakeUser", func() []any { u, code := impl.MakeUser("ann", s, "guest", n, 3); return []any{u, code} })
			add("MakeUser", func() []any { u, code := impl.MakeUser(s, "apple", "guest", 600, n); return []any{u, code} })
		}
		list := []impl.Record{{Id: n, At: n}, {Id: n, At: 1, Stop: true}, {Id: 1, At: n, Stop: true}}
		for size := range len(list) + 1 {
			add("RecordsHold", func() []any { ok, code := impl.RecordsHold(list[:size]); return []any{ok, code} })
		}
	}
	c := plainConfig()
	for _, g := range slices.Concat(rightGuests(), wrongGuests()) {
		add("GuestsOK", func() []any { return []any{impl.GuestsOK(c, g), impl.GuestsOK(impl.Config{}, g)} })
		for _, n := range numbers {
			add("EndSession", func() []any { next, code := impl.EndSession(c, g, 5, 25, n); return []any{next, code} })
			add("EndSession", func() []any { next, code := impl.EndSession(c, g, n, n, 1); return []any{next, code} })
			add("Charge", func() []any { next, code := impl.Charge(c, g, 5, n, 25); return []any{next, code} })
			add("Charge", func() []any { next, code := impl.Charge(c, g, n, 1, n); return []any{next, code} })
			add("ExpireSessions", func() []any { next, ids, code := impl.ExpireSessions(c, g, n); return []any{next, ids, code} })
			add("EndMoved", func() []any { next, ids, code := impl.EndMoved(c, g, macA, n, 25); return []any{next, ids, code} })
			add("SessionAt", func() []any { id, code := impl.SessionAt(g, macA, n); return []any{id, code} })
			add("Login", func() []any {
				next, id, code := impl.Login(c, g, "dan", "dates", macA, n, n)
				return []any{next, id, code}
			})
		}
		for _, s := range texts {
			add("EndMoved", func() []any { next, ids, code := impl.EndMoved(c, g, s, guestIp(1), 25); return []any{next, ids, code} })
			add("SessionAt", func() []any { id, code := impl.SessionAt(g, s, guestIp(1)); return []any{id, code} })
			add("Login", func() []any {
				next, id, code := impl.Login(c, g, s, "dates", macA, guestIp(5), 25)
				return []any{next, id, code}
			})
			add("Login", func() []any {
				next, id, code := impl.Login(c, g, "dan", s, macA, guestIp(5), 25)
				return []any{next, id, code}
			})
			add("Login", func() []any {
				next, id, code := impl.Login(c, g, "dan", "dates", s, guestIp(5), 25)
				return []any{next, id, code}
			})
		}
	}
	return calls
}

// flowsCalls has the calls of chapter 10 likewise.
func flowsCalls() []call {
	var calls []call
	add := func(name string, do func() []any) { calls = append(calls, call{name, do}) }
	numbers := []int{math.MinInt, -1, 0, 1, 2, 3, 4, 6, 8, 31, 32, 50, 255, 256, 10000, 10001, 65535, 65536, impl.MaxNow, impl.MaxNow + 1, impl.MaxNow + 101,
		impl.MaxAddress, impl.MaxAddress + 1, math.MaxInt}
	for _, n := range numbers {
		for _, state := range numbers {
			add("FlowWait", func() []any { wait, code := impl.FlowWait(n, state); return []any{wait, code} })
		}
	}
	lists := slices.Concat(rightFlows(), wrongFlows(), [][]impl.Flow{manyFlows(impl.MaxList), manyFlows(impl.MaxList + 1)})
	for _, list := range lists {
		add("FlowsOK", func() []any { return []any{impl.FlowsOK(list)} })
		for name, do := range flowChanges() {
			add(name, func() []any { next, code := do(list); return []any{next, code} })
		}
		for _, n := range numbers {
			for _, e := range [][5]int{{n, 20, 80, 10, 1000}, {6, n, 80, n, 80}, {6, 20, n, 10, n}, {n, n, n, n, n}} {
				add("FlowFind", func() []any {
					k, back, code := impl.FlowFind(list, e[0], e[1], e[2], e[3], e[4])
					return []any{k, back, code}
				})
			}
			for _, number := range flowNumbers() {
				f := newFlow()
				*number.number(&f) = n
				add("FlowOpen", func() []any { next, code := impl.FlowOpen(list, f, n); return []any{next, code} })
			}
			add("FlowPass", func() []any { next, code := impl.FlowPass(list, n, true, n, n); return []any{next, code} })
			add("FlowPass", func() []any { next, code := impl.FlowPass(list, 0, false, n, 50); return []any{next, code} })
			add("FlowsExpire", func() []any { next, code := impl.FlowsExpire(list, n); return []any{next, code} })
			add("FlowsDrop", func() []any { next, code := impl.FlowsDrop(list, n); return []any{next, code} })
		}
	}
	return calls
}

// tcpdCalls has the calls of chapter 11 likewise.
func tcpdCalls() []call {
	var calls []call
	add := func(name string, do func() []any) { calls = append(calls, call{name, do}) }
	numbers := []int{math.MinInt, -1, 0, 1, 5, 7, 16, 31, 32, 65535, 65536, 1 << 31, impl.MaxAddress, impl.MaxAddress + 1, math.MaxInt}
	texts := []string{"", macA, "\xff\x00", strings.Repeat("t", 300), strings.Repeat("t", 301), strings.Repeat("t", impl.MaxText), strings.Repeat("t", impl.MaxText+1)}
	for _, n := range numbers {
		for _, m := range numbers {
			add("SeqLess", func() []any { less, code := impl.SeqLess(n, m); return []any{less, code} })
		}
		for _, s := range texts {
			g := impl.Segment{SrcPort: 1000, DstPort: 80, Seq: n, Flags: impl.FlSyn, Data: s}
			add("ConnOpen", func() []any { c, told, code := impl.ConnOpen(macA, 10, 20, g, n); return []any{c, told, code} })
			add("ConnOpen", func() []any { c, told, code := impl.ConnOpen(s, n, n, g, 7); return []any{c, told, code} })
		}
	}
	for _, c := range slices.Concat(rightConns(), wrongConns()) {
		add("ConnOK", func() []any { return []any{impl.ConnOK(c)} })
		add("ConnAgain", func() []any { told, code := impl.ConnAgain(c); return []any{told, code} })
		for _, s := range texts {
			add("ConnSay", func() []any { next, told, code := impl.ConnSay(c, s); return []any{next, told, code} })
		}
		for _, g := range append(wrongSegments(), guestSegment(c.Want, c.Next, impl.FlAck|impl.FlFin, "data"), guestSegment(7, 5, 31, "")) {
			add("ConnTake", func() []any { next, told, code := impl.ConnTake(c, g); return []any{next, told, code} })
		}
		for _, n := range numbers {
			for _, flags := range []int{impl.FlAck, impl.FlRst, impl.FlSyn, n} {
				g := impl.Segment{SrcPort: n, DstPort: n, Seq: n, Ack: n, Flags: flags, Window: n, Data: "data"}
				add("ConnTake", func() []any { next, told, code := impl.ConnTake(c, g); return []any{next, told, code} })
			}
		}
	}
	return calls
}

// httpCalls has the calls of chapter 12 likewise.
func httpCalls() []call {
	var calls []call
	add := func(name string, do func() []any) { calls = append(calls, call{name, do}) }
	texts := append(wrongPaths(), "/", "/login", "GET", "POST", "a=b&c=%41", "a+b%zz", "%", "%4", "&", "=", "\r\n", "\r\n\r\n", "GET / HTTP/1.1\r\n\r\n", "GET / HTTP/1.1\r\n:\r\n\r\n", " \r\n\r\n", "GET / HTTP/1.1\r\n\r\r\n\r\n",
		headWith("Content-Length: 3"), headWith("Content-Length: 3")+"abc", headWith("Content-Length: 999999999999999999"), headWith("Content-Length: -999999999999999999"), headWith("Content-Length:"), headOfSize(200), headOfSize(201),
		string(sampleBytes(300, 9)), strings.Repeat("\r\n", 101), strings.Repeat("&", impl.MaxText), strings.Repeat("%", impl.MaxText), strings.Repeat("+", impl.MaxText), strings.Repeat("t", 1001), strings.Repeat("t", impl.MaxText+1))
	for _, s := range texts {
		add("ReadRequest", func() []any { r, size, code := impl.ReadRequest(s); return []any{r, size, code} })
		add("UnescapeText", func() []any { text, code := impl.UnescapeText(s); return []any{text, code} })
		add("EscapeText", func() []any { text, code := impl.EscapeText(s); return []any{text, code} })
		add("ReadForm", func() []any { list, code := impl.ReadForm(s); return []any{list, code} })
		for _, size := range []int{0, 1, 8, 9, impl.MaxList, impl.MaxList + 1} {
			list := slices.Repeat([]impl.Pair{{Key: s, Value: s}}, size)
			add("FormText", func() []any { text, code := impl.FormText(list); return []any{text, code} })
		}
		for _, other := range []string{"", "GET", "/login", "body", strings.Repeat("t", impl.MaxText+1)} {
			add("RequestText", func() []any {
				text, code := impl.RequestText(impl.Request{Method: other, Path: s})
				return []any{text, code}
			})
			add("RequestText", func() []any {
				text, code := impl.RequestText(impl.Request{Method: s, Path: other, Body: s})
				return []any{text, code}
			})
			for _, status := range []int{math.MinInt, -1, 0, 200, 302, 503, math.MaxInt} {
				add("PageText", func() []any { text, code := impl.PageText(status, s, other); return []any{text, code} })
				add("PageText", func() []any { text, code := impl.PageText(status, other, s); return []any{text, code} })
			}
		}
	}
	for _, status := range []int{math.MinInt, -1, 0, 200, 201, 302, 400, 403, 404, 429, 503, math.MaxInt} {
		add("StatusWord", func() []any { return []any{impl.StatusWord(status)} })
	}
	return calls
}

// portalCalls has the calls of chapter 13 likewise.
func portalCalls() []call {
	var calls []call
	add := func(name string, do func() []any) { calls = append(calls, call{name, do}) }
	c := plainConfig()
	visitors := append(wrongVisitors(), visitorOf(1, 25), visitorOf(4, 25), visitorOf(5, 25), visitor{strings.Repeat("m", impl.MaxText+1), guestIp(1), 25})
	texts := []string{"", "x", "\r\n\r\n", "PUT / HTTP/1.1\r\n\r\n", headWith("Content-Length: 3"), headWith("Content-Length: 81"), headOfSize(201), strings.Repeat("t", 201), strings.Repeat("t", impl.MaxText+1)}
	requests := wrongRequests()
	for _, r := range portalAsks() {
		requests = append(requests, r)
		texts = append(texts, requestByHand(r), requestByHand(r)+"behind it")
	}
	for _, g := range []impl.Guests{busyGuests(), quietGuests(), crowd(3, 60), crowd(4, 0), {}, {Next: 1}} {
		for _, v := range visitors {
			add("StatusText", func() []any { text, code := impl.StatusText(g, v.mac, v.ip, v.now); return []any{text, code} })
			for _, r := range requests {
				add("PortalDo", func() []any {
					next, page, code := impl.PortalDo(c, g, r, v.mac, v.ip, v.now)
					return []any{next, page, code}
				})
			}
			for _, s := range texts {
				add("PortalRead", func() []any {
					next, page, size, code := impl.PortalRead(c, g, s, v.mac, v.ip, v.now)
					return []any{next, page, size, code}
				})
			}
		}
	}
	for _, row := range statusNumbers() {
		for _, n := range []int{math.MinInt, -1, row.low, row.high, row.high + 1, math.MaxInt} {
			g := busyGuests()
			*row.number(&g) = n
			add("StatusText", func() []any { text, code := impl.StatusText(g, macA, n, n); return []any{text, code} })
			add("StatusText", func() []any { text, code := impl.StatusText(g, guestMac(1), guestIp(1), 25); return []any{text, code} })
		}
	}
	return calls
}

// gateCalls has the calls of chapter 14 likewise.
func gateCalls() []call {
	var calls []call
	add := func(name string, do func() []any) { calls = append(calls, call{name, do}) }
	add("PlainGateway", func() []any { return []any{impl.PlainGateway()} })
	gateways := append(rightGateways(), wrongGateways()...)
	frames := append(sampleFrames(), make([]byte, impl.MaxText), make([]byte, impl.MaxText+1))
	// Each gateway meets some of the frames: all of them would take long.
	for k, g := range gateways {
		add("GatewayOK", func() []any { return []any{impl.GatewayOK(g)} })
		add("NewGateway", func() []any { next, code := impl.NewGateway(g.Config, g.Guests); return []any{next, code} })
		add("TickGate", func() []any { next, outs, code := impl.TickGate(g); return []any{next, outs, code} })
		for i := range 4 {
			b := frames[(k+i)%len(frames)]
			add("LanIn", func() []any { next, outs, code := impl.LanIn(g, b); return []any{next, outs, code} })
			add("WanIn", func() []any { next, outs, code := impl.WanIn(g, b); return []any{next, outs, code} })
		}
		for _, n := range []int{math.MinInt, -1, 0, 5, 7, 10000, impl.MaxAddress, impl.MaxAddress + 1, math.MaxInt} {
			add("KickGuest", func() []any { next, code := impl.KickGuest(g, n); return []any{next, code} })
			add("SetIsn", func() []any { next, code := impl.SetIsn(g, n); return []any{next, code} })
		}
	}
	return calls
}

// auditCalls has the calls of chapter 15 likewise.
func auditCalls() []call {
	var calls []call
	add := func(name string, do func() []any) { calls = append(calls, call{name, do}) }
	frames := append(sampleFrames(), make([]byte, impl.MaxText), make([]byte, impl.MaxText+1))
	names := []string{"", "ann", "bob", "nobody", "\xff", strings.Repeat("n", impl.MaxText), strings.Repeat("n", impl.MaxText+1)}
	gateways := append(rightGateways(), wrongGateways()...)
	for _, n := range []int{math.MinInt, -1, math.MaxInt} {
		g := busyGateway()
		g.Guests.Sessions[0].User, g.Guests.Sessions[1].Ip, g.Flows[0].Owner, g.Guests.Records[0].Id = n, n, n, n
		gateways = append(gateways, g)
	}
	// Each gateway meets some of the frames: all of them would take long.
	for k, g := range gateways {
		add("BytesHold", func() []any { ok, code := impl.BytesHold(g); return []any{ok, code} })
		add("FlowsHold", func() []any { ok, code := impl.FlowsHold(g); return []any{ok, code} })
		for i := range 5 {
			b := frames[(5*k+i)%len(frames)]
			add("SightOf", func() []any { s, code := impl.SightOf(g, b); return []any{s, code} })
		}
		for _, name := range names {
			add("SpentOf", func() []any { n, code := impl.SpentOf(g, name); return []any{n, code} })
		}
	}
	return calls
}

// scriptCalls has the calls of chapter 16 likewise.
func scriptCalls() []call {
	var calls []call
	add := func(name string, do func() []any) { calls = append(calls, call{name, do}) }
	acts := append(sampleActs(), impl.Act{Kind: impl.WoLan, Bytes: strings.Repeat("b", impl.MaxText)}, impl.Act{Kind: impl.WoWan, Bytes: strings.Repeat("b", impl.MaxText+1)}, impl.Act{Bytes: strings.Repeat("b", impl.MaxText+1)})
	// Each gateway meets some of the acts: all of them would take long.
	for k, g := range append(rightGateways(), wrongGateways()...) {
		for i := range 5 {
			a := acts[(5*k+i)%len(acts)]
			add("ActDo", func() []any { next, outs, code := impl.ActDo(g, a); return []any{next, outs, code} })
		}
	}
	for _, list := range [][]impl.Act{nil, busyScript(), acts[:120], acts[120:240], acts[len(acts)-3:], acts[len(acts)-2:], slices.Repeat(acts[:1], 121), slices.Repeat(acts[:1], 4096), slices.Repeat(acts[:1], 4097)} {
		add("ActsRun", func() []any {
			g, outs, codes, code := impl.ActsRun(list)
			return []any{g, outs, codes, code}
		})
	}
	var outs []impl.Out
	for k, b := range sampleFrames() {
		outs = append(outs, impl.Out{Side: 1 + k%2, Bytes: string(b)})
	}
	for _, side := range []int{math.MinInt, -1, 0, 1, 2, 3, math.MaxInt} {
		for _, size := range []int{0, 14, 414, 415, 1000, 1001, impl.MaxText + 1} {
			outs = append(outs, impl.Out{Side: side, Bytes: strings.Repeat("b", size)})
		}
	}
	for _, o := range outs {
		for _, size := range []int{0, 1, 2, 4096, 4097} {
			add("OutsText", func() []any {
				texts, code := impl.OutsText(slices.Repeat([]impl.Out{o}, size))
				return []any{texts, code}
			})
		}
	}
	add("OutsText", func() []any { texts, code := impl.OutsText(outs); return []any{texts, code} })
	return calls
}

// consoleCalls has the calls of chapter 17 likewise.
func consoleCalls() []call {
	var calls []call
	add := func(name string, do func() []any) { calls = append(calls, call{name, do}) }
	lines := append(rightLines(), "", " ", "#", "# none", "records", "tick now", "go", "arp 4", "kick -0", "kick "+strings.Repeat("9", 19), "syn 1 5.5.5.5 65536", "say 1 10.0.0.1 PUT /",
		"send 1 5.5.5.5 443 "+strings.Repeat("x", 101), "\xff\x00", "tick\r", "tick\n", strings.Repeat("x", impl.MaxText), strings.Repeat(" ", impl.MaxText+1), strings.Repeat("\n", impl.MaxText), strings.Repeat("a ", impl.MaxText/2))
	for _, line := range lines {
		add("ReadLine", func() []any { a, code := impl.ReadLine(line); return []any{a, code} })
		for _, size := range []int{1, 2, 60, 61} {
			if text := strings.Repeat(line+"\n", size); len(text) < 3*impl.MaxText {
				add("Console", func() []any { said, code := impl.Console(text); return []any{said, code} })
			}
		}
	}
	chance := rand.New(rand.NewSource(17))
	for range 60 {
		text := textOf(randomText(chance, chance.Intn(62)))
		add("Console", func() []any { said, code := impl.Console(text); return []any{said, code} })
	}
	return calls
}
