package tests

import (
	"fmt"
	"math"
	"slices"
	"strings"
	"testing"

	"loop.example/g00356/impl"
)

// outByHand is the text of one thing that came out, of a right Side.
func outByHand(o impl.Out) string {
	side := map[int]string{1: "lan", 2: "wan"}[o.Side]
	f, code := impl.ReadFrame([]byte(o.Bytes))
	if code != impl.OK {
		return side + " bytes"
	}
	if f.Kind == 0x0806 {
		return side + " arp " + strings.ReplaceAll(fmt.Sprintf("% x", f.Dst), " ", ":")
	}
	p, code := impl.ReadPacket([]byte(f.Body))
	if code != impl.OK {
		return side + " bytes"
	}
	from, to, flags, code := endsByHand(p)
	line := fmt.Sprintf("%s %s %s", side, addressByHand(p.Src), addressByHand(p.Dst))
	switch {
	case code != impl.OK:
		return line + " bytes"
	case p.Proto == impl.ProTcp:
		letters := ""
		for k, letter := range "FSRPA" {
			if flags>>k&1 == 1 {
				letters += string(letter)
			}
		}
		head := int(p.Body[12]>>4) * 4
		return fmt.Sprintf("%s 6 %d %d %s %d", line, from, to, letters, len(p.Body)-head)
	}
	return fmt.Sprintf("%s %d %d %d", line, p.Proto, from, to)
}

func addressByHand(ip int) string {
	return fmt.Sprintf("%d.%d.%d.%d", ip>>24&255, ip>>16&255, ip>>8&255, ip&255)
}

// holdText holds the text of bytes on both sides, behind the side's word.
func holdText(t *testing.T, name string, b []byte, want string) {
	t.Helper()
	for side, word := range map[int]string{impl.OutLan: "lan ", impl.OutWan: "wan "} {
		texts, code := impl.OutsText([]impl.Out{{Side: side, Bytes: string(b)}})
		if code != impl.OK || !slices.Equal(texts, []string{word + want}) {
			t.Errorf("OutsText, %s: %q, %d; not %q", name, texts, code, word+want)
		}
	}
}

func TestOutsWrittenOut(t *testing.T) {
	for name, row := range map[string]struct {
		p    impl.Packet
		want string
	}{
		"a segment":               {tcpOf(1, quadNine, 1000, 443, "S", "abc"), "10.0.0.2 9.9.9.9 6 1000 443 S 3"},
		"a segment without data":  {tcpOf(1, quadNine, 1000, 443, "SA", ""), "10.0.0.2 9.9.9.9 6 1000 443 SA 0"},
		"a segment's most data":   {tcpOf(1, far, 65535, 0, "FSRPA", strings.Repeat("d", 360)), "10.0.0.2 5.5.5.5 6 65535 0 FSRPA 360"},
		"no flags":                {tcpOf(1, far, 0, 65535, "", "d"), "10.0.0.2 5.5.5.5 6 0 65535  1"},
		"no flags and no data":    {tcpOf(1, far, 80, 80, "", ""), "10.0.0.2 5.5.5.5 6 80 80  0"},
		"a segment to a guest":    {tcpTo(1, far, 443, 1000, "FA", "x"), "5.5.5.5 10.0.0.2 6 443 1000 FA 1"},
		"a datagram":              {udpOf(2, quadOne, 1000, 53, "abc"), "10.0.0.3 1.1.1.1 17 1000 53"},
		"a datagram without data": {udpOf(2, quadOne, 0, 65535, ""), "10.0.0.3 1.1.1.1 17 0 65535"},
		"a lease":                 {udpBetween(0, impl.MaxAddress, 68, 67, leaseOf(1, false)), "0.0.0.0 255.255.255.255 17 68 67"},
		"a question":              {icmpOf(1, far, 77, "x"), "10.0.0.2 5.5.5.5 1 77 0"},
		"a question's answer":     {icmpTo(1, far, 65535, ""), "5.5.5.5 10.0.0.2 1 65535 0"},
		"another proto":           {impl.Packet{Src: 1, Dst: 2, Proto: 99}, "0.0.0.1 0.0.0.2 bytes"},
		"proto 0":                 {impl.Packet{Src: 1 << 24, Dst: 255, Proto: 0, Body: "body"}, "1.0.0.0 0.0.0.255 bytes"},
	} {
		for _, ttl := range []int{0, 1, 255} {
			for _, macs := range [][2]string{{guestMac(1), guestMac(2)}, {everyone, everyone}} {
				row.p.Ttl, row.p.Id = ttl, ttl
				holdText(t, name, frameOf(macs[0], macs[1], row.p), row.want)
				holdText(t, name+", more behind", append(frameOf(macs[0], macs[1], row.p), "xy"[:min(2, 400-20-len(row.p.Body))]...), row.want)
			}
		}
	}
}

// All flags, and all sizes of data.
func TestOutsOfFlags(t *testing.T) {
	for flags := range 32 {
		letters, _ := impl.FlagsText(flags)
		for _, size := range []int{0, 1, 9, 10, 359, 360} {
			b := frameOf(guestMac(1), everyone, tcpOf(1, far, 1, 2, letters, strings.Repeat("d", size)))
			holdText(t, letters, b, fmt.Sprintf("10.0.0.2 5.5.5.5 6 1 2 %s %d", letters, size))
		}
	}
	// Of a segment with a longer head, and other flags, Data alone counts.
	p := tcpOf(1, far, 1, 2, "A", "12345678")
	b := []byte(p.Body)
	b[12], b[13] = 0x70, 0xff
	sumSegment(p.Src, p.Dst, b)
	p.Body = string(b)
	holdText(t, "a longer head", frameOf(guestMac(1), everyone, p), "10.0.0.2 5.5.5.5 6 1 2 FSRPA 0")
}

// The mac is the frame's Dst, whatever stands in its Body.
func TestOutsOfKindArp(t *testing.T) {
	for _, a := range []impl.Arp{
		{Op: 1, SrcMac: guestMac(1), SrcIp: guestIp(1), DstMac: guestMac(2), DstIp: guestIp(2)},
		{Op: 2, SrcMac: everyone, DstMac: guestMac(3), DstIp: far},
	} {
		holdText(t, "an answer", arpFrame(guestMac(5), guestMac(4), a), "arp 02:00:00:00:00:05")
		holdText(t, "to all", arpFrame(everyone, guestMac(4), a), "arp ff:ff:ff:ff:ff:ff")
		holdText(t, "of letters", arpFrame("\x0a\xbc\xde\xf0\x12\x9f", guestMac(4), a), "arp 0a:bc:de:f0:12:9f")
	}
	for _, body := range []string{"", "junk", strings.Repeat("j", 400), string(packetBytes(tcpOf(1, far, 1, 2, "S", "")))} {
		holdText(t, "any body", []byte(guestMac(9)+everyone+"\x08\x06"+body), "arp 02:00:00:00:00:09")
	}
	holdText(t, "too long a body", []byte(guestMac(9)+everyone+"\x08\x06"+strings.Repeat("j", 401)), "bytes")
}

func TestOutsOfNoFrameOrPacket(t *testing.T) {
	for name, f := range framesThatAreNone() {
		if len(f.b) <= 1000 {
			holdText(t, name, f.b, "bytes")
		}
	}
	for _, size := range []int{0, 1, 13, 14, 414, 415, 999, 1000} {
		holdText(t, fmt.Sprint(size), make([]byte, size), "bytes")
		holdText(t, fmt.Sprint(size), sampleBytes(size, 1), "bytes")
	}
	for _, ends := range [][2]int{{guestIp(1), far}, {0, impl.MaxAddress}} {
		for name, c := range spoiltBodies(ends[0], ends[1]) {
			holdText(t, name, frameOf(guestMac(1), everyone, c.p), addressByHand(ends[0])+" "+addressByHand(ends[1])+" bytes")
		}
	}
}

// Of each frame that is right, and with a bit turned.
func TestOutsAsByHand(t *testing.T) {
	var list []impl.Out
	for k, b := range sampleFrames() {
		if len(b) > 1000 {
			continue
		}
		list = append(list, impl.Out{Side: 1 + k%2, Bytes: string(b)})
		for bit := k; bit < 8*len(b); bit += 97 {
			list = append(list, impl.Out{Side: 1 + bit%2, Bytes: string(turned(b, bit))})
		}
	}
	list = list[:min(len(list), impl.MaxList)]
	texts, code := impl.OutsText(list)
	if code != impl.OK || len(texts) != len(list) {
		t.Fatalf("OutsText of %d: %d, %d texts", len(list), code, len(texts))
	}
	for k, o := range list {
		if texts[k] != outByHand(o) {
			t.Errorf("OutsText, %s: %q, not %q", legible(o), texts[k], outByHand(o))
		}
	}
}

func TestOutsOfLists(t *testing.T) {
	right := impl.Out{Side: impl.OutWan, Bytes: string(gateFrame(1, udpOf(1, quadOne, 1000, 53, "")))}
	for _, list := range [][]impl.Out{nil, {}} {
		if texts, code := impl.OutsText(list); code != impl.OK || len(texts) != 0 {
			t.Errorf("OutsText of nothing: %q, %d", texts, code)
		}
	}
	for _, size := range []int{1, 2, 3, 100, 4095, 4096} {
		want := slices.Repeat([]string{"wan 10.0.0.2 1.1.1.1 17 1000 53"}, size)
		if texts, code := impl.OutsText(slices.Repeat([]impl.Out{right}, size)); code != impl.OK || !slices.Equal(texts, want) {
			t.Errorf("OutsText of %d: %.300q, %d", size, texts, code)
		}
	}
}

// One that is wrong, in whichever place, makes all so; too many come ahead.
func TestOutsThatAreWrong(t *testing.T) {
	right := impl.Out{Side: impl.OutLan, Bytes: "junk"}
	var wrong []impl.Out
	for _, side := range []int{math.MinInt, -1, 0, 3, 4, 1<<32 + 1, 1<<32 + 2, math.MaxInt} {
		wrong = append(wrong, impl.Out{Side: side}, impl.Out{Side: side, Bytes: "junk"}, impl.Out{Side: side, Bytes: right.Bytes + strings.Repeat("b", 1000)})
	}
	for _, size := range []int{1001, 1002, 4097, impl.MaxText, impl.MaxText + 1} {
		for _, side := range []int{1, 2} {
			wrong = append(wrong, impl.Out{Side: side, Bytes: strings.Repeat("b", size)})
		}
	}
	for _, size := range []int{1, 2, 5, 4096, 4097} {
		for _, place := range []int{0, size / 2, size - 1} {
			for _, o := range wrong {
				list := slices.Repeat([]impl.Out{right}, size)
				list[place] = o
				want := impl.ErrBad
				if size > impl.MaxList {
					want = impl.ErrLong
				}
				if texts, code := impl.OutsText(list); code != want || len(texts) != 0 {
					t.Errorf("OutsText of %d, with %.100s at %d: %.300q, %d", size, legible(o), place, texts, code)
				}
			}
		}
	}
	if texts, code := impl.OutsText(slices.Repeat([]impl.Out{right}, 4097)); code != impl.ErrLong || len(texts) != 0 {
		t.Errorf("OutsText of 4097: %.300q, %d", texts, code)
	}
}

func TestOutsHandedInStayAsTheyWere(t *testing.T) {
	_, outs, _, _ := impl.ActsRun(busyScript())
	for _, list := range [][]impl.Out{outs, nil, {{Side: 3}}, {{Side: 1, Bytes: "junk"}}} {
		room := append(slices.Clone(list), impl.Out{Side: 1, Bytes: "behind"}, impl.Out{Side: 9})
		before := slices.Clone(room)
		texts, code := impl.OutsText(room[:len(list)])
		if !slices.Equal(room, before) {
			t.Errorf("OutsText changed what it was handed: %s", legible(room))
		}
		kept := slices.Clone(texts)
		clear(texts[:cap(texts)])
		clear(room)
		if again, other := impl.OutsText(before[:len(list)]); other != code || !slices.Equal(again, kept) {
			t.Errorf("OutsText: %q, %d, then %q, %d", kept, code, again, other)
		}
	}
}
