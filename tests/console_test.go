package tests

import (
	"fmt"
	"math/rand"
	"regexp"
	"slices"
	"strconv"
	"strings"
	"testing"

	"loop.example/g00356/impl"
)

// lineForm is what a line of an act looks like, and what it asks for; a text
// may still be too long.
type lineForm struct {
	form *regexp.Regexp
	act  func(words []string) (impl.Act, bool)
}

// formOf has the words of a line with blanks alone around them.
func formOf(words ...string) *regexp.Regexp {
	return regexp.MustCompile("^ *" + strings.Join(words, " +") + " *$")
}

// keptForms are lineForms, which take long to make.
var keptForms = lineForms()

func lineForms() []lineForm {
	part, label := "(?:[0-9]|[1-9][0-9]|1[0-9][0-9]|2[0-4][0-9]|25[0-5])", "[A-Za-z0-9_-]{1,20}"
	guest, address, number, text := "([123])", "("+part+"(?:\\."+part+"){3})", "(0|-?[1-9][0-9]{0,17})", "([^ ]+)"
	name, path := "((?:"+label+"\\.){0,7}"+label+")", "(/[A-Za-z0-9/.?=_-]{0,39})"
	return []lineForm{
		{formOf("arp", guest), func(m []string) (impl.Act, bool) {
			a := impl.Arp{Op: 1, SrcMac: guestMac(digit(m[0])), SrcIp: guestIp(digit(m[0])), DstMac: strings.Repeat("\x00", 6), DstIp: 0x0a000001}
			return impl.Act{Kind: 1, Bytes: string(arpFrame(everyone, guestMac(digit(m[0])), a))}, true
		}},
		{formOf("dns", guest, name), func(m []string) (impl.Act, bool) {
			question := string(dnsBytes(impl.Dns{Id: 1, Type: 1, Name: m[1]}))
			p := udpOf(digit(m[0]), 0x01010101, 1000, 53, question)
			p.Ttl, p.Id = 64, 0
			return impl.Act{Kind: 1, Bytes: string(gateFrame(digit(m[0]), p))}, len(m[1]) <= 80
		}},
		{formOf("syn", guest, address, number), func(m []string) (impl.Act, bool) {
			return lanLine(m[0], m[1], impl.Segment{DstPort: digit(m[2]), Seq: 10, Flags: 2})
		}},
		{formOf("send", guest, address, number, text), func(m []string) (impl.Act, bool) {
			a, right := lanLine(m[0], m[1], impl.Segment{DstPort: digit(m[2]), Seq: 11, Flags: 16, Data: cut(m[3], 100)})
			return a, right && len(m[3]) <= 100
		}},
		{formOf("say", guest, address, "(GET|POST)", path), func(m []string) (impl.Act, bool) {
			return sayLine(m[0], m[1], impl.Request{Method: m[2], Path: m[3]})
		}},
		{formOf("say", guest, address, "(GET|POST)", path, text), func(m []string) (impl.Act, bool) {
			a, right := sayLine(m[0], m[1], impl.Request{Method: m[2], Path: m[3], Body: cut(m[4], 80)})
			return a, right && len(m[4]) <= 80
		}},
		{formOf("answer", address, guest, number, text), func(m []string) (impl.Act, bool) {
			src, dst, port := addressOf(m[0]), guestIp(digit(m[1])), digit(m[2])
			s := impl.Segment{SrcPort: port, DstPort: 1000, Flags: 16, Window: 1000, Data: cut(m[3], 100)}
			return impl.Act{Kind: 2, Bytes: string(wanFrame(linePacket(src, dst, s)))}, portByHand(port) && len(m[3]) <= 100
		}},
		{formOf("tick"), func(m []string) (impl.Act, bool) { return impl.Act{Kind: 3}, true }},
		{formOf("kick", number), func(m []string) (impl.Act, bool) { return impl.Act{Kind: 4, N: digit(m[0])}, true }},
		{formOf("isn", number), func(m []string) (impl.Act, bool) { return impl.Act{Kind: 5, N: digit(m[0])}, true }},
	}
}

func digit(word string) int {
	n, _ := strconv.Atoi(word)
	return n
}

func cut(text string, size int) string {
	return text[:min(len(text), size)]
}

func addressOf(word string) int {
	ip := 0
	for _, part := range strings.Split(word, ".") {
		ip = ip*256 + digit(part)
	}
	return ip
}

func portByHand(port int) bool {
	return port >= 0 && port <= 65535
}

func linePacket(src, dst int, s impl.Segment) impl.Packet {
	return impl.Packet{Src: src, Dst: dst, Proto: 6, Ttl: 64, Body: string(segmentBytes(src, dst, s))}
}

func lanLine(guest, address string, s impl.Segment) (impl.Act, bool) {
	k := digit(guest)
	s.SrcPort, s.Window = 1000, 1000
	return impl.Act{Kind: 1, Bytes: string(gateFrame(k, linePacket(guestIp(k), addressOf(address), s)))}, portByHand(s.DstPort)
}

func sayLine(guest, address string, r impl.Request) (impl.Act, bool) {
	return lanLine(guest, address, impl.Segment{DstPort: 80, Seq: 11, Ack: 101, Flags: 24, Data: requestByHand(r)})
}

// actByHand is what ReadLine must answer of a line that is not too long.
func actByHand(line string) (impl.Act, int) {
	for _, f := range keptForms {
		if m := f.form.FindStringSubmatch(line); m != nil {
			if a, right := f.act(m[1:]); right {
				return a, impl.OK
			}
		}
	}
	return impl.Act{}, impl.ErrForm
}

func holdLine(t *testing.T, line string, want impl.Act, wantCode int) {
	t.Helper()
	if a, code := impl.ReadLine(line); a != want || code != wantCode {
		t.Errorf("ReadLine of %.200q: %s, %d; not %s, %d", line, legible(a), code, legible(want), wantCode)
	}
}

func holdNone(t *testing.T, lines ...string) {
	t.Helper()
	for _, line := range lines {
		holdLine(t, line, impl.Act{}, impl.ErrForm)
		if _, code := actByHand(line); code != impl.ErrForm {
			t.Errorf("%.200q is a line", line)
		}
	}
}

func holdLineByHand(t *testing.T, line string) {
	t.Helper()
	a, code := actByHand(line)
	holdLine(t, line, a, code)
}

// holdRight holds a line that is right, whatever act it is.
func holdRight(t *testing.T, lines ...string) {
	t.Helper()
	for _, line := range lines {
		if _, code := actByHand(line); code != impl.OK {
			t.Errorf("%.200q is no line", line)
		}
		holdLineByHand(t, line)
	}
}

// rightLines has a line of each kind, with more blanks than it needs in none.
func rightLines() []string {
	return []string{"arp 1", "dns 2 www.example.com", "syn 3 5.5.5.5 443", "send 1 9.9.9.9 443 hello", "say 2 10.0.0.1 GET /status",
		"say 1 10.0.0.1 POST /login name=ann&word=apple", "answer 5.5.5.5 1 443 hello", "tick", "kick 1", "isn 100"}
}

func TestLinesWrittenOut(t *testing.T) {
	frames := map[string]string{
		"arp 2": "ffffffffffff0200000000020806" + "0001080006040001" + "0200000000020a000003" + "0000000000000a000001",
		"dns 1 a.bc": "0200000000000200000000010800" + "450000320000000040116eb80a00000201010101" + "03e80035001e87ca" +
			"000101000001000000000000" + "01610262630000010001",
		"syn 3 5.5.5.5 443": "0200000000000200000000030800" + "45000028000000004006" + "66c3" + "0a00000405050505" +
			"03e801bb0000000a00000000500203e8" + "9240" + "0000",
		"answer 5.5.5.5 1 443 hi": "0200000000000200000000ff0800" + "4500002a000000004006" + "66c3" + "050505050a000002" +
			"01bb03e80000000000000000501003e8" + "29d3" + "0000" + "6869",
	}
	for line, want := range frames {
		a, code := impl.ReadLine(line)
		if got := fmt.Sprintf("%x", a.Bytes); got != want || code != impl.OK || a.N != 0 {
			t.Errorf("ReadLine of %q: %s, %d; not %s", line, got, code, want)
		}
	}
	holdLine(t, "tick", impl.Act{Kind: impl.WoTick}, impl.OK)
	holdLine(t, "kick 3", impl.Act{Kind: impl.WoKick, N: 3}, impl.OK)
	holdLine(t, "isn 4294967295", impl.Act{Kind: impl.WoIsn, N: 4294967295}, impl.OK)
}

// What a line's bytes are is asked of the calls that read frames.
func TestLinesReadBack(t *testing.T) {
	for line, want := range map[string]struct {
		kind    int
		mac     string
		p       impl.Packet
		segment impl.Segment
	}{
		"syn 1 1.2.3.4 65535": {impl.WoLan, guestMac(1), impl.Packet{Src: guestIp(1), Dst: 0x01020304},
			impl.Segment{SrcPort: 1000, DstPort: 65535, Seq: 10, Flags: impl.FlSyn}},
		"send 2 1.2.3.4 0 a=b": {impl.WoLan, guestMac(2), impl.Packet{Src: guestIp(2), Dst: 0x01020304},
			impl.Segment{SrcPort: 1000, Seq: 11, Flags: impl.FlAck, Data: "a=b"}},
		"say 3 1.2.3.4 GET /x": {impl.WoLan, guestMac(3), impl.Packet{Src: guestIp(3), Dst: 0x01020304},
			impl.Segment{SrcPort: 1000, DstPort: 80, Seq: 11, Ack: 101, Flags: impl.FlAck | impl.FlPsh, Data: "GET /x HTTP/1.1\r\nHost: portal\r\nContent-Length: 0\r\n\r\n"}},
		"say 1 255.255.255.255 POST /logout bye": {impl.WoLan, guestMac(1), impl.Packet{Src: guestIp(1), Dst: impl.MaxAddress},
			impl.Segment{SrcPort: 1000, DstPort: 80, Seq: 11, Ack: 101, Flags: impl.FlAck | impl.FlPsh, Data: "POST /logout HTTP/1.1\r\nHost: portal\r\nContent-Length: 3\r\n\r\nbye"}},
		"answer 0.0.0.0 3 7 x": {impl.WoWan, "\x02\x00\x00\x00\x00\xff", impl.Packet{Dst: guestIp(3)},
			impl.Segment{SrcPort: 7, DstPort: 1000, Flags: impl.FlAck, Data: "x"}},
	} {
		a, code := impl.ReadLine(line)
		f, _ := impl.ReadFrame([]byte(a.Bytes))
		p, _ := impl.ReadPacket([]byte(f.Body))
		s, _ := impl.ReadSegment(p.Src, p.Dst, []byte(p.Body))
		want.p.Proto, want.p.Ttl, want.p.Body, want.segment.Window = impl.ProTcp, 64, p.Body, 1000
		if code != impl.OK || a.Kind != want.kind || a.N != 0 || f.Src != want.mac || f.Dst != plainConfig().GateMac || f.Kind != impl.KindIp {
			t.Errorf("ReadLine of %q: %s, %d, %s", line, legible(a), code, legible(f))
		}
		if p != want.p || s != want.segment {
			t.Errorf("ReadLine of %q: %s, %s", line, legible(p), legible(s))
		}
	}
}

func TestGuestsOfLines(t *testing.T) {
	for _, line := range []string{"arp %s", "dns %s a.b", "syn %s 5.5.5.5 443", "send %s 5.5.5.5 443 x", "say %s 10.0.0.1 GET /", "say %s 10.0.0.1 GET / x", "answer 5.5.5.5 %s 443 x"} {
		for _, guest := range []string{"1", "2", "3"} {
			holdRight(t, fmt.Sprintf(line, guest))
		}
		for _, guest := range []string{"0", "4", "9", "-1", "01", "1.", "11", "12", "123", "one", "#", "1\x00", "\xb1", "١", "257", "10.0.0.2"} {
			holdNone(t, fmt.Sprintf(line, guest))
		}
	}
}

// Blanks alone part words, as many as there are; no other byte does.
func TestWordsOfLines(t *testing.T) {
	for _, line := range rightLines() {
		want, _ := actByHand(line)
		for _, blanks := range []string{" ", "  ", strings.Repeat(" ", 300)} {
			spread := strings.ReplaceAll(line, " ", blanks)
			for _, s := range []string{spread, blanks + spread, spread + blanks, blanks + spread + blanks} {
				holdLine(t, s, want, impl.OK)
			}
		}
		for _, sign := range []string{"\t", "\n", "\v", "\f", "\r", "\x00", "\x1f", "\x7f", "\x85", "\xa0", "\u0085", "\u00a0", "\u2003", "\u3000", "_", ","} {
			holdNone(t, sign+line, sign+" "+line)
			for at := range len(line) {
				if line[at] == ' ' {
					holdNone(t, line[:at]+sign+line[at+1:])
				}
			}
			// Behind a TEXT, a PATH or a BODY it may be of it, or be a BODY.
			holdLineByHand(t, line+" "+sign)
			holdLineByHand(t, line+sign)
		}
	}
	// A TEXT, and a BODY, has all bytes but blanks.
	for b := range 256 {
		if text := "a" + string([]byte{byte(b)}) + "b"; b != ' ' {
			for _, line := range []string{"send 1 5.5.5.5 443 " + text, "answer 5.5.5.5 1 443 " + text, "say 1 10.0.0.1 POST /login " + text} {
				holdRight(t, line)
				if a, _ := impl.ReadLine(line); !strings.HasSuffix(a.Bytes, text) {
					t.Errorf("ReadLine of %q: %q", line, a.Bytes)
				}
			}
		}
	}
}

func TestNumbersOfLines(t *testing.T) {
	nines := strings.Repeat("9", 18)
	for _, verb := range []string{"kick ", "isn "} {
		kind := impl.WoKick
		if verb == "isn " {
			kind = impl.WoIsn
		}
		for word, n := range map[string]int{"0": 0, "1": 1, "-1": -1, "10000": 10000, "4294967295": 4294967295, "4294967296": 4294967296, nines: 999999999999999999, "-" + nines: -999999999999999999, "1" + strings.Repeat("0", 17): 100000000000000000} {
			holdLine(t, verb+word, impl.Act{Kind: kind, N: n}, impl.OK)
		}
		for _, word := range wrongNumbers() {
			holdNone(t, verb+word)
		}
	}
}

// wrongNumbers are words that are no number's text.
func wrongNumbers() []string {
	return []string{"-0", "01", "00", "-01", "000001", "+1", "--1", "-", "1-", "1.0", "1e3", "0x1", "1_000", "x", "1x", "now", "１", "\x001", "1\n", "-1\r",
		"1" + strings.Repeat("0", 18), strings.Repeat("9", 19), "-" + strings.Repeat("9", 19), strings.Repeat("0", 18), "18446744073709551617", strings.Repeat("1", 1000)}
}

func TestPortsOfLines(t *testing.T) {
	for _, line := range []string{"syn 1 5.5.5.5 %s", "send 2 5.5.5.5 %s x", "answer 5.5.5.5 3 %s x"} {
		for _, port := range []string{"0", "1", "80", "443", "1000", "9999", "10000", "32768", "65534", "65535"} {
			holdRight(t, fmt.Sprintf(line, port))
		}
		for _, port := range append(wrongNumbers(), "-1", "-80", "65536", "65537", "131072", "4294967376", "999999999999999999", "-65535") {
			holdNone(t, fmt.Sprintf(line, port))
		}
	}
}

func TestAddressesOfLines(t *testing.T) {
	for _, line := range []string{"syn 1 %s 443", "send 2 %s 443 x", "say 3 %s GET /", "say 3 %s POST / x", "answer %s 1 443 x"} {
		for _, address := range []string{"0.0.0.0", "255.255.255.255", "10.0.0.1", "10.0.0.2", "1.1.1.1", "9.9.9.9", "200.20.2.0"} {
			holdRight(t, fmt.Sprintf(line, address))
		}
		for _, address := range []string{".", "...", "1.1.1", "1.1.1.", ".1.1.1", "1.1.1.1.", "1.1.1.1.1", "1..1.1", "256.1.1.1", "1.1.1.256", "01.1.1.1", "1.1.1.00", "-1.1.1.1", "1.1.1.-0",
			"1,1,1,1", "x", "1.1.1.x", "16843009", "1.1.1.1/32", "1.1.1.1\t", "1.1.1.1000", "gate", "10.0.0.0x1"} {
			holdNone(t, fmt.Sprintf(line, address))
		}
	}
}

func TestTextsOfLines(t *testing.T) {
	for _, line := range []string{"send 1 5.5.5.5 443 ", "answer 5.5.5.5 1 443 "} {
		for _, text := range []string{"x", "#", "-0", "=&%", "\xff", "\xa0", "\t", "\u00a0", strings.Repeat("x", 99), strings.Repeat("x", 100), strings.Repeat("\u00a0", 50), strings.Repeat("\xff", 100)} {
			holdRight(t, line+text)
		}
		for _, text := range []string{strings.Repeat("x", 101), strings.Repeat("\u00a0", 51), strings.Repeat("\xff", 101), strings.Repeat("x", 360), strings.Repeat("x", 361), strings.Repeat("x", 5000)} {
			holdNone(t, line+text)
		}
	}
}

func TestNamesOfLines(t *testing.T) {
	for _, name := range rightDnsNames() {
		holdRight(t, "dns 1 "+name)
	}
	for _, name := range wrongDnsNames() {
		if len(name) < 1000 {
			holdNone(t, "dns 1 "+strings.ReplaceAll(name, " ", "\t"))
		}
	}
}

func TestRequestsOfLines(t *testing.T) {
	for _, r := range sampleRequests() {
		if !strings.Contains(r.Body, " ") {
			holdRight(t, strings.TrimRight("say 1 10.0.0.1 "+r.Method+" "+r.Path+" "+r.Body, " "))
		}
	}
	for _, method := range []string{"GET", "POST"} {
		for _, size := range []int{1, 79, 80} {
			holdRight(t, "say 1 10.0.0.1 "+method+" / "+strings.Repeat("b", size), "say 1 10.0.0.1 "+method+" / "+strings.Repeat("\xa0", size))
		}
		for _, size := range []int{81, 82, 100, 101, 360, 1000} {
			holdNone(t, "say 1 10.0.0.1 "+method+" / "+strings.Repeat("b", size))
		}
		for _, path := range wrongPaths() {
			if path != "" && !strings.Contains(path, " ") {
				holdNone(t, "say 1 10.0.0.1 "+method+" "+path, "say 1 10.0.0.1 "+method+" "+path+" x")
			}
		}
	}
	for _, method := range []string{"PUT", "HEAD", "get", "Post", "GET\t", "\x00GET", "POSTS", "G", "/", "1"} {
		holdNone(t, "say 1 10.0.0.1 "+method+" /login", "say 1 10.0.0.1 "+method+" /login name=ann&word=apple")
	}
}

// A line with a word less, or a word more, is none, but of a BODY; so is one
// with two of its words changed round.
func TestWordsTooFewAndTooMany(t *testing.T) {
	for _, line := range rightLines() {
		words := strings.Fields(line)
		for size := range words {
			short := strings.Join(words[:size], " ")
			if words[0] == "say" && size == 5 {
				holdRight(t, short)
			} else {
				holdNone(t, short, short+" ")
			}
		}
		for at := range words {
			if fewer := strings.Join(slices.Delete(slices.Clone(words), at, at+1), " "); words[0] != "say" || at < 5 {
				holdNone(t, fewer)
			}
			for other := range at {
				changed := slices.Clone(words)
				changed[at], changed[other] = words[other], words[at]
				holdLineByHand(t, strings.Join(changed, " "))
			}
			for _, word := range []string{"1", "x", "#", "10.0.0.1", "443", "tick", "/"} {
				holdLineByHand(t, strings.Join(slices.Insert(slices.Clone(words), at, word), " "))
			}
		}
		if line != "say 2 10.0.0.1 GET /status" {
			holdNone(t, line+" x", line+" 1", line+" #", line+" "+line, line+" 1 2 3 4 5")
		}
	}
}

func TestOtherLines(t *testing.T) {
	holdNone(t, "", " ", strings.Repeat(" ", 1000), "#", "# none", "#tick", " # tick", "records", " records ", "records 1", "records now", "records #", "go", "help", "end", "ok", "error form",
		"TICK", "Tick", "tic", "ticks", "tick1", "tick 1", "tick now", "tick tick", "tick #", "tick # now", "tick\r", "\xef\xbb\xbftick", "tick\x00", "kick", "kick 1 2", "kick x", "kick1", "kick #1", "isn", "isn 1 2", "isn -", "isn1",
		"arp", "arp4", "arp 1 2", "arp 1 10.0.0.1", "dns", "dns 1", "dns a.b", "dns a.b 1", "dns 1 a.b c", "syn", "syn 1", "syn 1 1.1.1.1", "syn 1.1.1.1 1 80", "syn 1 80 1.1.1.1",
		"syn 1 1.1.1.1 80 x", "syn 1 1.1.1.1:80", "send 1 1.1.1.1 80", "send 1 1.1.1.1 x 80", "send 1 1.1.1.1 80 a b", "say", "say 1", "say 1 1.1.1.1", "say 1 1.1.1.1 GET", "say 1 GET / 1.1.1.1",
		"say 1 1.1.1.1 GET / a b", "say 1 1.1.1.1 / GET", "answer 1 1.1.1.1 80 x", "answer 1.1.1.1 1 80", "answer 1.1.1.1 1 80 a b", "say 1 1.1.1.1 80 GET /", "lan x", "wan x", "1 arp", "tick\nkick 1", "tick\n", "\ntick", "tick \n")
}

// ErrLong comes ahead of whether it is a line, and of what a TEXT may have.
func TestLongLines(t *testing.T) {
	for _, line := range append(rightLines(), "", "#", "records", "x", "send 1 5.5.5.5 443 "+strings.Repeat("x", 101), "kick "+strings.Repeat("9", 20)) {
		want, code := actByHand(line)
		pad := strings.Repeat(" ", impl.MaxText-len(line))
		holdLine(t, line+pad, want, code)
		holdLine(t, pad+line, want, code)
		holdLine(t, line+pad+" ", impl.Act{}, impl.ErrLong)
		holdLine(t, " "+pad+line, impl.Act{}, impl.ErrLong)
		holdLine(t, pad+line+pad, impl.Act{}, impl.ErrLong)
	}
	for _, head := range []string{"", "send 1 5.5.5.5 443 ", "kick ", "dns 1 ", "say 1 10.0.0.1 GET /", "say 1 ", "syn 1 5.5.5.5 ", "arp ", "tick"} {
		for _, sign := range []string{"x", "1", ".", "\n", "\xff", "a "} {
			long := head + strings.Repeat(sign, impl.MaxText)
			holdLine(t, long[:impl.MaxText], impl.Act{}, impl.ErrForm)
			holdLine(t, long[:impl.MaxText]+"x", impl.Act{}, impl.ErrLong)
		}
	}
}

// lineWords are words that lines of all kinds are made of, right and wrong.
func lineWords() []string {
	return []string{"arp", "dns", "syn", "send", "say", "answer", "tick", "kick", "isn", "records", "#", "1", "2", "3", "4", "0", "-1", "80", "443", "65535", "65536", "01",
		"5.5.5.5", "10.0.0.1", "9.9.9.9", "256.0.0.1", "a.b", "hello", "GET", "POST", "PUT", "/", "/login", "/logout", "name=ann&word=apple", "\t", "\xa0"}
}

// oddLine is a line with something changed in it, or words of all kinds.
func oddLine(chance *rand.Rand) string {
	if chance.Intn(4) == 0 {
		var words []string
		for range chance.Intn(7) {
			words = append(words, choice(chance, lineWords()...))
		}
		return strings.Join(words, strings.Repeat(" ", 1+chance.Intn(2)))
	}
	words := strings.Fields(choice(chance, rightLines()...))
	at := chance.Intn(len(words))
	switch chance.Intn(5) {
	case 0:
		words[at] = choice(chance, lineWords()...)
	case 1:
		words = slices.Delete(words, at, at+1)
	case 2:
		words = slices.Insert(words, at, choice(chance, lineWords()...))
	case 3:
		words[at] += string([]byte{byte(choice(chance, 0, 9, 11, 13, 35, 48, 49, 133, 160, 255))})
	}
	return strings.Repeat(" ", chance.Intn(2)) + strings.Join(words, strings.Repeat(" ", 1+chance.Intn(3))) + strings.Repeat(" ", chance.Intn(2))
}

func TestLinesAsByHand(t *testing.T) {
	chance := rand.New(rand.NewSource(16))
	codes := map[int]int{}
	for range 20000 {
		line := oddLine(chance)
		holdLineByHand(t, line)
		_, code := impl.ReadLine(line)
		codes[code]++
	}
	if codes[impl.OK] < 1000 || codes[impl.ErrForm] < 1000 || len(codes) != 2 {
		t.Errorf("lines met too little: %v", codes)
	}
}
