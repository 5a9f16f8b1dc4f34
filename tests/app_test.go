package tests

import (
	"bytes"
	"math"
	"strings"
	"testing"

	"loop.example/g00356/impl"
)

const dnsSigns = "abcdefghijklmnopqrstuvwxyzABCDEFGHIJKLMNOPQRSTUVWXYZ_0123456789-"

func TestAppConstants(t *testing.T) {
	for i, c := range []struct{ is, want int }{
		{impl.DhDiscover, 1}, {impl.DhOffer, 2}, {impl.DhRequest, 3}, {impl.DhAck, 5}, {impl.DhNak, 6}, {impl.DhRelease, 7},
	} {
		if c.is != c.want {
			t.Errorf("constant %d is %d, not %d", i, c.is, c.want)
		}
	}
}

func TestDnsNames(t *testing.T) {
	for _, s := range rightDnsNames() {
		if !impl.DnsNameOK(s) {
			t.Errorf("DnsNameOK(%q) is false", s)
		}
	}
	for _, s := range wrongDnsNames() {
		if impl.DnsNameOK(s) {
			t.Errorf("DnsNameOK(%.90q) is true", s)
		}
	}
}

func TestDnsNamesByEachByte(t *testing.T) {
	for c := range 256 {
		s := string([]byte{byte(c)})
		want := strings.Contains(dnsSigns, s)
		for _, name := range []string{s, s + "a", "a" + s, "b.a" + s + "c.d", strings.Repeat("a", 19) + s} {
			// A point between letters parts them, and is right there.
			is := want || c == '.' && name == "b.a.c.d"
			if impl.DnsNameOK(name) != is {
				t.Errorf("DnsNameOK(%q) is not %t", name, is)
			}
		}
	}
}

func TestDnsNamesBySize(t *testing.T) {
	for size := range 70 {
		for _, ahead := range []string{"", "a."} {
			if is, want := impl.DnsNameOK(ahead+strings.Repeat("p", size)), size >= 1 && size <= 20; is != want {
				t.Errorf("with a part of %d bytes behind %q DnsNameOK is %t", size, ahead, is)
			}
		}
	}
	for count := 1; count < 40; count++ {
		if is, want := impl.DnsNameOK(joined("p", count)), count <= 8; is != want {
			t.Errorf("of %d parts DnsNameOK is %t", count, is)
		}
	}
	for size := 64; size < 84; size++ {
		name := joined(strings.Repeat("p", 20), 3) + "." + strings.Repeat("q", size-63)
		if is, want := impl.DnsNameOK(name), size <= 80; is != want {
			t.Errorf("of %d bytes in all DnsNameOK is %t", size, is)
		}
	}
}

func TestQuestionWrittenOut(t *testing.T) {
	for _, c := range []struct {
		d    impl.Dns
		want string
	}{
		{impl.Dns{Id: 0x1234, Type: 28, Name: "www.a-1.b_c"},
			"\x12\x34\x01\x00\x00\x01\x00\x00\x00\x00\x00\x00\x03www\x03a-1\x03b_c\x00\x00\x1c\x00\x01"},
		{impl.Dns{Id: 65535, Type: 65535, Answer: true, Name: "-"},
			"\xff\xff\x81\x80\x00\x01\x00\x00\x00\x00\x00\x00\x01-\x00\xff\xff\x00\x01"},
		{impl.Dns{Name: "0"}, "\x00\x00\x01\x00\x00\x01\x00\x00\x00\x00\x00\x00\x010\x00\x00\x00\x00\x01"},
	} {
		if b, code := impl.DnsBytes(c.d); string(b) != c.want || code != impl.OK {
			t.Errorf("DnsBytes(%#v) = %q, %d", c.d, b, code)
		}
		if back, code := impl.ReadDns([]byte(c.want)); back != c.d || code != impl.OK {
			t.Errorf("ReadDns(%q) = %#v, %d", c.want, back, code)
		}
	}
}

func TestQuestionsReadBack(t *testing.T) {
	for _, d := range sampleQuestions() {
		want := dnsBytes(d)
		b, code := impl.DnsBytes(d)
		if !bytes.Equal(b, want) || code != impl.OK {
			t.Errorf("DnsBytes(%#v) = %q, %d", d, b, code)
		}
		for _, behind := range []string{"", "\x00", "more", "\xc0\x0c\x00\x01"} {
			if back, code := impl.ReadDns(append(bytes.Clone(want), behind...)); back != d || code != impl.OK {
				t.Errorf("ReadDns(%q) = %#v, %d", want, back, code)
			}
		}
	}
}

func TestQuestionsCut(t *testing.T) {
	for _, d := range sampleQuestions() {
		b := dnsBytes(d)
		for size := range len(b) {
			if back, code := impl.ReadDns(b[:size]); back != (impl.Dns{}) || code != impl.ErrForm {
				t.Errorf("ReadDns(%q) = %#v, %d", b[:size], back, code)
			}
		}
	}
}

func TestWrongQuestions(t *testing.T) {
	refuse := func(change func(d *impl.Dns)) {
		d := impl.Dns{Id: 1, Type: 1, Name: "a.b"}
		change(&d)
		if b, code := impl.DnsBytes(d); b != nil || code != impl.ErrBad {
			t.Errorf("DnsBytes(%#.90v) = %q, %d", d, b, code)
		}
	}
	for _, n := range outside(2) {
		refuse(func(d *impl.Dns) { d.Id = n })
		refuse(func(d *impl.Dns) { d.Type = n })
		refuse(func(d *impl.Dns) { d.Answer, d.Type = true, n })
	}
	for _, name := range wrongDnsNames() {
		refuse(func(d *impl.Dns) { d.Name = name })
	}
}

func TestHeadsOfQuestions(t *testing.T) {
	d := impl.Dns{Id: 7, Type: 1, Name: "a.bc"}
	for c := range 256 {
		for _, at := range []int{2, 3, 6, 7, 8, 9, 10, 11} {
			b := dnsBytes(d)
			b[at] = byte(c)
			want := d
			want.Answer = at == 2 && c >= 128
			if back, code := impl.ReadDns(b); back != want || code != impl.OK {
				t.Errorf("ReadDns with %#x for byte %d = %#v, %d", c, at, back, code)
			}
		}
	}
	for n := range 1 << 16 {
		want, code := impl.Dns{}, impl.ErrForm
		if n == 1 {
			want, code = d, impl.OK
		}
		b := dnsBytes(d)
		for _, at := range []int{4, len(b) - 2} {
			wrong := bytes.Clone(b)
			copy(wrong[at:], twoBytes(n))
			if back, is := impl.ReadDns(wrong); back != want || is != code {
				t.Errorf("ReadDns with %d at byte %d = %#v, %d", n, at, back, is)
			}
		}
	}
}

// All parts of up to 63 bytes are read, but those of more than 20 are not right;
// what would be a length of more than 63 is none.
func TestPartsOfQuestions(t *testing.T) {
	for size := range 256 {
		for _, ahead := range []string{"", "\x01a", "\x02bc\x14" + strings.Repeat("t", 20)} {
			b := rawDns(ahead + string([]byte{byte(size)}) + strings.Repeat("p", size) + "\x00")
			want := impl.OK
			if size == 0 && ahead == "" || size > 20 {
				want = impl.ErrForm
			}
			// Of no bytes it is the end already: the nought behind it is not looked at.
			if size == 0 && ahead != "" {
				b = rawDns(ahead + "\x00")
			}
			if d, code := impl.ReadDns(b); code != want || code != impl.OK && d != (impl.Dns{}) {
				t.Errorf("ReadDns with a part of %d bytes behind %q = %#v, %d", size, ahead, d, code)
			}
		}
	}
	for count := range 40 {
		d, code := impl.ReadDns(rawDns(strings.Repeat("\x01p", count) + "\x00"))
		if right := count >= 1 && count <= 8; right && (d.Name != joined("p", count) || code != impl.OK) || !right && (d != impl.Dns{} || code != impl.ErrForm) {
			t.Errorf("ReadDns of %d parts = %#v, %d", count, d, code)
		}
	}
	for size := 1; size <= 20; size++ {
		name := joined(strings.Repeat("p", 20), 3) + "." + strings.Repeat("q", size)
		d, code := impl.ReadDns(dnsBytes(impl.Dns{Name: name}))
		if right := len(name) <= 80; right && (d.Name != name || code != impl.OK) || !right && (d != impl.Dns{} || code != impl.ErrForm) {
			t.Errorf("ReadDns of a name of %d bytes = %#v, %d", len(name), d, code)
		}
	}
}

func TestSignsOfQuestions(t *testing.T) {
	for c := range 256 {
		s := string([]byte{byte(c)})
		for _, part := range []string{s, s + "a", "b" + s, "b" + s + "a"} {
			want, code := impl.Dns{}, impl.ErrForm
			if strings.Contains(dnsSigns, s) {
				want, code = impl.Dns{Name: "x." + part + ".y"}, impl.OK
			}
			// A point in a part is no sign of it, and parts nothing.
			b := rawDns("\x01x" + string([]byte{byte(len(part))}) + part + "\x01y\x00")
			if d, is := impl.ReadDns(b); d != want || is != code {
				t.Errorf("ReadDns with the part %q = %#v, %d", part, d, is)
			}
		}
	}
}

func TestLongQuestions(t *testing.T) {
	d := impl.Dns{Id: 1, Type: 2, Answer: true, Name: "a"}
	right := dnsBytes(d)
	b := append(bytes.Clone(right), make([]byte, impl.MaxText-len(right))...)
	if back, code := impl.ReadDns(b); back != d || code != impl.OK {
		t.Errorf("ReadDns of MaxText bytes = %#v, %d", back, code)
	}
	for _, long := range [][]byte{append(b, 0), make([]byte, impl.MaxText+1)} {
		if back, code := impl.ReadDns(long); back != (impl.Dns{}) || code != impl.ErrLong {
			t.Errorf("ReadDns of %d bytes = %#v, %d", len(long), back, code)
		}
	}
	for _, sign := range []string{"\x01", "\x3f", "\x40", "a", "\xff", "\x00"} {
		if back, code := impl.ReadDns(rawDns(strings.Repeat(sign, impl.MaxText-16))); back != (impl.Dns{}) || code != impl.ErrForm {
			t.Errorf("ReadDns of many bytes %q = %#v, %d", sign, back, code)
		}
	}
}

func TestLeaseWrittenOut(t *testing.T) {
	d := impl.Dhcp{Xid: 0x01020304, Yours: 0x0a000005, Kind: impl.DhAck, Reply: true, Mac: macB}
	want := "\x02\x01\x06\x00\x01\x02\x03\x04" + "\x00\x00\x00\x00\x00\x00\x00\x00" + "\x0a\x00\x00\x05" +
		"\x00\x00\x00\x00\x00\x00\x00\x00" + macB + strings.Repeat("\x00", 202) + "\x63\x82\x53\x63\x35\x01\x05\xff"
	b, code := impl.DhcpBytes(d)
	if string(b) != want || len(b) != 244 || code != impl.OK {
		t.Errorf("DhcpBytes = %x, %d", b, code)
	}
	if back, code := impl.ReadDhcp([]byte(want)); back != d || code != impl.OK {
		t.Errorf("ReadDhcp = %#v, %d", back, code)
	}
}

func TestLeasesReadBack(t *testing.T) {
	for _, d := range sampleLeases() {
		want := dhcpBytes(d)
		b, code := impl.DhcpBytes(d)
		if !bytes.Equal(b, want) || code != impl.OK {
			t.Errorf("DhcpBytes(%#v) = %x, %d", d, b, code)
		}
		for _, behind := range []string{"", "\x00", "\xff", "\x35", "\x35\x01\x09", "more"} {
			if back, code := impl.ReadDhcp(append(bytes.Clone(want), behind...)); back != d || code != impl.OK {
				t.Errorf("ReadDhcp(%x) = %#v, %d", want, back, code)
			}
		}
	}
}

func TestLeasesCut(t *testing.T) {
	whole := [][]byte{rawDhcp("\x00\x00\x0c\x03abc\x35\x01\x02\x00\x35\x01\x07\x32\x04\x0a\x00\x00\x01\x00\xff")}
	for _, d := range sampleLeases() {
		whole = append(whole, dhcpBytes(d))
	}
	for _, b := range whole {
		for size := range len(b) {
			if back, code := impl.ReadDhcp(b[:size]); back != (impl.Dhcp{}) || code != impl.ErrForm {
				t.Errorf("ReadDhcp of %d bytes of %x = %#v, %d", size, b, back, code)
			}
		}
	}
}

func TestWrongLeases(t *testing.T) {
	refuse := func(change func(d *impl.Dhcp)) {
		d := impl.Dhcp{Xid: 1, Yours: 2, Kind: 3, Mac: macA}
		change(&d)
		if b, code := impl.DhcpBytes(d); b != nil || code != impl.ErrBad {
			t.Errorf("DhcpBytes(%#.90v) = %x, %d", d, b, code)
		}
	}
	for _, n := range outside(4) {
		refuse(func(d *impl.Dhcp) { d.Xid = n })
		refuse(func(d *impl.Dhcp) { d.Yours = n })
	}
	for _, n := range []int{math.MinInt, -1, 0, 9, 10, 255, 256, 257, 264, math.MaxInt} {
		refuse(func(d *impl.Dhcp) { d.Kind = n })
	}
	for _, mac := range wrongMacs() {
		refuse(func(d *impl.Dhcp) { d.Mac = mac })
	}
}

// Only the first three bytes and the four of the mark must be as they are; the
// others ahead of the options are read, or are any.
func TestHeadsOfLeases(t *testing.T) {
	right := impl.Dhcp{Xid: 0x01020304, Yours: 0x05060708, Kind: 3, Mac: macA}
	for at := range 240 {
		for c := range 256 {
			b := dhcpBytes(right)
			b[at] = byte(c)
			want, code := right, impl.OK
			switch {
			case at == 0 && c == 2:
				want.Reply = true
			case at < 3 || at >= 236:
				if c != int(dhcpBytes(right)[at]) {
					want, code = impl.Dhcp{}, impl.ErrForm
				}
			default:
				want.Xid, want.Yours, want.Mac = numberIn(b[4:8]), numberIn(b[16:20]), string(b[28:34])
			}
			if d, is := impl.ReadDhcp(b); d != want || is != code {
				t.Errorf("ReadDhcp with %#x for byte %d = %#v, %d", c, at, d, is)
			}
		}
	}
}

func TestOptionsWrittenOut(t *testing.T) {
	for _, c := range []struct {
		options string
		kind    int
	}{
		// Noughts stand alone, and have no length.
		{"\x00\x35\x01\x01\xff", 1}, {"\x00\x00\x00\x35\x01\x02\x00\x00\xff", 2}, {"\x00\x01\x35\x35\x01\x03\xff", 0}, {"\x00", 0}, {"\x00\xff", 0},
		// Others have one, and what follows is theirs, even if it looks like an end or a kind.
		{"\x01\x00\x35\x01\x03\xff", 3}, {"\x0c\x01\xff\x35\x01\x03\xff", 3}, {"\x35\x01\x03\x0c\x03\x35\x01\x05\xff", 3},
		{"\xfe\x02\xff\xff\x35\x01\x08\xff", 8}, {"\x34\x01\x03\xff", 0}, {"\x36\x01\x03\xff", 0}, {"\x35\x01\x03\x0c\x02\xff", 0},
		// 0x35 has one.
		{"\x35\x00\xff", 0}, {"\x35\x02\x01\x01\xff", 0}, {"\x35\x01\x03\x35\x00\xff", 0}, {"\x35\x00\x35\x01\x03\xff", 0},
		{"\x35\x02\x01\x01\x35\x01\x03\xff", 0}, {"\x35\x01\x03\x35\x02\x03\x03\xff", 0}, {"\x35\x03\x01\x02\x03\xff", 0},
		// The last one counts, and must be right.
		{"\x35\x01\x01\x35\x01\x02\xff", 2}, {"\x35\x01\x02\x35\x01\x01\xff", 1}, {"\x35\x01\x09\x35\x01\x08\xff", 8},
		{"\x35\x01\x00\x35\x01\x01\x0c\x00\xff", 1}, {"\x35\x01\x08\x35\x01\x09\xff", 0}, {"\x35\x01\x01\x35\x01\x00\xff", 0},
		{"\x35\x01\x05\x00\x35\x01\x06\x00\x35\x01\x07\xff", 7},
		{"\x35\x01\x00\xff", 0}, {"\x35\x01\x09\xff", 0}, {"\x35\x01\x35\xff", 0}, {"\x35\x01\xff\xff", 0},
		// There must be an end; what stands behind the first one is any.
		{"", 0}, {"\xff", 0}, {"\x35\x01\x03", 0}, {"\x35\x01\x03\x00", 0}, {"\x35\x01\xff", 0}, {"\x35\x01", 0}, {"\x35", 0}, {"\x0c", 0}, {"\x0c\x02\xff", 0},
		{"\x35\x01\x03\xff\x35\x01\x05\xff", 3}, {"\x35\x01\x03\xff\x35\x01\x09", 3}, {"\x35\x01\x03\xff\x0c\xff", 3}, {"\xff\x35\x01\x03\xff", 0},
	} {
		holdOptions(t, c.options, c.kind)
	}
	for kind := range 256 {
		want := kind
		if kind > 8 {
			want = 0
		}
		holdOptions(t, "\x35\x01"+string([]byte{byte(kind)})+"\xff", want)
	}
	for size := range 256 {
		long := string([]byte{0x0c, byte(size)}) + strings.Repeat("\xff", size)
		holdOptions(t, long+"\x35\x01\x04\xff", 4)
		holdOptions(t, "\x35\x01\x04"+long, 0)
		holdOptions(t, "\x35\x01\x04"+long+"\xff", 4)
	}
}

func TestOptionsOfFewSigns(t *testing.T) {
	const signs = "\x00\x01\x02\x08\x09\x35\xff"
	var hold func(options string, more int)
	hold = func(options string, more int) {
		holdOptions(t, options, kindIn(options, 0))
		for i := range len(signs) {
			if more > 0 {
				hold(options+signs[i:i+1], more-1)
			}
		}
	}
	hold("", 5)
	hold("\x35\x01\x03", 5)
}

func TestLongLeases(t *testing.T) {
	fill := func(size int) string { return strings.Repeat("\x00", size-244) }
	for _, options := range []string{"\x35\x01\x03\xff" + fill(impl.MaxText), fill(impl.MaxText) + "\x35\x01\x03\xff"} {
		holdOptions(t, options, 3)
		if d, code := impl.ReadDhcp(rawDhcp("\x00" + options)); d != (impl.Dhcp{}) || code != impl.ErrLong {
			t.Errorf("ReadDhcp of more than MaxText bytes = %#v, %d", d, code)
		}
	}
	if d, code := impl.ReadDhcp(make([]byte, impl.MaxText+1)); d != (impl.Dhcp{}) || code != impl.ErrLong {
		t.Errorf("ReadDhcp of more than MaxText noughts = %#v, %d", d, code)
	}
	if d, code := impl.ReadDhcp(make([]byte, impl.MaxText)); d != (impl.Dhcp{}) || code != impl.ErrForm {
		t.Errorf("ReadDhcp of MaxText noughts = %#v, %d", d, code)
	}
}

// holdOptions reads a message with these options, which tell that kind; 0 says
// that they are none.
func holdOptions(t *testing.T, options string, kind int) {
	t.Helper()
	want, code := impl.Dhcp{}, impl.ErrForm
	if kind > 0 {
		want, code = impl.Dhcp{Xid: 9, Kind: kind, Mac: macA}, impl.OK
	}
	if d, is := impl.ReadDhcp(rawDhcp(options)); d != want || is != code {
		t.Errorf("ReadDhcp with the options %.40x = %#v, %d, not %d, %d", options, d, is, kind, code)
	}
}

// kindIn works out what options tell by taking the first off; kind is what
// those ahead told.
func kindIn(options string, kind int) int {
	if options == "" {
		return 0
	}
	switch first, rest := options[0], options[1:]; {
	case first == 0xff && kind <= 8:
		return kind
	case first == 0:
		return kindIn(rest, kind)
	case first == 0xff || rest == "" || len(rest)-1 < int(rest[0]):
		return 0
	case first == 0x35 && rest[0] != 1:
		return 0
	case first == 0x35:
		return kindIn(rest[2:], int(rest[1]))
	default:
		return kindIn(rest[1+int(rest[0]):], kind)
	}
}

func rightDnsNames() []string {
	twenty := strings.Repeat("p", 20)
	return []string{"a", "Z", "_", "-", "0", "a.b", "-.-", "a-b", "_x._y", "www.example.com", "1.2.3.4", "xn--a.b-",
		joined("h", 8), joined("ab", 8), twenty, twenty + ".x", joined(twenty, 3), joined(strings.Repeat("n", 9), 8),
		joined(twenty, 3) + "." + strings.Repeat("q", 17), joined(strings.Repeat("n", 9), 7) + ".0123456789"}
}

func wrongDnsNames() []string {
	twenty := strings.Repeat("p", 20)
	return []string{"", ".", "..", ".a", "a.", "a..b", "a.b.", ".a.b", "a b", " a", "a ", "a\n", "a\x00", "a/b", "a:b", "a,b", "\xe4", "ä", "a+b", "a@b",
		joined("h", 9), joined("h", 8) + ".", "." + joined("h", 8), joined("", 8), twenty + "p", "a." + twenty + "p", twenty + "p.a",
		joined(twenty, 3) + "." + strings.Repeat("q", 18), joined(twenty, 4), joined(twenty, 8), joined(strings.Repeat("n", 9), 7) + ".0123456789a",
		strings.Repeat("a", 63), strings.Repeat("a", 64), strings.Repeat("a.", impl.MaxText/2), strings.Repeat("a", impl.MaxText+1), strings.Repeat(".", impl.MaxText+1)}
}

func sampleQuestions() []impl.Dns {
	var list []impl.Dns
	for i, name := range rightDnsNames() {
		for _, n := range []int{0, 1, 255, 256, 65535} {
			list = append(list, impl.Dns{Id: n, Type: 65535 - n, Answer: i%2 == 1, Name: name},
				impl.Dns{Id: 65535 - n, Type: n, Answer: i%2 == 0, Name: name})
		}
	}
	return list
}

func sampleLeases() []impl.Dhcp {
	var list []impl.Dhcp
	for kind := 1; kind <= 8; kind++ {
		for i, n := range []int{0, 1, 0x01020304, 0x63825363, 0x3501ff00, impl.MaxAddress} {
			list = append(list, impl.Dhcp{Xid: n, Yours: impl.MaxAddress - n, Kind: kind, Reply: i%2 == 0, Mac: macA},
				impl.Dhcp{Xid: impl.MaxAddress - n, Yours: n, Kind: kind, Reply: i%2 == 1, Mac: macB})
		}
	}
	return append(list, impl.Dhcp{Kind: 1, Mac: "\x00\x00\x00\x00\x00\x00"}, impl.Dhcp{Kind: 8, Mac: "\xff\xff\xff\xff\xff\xff"})
}

func joined(part string, count int) string {
	return strings.Repeat(part+".", count-1) + part
}

func numberIn(b []byte) int {
	n := 0
	for _, c := range b {
		n = n*256 + int(c)
	}
	return n
}

// dnsBytes and dhcpBytes are the document's layouts, laid out a second time.
func dnsBytes(d impl.Dns) []byte {
	flags := "\x01\x00"
	if d.Answer {
		flags = "\x81\x80"
	}
	text := twoBytes(d.Id) + flags + "\x00\x01\x00\x00\x00\x00\x00\x00"
	for part := range strings.SplitSeq(d.Name, ".") {
		text += string([]byte{byte(len(part))}) + part
	}
	return []byte(text + "\x00" + twoBytes(d.Type) + "\x00\x01")
}

func dhcpBytes(d impl.Dhcp) []byte {
	first := "\x01"
	if d.Reply {
		first = "\x02"
	}
	eight := strings.Repeat("\x00", 8)
	return []byte(first + "\x01\x06\x00" + fourBytes(d.Xid) + eight + fourBytes(d.Yours) + eight + d.Mac +
		strings.Repeat("\x00", 202) + "\x63\x82\x53\x63\x35\x01" + string([]byte{byte(d.Kind)}) + "\xff")
}

// rawDns is a question with these bytes for its parts and their end.
func rawDns(parts string) []byte {
	return []byte("\x00\x00\x01\x00\x00\x01\x00\x00\x00\x00\x00\x00" + parts + "\x00\x00\x00\x01")
}

// rawDhcp is a message of leases with these options.
func rawDhcp(options string) []byte {
	return append(dhcpBytes(impl.Dhcp{Xid: 9, Mac: macA})[:240], options...)
}
