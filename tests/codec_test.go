package tests

import (
	"bytes"
	"fmt"
	"math"
	"strings"
	"testing"

	"loop.example/g00356/impl"
)

func TestSumOfWrittenOut(t *testing.T) {
	header := "\x45\x00\x00\x73\x00\x00\x40\x00\x40\x11\x00\x00\xc0\xa8\x00\x01\xc0\xa8\x00\xc7"
	for _, c := range []struct {
		text string
		want int
	}{
		{"", 0xffff}, {"\x00", 0xffff}, {"\x00\x00", 0xffff}, {"\x01", 0xfeff}, {"\xff", 0x00ff},
		{"\x12\x34", 0xedcb}, {"\x12\x34\x56", 0x97cb}, {"\xff\xff", 0}, {"\xff\xff\xff\xff", 0},
		{"\xff\xff\x00\x01", 0xfffe}, {"\xff\xff\x01", 0xfeff}, {header, 0xb861},
	} {
		if n := impl.Check16([]byte(c.text)); n != c.want {
			t.Errorf("Check16(%q) = %#x, not %#x", c.text, n, c.want)
		}
	}
}

func TestSumByRemainder(t *testing.T) {
	for size := range 300 {
		b := sampleBytes(size, size)
		if n, want := impl.Check16(b), sumByRemainder(b); n != want {
			t.Errorf("Check16 of %d bytes = %#x, not %#x", size, n, want)
		}
	}
	for _, size := range []int{impl.MaxText - 1, impl.MaxText} {
		b := sampleBytes(size, 7)
		if n, want := impl.Check16(b), sumByRemainder(b); n != want {
			t.Errorf("Check16 of %d bytes = %#x, not %#x", size, n, want)
		}
	}
}

func TestSumOfLong(t *testing.T) {
	if n := impl.Check16(make([]byte, impl.MaxText)); n != 0xffff {
		t.Errorf("Check16 of MaxText noughts = %#x", n)
	}
	if n := impl.Check16(make([]byte, impl.MaxText+1)); n != 0 {
		t.Errorf("Check16 of more than MaxText noughts = %#x", n)
	}
	full := bytes.Repeat([]byte{0xff}, impl.MaxText)
	if n := impl.Check16(full); n != 0 {
		t.Errorf("Check16 of MaxText bytes 0xff = %#x", n)
	}
}

func TestSumBehindText(t *testing.T) {
	for size := range 60 {
		b := withSum(t, sampleBytes(size, 3*size+1))
		if n := impl.Check16(b); n != 0 {
			t.Fatalf("with its sum, %d bytes have the sum %#x", size, n)
		}
		for bit := range 8 * len(b) {
			turned := bytes.Clone(b)
			turned[bit/8] ^= 1 << (bit % 8)
			if impl.Check16(turned) == 0 {
				t.Errorf("with bit %d turned, %d bytes have the sum 0", bit, size)
			}
		}
	}
}

func TestSumBehindNoughts(t *testing.T) {
	for _, text := range []string{"", "\x00\x00", "\xff\xff", "\xff\xfe\x00\x01"} {
		b := withSum(t, []byte(text))
		if n := impl.Check16(b); n != 0 {
			t.Errorf("with its sum, %q has the sum %#x", text, n)
		}
	}
}

func TestAddressesReadBack(t *testing.T) {
	for _, ip := range sampleAddresses() {
		want := fmt.Sprintf("%d.%d.%d.%d", ip>>24, ip>>16&255, ip>>8&255, ip&255)
		text, code := impl.AddressText(ip)
		if text != want || code != impl.OK {
			t.Errorf("AddressText(%d) = %q, %d", ip, text, code)
		}
		if n, code := impl.ReadAddress(want); n != ip || code != impl.OK {
			t.Errorf("ReadAddress(%q) = %d, %d", want, n, code)
		}
	}
}

func TestWrongAddresses(t *testing.T) {
	for _, ip := range []int{-1, impl.MaxAddress + 1, 1 << 40, math.MaxInt, math.MinInt} {
		if text, code := impl.AddressText(ip); text != "" || code != impl.ErrRange {
			t.Errorf("AddressText(%d) = %q, %d", ip, text, code)
		}
	}
	for _, s := range []string{
		"", ".", "...", "....", "1", "1.2.3", "1.2.3.", ".1.2.3", "1.2.3.4.", ".1.2.3.4", "1..3.4", "1.2.3.4.5",
		"256.2.3.4", "1.256.3.4", "1.2.256.4", "1.2.3.256", "1.2.3.1000", "1.2.3.-1", "-1.2.3.4", "1.2.3.-0", "-0.0.0.0",
		"1.2.3.-", "1.2.3.+4", "1.2.3.00", "1.2.3.04", "00.0.0.0", "1.2.3. 4", "1.2.3.4 ", " 1.2.3.4", "1.2.3.4\n",
		"1.2.3.4/8", "1,2,3,4", "1.2.3.0x4", "1.2.3.a", "1.2.3.\xb2", "1.2.3.1_0", "1.2.3.1e1", "1.2.3./", "1.2.3.:",
		"1.2.3.999999999999999999", "1.2.3.1000000000000000000",
		"1.2.3.4294967297", "1.2.3.18446744073709551617", "1.2.3.--4",
	} {
		if n, code := impl.ReadAddress(s); n != 0 || code != impl.ErrForm {
			t.Errorf("ReadAddress(%q) = %d, %d", s, n, code)
		}
	}
}

func TestMacsReadBack(t *testing.T) {
	for c := range 256 {
		mac := string([]byte{byte(c), byte(255 - c), 0, 0xff, byte(c * 7), byte(c)})
		want := fmt.Sprintf("%02x:%02x:%02x:%02x:%02x:%02x", mac[0], mac[1], mac[2], mac[3], mac[4], mac[5])
		text, code := impl.MacText(mac)
		if text != want || code != impl.OK {
			t.Errorf("MacText(%q) = %q, %d", mac, text, code)
		}
		if back, code := impl.ReadMac(want); back != mac || code != impl.OK {
			t.Errorf("ReadMac(%q) = %q, %d", want, back, code)
		}
	}
}

func TestWrongMacs(t *testing.T) {
	for _, mac := range []string{"", "\x00", "12345", "1234567", "00:ff:10:01:ab:cd"} {
		if text, code := impl.MacText(mac); text != "" || code != impl.ErrRange {
			t.Errorf("MacText(%q) = %q, %d", mac, text, code)
		}
	}
	const right = "02:9a:bc:de:f0:1f"
	for at := range len(right) {
		for _, c := range []byte{' ', '/', '.', '-', ';', 'A', 'F', 'G', 'g', '`', 0, 0xff} {
			s := right[:at] + string([]byte{c}) + right[at+1:]
			if mac, code := impl.ReadMac(s); mac != "" || code != impl.ErrForm {
				t.Errorf("ReadMac(%q) = %q, %d", s, mac, code)
			}
		}
		if mac, code := impl.ReadMac(right[:at]); mac != "" || code != impl.ErrForm {
			t.Errorf("ReadMac(%q) = %q, %d", right[:at], mac, code)
		}
	}
	for _, s := range []string{right + ":", right + "0", right + ":00", ":" + right, "029abcdef01f", "0:2:9:a:b:c",
		"02:9a:bc:de:f0:::", "02::a:bc:de:f0:1f", "029:a:bc:de:f0:1f", "02:9a:bc:de:f0011"} {
		if mac, code := impl.ReadMac(s); mac != "" || code != impl.ErrForm {
			t.Errorf("ReadMac(%q) = %q, %d", s, mac, code)
		}
	}
}

func TestNumbersReadBack(t *testing.T) {
	for size := 1; size <= 6; size++ {
		top := 1<<(8*size) - 1
		for _, n := range []int{0, 1, 127, 128, 255, top / 2, top/2 + 1, top/3 + 5, top - 1, top} {
			b, code := impl.NumberBytes(n, size)
			if len(b) != size || code != impl.OK {
				t.Fatalf("NumberBytes(%d, %d) = %v, %d", n, size, b, code)
			}
			if back, code := impl.NumberOf(b); back != n || code != impl.OK {
				t.Errorf("NumberOf(%v) = %d, %d, not %d", b, back, code, n)
			}
		}
	}
	if b, _ := impl.NumberBytes(0x010203040506, 6); string(b) != "\x01\x02\x03\x04\x05\x06" {
		t.Errorf("NumberBytes has %v: the higher bytes stand first", b)
	}
	if n, _ := impl.NumberOf([]byte{0xff, 0xfe, 0xfd, 0xfc, 0xfb, 0xfa}); n != 0xfffefdfcfbfa {
		t.Errorf("NumberOf = %#x", n)
	}
}

func TestWrongNumbers(t *testing.T) {
	for _, size := range []int{math.MinInt, -1, 0, 7, 8, 64, math.MaxInt} {
		if b, code := impl.NumberBytes(0, size); len(b) != 0 || code != impl.ErrRange {
			t.Errorf("NumberBytes(0, %d) = %v, %d", size, b, code)
		}
	}
	for size := 1; size <= 6; size++ {
		for _, n := range []int{math.MinInt, -1 << (8 * size), -1, 1 << (8 * size), math.MaxInt} {
			if b, code := impl.NumberBytes(n, size); len(b) != 0 || code != impl.ErrRange {
				t.Errorf("NumberBytes(%d, %d) = %v, %d", n, size, b, code)
			}
		}
	}
	for _, b := range [][]byte{nil, {}, make([]byte, 7), make([]byte, impl.MaxText)} {
		if n, code := impl.NumberOf(b); n != 0 || code != impl.ErrRange {
			t.Errorf("NumberOf of %d bytes = %d, %d", len(b), n, code)
		}
	}
}

func TestLongArguments(t *testing.T) {
	for _, c := range []struct{ size, address, macText, mac, number int }{
		{impl.MaxText, impl.ErrForm, impl.ErrRange, impl.ErrForm, impl.ErrRange},
		{impl.MaxText + 1, impl.ErrLong, impl.ErrLong, impl.ErrLong, impl.ErrLong},
	} {
		s := strings.Repeat("1", c.size)
		dots := strings.Repeat(".", c.size)
		if n, code := impl.ReadAddress(s); n != 0 || code != c.address {
			t.Errorf("ReadAddress of %d bytes = %d, %d", c.size, n, code)
		}
		if n, code := impl.ReadAddress(dots); n != 0 || code != c.address {
			t.Errorf("ReadAddress of %d points = %d, %d", c.size, n, code)
		}
		if text, code := impl.MacText(s); text != "" || code != c.macText {
			t.Errorf("MacText of %d bytes = %q, %d", c.size, text, code)
		}
		if mac, code := impl.ReadMac(s); mac != "" || code != c.mac {
			t.Errorf("ReadMac of %d bytes = %q, %d", c.size, mac, code)
		}
		if n, code := impl.NumberOf([]byte(s)); n != 0 || code != c.number {
			t.Errorf("NumberOf of %d bytes = %d, %d", c.size, n, code)
		}
	}
}

// sampleBytes is the same for the same seed: a test must not hang on chance.
func sampleBytes(size, seed int) []byte {
	b := make([]byte, size)
	state := uint32(seed)*2654435761 + 12345
	for i := range b {
		state = state*1664525 + 1013904223
		b[i] = byte(state >> 24)
	}
	return b
}

func sampleAddresses() []int {
	list := []int{0, 1, 9, 10, 99, 100, 255, 256, 0x0a000001, 0x7fffffff, 0x80000000, 0xff00ff00, impl.MaxAddress - 1, impl.MaxAddress}
	for shift := range 32 {
		list = append(list, 1<<shift, impl.MaxAddress^1<<shift)
	}
	for n := range 256 {
		list = append(list, n<<24|(255-n)<<16|n<<8|255-n)
	}
	return list
}

// sumByRemainder works the sum out by another way than folding: folding keeps
// the remainder by 65535, and comes to 0 only of noughts.
func sumByRemainder(b []byte) int {
	if len(b)%2 == 1 {
		b = append(bytes.Clone(b), 0)
	}
	total := 0
	for i := 0; i < len(b); i += 2 {
		total += int(b[i])*256 + int(b[i+1])
	}
	if total == 0 {
		return 65535
	}
	return 65535 - ((total-1)%65535 + 1)
}

// withSum lays the sum behind a text, on a word's edge: a last byte alone gets
// its nought first.
func withSum(t *testing.T, b []byte) []byte {
	sum, code := impl.NumberBytes(impl.Check16(b), 2)
	if code != impl.OK {
		t.Fatalf("a sum of %d bytes has no room in two: %d", len(b), code)
	}
	if len(b)%2 == 1 {
		b = append(bytes.Clone(b), 0)
	}
	return append(bytes.Clone(b), sum...)
}
