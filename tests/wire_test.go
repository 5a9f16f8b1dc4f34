package tests

import (
	"bytes"
	"encoding/binary"
	"math"
	"strings"
	"testing"

	"loop.example/g00356/impl"
)

const (
	macA = "\x02\x00\x00\x00\x00\x01"
	macB = "\xfe\xdc\xba\x98\x76\x54"
)

func TestWireConstants(t *testing.T) {
	for i, c := range []struct{ is, want int }{
		{impl.KindIp, 0x0800}, {impl.KindArp, 0x0806}, {impl.ProIcmp, 1}, {impl.ProTcp, 6}, {impl.ProUdp, 17},
		{impl.FlFin, 1}, {impl.FlSyn, 2}, {impl.FlRst, 4}, {impl.FlPsh, 8}, {impl.FlAck, 16}, {impl.MaxBody, 400},
	} {
		if c.is != c.want {
			t.Errorf("constant %d is %d, not %d", i, c.is, c.want)
		}
	}
}

func TestFramesReadBack(t *testing.T) {
	for size := range impl.MaxBody + 1 {
		for _, kind := range []int{impl.KindIp, impl.KindArp} {
			f := impl.Frame{Dst: macA, Src: macB, Kind: kind, Body: string(sampleBytes(size, size+kind))}
			want := macA + macB + string([]byte{8, byte(kind)}) + f.Body
			b, code := impl.FrameBytes(f)
			if string(b) != want || code != impl.OK {
				t.Fatalf("FrameBytes(%#v) = %q, %d", f, b, code)
			}
			if back, code := impl.ReadFrame([]byte(want)); back != f || code != impl.OK {
				t.Errorf("ReadFrame(%q) = %#v, %d", want, back, code)
			}
		}
	}
}

func TestWrongFrames(t *testing.T) {
	right := impl.Frame{Dst: macA, Src: macB, Kind: impl.KindIp, Body: "body"}
	refuse := func(change func(f *impl.Frame)) {
		f := right
		change(&f)
		if b, code := impl.FrameBytes(f); b != nil || code != impl.ErrBad {
			t.Errorf("FrameBytes(%#.60v) = %q, %d", f, b, code)
		}
	}
	for _, mac := range wrongMacs() {
		refuse(func(f *impl.Frame) { f.Dst = mac })
		refuse(func(f *impl.Frame) { f.Src = mac })
	}
	for _, kind := range []int{math.MinInt, -1, 0, 0x07ff, 0x0801, 0x0805, 0x0807, 0x86dd, 0x10800, 0x10806, math.MaxInt} {
		refuse(func(f *impl.Frame) { f.Kind = kind })
	}
	refuse(func(f *impl.Frame) { f.Body = strings.Repeat("b", impl.MaxBody+1) })
	refuse(func(f *impl.Frame) { f.Body = strings.Repeat("b", impl.MaxText+1) })
}

func TestWrongFrameBytes(t *testing.T) {
	for _, c := range []struct{ size, code int }{
		{0, impl.ErrForm}, {1, impl.ErrForm}, {13, impl.ErrForm}, {14, impl.OK}, {414, impl.OK}, {415, impl.ErrForm},
		{impl.MaxText, impl.ErrForm}, {impl.MaxText + 1, impl.ErrLong},
	} {
		b := make([]byte, c.size)
		copy(b, macA+macB+"\x08\x06")
		if f, code := impl.ReadFrame(b); code != c.code || code != impl.OK && f != (impl.Frame{}) {
			t.Errorf("ReadFrame of %d bytes = %#v, %d", c.size, f, code)
		}
	}
	for kind := range 1 << 16 {
		b := []byte(macA + macB + string([]byte{byte(kind >> 8), byte(kind)}) + "body")
		want := impl.ErrProto
		if kind == impl.KindIp || kind == impl.KindArp {
			want = impl.OK
		}
		if f, code := impl.ReadFrame(b); code != want || code != impl.OK && f != (impl.Frame{}) {
			t.Errorf("ReadFrame of kind %#x = %#v, %d", kind, f, code)
		}
	}
	if _, code := impl.ReadFrame(make([]byte, 13)); code != impl.ErrForm {
		t.Errorf("a short frame of another kind is %d", code)
	}
	if _, code := impl.ReadFrame(make([]byte, 415)); code != impl.ErrForm {
		t.Errorf("a long frame of another kind is %d", code)
	}
}

func TestArpsReadBack(t *testing.T) {
	for i, ip := range sampleAddresses() {
		a := impl.Arp{Op: 1 + i%2, SrcMac: macA, DstMac: string(sampleBytes(6, i)), SrcIp: ip, DstIp: impl.MaxAddress - ip}
		want := "\x00\x01\x08\x00\x06\x04\x00" + string([]byte{byte(a.Op)}) + macA + fourBytes(ip) + a.DstMac + fourBytes(a.DstIp)
		b, code := impl.ArpBytes(a)
		if string(b) != want || code != impl.OK {
			t.Fatalf("ArpBytes(%#v) = %q, %d", a, b, code)
		}
		if back, code := impl.ReadArp([]byte(want)); back != a || code != impl.OK {
			t.Errorf("ReadArp(%q) = %#v, %d", want, back, code)
		}
	}
}

func TestWrongArps(t *testing.T) {
	right := impl.Arp{Op: 2, SrcMac: macA, DstMac: macB, SrcIp: 1, DstIp: 2}
	refuse := func(change func(a *impl.Arp)) {
		a := right
		change(&a)
		if b, code := impl.ArpBytes(a); b != nil || code != impl.ErrBad {
			t.Errorf("ArpBytes(%#v) = %q, %d", a, b, code)
		}
	}
	for _, mac := range wrongMacs() {
		refuse(func(a *impl.Arp) { a.SrcMac = mac })
		refuse(func(a *impl.Arp) { a.DstMac = mac })
	}
	for _, op := range []int{math.MinInt, -1, 0, 3, 257, 0x10001, math.MaxInt} {
		refuse(func(a *impl.Arp) { a.Op = op })
	}
	for _, ip := range outside(4) {
		refuse(func(a *impl.Arp) { a.SrcIp = ip })
		refuse(func(a *impl.Arp) { a.DstIp = ip })
	}
}

func TestWrongArpBytes(t *testing.T) {
	right := []byte("\x00\x01\x08\x00\x06\x04\x00\x01" + macA + "\x0a\x00\x00\x02" + macB + "\x0a\x00\x00\x01")
	for at := range 8 {
		for c := range 256 {
			b := bytes.Clone(right)
			b[at] = byte(c)
			want := impl.ErrForm
			if b[at] == right[at] || at == 7 && c == 2 {
				want = impl.OK
			}
			if a, code := impl.ReadArp(b); code != want || code != impl.OK && a != (impl.Arp{}) {
				t.Errorf("ReadArp(%q) = %#v, %d", b, a, code)
			}
		}
	}
	for size := range 60 {
		b := make([]byte, size)
		copy(b, right)
		want := impl.ErrForm
		if size == len(right) {
			want = impl.OK
		}
		if _, code := impl.ReadArp(b); code != want {
			t.Errorf("ReadArp of %d bytes: %d", size, code)
		}
	}
	if _, code := impl.ReadArp(make([]byte, impl.MaxText)); code != impl.ErrForm {
		t.Errorf("ReadArp of MaxText bytes: %d", code)
	}
	if _, code := impl.ReadArp(make([]byte, impl.MaxText+1)); code != impl.ErrLong {
		t.Errorf("ReadArp of more than MaxText bytes: %d", code)
	}
}

func TestPacketWrittenOut(t *testing.T) {
	p := impl.Packet{Src: 0xc0a80001, Dst: 0xc0a800c7, Proto: 17, Ttl: 64, Id: 0x1234, Body: "abc"}
	head := "\x45\x00\x00\x17\x12\x34\x00\x00\x40\x11\xe6\x89\xc0\xa8\x00\x01\xc0\xa8\x00\xc7"
	b, code := impl.PacketBytes(p)
	if string(b) != head+"abc" || code != impl.OK {
		t.Errorf("PacketBytes = %x, %d", b, code)
	}
	if back, code := impl.ReadPacket([]byte(head + "abc")); back != p || code != impl.OK {
		t.Errorf("ReadPacket = %#v, %d", back, code)
	}
}

func TestPacketsReadBack(t *testing.T) {
	for size := range 381 {
		s := samplePacket(size)
		want := packetBytes(s)
		b, code := impl.PacketBytes(s)
		if !bytes.Equal(b, want) || code != impl.OK {
			t.Fatalf("PacketBytes(%#v) = %x, %d", s, b, code)
		}
		if back, code := impl.ReadPacket(want); back != s || code != impl.OK {
			t.Errorf("ReadPacket(%x) = %#v, %d", want, back, code)
		}
	}
	for _, p := range []impl.Packet{
		{}, {Src: impl.MaxAddress, Dst: impl.MaxAddress, Proto: 255, Ttl: 255, Id: 65535},
		{Proto: impl.ProIcmp, Body: strings.Repeat("\xff", 380)},
	} {
		b, code := impl.PacketBytes(p)
		if !bytes.Equal(b, packetBytes(p)) || code != impl.OK {
			t.Errorf("PacketBytes(%#v) = %x, %d", p, b, code)
		}
		if back, code := impl.ReadPacket(b); back != p || code != impl.OK {
			t.Errorf("ReadPacket(%x) = %#v, %d", b, back, code)
		}
	}
}

func TestWrongPackets(t *testing.T) {
	refuse := func(change func(p *impl.Packet)) {
		p := samplePacket(4)
		change(&p)
		if b, code := impl.PacketBytes(p); b != nil || code != impl.ErrBad {
			t.Errorf("PacketBytes(%#.60v) = %x, %d", p, b, code)
		}
	}
	for _, n := range outside(4) {
		refuse(func(p *impl.Packet) { p.Src = n })
		refuse(func(p *impl.Packet) { p.Dst = n })
	}
	for _, n := range outside(1) {
		refuse(func(p *impl.Packet) { p.Proto = n })
		refuse(func(p *impl.Packet) { p.Ttl = n })
	}
	for _, n := range outside(2) {
		refuse(func(p *impl.Packet) { p.Id = n })
	}
	refuse(func(p *impl.Packet) { p.Body = strings.Repeat("b", 381) })
	refuse(func(p *impl.Packet) { p.Body = strings.Repeat("b", impl.MaxText+1) })
}

func TestWrongPacketBytes(t *testing.T) {
	for _, c := range []struct{ size, length, code int }{
		{20, 20, impl.OK}, {20, 19, impl.ErrForm}, {20, 21, impl.ErrForm}, {20, 0, impl.ErrForm}, {20, 65535, impl.ErrForm},
		{19, 19, impl.ErrForm}, {19, 20, impl.ErrForm}, {40, 19, impl.ErrForm}, {40, 20, impl.OK}, {40, 39, impl.OK},
		{40, 40, impl.OK}, {40, 41, impl.ErrForm}, {40, 256 + 40, impl.ErrForm},
		{400, 20, impl.OK}, {400, 399, impl.OK}, {400, 400, impl.OK}, {400, 401, impl.ErrForm},
		{401, 20, impl.ErrForm}, {401, 400, impl.ErrForm}, {401, 401, impl.ErrForm},
		{impl.MaxText, 20, impl.ErrForm}, {impl.MaxText + 1, 20, impl.ErrLong},
	} {
		b := packetBytes(impl.Packet{Src: 1, Dst: 2, Body: string(sampleBytes(c.size, 5))})[:c.size]
		binary.BigEndian.PutUint16(b[2:], uint16(c.length))
		sumPacket(b)
		want := impl.Packet{}
		if c.code == impl.OK {
			want = impl.Packet{Src: 1, Dst: 2, Body: string(b[20:c.length])}
		}
		if p, code := impl.ReadPacket(b); p != want || code != c.code {
			t.Errorf("ReadPacket of %d bytes that tell %d = %#v, %d", c.size, c.length, p, code)
		}
	}
	for size := range 20 {
		if p, code := impl.ReadPacket(packetBytes(samplePacket(0))[:size]); p != (impl.Packet{}) || code != impl.ErrForm {
			t.Errorf("ReadPacket of %d bytes = %#v, %d", size, p, code)
		}
	}
}

func TestBytesOfPackets(t *testing.T) {
	for at := range 20 {
		for c := range 256 {
			b := packetBytes(samplePacket(9))
			b[at] = byte(c)
			sumPacket(b)
			want := impl.OK
			switch {
			case at == 0 && c != 0x45, at == 2 && c != 0, at == 3 && (c < 20 || c > 29):
				want = impl.ErrForm
			case at == 6 && c&0x3f != 0, at == 7 && c != 0:
				want = impl.ErrPart
			}
			if p, code := impl.ReadPacket(b); code != want || code != impl.OK && p != (impl.Packet{}) {
				t.Errorf("ReadPacket with byte %d at %d = %#v, %d, not %d", c, at, p, code, want)
			}
		}
	}
}

func TestFaultsOfPacketsInOrder(t *testing.T) {
	b := packetBytes(samplePacket(9))
	b[6] = 1
	if _, code := impl.ReadPacket(b); code != impl.ErrSum {
		t.Errorf("a part of a wrong sum is %d", code)
	}
	b[0] = 0x46
	if _, code := impl.ReadPacket(b); code != impl.ErrForm {
		t.Errorf("a longer head of a wrong sum is %d", code)
	}
}

func TestBitsTurnedInPackets(t *testing.T) {
	for _, size := range []int{0, 1, 20, 109, 380} {
		right := packetBytes(samplePacket(size))
		for bit := range 20 * 8 {
			b := turned(right, bit)
			want := impl.ErrSum
			length := int(b[2])<<8 | int(b[3])
			if b[0] != 0x45 || length < 20 || length > len(b) {
				want = impl.ErrForm
			}
			if p, code := impl.ReadPacket(b); p != (impl.Packet{}) || code != want {
				t.Errorf("with bit %d turned, ReadPacket = %#v, %d, not %d", bit, p, code, want)
			}
		}
	}
	// The body is not summed up.
	right := samplePacket(3)
	b := packetBytes(right)
	b[20] ^= 1
	right.Body = string(b[20:])
	if p, code := impl.ReadPacket(b); p != right || code != impl.OK {
		t.Errorf("with its body turned, ReadPacket = %#v, %d", p, code)
	}
}

func TestSegmentWrittenOut(t *testing.T) {
	g := impl.Segment{SrcPort: 1000, DstPort: 80, Seq: 0xfffffffe, Ack: 0x01020304, Flags: impl.FlPsh | impl.FlAck, Window: 512, Data: "GET"}
	want := "\x03\xe8\x00\x50\xff\xff\xff\xfe\x01\x02\x03\x04\x50\x18\x02\x00\xf6\x44\x00\x00GET"
	b, code := impl.SegmentBytes(0x0a000002, 0x0a000001, g)
	if string(b) != want || code != impl.OK {
		t.Errorf("SegmentBytes = %x, %d", b, code)
	}
	if back, code := impl.ReadSegment(0x0a000002, 0x0a000001, []byte(want)); back != g || code != impl.OK {
		t.Errorf("ReadSegment = %#v, %d", back, code)
	}
}

func TestSegmentsReadBack(t *testing.T) {
	ips := sampleAddresses()
	for size := range 361 {
		src, dst := ips[size%len(ips)], ips[(size*7+1)%len(ips)]
		g := sampleSegment(size)
		want := segmentBytes(src, dst, g)
		b, code := impl.SegmentBytes(src, dst, g)
		if !bytes.Equal(b, want) || code != impl.OK {
			t.Fatalf("SegmentBytes(%#v) = %x, %d", g, b, code)
		}
		if back, code := impl.ReadSegment(src, dst, want); back != g || code != impl.OK {
			t.Errorf("ReadSegment(%x) = %#v, %d", want, back, code)
		}
	}
	for _, g := range []impl.Segment{
		{}, {SrcPort: 65535, DstPort: 65535, Seq: 1<<32 - 1, Ack: 1<<32 - 1, Flags: 31, Window: 65535, Data: strings.Repeat("\xff", 360)},
	} {
		b, code := impl.SegmentBytes(0, impl.MaxAddress, g)
		if !bytes.Equal(b, segmentBytes(0, impl.MaxAddress, g)) || code != impl.OK {
			t.Errorf("SegmentBytes(%#v) = %x, %d", g, b, code)
		}
		if back, code := impl.ReadSegment(0, impl.MaxAddress, b); back != g || code != impl.OK {
			t.Errorf("ReadSegment(%x) = %#v, %d", b, back, code)
		}
	}
}

func TestWrongSegments(t *testing.T) {
	refuse := func(change func(src, dst *int, g *impl.Segment)) {
		src, dst, g := 1, 2, sampleSegment(4)
		change(&src, &dst, &g)
		if b, code := impl.SegmentBytes(src, dst, g); b != nil || code != impl.ErrBad {
			t.Errorf("SegmentBytes(%d, %d, %#.60v) = %x, %d", src, dst, g, b, code)
		}
	}
	for _, n := range outside(4) {
		refuse(func(src, _ *int, _ *impl.Segment) { *src = n })
		refuse(func(_, dst *int, _ *impl.Segment) { *dst = n })
		refuse(func(_, _ *int, g *impl.Segment) { g.Seq = n })
		refuse(func(_, _ *int, g *impl.Segment) { g.Ack = n })
	}
	for _, n := range outside(2) {
		refuse(func(_, _ *int, g *impl.Segment) { g.SrcPort = n })
		refuse(func(_, _ *int, g *impl.Segment) { g.DstPort = n })
		refuse(func(_, _ *int, g *impl.Segment) { g.Window = n })
	}
	for _, n := range []int{math.MinInt, -1, 32, 33, 64, 128, 255, 256, math.MaxInt} {
		refuse(func(_, _ *int, g *impl.Segment) { g.Flags = n })
	}
	refuse(func(_, _ *int, g *impl.Segment) { g.Data = strings.Repeat("d", 361) })
	refuse(func(_, _ *int, g *impl.Segment) { g.Data = strings.Repeat("d", impl.MaxText+1) })
}

func TestHeadsOfSegments(t *testing.T) {
	for _, size := range []int{20, 21, 24, 27, 59, 60, 61, 380} {
		for c := range 256 {
			b := segmentBytes(1, 2, impl.Segment{Seq: 5, Data: string(sampleBytes(size-20, 3))})
			b[12] = byte(c)
			sumSegment(1, 2, b)
			head := c / 16 * 4
			want, code := impl.Segment{}, impl.ErrForm
			if head >= 20 && head <= size {
				want, code = impl.Segment{Seq: 5, Data: string(b[head:])}, impl.OK
			}
			if g, is := impl.ReadSegment(1, 2, b); g != want || is != code {
				t.Errorf("ReadSegment of %d bytes with %#x for a head = %#v, %d", size, c, g, is)
			}
		}
	}
}

func TestFlagsOfSegments(t *testing.T) {
	for c := range 256 {
		g := sampleSegment(2)
		b := segmentBytes(1, 2, g)
		b[13], b[18], b[19] = byte(c), byte(c), 0xff
		sumSegment(1, 2, b)
		g.Flags = c % 32
		if back, code := impl.ReadSegment(1, 2, b); back != g || code != impl.OK {
			t.Errorf("ReadSegment with the flags %#x = %#v, %d", c, back, code)
		}
	}
}

func TestWrongSegmentBytes(t *testing.T) {
	for _, c := range []struct{ size, code int }{
		{0, impl.ErrForm}, {12, impl.ErrForm}, {13, impl.ErrForm}, {19, impl.ErrForm}, {20, impl.OK}, {380, impl.OK}, {381, impl.ErrForm},
		{400, impl.ErrForm}, {impl.MaxText, impl.ErrForm}, {impl.MaxText + 1, impl.ErrLong},
	} {
		b := segmentBytes(1, 2, impl.Segment{Data: string(make([]byte, c.size))})[:c.size]
		if c.size >= 20 {
			sumSegment(1, 2, b)
		}
		if g, code := impl.ReadSegment(1, 2, b); code != c.code || code != impl.OK && g != (impl.Segment{}) {
			t.Errorf("ReadSegment of %d bytes = %#v, %d", c.size, g, code)
		}
	}
	right := segmentBytes(1, 2, sampleSegment(4))
	for _, n := range outside(4) {
		for _, b := range [][]byte{right, nil, right[:19], turned(right, 0), make([]byte, impl.MaxText)} {
			if g, code := impl.ReadSegment(n, 2, b); g != (impl.Segment{}) || code != impl.ErrRange {
				t.Errorf("ReadSegment from %d = %#v, %d", n, g, code)
			}
			if g, code := impl.ReadSegment(1, n, b); g != (impl.Segment{}) || code != impl.ErrRange {
				t.Errorf("ReadSegment to %d = %#v, %d", n, g, code)
			}
		}
		if _, code := impl.ReadSegment(n, n, make([]byte, impl.MaxText+1)); code != impl.ErrLong {
			t.Errorf("ReadSegment of a long text from %d: %d", n, code)
		}
	}
}

func TestBitsTurnedInSegments(t *testing.T) {
	for _, size := range []int{0, 1, 2, 33, 360} {
		right := segmentBytes(0x0a000002, 0x08080808, sampleSegment(size))
		for bit := range 8 * len(right) {
			b := turned(right, bit)
			want := impl.ErrSum
			if head := int(b[12]>>4) * 4; head < 20 || head > len(b) {
				want = impl.ErrForm
			}
			if g, code := impl.ReadSegment(0x0a000002, 0x08080808, b); g != (impl.Segment{}) || code != want {
				t.Errorf("with bit %d turned, ReadSegment = %#v, %d, not %d", bit, g, code, want)
			}
		}
		for bit := range 32 {
			if g, code := impl.ReadSegment(0x0a000002^1<<bit, 0x08080808, right); g != (impl.Segment{}) || code != impl.ErrSum {
				t.Errorf("with bit %d of src turned, ReadSegment = %#v, %d", bit, g, code)
			}
			if g, code := impl.ReadSegment(0x0a000002, 0x08080808^1<<bit, right); g != (impl.Segment{}) || code != impl.ErrSum {
				t.Errorf("with bit %d of dst turned, ReadSegment = %#v, %d", bit, g, code)
			}
		}
		// Its length is summed up, too, and so are noughts behind it.
		if _, code := impl.ReadSegment(0x0a000002, 0x08080808, append(bytes.Clone(right), 0, 0)); size <= 358 && code != impl.ErrSum {
			t.Errorf("with noughts behind it, ReadSegment: %d", code)
		}
	}
}

// A segment's sum of 0 stays 0, and is a sum like any other.
func TestSegmentWithASumOfNought(t *testing.T) {
	g := sampleSegment(5)
	g.SrcPort = 0
	sum := segmentBytes(1, 2, g)[16:18]
	g.SrcPort = int(sum[0])<<8 | int(sum[1])
	b, code := impl.SegmentBytes(1, 2, g)
	if code != impl.OK || b[16] != 0 || b[17] != 0 {
		t.Fatalf("SegmentBytes = %x, %d", b, code)
	}
	if back, code := impl.ReadSegment(1, 2, b); back != g || code != impl.OK {
		t.Errorf("ReadSegment = %#v, %d", back, code)
	}
	if _, code := impl.ReadSegment(1, 3, b); code != impl.ErrSum {
		t.Errorf("ReadSegment to another address: %d", code)
	}
}

func TestDatagramWrittenOut(t *testing.T) {
	d := impl.Datagram{SrcPort: 68, DstPort: 67, Data: "text!"}
	want := "\x00\x44\x00\x43\x00\x0d\xdd\x70text!"
	b, code := impl.DatagramBytes(0x0a000002, 0x0a000001, d)
	if string(b) != want || code != impl.OK {
		t.Errorf("DatagramBytes = %x, %d", b, code)
	}
	if back, code := impl.ReadDatagram(0x0a000002, 0x0a000001, []byte(want)); back != d || code != impl.OK {
		t.Errorf("ReadDatagram = %#v, %d", back, code)
	}
}

func TestDatagramsReadBack(t *testing.T) {
	ips := sampleAddresses()
	for size := range 373 {
		src, dst := ips[size%len(ips)], ips[(size*5+2)%len(ips)]
		d := sampleDatagram(size)
		want := datagramBytes(src, dst, d)
		b, code := impl.DatagramBytes(src, dst, d)
		if !bytes.Equal(b, want) || code != impl.OK {
			t.Fatalf("DatagramBytes(%#v) = %x, %d", d, b, code)
		}
		if back, code := impl.ReadDatagram(src, dst, want); back != d || code != impl.OK {
			t.Errorf("ReadDatagram(%x) = %#v, %d", want, back, code)
		}
	}
	for _, d := range []impl.Datagram{{}, {SrcPort: 65535, DstPort: 65535, Data: strings.Repeat("\xff", 372)}} {
		b, code := impl.DatagramBytes(impl.MaxAddress, 0, d)
		if !bytes.Equal(b, datagramBytes(impl.MaxAddress, 0, d)) || code != impl.OK {
			t.Errorf("DatagramBytes(%#v) = %x, %d", d, b, code)
		}
		if back, code := impl.ReadDatagram(impl.MaxAddress, 0, b); back != d || code != impl.OK {
			t.Errorf("ReadDatagram(%x) = %#v, %d", b, back, code)
		}
	}
}

func TestWrongDatagrams(t *testing.T) {
	refuse := func(change func(src, dst *int, d *impl.Datagram)) {
		src, dst, d := 1, 2, sampleDatagram(4)
		change(&src, &dst, &d)
		if b, code := impl.DatagramBytes(src, dst, d); b != nil || code != impl.ErrBad {
			t.Errorf("DatagramBytes(%d, %d, %#.60v) = %x, %d", src, dst, d, b, code)
		}
	}
	for _, n := range outside(4) {
		refuse(func(src, _ *int, _ *impl.Datagram) { *src = n })
		refuse(func(_, dst *int, _ *impl.Datagram) { *dst = n })
	}
	for _, n := range outside(2) {
		refuse(func(_, _ *int, d *impl.Datagram) { d.SrcPort = n })
		refuse(func(_, _ *int, d *impl.Datagram) { d.DstPort = n })
	}
	refuse(func(_, _ *int, d *impl.Datagram) { d.Data = strings.Repeat("d", 373) })
	refuse(func(_, _ *int, d *impl.Datagram) { d.Data = strings.Repeat("d", impl.MaxText+1) })
}

func TestWrongDatagramBytes(t *testing.T) {
	for _, c := range []struct{ size, length, code int }{
		{0, 0, impl.ErrForm}, {5, 5, impl.ErrForm}, {7, 7, impl.ErrForm}, {8, 8, impl.OK}, {8, 7, impl.ErrForm}, {8, 9, impl.ErrForm},
		{8, 0, impl.ErrForm}, {9, 8, impl.ErrForm}, {9, 9, impl.OK}, {12, 256 + 12, impl.ErrForm}, {379, 380, impl.ErrForm},
		{380, 379, impl.ErrForm}, {380, 380, impl.OK}, {381, 381, impl.ErrForm}, {381, 380, impl.ErrForm},
		{impl.MaxText, 0, impl.ErrForm}, {impl.MaxText + 1, 1, impl.ErrLong},
	} {
		for _, summed := range []bool{true, false} {
			b := make([]byte, c.size)
			if c.size >= 8 {
				binary.BigEndian.PutUint16(b[4:], uint16(c.length))
				if summed {
					sumDatagram(1, 2, b)
				}
			}
			if d, code := impl.ReadDatagram(1, 2, b); code != c.code || code != impl.OK && d != (impl.Datagram{}) {
				t.Errorf("ReadDatagram of %d bytes that tell %d = %#v, %d", c.size, c.length, d, code)
			}
		}
	}
	right := datagramBytes(1, 2, sampleDatagram(4))
	for _, n := range outside(4) {
		for _, b := range [][]byte{right, nil, right[:11], turned(right, 0), make([]byte, impl.MaxText)} {
			if d, code := impl.ReadDatagram(n, 2, b); d != (impl.Datagram{}) || code != impl.ErrRange {
				t.Errorf("ReadDatagram from %d = %#v, %d", n, d, code)
			}
			if d, code := impl.ReadDatagram(1, n, b); d != (impl.Datagram{}) || code != impl.ErrRange {
				t.Errorf("ReadDatagram to %d = %#v, %d", n, d, code)
			}
		}
		if _, code := impl.ReadDatagram(n, n, make([]byte, impl.MaxText+1)); code != impl.ErrLong {
			t.Errorf("ReadDatagram of a long text from %d: %d", n, code)
		}
	}
}

func TestBitsTurnedInDatagrams(t *testing.T) {
	for _, size := range []int{0, 1, 2, 57, 372} {
		right := datagramBytes(0x0a000002, 0x08080808, sampleDatagram(size))
		for bit := range 8 * len(right) {
			b := turned(right, bit)
			want := impl.ErrSum
			if at := bit / 8; at == 4 || at == 5 {
				want = impl.ErrForm
			}
			if d, code := impl.ReadDatagram(0x0a000002, 0x08080808, b); d != (impl.Datagram{}) || code != want {
				t.Errorf("with bit %d turned, ReadDatagram = %#v, %d, not %d", bit, d, code, want)
			}
		}
		for bit := range 32 {
			if d, code := impl.ReadDatagram(0x0a000002^1<<bit, 0x08080808, right); d != (impl.Datagram{}) || code != impl.ErrSum {
				t.Errorf("with bit %d of src turned, ReadDatagram = %#v, %d", bit, d, code)
			}
			if d, code := impl.ReadDatagram(0x0a000002, 0x08080808^1<<bit, right); d != (impl.Datagram{}) || code != impl.ErrSum {
				t.Errorf("with bit %d of dst turned, ReadDatagram = %#v, %d", bit, d, code)
			}
		}
	}
}

// Without a sum nothing is held against it: whatever is turned is read so.
func TestDatagramWithoutASum(t *testing.T) {
	d := sampleDatagram(6)
	b := datagramBytes(1, 2, d)
	b[6], b[7] = 0, 0
	if back, code := impl.ReadDatagram(1, 2, b); back != d || code != impl.OK {
		t.Errorf("ReadDatagram = %#v, %d", back, code)
	}
	if back, code := impl.ReadDatagram(7, 9, b); back != d || code != impl.OK {
		t.Errorf("ReadDatagram between other addresses = %#v, %d", back, code)
	}
	for _, sum := range []string{"\x00\x01", "\x01\x00", "\xff\xff"} {
		copy(b[6:], sum)
		if _, code := impl.ReadDatagram(7, 9, b); code != impl.ErrSum {
			t.Errorf("ReadDatagram with the sum %q: %d", sum, code)
		}
	}
}

// A sum that would be 0 is told as 65535, so that it still counts.
func TestDatagramWithASumOfNought(t *testing.T) {
	d := sampleDatagram(5)
	d.SrcPort = 0
	sum := datagramBytes(1, 2, d)[6:8]
	d.SrcPort = int(sum[0])<<8 | int(sum[1])
	b, code := impl.DatagramBytes(1, 2, d)
	if code != impl.OK || b[6] != 0xff || b[7] != 0xff {
		t.Fatalf("DatagramBytes = %x, %d", b, code)
	}
	if back, code := impl.ReadDatagram(1, 2, b); back != d || code != impl.OK {
		t.Errorf("ReadDatagram = %#v, %d", back, code)
	}
	for bit := range 8 * len(b) {
		if back, code := impl.ReadDatagram(1, 2, turned(b, bit)); back != (impl.Datagram{}) || code == impl.OK {
			t.Errorf("with bit %d turned, ReadDatagram = %#v, %d", bit, back, code)
		}
	}
}

func TestFlagsTexts(t *testing.T) {
	for flags := range 32 {
		want := ""
		for _, c := range []struct {
			flag   int
			letter string
		}{{impl.FlFin, "F"}, {impl.FlSyn, "S"}, {impl.FlRst, "R"}, {impl.FlPsh, "P"}, {impl.FlAck, "A"}} {
			if flags&c.flag != 0 {
				want += c.letter
			}
		}
		if text, code := impl.FlagsText(flags); text != want || code != impl.OK {
			t.Errorf("FlagsText(%d) = %q, %d", flags, text, code)
		}
	}
	for _, flags := range []int{math.MinInt, -32, -1, 32, 33, 63, 64, 256, 1 << 32, math.MaxInt} {
		if text, code := impl.FlagsText(flags); text != "" || code != impl.ErrRange {
			t.Errorf("FlagsText(%d) = %q, %d", flags, text, code)
		}
	}
}

// outside are numbers that have no room in so many bytes.
func outside(size int) []int {
	return []int{math.MinInt, -1 << (8 * size), -1, 1 << (8 * size), 1<<(8*size) + 1, math.MaxInt}
}

func wrongMacs() []string {
	return []string{"", "\x02", macA[:5], macA + "\x00", macA + macB, "02:00:00:00:00:01", strings.Repeat("m", impl.MaxText+1)}
}

func fourBytes(n int) string {
	return string(binary.BigEndian.AppendUint32(nil, uint32(n)))
}

func twoBytes(n int) string {
	return string(binary.BigEndian.AppendUint16(nil, uint16(n)))
}

func turned(b []byte, bit int) []byte {
	b = bytes.Clone(b)
	b[bit/8] ^= 1 << (bit % 8)
	return b
}

func samplePacket(size int) impl.Packet {
	return impl.Packet{Src: 0x0a000002 + size<<12, Dst: 0xfe0000ff - size, Proto: size % 256, Ttl: 255 - size%256, Id: 65535 - 7*size, Body: string(sampleBytes(size, size))}
}

func sampleSegment(size int) impl.Segment {
	return impl.Segment{SrcPort: 1000 + size, DstPort: 65535 - size, Seq: 1<<32 - 1 - size<<20, Ack: size << 22, Flags: size % 32, Window: 181 * size % 65536, Data: string(sampleBytes(size, size+1))}
}

func sampleDatagram(size int) impl.Datagram {
	return impl.Datagram{SrcPort: 65535 - size, DstPort: 53 + size, Data: string(sampleBytes(size, size+2))}
}

// packetBytes, segmentBytes and datagramBytes are the document's layouts, laid
// out a second time and summed up by remainders.
func packetBytes(p impl.Packet) []byte {
	b := []byte("\x45\x00" + twoBytes(20+len(p.Body)) + twoBytes(p.Id) + "\x00\x00" + string([]byte{byte(p.Ttl), byte(p.Proto)}) +
		"\x00\x00" + fourBytes(p.Src) + fourBytes(p.Dst) + p.Body)
	sumPacket(b)
	return b
}

func segmentBytes(src, dst int, g impl.Segment) []byte {
	b := []byte(twoBytes(g.SrcPort) + twoBytes(g.DstPort) + fourBytes(g.Seq) + fourBytes(g.Ack) + string([]byte{0x50, byte(g.Flags)}) +
		twoBytes(g.Window) + "\x00\x00\x00\x00" + g.Data)
	sumSegment(src, dst, b)
	return b
}

func datagramBytes(src, dst int, d impl.Datagram) []byte {
	b := []byte(twoBytes(d.SrcPort) + twoBytes(d.DstPort) + twoBytes(8+len(d.Data)) + "\x00\x00" + d.Data)
	sumDatagram(src, dst, b)
	return b
}

func sumPacket(b []byte) {
	if len(b) >= 20 {
		copy(b[10:], "\x00\x00")
		copy(b[10:], twoBytes(sumByRemainder(b[:20])))
	}
}

func sumSegment(src, dst int, b []byte) {
	copy(b[16:], "\x00\x00")
	copy(b[16:], twoBytes(sumByRemainder([]byte(fourBytes(src)+fourBytes(dst)+"\x00\x06"+twoBytes(len(b))+string(b)))))
}

func sumDatagram(src, dst int, b []byte) {
	copy(b[6:], "\x00\x00")
	sum := sumByRemainder([]byte(fourBytes(src) + fourBytes(dst) + "\x00\x11" + twoBytes(len(b)) + string(b)))
	if sum == 0 {
		sum = 65535
	}
	copy(b[6:], twoBytes(sum))
}
