package tests

import (
	"fmt"
	"math"
	"math/rand"
	"slices"
	"strings"
	"testing"

	"loop.example/g00356/impl"
)

func TestConnectionConstants(t *testing.T) {
	for i, c := range []struct{ is, want int }{
		{impl.TcSyn, 1}, {impl.TcOpen, 2}, {impl.TcLast, 3}, {impl.TcGone, 4}, {impl.MaxIn, 300}, {impl.MaxOut, 300}, {impl.MaxPiece, 200},
	} {
		if c.is != c.want {
			t.Errorf("constant %d is %d, not %d", i, c.is, c.want)
		}
	}
}

func TestNumbersThatGoRound(t *testing.T) {
	for _, a := range roundNumbers() {
		for _, row := range []struct {
			far  int
			less bool
		}{{0, false}, {1, true}, {2, true}, {300, true}, {1<<31 - 2, true}, {1<<31 - 1, true}, {1 << 31, false}, {1<<31 + 1, false}, {1<<32 - 2, false}, {1<<32 - 1, false}} {
			b := numberBehind(a, row.far)
			if less, code := impl.SeqLess(a, b); less != row.less || code != impl.OK {
				t.Errorf("SeqLess(%d, %d), %d apart: %v, %d", a, b, row.far, less, code)
			}
		}
	}
}

func TestNumbersThatGoRoundWrittenOut(t *testing.T) {
	top := 4294967295
	for _, row := range []struct {
		a, b int
		less bool
	}{
		{0, 0, false}, {0, 1, true}, {1, 0, false}, {0, 2147483647, true}, {0, 2147483648, false}, {0, 2147483649, false}, {0, top, false},
		{top, 0, true}, {top, 1, true}, {top, top, false}, {top, 2147483646, true}, {top, 2147483647, false}, {top, top - 1, false},
		{2147483648, 0, false}, {2147483649, 0, true}, {2147483647, top - 1, true}, {2147483647, top, false}, {2147483648, top, true},
	} {
		if less, code := impl.SeqLess(row.a, row.b); less != row.less || code != impl.OK {
			t.Errorf("SeqLess(%d, %d) = %v, %d", row.a, row.b, less, code)
		}
	}
}

// Of two numbers one is less, but of alike ones, and of those that are half of
// the round apart.
func TestNumbersAreLessOneWay(t *testing.T) {
	chance := rand.New(rand.NewSource(11))
	for range 20000 {
		a, b := int(chance.Uint32()), int(chance.Uint32())
		if chance.Intn(2) == 0 {
			b = numberBehind(a, []int{0, 1, 1<<31 - 1, 1 << 31, 1<<31 + 1}[chance.Intn(5)])
		}
		ab, code := impl.SeqLess(a, b)
		ba, other := impl.SeqLess(b, a)
		if ab != (int32(uint32(b)-uint32(a)) > 0) || code != impl.OK || other != impl.OK {
			t.Fatalf("SeqLess(%d, %d) = %v, %d", a, b, ab, code)
		}
		if apart := uint32(b) - uint32(a); ab == ba && apart != 0 && apart != 1<<31 {
			t.Fatalf("%d and %d are less both ways, or none: %v", a, b, ab)
		}
	}
}

func TestNumbersOutOfTheRound(t *testing.T) {
	for _, wrong := range outside(4) {
		for _, n := range append(outside(4), 0, 1, 1<<31, impl.MaxAddress) {
			if less, code := impl.SeqLess(wrong, n); less || code != impl.ErrRange {
				t.Errorf("SeqLess(%d, %d) = %v, %d", wrong, n, less, code)
			}
			if less, code := impl.SeqLess(n, wrong); less || code != impl.ErrRange {
				t.Errorf("SeqLess(%d, %d) = %v, %d", n, wrong, less, code)
			}
		}
	}
}

func TestConnectionsThatAreRight(t *testing.T) {
	for _, c := range rightConns() {
		if !impl.ConnOK(c) {
			t.Errorf("a right connection is wrong: %.300v", c)
		}
	}
}

func TestConnectionsThatAreWrong(t *testing.T) {
	for _, c := range wrongConns() {
		if impl.ConnOK(c) {
			t.Errorf("a wrong connection is right: %.300v", c)
		}
	}
}

// Next stands at one place alone behind Una.
func TestNextLiesBehindUna(t *testing.T) {
	for _, right := range rightConns() {
		for _, step := range []int{1, 2, 199, 200, 201, 300, 301, 1 << 31, 1<<32 - 301, 1<<32 - 2, 1<<32 - 1} {
			c := right
			c.Next = numberBehind(c.Next, step)
			if impl.ConnOK(c) {
				t.Errorf("Next %d too far is right: %.300v", step, c)
			}
		}
		for _, step := range []int{-1 << 32, 1 << 32} {
			c := right
			c.Next += step
			if impl.ConnOK(c) {
				t.Errorf("Next %d is right: %.300v", c.Next, c)
			}
		}
	}
}

// Each state with each choice of Fin, In, Out and Next, held against the words.
func TestConnectionsByTheirParts(t *testing.T) {
	for state := -1; state <= 6; state++ {
		for set := range 8 {
			for far := range 5 {
				c := impl.Conn{Mac: macA, State: state, Una: impl.MaxAddress - 1, Fin: set&1 != 0}
				if set&2 != 0 {
					c.In = "i"
				}
				if set&4 != 0 {
					c.Out = "oo"
				}
				c.Next = numberBehind(c.Una, far)
				var want bool
				switch state {
				case impl.TcSyn:
					want = set == 0 && far == 1
				case impl.TcOpen, impl.TcGone:
					want = set&^2 == 0 && far == 0
				case impl.TcLast:
					want = c.Fin && far == len(c.Out)+1
				}
				if right := impl.ConnOK(c); right != want {
					t.Errorf("ConnOK(%v) = %v", c, right)
				}
			}
		}
	}
}

func TestConnectionsOpen(t *testing.T) {
	for _, isn := range roundNumbers() {
		for _, seq := range roundNumbers() {
			for _, flags := range []int{impl.FlSyn, impl.FlSyn | impl.FlPsh} {
				g := impl.Segment{SrcPort: 1000, DstPort: 80, Seq: seq, Ack: 77, Flags: flags, Window: 5, Data: "data"}
				c, told, code := impl.ConnOpen(macB, 10, 20, g, isn)
				want := impl.Conn{Mac: macB, Ip: 10, Port: 1000, DstIp: 20, State: impl.TcSyn, Una: isn, Next: numberBehind(isn, 1), Want: numberBehind(seq, 1)}
				if c != want || code != impl.OK || !impl.ConnOK(c) {
					t.Errorf("ConnOpen at %d of %v: %v, %d", isn, g, c, code)
				}
				if hello := ourSegment(want, isn, "SA", ""); !slices.Equal(told, []impl.Segment{hello}) {
					t.Errorf("ConnOpen at %d of %v tells %v", isn, g, told)
				}
			}
		}
	}
}

// What a segment asks for by its flags is looked at alone: its ports, Ack and Window are any.
func TestConnectionsOpenByEachSetOfFlags(t *testing.T) {
	for flags := range 32 {
		letters, _ := impl.FlagsText(flags)
		want := impl.ErrState
		if strings.ReplaceAll(letters, "P", "") == "S" {
			want = impl.OK
		}
		for _, port := range []int{0, 80, 81, 65535} {
			g := impl.Segment{SrcPort: port, DstPort: 65535 - port, Seq: 5, Ack: 65535 * port, Flags: flags, Window: port}
			c, told, code := impl.ConnOpen(macA, 0, impl.MaxAddress, g, 7)
			if code != want {
				t.Errorf("flags %s: %d", letters, code)
			}
			if code != impl.OK && (c != impl.Conn{} || len(told) != 0) {
				t.Errorf("flags %s: %v, %v", letters, c, told)
			}
			if code == impl.OK && (c.Port != port || told[0].DstPort != port || told[0].SrcPort != 80) {
				t.Errorf("port %d: %v, %v", port, c, told)
			}
		}
	}
}

// openConnAsk is a call of ConnOpen; each fault in it may stand beside others.
type openConnAsk struct {
	mac     string
	ip, dst int
	g       impl.Segment
	isn     int
}

func rightOpenAsk() openConnAsk {
	return openConnAsk{macA, 10, 20, guestSegment(5, 0, impl.FlSyn, ""), 100}
}

func TestFaultsOfOpeningAConnection(t *testing.T) {
	hold := func(code int, set func(a *openConnAsk)) {
		t.Helper()
		a := rightOpenAsk()
		set(&a)
		c, told, got := impl.ConnOpen(a.mac, a.ip, a.dst, a.g, a.isn)
		if got != code || code != impl.OK && (c != impl.Conn{} || len(told) != 0) {
			t.Errorf("ConnOpen of %.200v: %d, not %d: %v, %v", a, got, code, c, told)
		}
	}
	for _, mac := range wrongMacs() {
		code := impl.ErrBad
		if len(mac) > impl.MaxText {
			code = impl.ErrLong
		}
		hold(code, func(a *openConnAsk) { a.mac = mac })
	}
	hold(impl.ErrBad, func(a *openConnAsk) { a.mac = strings.Repeat("m", impl.MaxText) })
	for _, n := range outside(4) {
		hold(impl.ErrBad, func(a *openConnAsk) { a.ip = n })
		hold(impl.ErrBad, func(a *openConnAsk) { a.dst = n })
		hold(impl.ErrRange, func(a *openConnAsk) { a.isn = n })
	}
	for _, n := range []int{0, impl.MaxAddress} {
		hold(impl.OK, func(a *openConnAsk) { a.ip, a.dst, a.isn, a.g.Seq = n, n, n, n })
	}
	for _, g := range wrongSegments() {
		g.Flags |= impl.FlSyn
		hold(impl.ErrBad, func(a *openConnAsk) { a.g = g })
	}
	hold(impl.OK, func(a *openConnAsk) { a.g.Data = strings.Repeat("d", 360) })
}

func TestFaultsOfOpeningAConnectionInTheirOrder(t *testing.T) {
	faults := []struct {
		code int
		set  func(a *openConnAsk)
	}{
		{impl.ErrLong, func(a *openConnAsk) { a.mac = strings.Repeat("m", impl.MaxText+1) }},
		{impl.ErrBad, func(a *openConnAsk) { a.dst = -1 }},
		{impl.ErrBad, func(a *openConnAsk) { a.g.Window = 65536 }},
		{impl.ErrRange, func(a *openConnAsk) { a.isn = impl.MaxAddress + 1 }},
		{impl.ErrState, func(a *openConnAsk) { a.g.Flags = impl.FlAck }},
	}
	for set := range 1 << len(faults) {
		a, want := rightOpenAsk(), impl.OK
		for k := len(faults) - 1; k >= 0; k-- {
			if set>>k&1 == 1 {
				faults[k].set(&a)
				want = faults[k].code
			}
		}
		c, told, code := impl.ConnOpen(a.mac, a.ip, a.dst, a.g, a.isn)
		if code != want || code != impl.OK && (c != impl.Conn{} || len(told) != 0) {
			t.Errorf("faults %b: %d, not %d: %v, %v", set, code, want, c, told)
		}
	}
}

// A handshake, a text in pieces, an answer and the ends of both sides, with
// each number of both sides on each side of the round.
func TestAConnectionFromItsBeginningToItsEnd(t *testing.T) {
	for _, isn := range roundNumbers() {
		for _, first := range roundNumbers() {
			holdWholeConnection(t, isn, first)
		}
	}
}

func holdWholeConnection(t *testing.T, isn, first int) {
	t.Helper()
	c, _, code := impl.ConnOpen(macA, 10, 20, guestSegment(first, 0, impl.FlSyn, ""), isn)
	if code != impl.OK {
		t.Fatalf("ConnOpen: %d", code)
	}
	theirs := func(far int) int { return numberBehind(first, far) }
	ours := func(far int) int { return numberBehind(isn, far) }
	step := func(want impl.Conn, g impl.Segment, told ...impl.Segment) {
		t.Helper()
		next, list, code := impl.ConnTake(c, g)
		if next != want || !slices.Equal(list, told) || code != impl.OK || !impl.ConnOK(next) {
			t.Fatalf("from %d and %d, %v: %v, %v, %d, not %v, %v", isn, first, g, next, list, code, want, told)
		}
		c = next
	}
	want := c
	want.State, want.Una = impl.TcOpen, ours(1)
	step(want, guestSegment(theirs(1), ours(1), impl.FlAck, ""))
	want.In, want.Want = "GET /", theirs(6)
	step(want, guestSegment(theirs(1), ours(1), impl.FlAck|impl.FlPsh, "GET /"), ourSegment(want, ours(1), "A", ""))
	step(want, guestSegment(theirs(1), ours(1), impl.FlAck|impl.FlPsh, "GET /"), ourSegment(want, ours(1), "A", ""))
	step(want, guestSegment(theirs(11), ours(1), impl.FlAck, "later"), ourSegment(want, ours(1), "A", ""))
	want.In, want.Want = "GET /login", theirs(11)
	step(want, guestSegment(theirs(6), ours(1), impl.FlAck, "login"), ourSegment(want, ours(1), "A", ""))
	text := string(sampleBytes(250, 3))
	said, list, code := impl.ConnSay(c, text)
	want.State, want.Out, want.Fin, want.Next = impl.TcLast, text, true, ours(252)
	if out := saidByHand(want); said != want || code != impl.OK || !slices.Equal(list, out) || len(out) != 3 {
		t.Fatalf("from %d and %d, ConnSay: %v, %v, %d", isn, first, said, list, code)
	}
	c = said
	want.Out, want.Una = text[200:], ours(201)
	step(want, guestSegment(theirs(11), ours(201), impl.FlAck, ""))
	if again, code := impl.ConnAgain(c); code != impl.OK || !slices.Equal(again, saidByHand(want)) || len(again) != 2 {
		t.Fatalf("from %d and %d, ConnAgain: %v, %d", isn, first, again, code)
	}
	want.Out, want.Una, want.Want = "", ours(251), theirs(12)
	step(want, guestSegment(theirs(11), ours(251), impl.FlAck|impl.FlFin, ""), ourSegment(want, ours(252), "A", ""))
	want.State, want.Fin, want.Una = impl.TcGone, false, ours(252)
	step(want, guestSegment(theirs(12), ours(252), impl.FlAck, ""))
	step(want, guestSegment(theirs(12), ours(252), impl.FlAck|impl.FlFin, "behind"))
}

// takeRow is a segment by how far its Seq lies behind Want and its Ack behind
// Una, and what becomes of a connection with it: nothing where set is nil.
type takeRow struct {
	from     int
	seq, ack int
	letters  string
	data     string
	set      func(c *impl.Conn)
	told     string
}

func gone(c *impl.Conn) {
	c.State, c.In, c.Out, c.Fin, c.Una = impl.TcGone, "", "", false, c.Next
}

// Of the connections that rows begin with: In has 2 bytes but in TcSyn, Out 3 in TcLast.
func TestSegmentsTakenWrittenOut(t *testing.T) {
	opened := func(c *impl.Conn) { c.State, c.Una = impl.TcOpen, c.Next }
	end := func(c *impl.Conn) { c.Want = numberBehind(c.Want, 1) }
	took := func(data string, more int) func(c *impl.Conn) {
		return func(c *impl.Conn) { c.In += data; c.Want = numberBehind(c.Want, len(data)+more) }
	}
	cut := func(size int) func(c *impl.Conn) {
		return func(c *impl.Conn) { c.Out, c.Una = c.Out[size:], numberBehind(c.Una, size) }
	}
	last := func(c *impl.Conn) { c.State, c.Out, c.Fin, c.Una = impl.TcGone, "", false, c.Next }
	both := func(a, b func(c *impl.Conn)) func(c *impl.Conn) { return func(c *impl.Conn) { a(c); b(c) } }
	for k, row := range []takeRow{
		{impl.TcSyn, 0, 1, "A", "", opened, ""},
		{impl.TcSyn, 9, 1, "A", "", opened, ""},
		{impl.TcSyn, 0, 1, "A", "ab", both(opened, took("ab", 0)), "A"},
		{impl.TcSyn, 0, 1, "FA", "ab", both(opened, took("ab", 1)), "A"},
		{impl.TcSyn, 0, 1, "FA", "", both(opened, end), "A"},
		{impl.TcSyn, 1, 1, "A", "ab", opened, "A"},
		{impl.TcSyn, 0, 0, "FA", "ab", nil, ""},
		{impl.TcSyn, 0, 2, "A", "ab", nil, ""},
		{impl.TcSyn, 0, -1, "A", "", nil, ""},
		{impl.TcSyn, 0, 1, "P", "ab", nil, ""},
		{impl.TcSyn, -1, 0, "S", "", nil, "SA"},
		{impl.TcSyn, -1, 1, "SA", "ab", nil, "SA"},
		{impl.TcSyn, -1, 1, "FSP", "", nil, "SA"},
		{impl.TcSyn, 0, 1, "SA", "", nil, "A"},
		{impl.TcSyn, -2, 0, "S", "", nil, "A"},
		{impl.TcSyn, 0, 0, "R", "", gone, ""},
		{impl.TcSyn, 0, 1, "FSRPA", "ab", gone, ""},
		{impl.TcSyn, -1, 1, "SRA", "", nil, ""},
		{impl.TcSyn, 1, 1, "RA", "", nil, ""},
		{impl.TcOpen, 0, 0, "A", "", nil, ""},
		{impl.TcOpen, 0, 0, "PA", "ab", took("ab", 0), "A"},
		{impl.TcOpen, 0, 9, "A", "ab", took("ab", 0), "A"},
		{impl.TcOpen, 0, -9, "FA", "ab", took("ab", 1), "A"},
		{impl.TcOpen, 0, 0, "FA", "", end, "A"},
		{impl.TcOpen, -1, 0, "FA", "", nil, "A"},
		{impl.TcOpen, -2, 0, "A", "abcd", nil, "A"},
		{impl.TcOpen, 2, 0, "FA", "ab", nil, "A"},
		{impl.TcOpen, 5, 0, "A", "", nil, ""},
		{impl.TcOpen, 0, 0, "FP", "ab", nil, ""},
		{impl.TcOpen, 0, 0, "", "ab", nil, ""},
		{impl.TcOpen, 0, 0, "FSPA", "ab", nil, "A"},
		{impl.TcOpen, -1, 0, "S", "", nil, "A"},
		{impl.TcOpen, 0, 0, "R", "ab", gone, ""},
		{impl.TcOpen, 1, 0, "FRA", "ab", nil, ""},
		{impl.TcLast, 0, 0, "A", "", nil, ""},
		{impl.TcLast, 0, 1, "A", "", cut(1), ""},
		{impl.TcLast, 7, 2, "A", "", cut(2), ""},
		{impl.TcLast, 0, 3, "A", "", cut(3), ""},
		{impl.TcLast, 0, 4, "A", "", last, ""},
		{impl.TcLast, 0, 5, "A", "", nil, ""},
		{impl.TcLast, 0, -1, "A", "", nil, ""},
		{impl.TcLast, 0, 3, "", "", nil, ""},
		{impl.TcLast, 0, 3, "SA", "", nil, "A"},
		{impl.TcLast, 0, 2, "A", "ab", both(cut(2), took("ab", 0)), "A"},
		{impl.TcLast, 1, 2, "FA", "ab", cut(2), "A"},
		{impl.TcLast, 0, 3, "FA", "ab", both(cut(3), took("ab", 1)), "A"},
		{impl.TcLast, 0, 4, "FA", "ab", last, ""},
		{impl.TcLast, 0, 5, "FA", "", end, "A"},
		{impl.TcLast, 0, 4, "RA", "", gone, ""},
		{impl.TcLast, 1, 4, "RA", "", nil, ""},
		{impl.TcGone, 0, 0, "A", "ab", nil, ""},
		{impl.TcGone, 0, 1, "FA", "ab", nil, ""},
		{impl.TcGone, 0, 0, "R", "", nil, ""},
		{impl.TcGone, -1, 0, "S", "", nil, ""},
		{impl.TcGone, 0, 0, "FSRPA", "ab", nil, ""},
	} {
		for _, una := range roundNumbers() {
			for _, awaited := range roundNumbers() {
				holdTakeRow(t, k, row, una, awaited)
			}
		}
	}
}

func holdTakeRow(t *testing.T, k int, row takeRow, una, awaited int) {
	t.Helper()
	c := connAt(row.from, una, awaited, "in", "out")
	want := c
	if row.set != nil {
		row.set(&want)
	}
	var told []impl.Segment
	switch row.told {
	case "A":
		told = []impl.Segment{ourSegment(want, want.Next, "A", "")}
	case "SA":
		told = []impl.Segment{ourSegment(want, want.Una, "SA", "")}
	}
	g := guestSegment(numberBehind(awaited, row.seq), numberBehind(una, row.ack), flagsOf(row.letters), row.data)
	next, list, code := impl.ConnTake(c, g)
	if next != want || !slices.Equal(list, told) || code != impl.OK || !impl.ConnOK(next) {
		t.Errorf("row %d: %v with %v: %v, %v, %d, not %v, %v", k, c, g, next, list, code, want, told)
	}
}

// Each state with each set of flags, with Seq, Ack and Data at and beside their edges.
func TestSegmentsAreTakenAsByHand(t *testing.T) {
	for _, c := range rightConns() {
		room := impl.MaxIn - len(c.In)
		for flags := range 32 {
			for _, seq := range []int{-300, -1, 0, 1, 1 << 31} {
				for _, ack := range []int{-1, 0, 1, len(c.Out) - 1, len(c.Out), len(c.Out) + 1, len(c.Out) + 2, 1 << 31} {
					for _, size := range []int{0, 1, room, room + 1} {
						g := guestSegment(numberBehind(c.Want, seq), numberBehind(c.Una, ack), flags, strings.Repeat("d", size))
						holdTaken(t, c, g)
					}
				}
			}
		}
	}
}

// Data of which In has room for all but a byte, for all, and for more.
func TestDataBeyondTheRoom(t *testing.T) {
	for _, state := range []int{impl.TcOpen, impl.TcLast} {
		for _, had := range []int{0, 1, 100, 299, 300} {
			for _, size := range []int{1, 199, 200, 201, 299, 300, 301, 360} {
				for _, flags := range []int{impl.FlAck, impl.FlAck | impl.FlFin} {
					c := connAt(state, 5, impl.MaxAddress-250, string(sampleBytes(had, 1)), "out")
					data := string(sampleBytes(size, 2))
					want := c
					if had+size <= 300 {
						want.In = c.In + data
						want.Want = numberBehind(c.Want, size+flags&impl.FlFin)
					}
					next, told, code := impl.ConnTake(c, guestSegment(c.Want, c.Una, flags, data))
					if next != want || code != impl.OK || !slices.Equal(told, []impl.Segment{ourSegment(want, want.Next, "A", "")}) {
						t.Errorf("%d bytes behind %d: In has %d, %v, %d", size, had, len(next.In), told, code)
					}
				}
			}
		}
		// An end alone needs no room.
		c := connAt(state, 5, impl.MaxAddress, strings.Repeat("i", 300), "out")
		if next, told, code := impl.ConnTake(c, guestSegment(c.Want, c.Una, impl.FlAck|impl.FlFin, "")); next.Want != 0 || next.In != c.In || len(told) != 1 || told[0].Ack != 0 || code != impl.OK {
			t.Errorf("an end with In full: %v, %v, %d", next, told, code)
		}
	}
}

// Each Ack around what is out, number by number.
func TestEachAcknowledgement(t *testing.T) {
	for _, una := range []int{0, 1000, impl.MaxAddress - 301, impl.MaxAddress - 150, impl.MaxAddress} {
		for _, size := range []int{0, 1, 2, 300} {
			text := string(sampleBytes(size, 4))
			c := connAt(impl.TcLast, una, 7, "in", text)
			for far := -3; far <= size+4; far++ {
				want := c
				if far >= 1 && far <= size {
					want.Una, want.Out = numberBehind(una, far), text[far:]
				}
				if far == size+1 {
					want.State, want.Fin, want.Out, want.Una = impl.TcGone, false, "", c.Next
				}
				next, told, code := impl.ConnTake(c, guestSegment(7, numberBehind(una, far), impl.FlAck, ""))
				if next != want || len(told) != 0 || code != impl.OK || !impl.ConnOK(next) {
					t.Errorf("Ack %d behind %d of %d bytes: %v, %v, %d", far, una, size, next, told, code)
				}
			}
		}
	}
}

func TestTakingOfWhatIsWrong(t *testing.T) {
	hold := func(c impl.Conn, g impl.Segment) {
		t.Helper()
		if next, told, code := impl.ConnTake(c, g); next != (impl.Conn{}) || len(told) != 0 || code != impl.ErrBad {
			t.Errorf("ConnTake of %.200v, %.200v: %v, %v, %d", c, g, next, told, code)
		}
	}
	for _, c := range wrongConns() {
		for _, flags := range []int{0, impl.FlAck, impl.FlRst, impl.FlSyn, 32} {
			hold(c, guestSegment(7, 5, flags, "data"))
		}
	}
	for _, state := range connStates() {
		c := connAt(state, 5, 7, "in", "out")
		for _, g := range wrongSegments() {
			for _, flags := range []int{0, impl.FlAck, impl.FlRst, impl.FlSyn} {
				g.Flags |= flags
				hold(c, g)
			}
		}
		// Ports and Window of a right segment are any.
		for _, port := range []int{0, 80, 65535} {
			g := impl.Segment{SrcPort: port, DstPort: 65535 - port, Seq: 7, Ack: 8, Flags: impl.FlAck, Window: port, Data: "data"}
			holdTaken(t, c, g)
		}
	}
}

func TestTextsAreSaid(t *testing.T) {
	for _, next := range append(roundNumbers(), impl.MaxAddress-200, impl.MaxAddress-199) {
		for _, row := range []struct {
			size   int
			pieces []int
		}{{0, nil}, {1, []int{1}}, {199, []int{199}}, {200, []int{200}}, {201, []int{200, 1}}, {299, []int{200, 99}}, {300, []int{200, 100}}} {
			c := connAt(impl.TcOpen, next, 9, "in", "")
			text := string(sampleBytes(row.size, 5))
			want := c
			want.State, want.Fin, want.Out, want.Next = impl.TcLast, true, text, numberBehind(next, row.size+1)
			var told []impl.Segment
			at := 0
			for _, size := range row.pieces {
				told = append(told, ourSegment(c, numberBehind(next, at), "PA", text[at:at+size]))
				at += size
			}
			told = append(told, ourSegment(c, numberBehind(next, row.size), "FA", ""))
			said, list, code := impl.ConnSay(c, text)
			if said != want || !slices.Equal(list, told) || code != impl.OK || !impl.ConnOK(said) {
				t.Errorf("%d bytes from %d: %v, %v, %d", row.size, next, said, list, code)
			}
			if again, code := impl.ConnAgain(said); !slices.Equal(again, told) || code != impl.OK {
				t.Errorf("%d bytes from %d again: %v, %d", row.size, next, again, code)
			}
			if _, _, code := impl.ConnSay(said, ""); code != impl.ErrState {
				t.Errorf("said twice: %d", code)
			}
		}
	}
}

func TestFaultsOfSaying(t *testing.T) {
	for _, c := range append(rightConns(), wrongConns()...) {
		for _, size := range []int{0, 300, 301, 302, 400, 401, impl.MaxText, impl.MaxText + 1} {
			want, code := c, impl.OK
			switch {
			case size > impl.MaxText:
				want, code = impl.Conn{}, impl.ErrLong
			case !impl.ConnOK(c):
				want, code = impl.Conn{}, impl.ErrBad
			case c.State != impl.TcOpen:
				code = impl.ErrState
			case size > 300:
				code = impl.ErrFull
			default:
				continue
			}
			next, told, got := impl.ConnSay(c, strings.Repeat("t", size))
			if next != want || len(told) != 0 || got != code {
				t.Errorf("%d bytes of %.200v: %v, %v, %d, not %d", size, c, next, told, got, code)
			}
		}
	}
}

func TestWhatIsToldAgain(t *testing.T) {
	for _, c := range rightConns() {
		var want []impl.Segment
		switch c.State {
		case impl.TcSyn:
			want = []impl.Segment{ourSegment(c, c.Una, "SA", "")}
		case impl.TcLast:
			want = saidByHand(c)
		}
		if list, code := impl.ConnAgain(c); !slices.Equal(list, want) || code != impl.OK {
			t.Errorf("ConnAgain of %.200v: %v, %d", c, list, code)
		}
	}
	for _, c := range wrongConns() {
		if list, code := impl.ConnAgain(c); len(list) != 0 || code != impl.ErrBad {
			t.Errorf("ConnAgain of %.200v: %v, %d", c, list, code)
		}
	}
}

// A new connection tells again what it told when it was opened, until it is acknowledged.
func TestGreetingsAreToldAgain(t *testing.T) {
	for _, isn := range roundNumbers() {
		opening := guestSegment(numberBehind(isn, 5), 0, impl.FlSyn, "")
		c, told, _ := impl.ConnOpen(macA, 10, 20, opening, isn)
		if again, code := impl.ConnAgain(c); !slices.Equal(again, told) || code != impl.OK {
			t.Errorf("at %d: %v, not %v", isn, again, told)
		}
		if next, again, code := impl.ConnTake(c, opening); next != c || !slices.Equal(again, told) || code != impl.OK {
			t.Errorf("opened again at %d: %v, %v, %d", isn, next, again, code)
		}
		open, _, _ := impl.ConnTake(c, guestSegment(c.Want, c.Next, impl.FlAck, ""))
		if again, code := impl.ConnAgain(open); len(again) != 0 || code != impl.OK || open.State != impl.TcOpen {
			t.Errorf("open at %d: %v, %d", isn, again, code)
		}
	}
}

// A guest sends pieces of a long text in any order, some twice, others never
// but again; what is taken in is the text's beginning, and at last all of it.
func TestBytesAreTakenInTheirOrder(t *testing.T) {
	for seed := range 60 {
		chance := rand.New(rand.NewSource(int64(seed)))
		text := string(sampleBytes(1200, seed))
		first := roundNumbers()[seed%len(roundNumbers())]
		c := connAt(impl.TcOpen, 50, first, "", "")
		if seed%2 == 1 {
			c = connAt(impl.TcLast, 50, first, "", "out")
		}
		read, done := "", 0
		for range 4000 {
			next, told, code := impl.ConnTake(c, textPiece(chance, text, first, done))
			if code != impl.OK || !impl.ConnOK(next) || len(told) != 1 || told[0].Ack != next.Want {
				t.Fatalf("seed %d: %v, %v, %d", seed, next, told, code)
			}
			c = next
			done = len(read) + len(c.In)
			if done > len(text) || read+c.In != text[:done] || c.Want != numberBehind(first, done) && done < len(text) {
				t.Fatalf("seed %d: behind %d bytes In is %q, Want %d", seed, len(read), c.In, c.Want)
			}
			if size := chance.Intn(20); size == 0 {
				size = chance.Intn(len(c.In) + 1)
				read, c.In = read+c.In[:size], c.In[size:]
			}
		}
		if read+c.In != text || c.Want != numberBehind(first, len(text)+1) {
			t.Fatalf("seed %d: %d bytes came, Want is %d", seed, len(read)+len(c.In), c.Want)
		}
	}
}

// textPiece is a piece of a text, often the next one; the last one has the end.
func textPiece(chance *rand.Rand, text string, first, done int) impl.Segment {
	at := chance.Intn(len(text))
	if done < len(text) && chance.Intn(3) == 0 {
		at = done
	}
	size := min(1+chance.Intn(250), len(text)-at)
	flags := impl.FlAck | impl.FlPsh*chance.Intn(2)
	if at+size == len(text) {
		flags |= impl.FlFin
	}
	return guestSegment(numberBehind(first, at), int(chance.Uint32())&^1023, flags, text[at:at+size])
}

// What is said comes out whole, in order, and its end behind it, though most
// segments are lost, and others come twice or late.
func TestTextsGoOutWhole(t *testing.T) {
	for seed := range 120 {
		chance := rand.New(rand.NewSource(int64(seed)))
		una := numberBehind(impl.MaxAddress, -chance.Intn(320))
		text := string(sampleBytes([]int{0, 1, 199, 200, 201, 299, 300}[seed%7], seed))
		c, wire, code := impl.ConnSay(connAt(impl.TcOpen, una, 7, "in", ""), text)
		if code != impl.OK {
			t.Fatalf("ConnSay: %d", code)
		}
		r := receiver{want: una}
		for turn := 0; c.State != impl.TcGone; turn++ {
			if turn > 4000 {
				t.Fatalf("seed %d: no end, %d of %d bytes", seed, len(r.text), len(text))
			}
			if chance.Intn(6) == 0 {
				again, _ := impl.ConnAgain(c)
				wire = append(wire, again...)
			}
			if len(wire) > 0 && chance.Intn(3) == 0 {
				k := chance.Intn(len(wire))
				r.take(wire[k])
				wire = slices.Delete(wire, k, k+chance.Intn(2))
			}
			// An end must never be seen ahead of a byte of the text.
			if !strings.HasPrefix(text, r.text) || r.ended && r.text != text {
				t.Fatalf("seed %d: out came %q, end %v", seed, r.text, r.ended)
			}
			if chance.Intn(4) == 0 {
				// Some acknowledge less than came.
				ack := numberBehind(r.want, -chance.Intn(3)*chance.Intn(100))
				c, _, _ = impl.ConnTake(c, guestSegment(7, ack, impl.FlAck, ""))
				if !impl.ConnOK(c) || !strings.HasSuffix(text, c.Out) {
					t.Fatalf("seed %d: Out is %q", seed, c.Out)
				}
			}
		}
		if r.text != text || !r.ended || c.Una != numberBehind(una, len(text)+1) {
			t.Errorf("seed %d: out came %d bytes of %d, end %v", seed, len(r.text), len(text), r.ended)
		}
	}
}

// receiver takes what comes at its number alone, as a guest does.
type receiver struct {
	want  int
	text  string
	ended bool
}

func (r *receiver) take(g impl.Segment) {
	if g.Seq != r.want || r.ended {
		return
	}
	r.text += g.Data
	r.want = numberBehind(r.want, len(g.Data))
	if g.Flags&impl.FlFin != 0 {
		r.want = numberBehind(r.want, 1)
		r.ended = true
	}
}

// Whatever comes: connections stay right, are as by hand, and tell segments
// that go out as bytes.
func TestWalksOfConnections(t *testing.T) {
	for seed := range 300 {
		chance := rand.New(rand.NewSource(int64(seed)))
		numbers := roundNumbers()
		opening := guestSegment(numbers[chance.Intn(len(numbers))], 0, impl.FlSyn, "")
		c, _, _ := impl.ConnOpen(macA, 10, 20, opening, numbers[chance.Intn(len(numbers))])
		for range 60 {
			if chance.Intn(12) == 0 {
				said, told, code := impl.ConnSay(c, string(sampleBytes(chance.Intn(301), seed)))
				if (code == impl.OK) != (c.State == impl.TcOpen) || code != impl.OK && said != c || !slices.Equal(told, saidByHand(said)) && code == impl.OK {
					t.Fatalf("seed %d: ConnSay of %v: %v, %v, %d", seed, c, said, told, code)
				}
				c = said
			}
			g := guestSegment(numberBehind(c.Want, chance.Intn(3)/2*(chance.Intn(600)-300)), numberBehind(c.Una, chance.Intn(305)-2),
				chance.Intn(32)&^(impl.FlRst*min(chance.Intn(9), 1)), string(sampleBytes(chance.Intn(90), seed)))
			holdTaken(t, c, g)
			next, told, _ := impl.ConnTake(c, g)
			for _, out := range told {
				if b, code := impl.SegmentBytes(c.DstIp, c.Ip, out); code != impl.OK || string(b) != string(segmentBytes(c.DstIp, c.Ip, out)) {
					t.Fatalf("seed %d: %v is none: %d", seed, out, code)
				}
			}
			c = next
		}
	}
}

func TestSegmentsToldAreNewMemory(t *testing.T) {
	for name, do := range connCalls() {
		told, want := do(), slices.Clone(do())
		clear(told[:cap(told)])
		if again := do(); !slices.Equal(again, want) {
			t.Errorf("%s was changed through its answer: %v, not %v", name, again, want)
		}
	}
}

// connCalls has each call that tells segments, by what it tells.
func connCalls() map[string]func() []impl.Segment {
	calls := map[string]func() []impl.Segment{
		"ConnOpen": func() []impl.Segment {
			_, told, _ := impl.ConnOpen(macA, 10, 20, guestSegment(5, 0, impl.FlSyn, ""), 7)
			return told
		},
	}
	for _, state := range connStates() {
		c := connAt(state, 5, 7, "in", strings.Repeat("out", 100))
		calls[fmt.Sprintf("ConnTake in %d", state)] = func() []impl.Segment {
			_, told, _ := impl.ConnTake(c, guestSegment(7, 6, impl.FlAck|impl.FlFin, "data"))
			return told
		}
		calls[fmt.Sprintf("ConnSay in %d", state)] = func() []impl.Segment {
			_, told, _ := impl.ConnSay(c, strings.Repeat("t", 300))
			return told
		}
		calls[fmt.Sprintf("ConnAgain in %d", state)] = func() []impl.Segment {
			told, _ := impl.ConnAgain(c)
			return told
		}
	}
	return calls
}

// holdTaken holds ConnTake against the words, followed once more.
func holdTaken(t *testing.T, c impl.Conn, g impl.Segment) {
	t.Helper()
	want, told := takenByHand(c, g)
	next, list, code := impl.ConnTake(c, g)
	if next != want || !slices.Equal(list, told) || code != impl.OK || !impl.ConnOK(next) {
		t.Fatalf("%.300v with %.300v: %.300v, %v, %d, not %.300v, %v", c, g, next, list, code, want, told)
	}
}

// takenByHand follows the document's words one by one; numbers of 32 bits go round by themselves.
func takenByHand(c impl.Conn, g impl.Segment) (impl.Conn, []impl.Segment) {
	letters, _ := impl.FlagsText(g.Flags)
	has := func(letter string) bool { return strings.Contains(letters, letter) }
	if c.State == impl.TcGone {
		return c, nil
	}
	if has("R") {
		if g.Seq == c.Want {
			gone(&c)
		}
		return c, nil
	}
	if has("S") {
		if c.State == impl.TcSyn && uint32(g.Seq)+1 == uint32(c.Want) {
			return c, []impl.Segment{ourSegment(c, c.Una, "SA", "")}
		}
		return c, []impl.Segment{ourSegment(c, c.Next, "A", "")}
	}
	if !has("A") {
		return c, nil
	}
	// Number by number from Una to Next.
	sent := c.Out
	for n := uint32(c.Una); n != uint32(c.Next); {
		n++
		if sent != "" {
			sent = sent[1:]
		}
		if int(n) == g.Ack {
			c.Una, c.Out = g.Ack, sent
			switch {
			case c.State == impl.TcSyn:
				c.State = impl.TcOpen
			case n == uint32(c.Next):
				c.State, c.Fin = impl.TcGone, false
			}
			break
		}
	}
	if c.State == impl.TcSyn || c.State == impl.TcGone || !has("F") && g.Data == "" {
		return c, nil
	}
	if joined := c.In + g.Data; g.Seq == c.Want && len(joined) <= 300 {
		c.In = joined
		went := uint32(c.Want) + uint32(len(g.Data))
		if has("F") {
			went++
		}
		c.Want = int(went)
	}
	return c, []impl.Segment{ourSegment(c, c.Next, "A", "")}
}

// saidByHand is what is out from Una on, and the end.
func saidByHand(c impl.Conn) []impl.Segment {
	var list []impl.Segment
	at := c.Una
	for piece := range slices.Chunk([]byte(c.Out), 200) {
		list = append(list, ourSegment(c, at, "PA", string(piece)))
		at = numberBehind(at, len(piece))
	}
	return append(list, ourSegment(c, at, "FA", ""))
}

func ourSegment(c impl.Conn, seq int, letters, data string) impl.Segment {
	return impl.Segment{SrcPort: 80, DstPort: c.Port, Seq: seq, Ack: c.Want, Flags: flagsOf(letters), Window: 1000, Data: data}
}

func guestSegment(seq, ack, flags int, data string) impl.Segment {
	return impl.Segment{SrcPort: 1000, DstPort: 80, Seq: seq, Ack: ack, Flags: flags, Window: 1000, Data: data}
}

func flagsOf(letters string) int {
	flags := 0
	for _, letter := range letters {
		flags |= 1 << strings.IndexRune("FSRPA", letter)
	}
	return flags
}

// numberBehind goes round by itself.
func numberBehind(n, far int) int {
	return int(uint32(n) + uint32(far))
}

// roundNumbers lie on both sides of where numbers go round, and far from it.
func roundNumbers() []int {
	return []int{0, 1, 2, 1000, 1<<31 - 1, 1 << 31, impl.MaxAddress - 250, impl.MaxAddress - 5, impl.MaxAddress - 1, impl.MaxAddress}
}

func connStates() []int {
	return []int{impl.TcSyn, impl.TcOpen, impl.TcLast, impl.TcGone}
}

// connAt is a right connection of a state, with as much of in and out as it may have.
func connAt(state, una, want int, in, out string) impl.Conn {
	c := impl.Conn{Mac: macA, Ip: 10, Port: 1000, DstIp: 20, State: state, Una: una, Next: una, Want: want}
	switch state {
	case impl.TcSyn:
		in, c.Next = "", numberBehind(una, 1)
	case impl.TcLast:
		c.Out, c.Fin, c.Next = out, true, numberBehind(una, len(out)+1)
	}
	c.In = in
	return c
}

func rightConns() []impl.Conn {
	var list []impl.Conn
	for _, una := range []int{0, 1 << 31, impl.MaxAddress - 200, impl.MaxAddress} {
		for _, want := range []int{0, impl.MaxAddress - 100, impl.MaxAddress} {
			list = append(list, connAt(impl.TcSyn, una, want, "", ""))
			for _, in := range []int{0, 2, 299, 300} {
				text := string(sampleBytes(in, 1))
				list = append(list, connAt(impl.TcOpen, una, want, text, ""), connAt(impl.TcGone, una, want, text, ""))
				for _, out := range []int{0, 1, 200, 300} {
					list = append(list, connAt(impl.TcLast, una, want, text, string(sampleBytes(out, 2))))
				}
			}
		}
	}
	for _, c := range []impl.Conn{
		{Mac: "\x00\x00\x00\x00\x00\x00"}, {Mac: "\xff\xff\xff\xff\xff\xff", Ip: impl.MaxAddress, Port: 65535, DstIp: impl.MaxAddress}, {Mac: macB, Ip: 7, DstIp: 7},
	} {
		for _, state := range connStates() {
			right := connAt(state, 9, 9, "in", "out")
			right.Mac, right.Ip, right.Port, right.DstIp = c.Mac, c.Ip, c.Port, c.DstIp
			list = append(list, right)
		}
	}
	return list
}

// wrongConns have a fault each, but for the first, in each of the states.
func wrongConns() []impl.Conn {
	list := []impl.Conn{{}, {Mac: macA}, {Mac: macA, Next: 1}, {State: impl.TcOpen}}
	change := func(set func(c *impl.Conn)) {
		for _, state := range connStates() {
			c := connAt(state, impl.MaxAddress-1, 7, "in", "out")
			set(&c)
			list = append(list, c)
		}
	}
	for _, mac := range wrongMacs() {
		change(func(c *impl.Conn) { c.Mac = mac })
	}
	for _, n := range append(outside(4), -1<<32+5, 1<<32+5) {
		change(func(c *impl.Conn) { c.Ip = n })
		change(func(c *impl.Conn) { c.DstIp = n })
		change(func(c *impl.Conn) { c.Una = n })
		change(func(c *impl.Conn) { c.Next = n })
		change(func(c *impl.Conn) { c.Want = n })
	}
	for _, n := range outside(2) {
		change(func(c *impl.Conn) { c.Port = n })
	}
	for _, state := range []int{math.MinInt, -2, -1, 0, 5, 6, 1 << 32, 1<<32 + 2, math.MaxInt} {
		change(func(c *impl.Conn) { c.State = state })
	}
	change(func(c *impl.Conn) { c.Una += 1 << 32; c.Next += 1 << 32 })
	// Una is a round off, and Next where it would be by what is left of it.
	change(func(c *impl.Conn) { c.Una += 1 << 32 })
	change(func(c *impl.Conn) { c.Una -= 1 << 32 })
	change(func(c *impl.Conn) { c.Next, c.Una = numberBehind(c.Next, 1-c.Una), 1-1<<32 })
	list = append(list, impl.Conn{Mac: macA, State: impl.TcSyn, Una: -1})
	change(func(c *impl.Conn) { c.Fin = !c.Fin })
	change(func(c *impl.Conn) { c.Next = numberBehind(c.Next, 1) })
	change(func(c *impl.Conn) { c.Next = numberBehind(c.Next, -1) })
	for _, size := range []int{301, 302, impl.MaxText + 1} {
		change(func(c *impl.Conn) { c.In = strings.Repeat("i", size) })
		change(func(c *impl.Conn) { c.Out = strings.Repeat("o", size); c.Next = numberBehind(c.Una, size+1) })
	}
	// In in TcSyn; Fin, or Out, where no end was sent; TcLast without one.
	for _, in := range []string{"i", strings.Repeat("i", 300)} {
		c := connAt(impl.TcSyn, 5, 7, "", "")
		c.In = in
		list = append(list, c)
	}
	for _, state := range []int{impl.TcSyn, impl.TcOpen, impl.TcGone} {
		c := connAt(state, 5, 7, "", "")
		c.Fin, c.Next = true, c.Next+1
		list = append(list, c)
		c = connAt(state, 5, 7, "", "")
		c.Out, c.Next = "o", c.Next+1
		list = append(list, c)
	}
	c := connAt(impl.TcLast, 5, 7, "", "out")
	c.Fin, c.Next = false, c.Next-1
	bare := connAt(impl.TcLast, 5, 7, "", "")
	bare.Fin, bare.Next = false, bare.Una
	return append(list, c, bare)
}

// wrongSegments have a fault each that the chapter of frames names.
func wrongSegments() []impl.Segment {
	var list []impl.Segment
	change := func(set func(g *impl.Segment)) {
		g := guestSegment(7, 6, 0, "data")
		set(&g)
		list = append(list, g)
	}
	for _, n := range outside(2) {
		change(func(g *impl.Segment) { g.SrcPort = n })
		change(func(g *impl.Segment) { g.DstPort = n })
		change(func(g *impl.Segment) { g.Window = n })
	}
	for _, n := range append(outside(4), 7-1<<32, 7+1<<32) {
		change(func(g *impl.Segment) { g.Seq = n })
		change(func(g *impl.Segment) { g.Ack = n })
	}
	for _, flags := range []int{math.MinInt, -1, 32, 1 << 32} {
		change(func(g *impl.Segment) { g.Flags = flags })
	}
	for _, size := range []int{361, 400, impl.MaxText + 1} {
		change(func(g *impl.Segment) { g.Data = strings.Repeat("d", size) })
	}
	return list
}
