package tests

import (
	"fmt"
	"math"
	"math/rand"
	"slices"
	"strings"
	"testing"

	"loop.example/g00356/impl"
)

func TestFlowWaits(t *testing.T) {
	for proto := range 256 {
		for state := 1; state <= 3; state++ {
			want := 5
			if proto == 6 {
				want = []int{3, 30, 3}[state-1]
			}
			if n, code := impl.FlowWait(proto, state); n != want || code != impl.OK {
				t.Errorf("FlowWait(%d, %d) = %d, %d", proto, state, n, code)
			}
		}
	}
}

func TestFlowWaitsOutOfRange(t *testing.T) {
	for _, proto := range append(outside(1), 6+1<<32, 6-256) {
		for _, state := range []int{1, 2, 3, 0, 4} {
			if n, code := impl.FlowWait(proto, state); n != 0 || code != impl.ErrRange {
				t.Errorf("FlowWait(%d, %d) = %d, %d", proto, state, n, code)
			}
		}
	}
	for _, state := range wrongStates() {
		for _, proto := range []int{0, 1, 6, 17, 255, -1, 256} {
			if n, code := impl.FlowWait(proto, state); n != 0 || code != impl.ErrRange {
				t.Errorf("FlowWait(%d, %d) = %d, %d", proto, state, n, code)
			}
		}
	}
}

func TestFlowsThatAreRight(t *testing.T) {
	for k, list := range rightFlows() {
		if !impl.FlowsOK(list) {
			t.Errorf("right flows %d are wrong: %v", k, list)
		}
	}
}

func TestFlowsThatAreWrong(t *testing.T) {
	for k, list := range wrongFlows() {
		if impl.FlowsOK(list) {
			t.Errorf("wrong flows %d are right: %.300v", k, list)
		}
	}
	for _, size := range []int{impl.MaxList, impl.MaxList + 1} {
		if impl.FlowsOK(manyFlows(size)) {
			t.Errorf("%d flows are right", size)
		}
	}
}

func TestFlowNumbersAtTheirBounds(t *testing.T) {
	for _, n := range flowNumbers() {
		for k := range busyFlows() {
			for _, right := range []int{n.low, n.low + 1, n.high - 1, n.high} {
				list := busyFlows()
				*n.number(&list[k]) = right
				if !impl.FlowsOK(list) {
					t.Errorf("%s of flow %d is %d: wrong", n.name, k, right)
				}
			}
			for _, wrong := range []int{math.MinInt, n.low - 1<<32, n.low - 1, n.high + 1, n.high + 1<<32, math.MaxInt} {
				list := busyFlows()
				*n.number(&list[k]) = wrong
				if impl.FlowsOK(list) {
					t.Errorf("%s of flow %d is %d: right", n.name, k, wrong)
				}
			}
		}
	}
}

// Two flows with the same ends are one too many, whatever else they have.
func TestFlowsWithTheSameEnds(t *testing.T) {
	for k := range busyFlows() {
		for _, other := range alikeEnds(busyFlows()[k]) {
			for place := range len(busyFlows()) + 1 {
				if list := slices.Insert(busyFlows(), place, other); impl.FlowsOK(list) {
					t.Errorf("the same ends at %d and %d: %v", k, place, list)
				}
			}
		}
	}
}

// Ends of which one number is another one, or is turned round alone, are others.
func TestFlowsWithNearlyTheSameEnds(t *testing.T) {
	for k := range busyFlows() {
		for _, other := range nearEnds(busyFlows()[k]) {
			if list := append(busyFlows(), other); !impl.FlowsOK(list) {
				t.Errorf("nearly the ends of %d are taken for the same: %v", k, list)
			}
			if list := slices.Insert(busyFlows(), 0, other); !impl.FlowsOK(list) {
				t.Errorf("nearly the ends of %d are taken for the same: %v", k, list)
			}
		}
	}
}

// All flows of few protos, addresses and ports, two by two.
func TestPairsOfFlows(t *testing.T) {
	var stock []impl.Flow
	for n := range 32 {
		f := busyFlows()[0]
		f.Proto, f.SrcIp, f.SrcPort, f.DstIp, f.DstPort = 6+n/16, n/8%2, n/4%2, n/2%2, n%2
		stock = append(stock, f)
	}
	for _, a := range stock {
		for _, b := range stock {
			list := []impl.Flow{a, b}
			_, _, code := findByHand([]impl.Flow{a}, b.Proto, b.SrcIp, b.SrcPort, b.DstIp, b.DstPort)
			if right := impl.FlowsOK(list); right != (code == impl.ErrNone) {
				t.Errorf("FlowsOK(%v) = %v", list, right)
			}
		}
	}
}

func TestFlowsAreFoundBothWays(t *testing.T) {
	for _, list := range rightFlows() {
		for k, f := range list {
			if at, back, code := impl.FlowFind(list, f.Proto, f.SrcIp, f.SrcPort, f.DstIp, f.DstPort); at != k || back || code != impl.OK {
				t.Errorf("%v in this way: %d, %v, %d", f, at, back, code)
			}
			// Ends that are alike are this way, even if they are turned round.
			wantBack := f.SrcIp != f.DstIp || f.SrcPort != f.DstPort
			if at, back, code := impl.FlowFind(list, f.Proto, f.DstIp, f.DstPort, f.SrcIp, f.SrcPort); at != k || back != wantBack || code != impl.OK {
				t.Errorf("%v turned round: %d, %v, %d", f, at, back, code)
			}
		}
	}
}

func TestFlowsThatAreNotThere(t *testing.T) {
	list := busyFlows()
	for _, f := range list {
		for _, other := range nearEnds(f) {
			if k, back, code := impl.FlowFind(list, other.Proto, other.SrcIp, other.SrcPort, other.DstIp, other.DstPort); k != 0 || back || code != impl.ErrNone {
				t.Errorf("%v is found: %d, %v, %d", other, k, back, code)
			}
		}
	}
	for _, none := range [][]impl.Flow{nil, {}} {
		if k, back, code := impl.FlowFind(none, 6, 10, 1000, 20, 80); k != 0 || back || code != impl.ErrNone {
			t.Errorf("without flows: %d, %v, %d", k, back, code)
		}
	}
}

// Each question of few protos, addresses and ports, asked of lists of such flows.
func TestFlowsAreFoundAsByHand(t *testing.T) {
	chance := rand.New(rand.NewSource(9))
	for range 200 {
		var list []impl.Flow
		for range 30 {
			f := randomFlow(chance)
			if _, _, code := findByHand(list, f.Proto, f.SrcIp, f.SrcPort, f.DstIp, f.DstPort); code == impl.ErrNone && len(list) < 8 {
				list = append(list, f)
			}
		}
		for range 100 {
			q := randomFlow(chance)
			wantK, wantBack, wantCode := findByHand(list, q.Proto, q.SrcIp, q.SrcPort, q.DstIp, q.DstPort)
			k, back, code := impl.FlowFind(list, q.Proto, q.SrcIp, q.SrcPort, q.DstIp, q.DstPort)
			if k != wantK || back != wantBack || code != wantCode {
				t.Fatalf("%v in %v: %d, %v, %d, not %d, %v, %d", q, list, k, back, code, wantK, wantBack, wantCode)
			}
		}
	}
}

func TestFindingOutOfRange(t *testing.T) {
	ask := [5]int{6, 10, 1000, 20, 80}
	for at, size := range []int{1, 4, 2, 4, 2} {
		for _, wrong := range append(outside(size), ask[at]+1<<32, ask[at]-1<<(8*size)) {
			q := ask
			q[at] = wrong
			for _, list := range [][]impl.Flow{busyFlows(), nil, manyFlows(8)} {
				if k, back, code := impl.FlowFind(list, q[0], q[1], q[2], q[3], q[4]); k != 0 || back || code != impl.ErrRange {
					t.Errorf("FlowFind of %v: %d, %v, %d", q, k, back, code)
				}
			}
		}
		for _, edge := range []int{0, 1<<(8*size) - 1} {
			q := ask
			q[at] = edge
			if k, back, code := impl.FlowFind(busyFlows(), q[0], q[1], q[2], q[3], q[4]); k != 0 || back || code != impl.ErrNone {
				t.Errorf("FlowFind of %v: %d, %v, %d", q, k, back, code)
			}
		}
	}
}

func TestFlowsOpen(t *testing.T) {
	for _, now := range []int{0, 1, 99999, impl.MaxNow} {
		for proto := range 256 {
			f := impl.Flow{Proto: proto, Mac: guestMac(7), SrcIp: 0, SrcPort: 65535, DstIp: impl.MaxAddress, DstPort: 0, Owner: 10000}
			want := f
			want.State, want.Until = impl.FoNew, now+5
			if proto == impl.ProTcp {
				want.Until = now + 3
			}
			for size := range 8 {
				list := manyFlows(size)
				next, code := impl.FlowOpen(list, f, now)
				if code != impl.OK || !slices.Equal(next, append(manyFlows(size), want)) || !impl.FlowsOK(next) {
					t.Fatalf("FlowOpen of proto %d at %d behind %d: %d, %v", proto, now, size, code, next)
				}
				k, back, code := impl.FlowFind(next, proto, f.DstIp, f.DstPort, f.SrcIp, f.SrcPort)
				if k != size || !back || code != impl.OK {
					t.Fatalf("what was opened is not found: %d, %v, %d", k, back, code)
				}
			}
		}
	}
}

// What a flow that is to be opened has as State and Until is any.
func TestFlowsOpenWhateverTheirTimes(t *testing.T) {
	want, _ := impl.FlowOpen(busyFlows(), newFlow(), 50)
	for _, state := range append(wrongStates(), 1, 2, 3) {
		for _, until := range []int{math.MinInt, -1, 0, 49, 50, 53, impl.MaxNow + 100, impl.MaxNow + 101, math.MaxInt} {
			f := newFlow()
			f.State, f.Until = state, until
			if next, code := impl.FlowOpen(busyFlows(), f, 50); code != impl.OK || !slices.Equal(next, want) || next[3].State != impl.FoNew || next[3].Until != 53 {
				t.Errorf("State %d, Until %d: %d, %v", state, until, code, next)
			}
		}
	}
}

func TestFlowsOpenOnce(t *testing.T) {
	for _, list := range [][]impl.Flow{busyFlows(), manyFlows(8), alikeFlows()} {
		for k := range list {
			for _, f := range alikeEnds(list[k]) {
				next, code := impl.FlowOpen(list, f, 50)
				if code != impl.ErrTwice || !slices.Equal(next, list) {
					t.Errorf("%v was opened twice: %d, %v", f, code, next)
				}
			}
		}
	}
	for k := range busyFlows() {
		for _, f := range nearEnds(busyFlows()[k]) {
			if next, code := impl.FlowOpen(busyFlows(), f, 50); code != impl.OK || len(next) != 4 || !impl.FlowsOK(next) {
				t.Errorf("%v was not opened: %d", f, code)
			}
		}
	}
}

// A flow whose Until has come is there until it is swept.
func TestFlowsOpenOnceEvenIfTheirTimeCame(t *testing.T) {
	list := busyFlows()
	f := list[0]
	if next, code := impl.FlowOpen(list, f, impl.MaxNow); code != impl.ErrTwice || !slices.Equal(next, list) {
		t.Errorf("opened twice: %d, %v", code, next)
	}
	swept, _ := impl.FlowsExpire(list, f.Until)
	if next, code := impl.FlowOpen(swept, f, f.Until); code != impl.OK || next[len(next)-1].Owner != f.Owner {
		t.Errorf("not opened again: %d, %v", code, next)
	}
}

func TestFlowsWithoutRoom(t *testing.T) {
	list := manyFlows(8)
	if next, code := impl.FlowOpen(list, newFlow(), 50); code != impl.ErrFull || !slices.Equal(next, list) {
		t.Errorf("a ninth flow: %d, %v", code, next)
	}
	if next, code := impl.FlowOpen(list[:7], newFlow(), 50); code != impl.OK || len(next) != 8 {
		t.Errorf("an eighth flow: %d, %v", code, next)
	}
}

func TestWrongFlowsAreNotOpened(t *testing.T) {
	hold := func(f impl.Flow) {
		t.Helper()
		for _, list := range [][]impl.Flow{nil, busyFlows(), manyFlows(8)} {
			for _, now := range []int{50, -1, impl.MaxNow + 1} {
				if next, code := impl.FlowOpen(list, f, now); code != impl.ErrBad || len(next) != 0 {
					t.Errorf("FlowOpen of %.200v at %d: %d, %v", f, now, code, next)
				}
			}
		}
	}
	for _, n := range flowNumbers() {
		if n.name == "State" || n.name == "Until" {
			continue
		}
		for _, wrong := range []int{math.MinInt, n.low - 1, n.high + 1, n.high + 1<<32, math.MaxInt} {
			f := newFlow()
			*n.number(&f) = wrong
			hold(f)
		}
		for _, right := range []int{n.low, n.high} {
			f := newFlow()
			*n.number(&f) = right
			if next, code := impl.FlowOpen(busyFlows(), f, 50); code != impl.OK || len(next) != 4 || !impl.FlowsOK(next) {
				t.Errorf("%s of %d: %d, %v", n.name, right, code, next)
			}
		}
	}
	for _, mac := range wrongMacs() {
		f := newFlow()
		f.Mac = mac
		hold(f)
	}
	hold(impl.Flow{})
}

// openFault is a fault that a call of FlowOpen may have, beside others.
type openFault struct {
	code  int
	empty bool
	set   func(a *openAsk)
}

type openAsk struct {
	list []impl.Flow
	f    impl.Flow
	now  int
}

func TestFaultsOfOpeningInTheirOrder(t *testing.T) {
	faults := []openFault{
		{impl.ErrBad, true, func(a *openAsk) { a.list[7].Owner = 10001 }},
		{impl.ErrBad, true, func(a *openAsk) { a.f.Mac = "" }},
		{impl.ErrRange, true, func(a *openAsk) { a.now = impl.MaxNow + 1 }},
		{impl.ErrTwice, false, func(a *openAsk) { a.f.SrcPort = a.list[3].SrcPort }},
		{impl.ErrFull, false, func(a *openAsk) {}},
	}
	for set := range 1 << (len(faults) - 1) {
		a := openAsk{manyFlows(8), manyFlows(9)[8], 50}
		first := faults[len(faults)-1]
		for k := len(faults) - 2; k >= 0; k-- {
			if set>>k&1 == 1 {
				faults[k].set(&a)
				first = faults[k]
			}
		}
		want := a.list
		if first.empty {
			want = nil
		}
		if next, code := impl.FlowOpen(a.list, a.f, a.now); code != first.code || !slices.Equal(next, want) {
			t.Errorf("faults %b: %d, not %d, %v", set, code, first.code, next)
		}
	}
}

// Every state, way and set of flags, of each place.
func TestFlowsPass(t *testing.T) {
	for _, proto := range []int{0, 1, 5, 6, 7, 17, 255} {
		for state := 1; state <= 3; state++ {
			for flags := range 32 {
				for _, back := range []bool{false, true} {
					for _, now := range []int{0, 50, impl.MaxNow} {
						holdPassed(t, proto, state, flags, back, now)
					}
				}
			}
		}
	}
}

func holdPassed(t *testing.T, proto, state, flags int, back bool, now int) {
	t.Helper()
	for k := range 3 {
		list := busyFlows()
		list[k].Proto, list[k].State = proto, state
		next, code := impl.FlowPass(list, k, back, flags, now)
		if want := passedByHand(list, k, back, flags, now); code != impl.OK || !slices.Equal(next, want) || !impl.FlowsOK(next) {
			t.Errorf("proto %d, state %d, flags %d, back %v at %d, place %d: %d, %v, not %v", proto, state, flags, back, now, k, code, next, want)
		}
	}
}

func TestPassesWrittenOut(t *testing.T) {
	for _, row := range []struct {
		proto, state int
		back         bool
		flags        int
		want, until  int
	}{
		{6, impl.FoNew, false, impl.FlSyn, impl.FoNew, 53},
		{6, impl.FoNew, true, impl.FlSyn | impl.FlAck, impl.FoOpen, 80},
		{6, impl.FoNew, false, impl.FlFin, impl.FoClosing, 53},
		{6, impl.FoNew, true, impl.FlFin, impl.FoClosing, 53},
		{6, impl.FoNew, true, impl.FlRst, 0, 0},
		{6, impl.FoOpen, false, 0, impl.FoOpen, 80},
		{6, impl.FoOpen, true, impl.FlPsh | impl.FlAck, impl.FoOpen, 80},
		{6, impl.FoOpen, true, impl.FlFin | impl.FlAck, impl.FoClosing, 53},
		{6, impl.FoOpen, false, impl.FlRst | impl.FlFin, 0, 0},
		{6, impl.FoClosing, true, impl.FlAck, impl.FoClosing, 53},
		{6, impl.FoClosing, false, impl.FlSyn, impl.FoClosing, 53},
		{6, impl.FoClosing, true, 31, 0, 0},
		{17, impl.FoNew, false, 0, impl.FoNew, 55},
		{17, impl.FoNew, true, 0, impl.FoOpen, 55},
		{17, impl.FoNew, false, impl.FlRst | impl.FlFin, impl.FoNew, 55},
		{17, impl.FoNew, true, impl.FlRst | impl.FlFin, impl.FoOpen, 55},
		{17, impl.FoOpen, false, 31, impl.FoOpen, 55},
		{1, impl.FoClosing, true, 31, impl.FoClosing, 55},
		{0, impl.FoNew, true, impl.FlFin, impl.FoOpen, 55},
	} {
		f := newFlow()
		// Until is set by the time that comes in, even if that is less.
		f.Proto, f.State, f.Until = row.proto, row.state, impl.MaxNow+100
		var want []impl.Flow
		if row.want != 0 {
			want = []impl.Flow{f}
			want[0].State, want[0].Until = row.want, row.until
		}
		if next, code := impl.FlowPass([]impl.Flow{f}, 0, row.back, row.flags, 50); code != impl.OK || !slices.Equal(next, want) {
			t.Errorf("%v: %d, %v", row, code, next)
		}
	}
}

func TestPlacesOfFlows(t *testing.T) {
	for _, list := range [][]impl.Flow{nil, busyFlows()[:1], busyFlows(), manyFlows(8)} {
		for _, k := range []int{math.MinInt, -1 << 32, -1, len(list), len(list) + 1, 8, 1 << 32, math.MaxInt} {
			for _, flags := range []int{0, impl.FlRst, 32} {
				if next, code := impl.FlowPass(list, k, true, flags, 50); code != impl.ErrRange || len(next) != 0 {
					t.Errorf("place %d of %d: %d, %v", k, len(list), code, next)
				}
			}
		}
		for k := range list {
			next, code := impl.FlowPass(list, k, false, impl.FlRst, 50)
			want := passedByHand(list, k, false, impl.FlRst, 50)
			if code != impl.OK || !slices.Equal(next, want) {
				t.Errorf("place %d of %d: %d, %v", k, len(list), code, next)
			}
		}
	}
}

func TestPassesOutOfRange(t *testing.T) {
	for _, flags := range []int{math.MinInt, -31, -1, 32, 33, 63, 1 << 32, 1<<32 + 4, math.MaxInt} {
		if next, code := impl.FlowPass(busyFlows(), 0, true, flags, 50); code != impl.ErrRange || len(next) != 0 {
			t.Errorf("flags %d: %d, %v", flags, code, next)
		}
	}
	for _, now := range wrongTimes() {
		for _, flags := range []int{0, impl.FlRst} {
			if next, code := impl.FlowPass(busyFlows(), 0, true, flags, now); code != impl.ErrRange || len(next) != 0 {
				t.Errorf("at %d: %d, %v", now, code, next)
			}
		}
	}
}

func TestTimesOfFlowsCome(t *testing.T) {
	untils := []int{0, 1, 49, 50, 51, 99999, impl.MaxNow, impl.MaxNow + 1, impl.MaxNow + 99, impl.MaxNow + 100}
	for _, until := range untils {
		for _, now := range []int{0, 1, 48, 49, 50, 51, 52, 99998, 99999, impl.MaxNow} {
			for k := range 3 {
				list := busyFlows()
				for i := range list {
					list[i].Until = impl.MaxNow + 50
				}
				list[k].Until = until
				want := slices.Clone(list)
				if now >= until {
					want = slices.Delete(want, k, k+1)
				}
				if left, code := impl.FlowsExpire(list, now); code != impl.OK || !slices.Equal(left, want) {
					t.Errorf("Until %d at %d: %d, %v", until, now, code, left)
				}
			}
		}
	}
}

// Of eight flows each may go or stay; those that stay keep their order.
func TestSeveralFlowsGo(t *testing.T) {
	for set := range 256 {
		list := manyFlows(8)
		var want []impl.Flow
		for k := range list {
			list[k].Until, list[k].Owner = 50, 7
			if set>>k&1 == 1 {
				list[k].Until, list[k].Owner = 51, 8
				want = append(want, list[k])
			}
		}
		if left, code := impl.FlowsExpire(list, 50); code != impl.OK || !slices.Equal(left, want) {
			t.Errorf("FlowsExpire, set %b: %d, %v", set, code, left)
		}
		if left, code := impl.FlowsDrop(list, 7); code != impl.OK || !slices.Equal(left, want) {
			t.Errorf("FlowsDrop, set %b: %d, %v", set, code, left)
		}
	}
}

func TestFlowsGoAtTheirWait(t *testing.T) {
	for _, proto := range []int{0, 1, 6, 17, 255} {
		f := newFlow()
		f.Proto = proto
		list, _ := impl.FlowOpen(nil, f, 100)
		for _, back := range []bool{false, true} {
			passed, _ := impl.FlowPass(list, 0, back, 0, 101)
			wait, _ := impl.FlowWait(proto, passed[0].State)
			if left, code := impl.FlowsExpire(passed, 100+wait); len(left) != 1 || code != impl.OK {
				t.Errorf("proto %d, back %v: gone ahead of its time, %d", proto, back, code)
			}
			if left, code := impl.FlowsExpire(passed, 101+wait); len(left) != 0 || code != impl.OK {
				t.Errorf("proto %d, back %v: there behind its time, %d", proto, back, code)
			}
		}
	}
}

func TestExpiringOutOfRange(t *testing.T) {
	for _, now := range wrongTimes() {
		for _, list := range [][]impl.Flow{nil, busyFlows(), manyFlows(8)} {
			if left, code := impl.FlowsExpire(list, now); code != impl.ErrRange || len(left) != 0 {
				t.Errorf("FlowsExpire at %d: %d, %v", now, code, left)
			}
		}
	}
}

func TestFlowsGoWithTheirOwners(t *testing.T) {
	owners := []int{0, 1, 2, 9999, 10000}
	for _, a := range owners {
		for _, b := range owners {
			for _, owner := range owners {
				list := busyFlows()
				list[0].Owner, list[1].Owner, list[2].Owner = a, b, a
				var want []impl.Flow
				for _, f := range list {
					if f.Owner != owner {
						want = append(want, f)
					}
				}
				left, code := impl.FlowsDrop(list, owner)
				if code != impl.OK || !slices.Equal(left, want) {
					t.Errorf("owners %d and %d, without %d: %d, %v", a, b, owner, code, left)
				}
				if again, code := impl.FlowsDrop(left, owner); code != impl.OK || !slices.Equal(again, want) {
					t.Errorf("owners %d and %d, without %d again: %d, %v", a, b, owner, code, again)
				}
			}
		}
	}
	for _, owner := range []int{math.MinInt, -10000, -1, 10001, 1 << 32, 1<<32 + 3, math.MaxInt} {
		for _, list := range [][]impl.Flow{nil, busyFlows(), manyFlows(8)} {
			if left, code := impl.FlowsDrop(list, owner); code != impl.ErrRange || len(left) != 0 {
				t.Errorf("FlowsDrop of %d: %d, %v", owner, code, left)
			}
		}
	}
}

// With wrong flows each call is ErrBad, with too many ErrLong, whatever else is wrong.
func TestCallsOfWrongFlows(t *testing.T) {
	hold := func(list []impl.Flow, want int) {
		t.Helper()
		for name, do := range flowChanges() {
			if next, code := do(list); code != want || len(next) != 0 {
				t.Errorf("%s of wrong flows %.200v: %d, %v", name, list, code, next)
			}
		}
		for _, proto := range []int{6, -1, 256} {
			if k, back, code := impl.FlowFind(list, proto, 10, 1000, 20, 80); k != 0 || back || code != want {
				t.Errorf("FlowFind of wrong flows %.200v: %d, %v, %d", list, k, back, code)
			}
		}
	}
	for _, list := range wrongFlows() {
		hold(list, impl.ErrBad)
	}
	for _, size := range []int{9, 10, impl.MaxList} {
		hold(manyFlows(size), impl.ErrBad)
		hold(make([]impl.Flow, size), impl.ErrBad)
	}
	for _, size := range []int{impl.MaxList + 1, impl.MaxList + 2} {
		hold(manyFlows(size), impl.ErrLong)
		hold(make([]impl.Flow, size), impl.ErrLong)
	}
}

// Whatever comes: flows stay right, and are what they are by hand.
func TestWalksOfFlows(t *testing.T) {
	for seed := range 60 {
		chance := rand.New(rand.NewSource(int64(seed)))
		var list []impl.Flow
		now := 0
		for range 300 {
			now += chance.Intn(2)
			next, want := flowStep(chance, list, now)
			if !slices.Equal(next, want) || !impl.FlowsOK(next) {
				t.Fatalf("seed %d at %d: %v became %v, not %v", seed, now, list, next, want)
			}
			list = next
		}
	}
}

func flowStep(chance *rand.Rand, list []impl.Flow, now int) ([]impl.Flow, []impl.Flow) {
	f := randomFlow(chance)
	k, back, code := findByHand(list, f.Proto, f.SrcIp, f.SrcPort, f.DstIp, f.DstPort)
	switch chance.Intn(8) {
	case 0:
		next, _ := impl.FlowsExpire(list, now)
		return next, slices.DeleteFunc(slices.Clone(list), func(f impl.Flow) bool { return now >= f.Until })
	case 1:
		next, _ := impl.FlowsDrop(list, f.Owner)
		return next, slices.DeleteFunc(slices.Clone(list), func(o impl.Flow) bool { return o.Owner == f.Owner })
	case 2, 3, 4:
		next, _ := impl.FlowOpen(list, f, now)
		if code == impl.OK || len(list) == 8 {
			return next, list
		}
		f.State, f.Until = impl.FoNew, now+5
		if f.Proto == 6 {
			f.Until = now + 3
		}
		return next, append(slices.Clone(list), f)
	}
	if code != impl.OK {
		return list, list
	}
	flags := chance.Intn(32)
	next, _ := impl.FlowPass(list, k, back, flags, now)
	return next, passedByHand(list, k, back, flags, now)
}

func TestFlowsHandedInStayAsTheyWere(t *testing.T) {
	for name, do := range flowChanges() {
		for _, size := range []int{0, 1, 3} {
			list := roomyFlows()[:size]
			do(list)
			// What stands behind the end must stay, too.
			if !slices.Equal(list[:cap(list)], roomyFlows()[:cap(list)]) {
				t.Errorf("%s changed what it was handed: %v", name, list[:cap(list)])
			}
		}
	}
	list := roomyFlows()
	impl.FlowsOK(list)
	impl.FlowFind(list, 6, 20, 80, 10, 1000)
	if !slices.Equal(list[:cap(list)], roomyFlows()[:cap(list)]) {
		t.Errorf("flows that were looked at changed: %v", list[:cap(list)])
	}
}

func TestFlowsAnsweredAreNewMemory(t *testing.T) {
	for name, do := range flowChanges() {
		list := roomyFlows()
		next, _ := do(list)
		want := slices.Clone(next)
		// What is changed in what was handed in is not seen in the answer, ..
		clear(list[:cap(list)])
		if !slices.Equal(next, want) {
			t.Errorf("%s answers what it was handed", name)
		}
		// .. nor the other way round, nor from one answer to the next.
		list = roomyFlows()
		other, _ := do(list)
		clear(other[:cap(other)])
		clear(next[:cap(next)])
		if again, _ := do(list); !slices.Equal(again, want) || !slices.Equal(list, roomyFlows()) {
			t.Errorf("%s was changed through its answer", name)
		}
	}
}

// What stands behind the end of a list is not of it, and an empty list is nil.
func TestListsOfFlowsEndAtTheirEnd(t *testing.T) {
	for name, do := range flowChanges() {
		a, code := do(roomyFlows())
		if b, other := do(busyFlows()); code != other || !slices.Equal(a, b) {
			t.Errorf("%s sees what stands behind the end: %d, %v, not %d, %v", name, code, a, other, b)
		}
		a, code = do(nil)
		if b, other := do([]impl.Flow{}); code != other || !slices.Equal(a, b) {
			t.Errorf("%s tells an empty list from nil: %d, %v, %d, %v", name, code, a, other, b)
		}
	}
	if !impl.FlowsOK(nil) || !impl.FlowsOK([]impl.Flow{}) {
		t.Error("no flows are wrong")
	}
}

// flowChanges has each way of the calls that answer flows, with what else they
// are handed right and wrong, of busyFlows.
func flowChanges() map[string]func(list []impl.Flow) ([]impl.Flow, int) {
	calls := map[string]func(list []impl.Flow) ([]impl.Flow, int){}
	twice, wrong := busyFlows()[1], newFlow()
	wrong.Mac = ""
	for _, now := range []int{50, -1, impl.MaxNow + 1} {
		for k, f := range []impl.Flow{newFlow(), twice, wrong} {
			calls[fmt.Sprintf("FlowOpen of %d at %d", k, now)] = func(list []impl.Flow) ([]impl.Flow, int) { return impl.FlowOpen(list, f, now) }
		}
		for _, k := range []int{-1, 0, 1, 2, 3} {
			for _, flags := range []int{0, impl.FlRst, impl.FlFin, 32} {
				calls[fmt.Sprintf("FlowPass of %d with %d at %d", k, flags, now)] = func(list []impl.Flow) ([]impl.Flow, int) {
					return impl.FlowPass(list, k, true, flags, now)
				}
			}
		}
	}
	for _, now := range []int{-1, 0, 40, 60, impl.MaxNow, impl.MaxNow + 1} {
		calls[fmt.Sprintf("FlowsExpire at %d", now)] = func(list []impl.Flow) ([]impl.Flow, int) { return impl.FlowsExpire(list, now) }
	}
	for _, owner := range []int{-1, 0, 3, 5, 10000, 10001} {
		calls[fmt.Sprintf("FlowsDrop of %d", owner)] = func(list []impl.Flow) ([]impl.Flow, int) { return impl.FlowsDrop(list, owner) }
	}
	return calls
}

// busyFlows has one flow of each state; all their numbers are far apart.
func busyFlows() []impl.Flow {
	return []impl.Flow{
		{Proto: impl.ProTcp, Mac: guestMac(1), SrcIp: 10, SrcPort: 1000, DstIp: 20, DstPort: 80, State: impl.FoOpen, Until: 60, Owner: 3},
		{Proto: impl.ProUdp, Mac: guestMac(2), SrcIp: 30, SrcPort: 2000, DstIp: 40, DstPort: 53, State: impl.FoNew, Until: 40, Owner: 0},
		{Proto: impl.ProTcp, Mac: guestMac(1), SrcIp: 50, SrcPort: 3000, DstIp: 60, DstPort: 443, State: impl.FoClosing, Until: 70, Owner: 5},
	}
}

// newFlow is one that busyFlows and manyFlows do not have.
func newFlow() impl.Flow {
	return impl.Flow{Proto: impl.ProTcp, Mac: guestMac(5), SrcIp: 70, SrcPort: 4000, DstIp: 80, DstPort: 8080, Owner: 9}
}

// roomyFlows is busyFlows with room behind its end, and flows in it.
func roomyFlows() []impl.Flow {
	return append(slices.Grow(busyFlows(), 9), newFlow(), busyFlows()[0], impl.Flow{Owner: -7})[:3]
}

// manyFlows differ by their first ports alone.
func manyFlows(size int) []impl.Flow {
	var list []impl.Flow
	for k := range size {
		list = append(list, impl.Flow{Proto: impl.ProTcp, Mac: guestMac(1), SrcIp: 10, SrcPort: 2000 + k, DstIp: 20, DstPort: 80, State: impl.FoNew, Until: 50 + k, Owner: 3})
	}
	return list
}

// alikeFlows have both ends alike each, and differ by their protos and ports.
func alikeFlows() []impl.Flow {
	var list []impl.Flow
	for _, proto := range []int{0, 6, 17, 255} {
		for _, port := range []int{0, 65535} {
			list = append(list, impl.Flow{Proto: proto, Mac: guestMac(2), SrcIp: 10, SrcPort: port, DstIp: 10, DstPort: port, State: impl.FoOpen})
		}
	}
	return list
}

func rightFlows() [][]impl.Flow {
	lists := [][]impl.Flow{nil, {}, busyFlows(), alikeFlows(), roomyFlows()}
	for size := range 9 {
		lists = append(lists, manyFlows(size))
	}
	change := func(set func(list []impl.Flow)) {
		list := busyFlows()
		set(list)
		lists = append(lists, list)
	}
	change(func(list []impl.Flow) { list[1].Mac = "\x00\x00\x00\x00\x00\x00" })
	change(func(list []impl.Flow) { list[1].Mac = "\xff\xff\xff\xff\xff\xff" })
	change(func(list []impl.Flow) { list[0].Mac, list[2].Mac = list[1].Mac, list[1].Mac })
	change(func(list []impl.Flow) { list[1].SrcIp, list[1].DstIp = impl.MaxAddress, 0 })
	change(func(list []impl.Flow) { list[1].SrcPort, list[1].DstPort = 0, 65535 })
	// Of different protos, the same ends, this way and turned round.
	change(func(list []impl.Flow) {
		list[1] = list[0]
		list[1].Proto = 17
		list[2] = turnedFlow(list[0])
		list[2].Proto = 1
	})
	change(func(list []impl.Flow) { list[1] = list[0]; list[1].Proto = 0; list[2] = list[0]; list[2].Proto = 255 })
	return lists
}

func wrongFlows() [][]impl.Flow {
	lists := [][]impl.Flow{{{}}, {{Mac: macA}}, {{State: 1}}, manyFlows(9), make([]impl.Flow, 9), append(manyFlows(8), alikeFlows()...)}
	change := func(set func(list []impl.Flow)) {
		list := busyFlows()
		set(list)
		lists = append(lists, list)
	}
	for k := range busyFlows() {
		for _, mac := range wrongMacs() {
			change(func(list []impl.Flow) { list[k].Mac = mac })
		}
		for _, state := range wrongStates() {
			change(func(list []impl.Flow) { list[k].State = state })
		}
		for _, n := range flowNumbers() {
			change(func(list []impl.Flow) { *n.number(&list[k]) = n.low - 1 })
			change(func(list []impl.Flow) { *n.number(&list[k]) = n.high + 1 })
		}
		for _, other := range alikeEnds(busyFlows()[k]) {
			lists = append(lists, append(busyFlows(), other))
		}
	}
	return lists
}

func wrongStates() []int {
	return []int{math.MinInt, -2, -1, 0, 4, 5, 1 << 32, 1<<32 + 1, math.MaxInt}
}

// flowNumber is a number of a flow, with its bounds.
type flowNumber struct {
	name      string
	low, high int
	number    func(f *impl.Flow) *int
}

func flowNumbers() []flowNumber {
	return []flowNumber{
		{"Proto", 0, 255, func(f *impl.Flow) *int { return &f.Proto }},
		{"SrcIp", 0, 1<<32 - 1, func(f *impl.Flow) *int { return &f.SrcIp }},
		{"SrcPort", 0, 65535, func(f *impl.Flow) *int { return &f.SrcPort }},
		{"DstIp", 0, 1<<32 - 1, func(f *impl.Flow) *int { return &f.DstIp }},
		{"DstPort", 0, 65535, func(f *impl.Flow) *int { return &f.DstPort }},
		{"State", 1, 3, func(f *impl.Flow) *int { return &f.State }},
		{"Until", 0, 100100, func(f *impl.Flow) *int { return &f.Until }},
		{"Owner", 0, 10000, func(f *impl.Flow) *int { return &f.Owner }},
	}
}

func turnedFlow(f impl.Flow) impl.Flow {
	f.SrcIp, f.SrcPort, f.DstIp, f.DstPort = f.DstIp, f.DstPort, f.SrcIp, f.SrcPort
	return f
}

// alikeEnds are flows with the ends of f, and with all else alike and not.
func alikeEnds(f impl.Flow) []impl.Flow {
	other := f
	other.Mac, other.State, other.Until, other.Owner = guestMac(9), f.State%3+1, f.Until+1, f.Owner+1
	return []impl.Flow{f, turnedFlow(f), other, turnedFlow(other)}
}

// nearEnds are flows of which one number of the ends is another one, or of
// which the addresses or the ports alone are turned round.
func nearEnds(f impl.Flow) []impl.Flow {
	var list []impl.Flow
	for _, n := range flowNumbers()[:5] {
		for _, step := range []int{-1, 1} {
			other := f
			*n.number(&other) += step
			list = append(list, other, turnedFlow(other))
		}
	}
	addresses, ports := f, f
	addresses.SrcIp, addresses.DstIp = f.DstIp, f.SrcIp
	ports.SrcPort, ports.DstPort = f.DstPort, f.SrcPort
	return append(list, addresses, ports)
}

// randomFlow is one of few, so that ends often meet.
func randomFlow(chance *rand.Rand) impl.Flow {
	return impl.Flow{Proto: []int{6, 6, 17}[chance.Intn(3)], Mac: guestMac(chance.Intn(3)), SrcIp: chance.Intn(2), SrcPort: chance.Intn(3), DstIp: chance.Intn(2), DstPort: chance.Intn(3),
		State: 1 + chance.Intn(3), Until: chance.Intn(100), Owner: chance.Intn(4)}
}

// findByHand goes by this way ahead of the way turned round.
func findByHand(list []impl.Flow, proto, a, ap, b, bp int) (int, bool, int) {
	for k, f := range list {
		if f.Proto == proto && f.SrcIp == a && f.SrcPort == ap && f.DstIp == b && f.DstPort == bp {
			return k, false, impl.OK
		}
	}
	for k, f := range list {
		if f.Proto == proto && f.SrcIp == b && f.SrcPort == bp && f.DstIp == a && f.DstPort == ap {
			return k, true, impl.OK
		}
	}
	return 0, false, impl.ErrNone
}

// passedByHand tells flags by their letters.
func passedByHand(list []impl.Flow, k int, back bool, flags, now int) []impl.Flow {
	next := slices.Clone(list)
	letters, _ := impl.FlagsText(flags)
	f := &next[k]
	if f.State == impl.FoNew && back {
		f.State = impl.FoOpen
	}
	f.Until = now + 5
	if f.Proto == impl.ProTcp {
		if strings.Contains(letters, "R") {
			return slices.Delete(next, k, k+1)
		}
		if strings.Contains(letters, "F") {
			f.State = impl.FoClosing
		}
		f.Until = now + map[int]int{impl.FoNew: 3, impl.FoOpen: 30, impl.FoClosing: 3}[f.State]
	}
	return next
}
