package tests

import (
	"fmt"
	"math"
	"reflect"
	"runtime"
	"slices"
	"strings"
	"sync"
	"testing"
	"time"

	"loop.example/g00356/impl"
)

func TestScriptConstants(t *testing.T) {
	if impl.MaxActs != 120 || impl.WoLan != 1 || impl.WoWan != 2 || impl.WoTick != 3 || impl.WoKick != 4 || impl.WoIsn != 5 {
		t.Error(impl.MaxActs, impl.WoLan, impl.WoWan, impl.WoTick, impl.WoKick, impl.WoIsn)
	}
}

// doneByHand is what ActDo must answer of a right gateway.
func doneByHand(g impl.Gateway, a impl.Act) (impl.Gateway, []impl.Out, int) {
	next, outs, code := g, []impl.Out(nil), impl.ErrForm
	switch a.Kind {
	case 1:
		return impl.LanIn(g, []byte(a.Bytes))
	case 2:
		return impl.WanIn(g, []byte(a.Bytes))
	case 3:
		next, outs, code = impl.TickGate(g)
	case 4:
		next, code = impl.KickGuest(g, a.N)
	case 5:
		next, code = impl.SetIsn(g, a.N)
	}
	if code != impl.OK {
		next = copiedGateway(g)
	}
	return next, outs, code
}

// runByHand is what ActsRun must answer of acts that it takes.
func runByHand(acts []impl.Act) (impl.Gateway, []impl.Out, []int) {
	g := impl.PlainGateway()
	var outs []impl.Out
	var codes []int
	for _, a := range acts {
		next, told, code := doneByHand(g, a)
		g, outs, codes = next, append(outs, told...), append(codes, code)
	}
	return g, outs, codes
}

func holdAct(t *testing.T, g impl.Gateway, a impl.Act, want impl.Gateway, wantOuts []impl.Out, wantCode int) {
	t.Helper()
	next, outs, code := impl.ActDo(g, a)
	if code != wantCode || !slices.Equal(outs, wantOuts) || !sameGateway(next, want) {
		t.Errorf("ActDo of %.600s: %d, %s,\n%s; not %d, %s,\n%s", legible(a), code, legible(outs), legible(next), wantCode, legible(wantOuts), legible(want))
	}
}

func holdRun(t *testing.T, name string, acts []impl.Act) {
	t.Helper()
	want, wantOuts, wantCodes := runByHand(acts)
	g, outs, codes, code := impl.ActsRun(acts)
	if code != impl.OK || !slices.Equal(outs, wantOuts) || !slices.Equal(codes, wantCodes) {
		t.Errorf("ActsRun, %s: %d, %v, %s; not %v, %s", name, code, codes, legible(outs), wantCodes, legible(wantOuts))
	}
	holdGateway(t, "ActsRun, "+name, g, want)
}

func holdRunFault(t *testing.T, name string, acts []impl.Act, want int) {
	t.Helper()
	g, outs, codes, code := impl.ActsRun(acts)
	if code != want || len(outs) != 0 || len(codes) != 0 || !sameGateway(g, impl.Gateway{}) {
		t.Errorf("ActsRun, %s: %d, %v, %s, %s; not %d", name, code, codes, legible(outs), legible(g), want)
	}
}

// otherKinds are the Kinds of no act.
func otherKinds() []int {
	return []int{math.MinInt, -1 << 32, -5, -1, 0, 6, 7, 1<<32 + 1, 1<<32 + 3, math.MaxInt}
}

// sampleActs has each Kind, and others, with numbers and bytes of all kinds.
func sampleActs() []impl.Act {
	var acts []impl.Act
	for _, b := range sampleFrames() {
		for _, kind := range []int{impl.WoLan, impl.WoWan} {
			acts = append(acts, impl.Act{Kind: kind, Bytes: string(b)})
		}
	}
	for _, n := range []int{math.MinInt, -1, 0, 1, 4, 5, 6, 7, 8, 10000, 10001, impl.MaxAddress, impl.MaxAddress + 1, math.MaxInt} {
		for kind := -1; kind <= 7; kind++ {
			acts = append(acts, impl.Act{Kind: kind, N: n}, impl.Act{Kind: kind, N: n, Bytes: string(gateFrame(1, tcpOf(1, far, 4000, 443, "S", "")))})
		}
	}
	for _, kind := range otherKinds() {
		acts = append(acts, impl.Act{Kind: kind, N: 5}, impl.Act{Kind: kind, Bytes: "junk"})
	}
	return acts
}

// Frames of both sides do what LanIn and WanIn do, whatever N is.
func TestFramesAreActs(t *testing.T) {
	for _, g := range []impl.Gateway{impl.PlainGateway(), busyGateway(), fullGateway()} {
		for _, b := range sampleFrames() {
			for _, n := range []int{0, 5, -1, math.MaxInt} {
				want, outs, code := impl.LanIn(g, b)
				holdAct(t, g, impl.Act{Kind: impl.WoLan, N: n, Bytes: string(b)}, want, outs, code)
				want, outs, code = impl.WanIn(g, b)
				holdAct(t, g, impl.Act{Kind: impl.WoWan, N: n, Bytes: string(b)}, want, outs, code)
			}
		}
	}
}

// A frame that is refused is a drop more; what ended by it has ended.
func TestFramesThatAreRefusedLeaveWhatTheyLeft(t *testing.T) {
	g := busyGateway()
	dropped := copiedGateway(g)
	dropped.Drops = 12
	for name, f := range framesThatAreNone() {
		for _, kind := range []int{impl.WoLan, impl.WoWan} {
			next, outs, code := impl.ActDo(g, impl.Act{Kind: kind, Bytes: string(f.b)})
			if code != f.code || len(outs) != 0 || !sameGateway(next, dropped) {
				t.Errorf("ActDo of %d, %s: %d, %s, %s", kind, name, code, legible(outs), legible(next))
			}
		}
	}
	spent := endedBy(g, 0, impl.CaQuota)
	spent.Drops = 12
	holdAct(t, g, impl.Act{Kind: impl.WoLan, Bytes: string(gateFrame(1, sized(1, 301, false, 1000)))}, spent, nil, impl.ErrSpent)
	holdAct(t, g, impl.Act{Kind: impl.WoWan, Bytes: string(wanFrame(sized(1, 301, true, 1000)))}, spent, nil, impl.ErrSpent)
	moved := endedBy(g, 0, impl.CaMoved)
	moved.Drops = 12
	holdAct(t, g, impl.Act{Kind: impl.WoLan, Bytes: string(gateFrame(9, udpOf(1, far, 1, 1, "")))}, moved, nil, impl.ErrUser)
}

func TestTicksAreActs(t *testing.T) {
	g := busyGateway()
	for range 20 {
		want, outs, code := impl.TickGate(g)
		if code != impl.OK {
			t.Fatal(code)
		}
		for _, n := range []int{0, 5, -1} {
			holdAct(t, g, impl.Act{Kind: impl.WoTick, N: n, Bytes: "junk"}, want, outs, impl.OK)
		}
		g = want
	}
	// At the last time there is none more; the gateway is as it was.
	for _, g := range []impl.Gateway{impl.PlainGateway(), busyGateway(), fullGateway()} {
		g.Now = impl.MaxNow
		holdAct(t, g, impl.Act{Kind: impl.WoTick}, g, nil, impl.ErrMany)
		g.Drops = 1000000
		holdAct(t, g, impl.Act{Kind: impl.WoTick}, g, nil, impl.ErrMany)
	}
}

func TestKicksAreActs(t *testing.T) {
	for k, id := range []int{5, 7} {
		for _, bytes := range []string{"", "junk"} {
			g := busyGateway()
			holdAct(t, g, impl.Act{Kind: impl.WoKick, N: id, Bytes: bytes}, endedBy(g, k, impl.CaKick), nil, impl.OK)
		}
	}
	for _, g := range []impl.Gateway{impl.PlainGateway(), busyGateway()} {
		for _, id := range []int{math.MinInt, -5, -1, 0, 1, 4, 6, 8, 10000, 1<<32 + 5, math.MaxInt} {
			holdAct(t, g, impl.Act{Kind: impl.WoKick, N: id}, g, nil, impl.ErrNone)
		}
	}
}

// With ErrRange SetIsn answers an empty gateway; an act leaves it as it was.
func TestNumbersAreActs(t *testing.T) {
	for _, g := range rightGateways() {
		for _, isn := range append(roundNumbers(), 0, 1, 4294967295) {
			want := copiedGateway(g)
			want.Isn = isn
			holdAct(t, g, impl.Act{Kind: impl.WoIsn, N: isn}, want, nil, impl.OK)
		}
		for _, isn := range append(outside(4), -1, 4294967296) {
			holdAct(t, g, impl.Act{Kind: impl.WoIsn, N: isn, Bytes: "junk"}, g, nil, impl.ErrRange)
		}
	}
}

func TestActsOfOtherKinds(t *testing.T) {
	frame := string(gateFrame(1, tcpOf(1, far, 1000, 443, "A", "")))
	for _, g := range rightGateways() {
		for _, kind := range otherKinds() {
			for _, n := range []int{0, 5, -1} {
				holdAct(t, g, impl.Act{Kind: kind, N: n}, g, nil, impl.ErrForm)
				holdAct(t, g, impl.Act{Kind: kind, N: n, Bytes: frame}, g, nil, impl.ErrForm)
			}
		}
	}
}

func TestActsAsByHand(t *testing.T) {
	acts := sampleActs()
	for k, g := range rightGateways() {
		for i := range 40 {
			a := acts[(40*k+i)%len(acts)]
			want, outs, code := doneByHand(g, a)
			holdAct(t, g, a, want, outs, code)
		}
	}
	for _, a := range acts {
		for _, g := range []impl.Gateway{impl.PlainGateway(), busyGateway()} {
			want, outs, code := doneByHand(g, a)
			holdAct(t, g, a, want, outs, code)
		}
	}
}

// ErrBad comes ahead of an act's codes, those of no act too, and is empty.
func TestActsOfWrongGateways(t *testing.T) {
	for _, g := range wrongGateways() {
		for kind := -1; kind <= 7; kind++ {
			for _, n := range []int{-1, 5, 6} {
				for _, bytes := range []string{"", "junk", string(gateFrame(1, tcpOf(1, far, 1000, 443, "A", "")))} {
					holdAct(t, g, impl.Act{Kind: kind, N: n, Bytes: bytes}, impl.Gateway{}, nil, impl.ErrBad)
				}
			}
		}
		g.Now = impl.MaxNow
		if !impl.GatewayOK(g) {
			holdAct(t, g, impl.Act{Kind: impl.WoTick}, impl.Gateway{}, nil, impl.ErrBad)
		}
	}
}

// What is too long is so for LanIn and WanIn; other acts do not read it.
func TestActsOfLongBytes(t *testing.T) {
	most, more := strings.Repeat("b", impl.MaxText), strings.Repeat("b", impl.MaxText+1)
	for _, g := range []impl.Gateway{impl.PlainGateway(), busyGateway()} {
		dropped := copiedGateway(g)
		dropped.Drops++
		for _, kind := range []int{impl.WoLan, impl.WoWan} {
			holdAct(t, g, impl.Act{Kind: kind, Bytes: most}, dropped, nil, impl.ErrForm)
			holdAct(t, g, impl.Act{Kind: kind, Bytes: more}, impl.Gateway{}, nil, impl.ErrLong)
			holdAct(t, impl.Gateway{}, impl.Act{Kind: kind, Bytes: most}, impl.Gateway{}, nil, impl.ErrBad)
			holdAct(t, impl.Gateway{}, impl.Act{Kind: kind, Bytes: more}, impl.Gateway{}, nil, impl.ErrLong)
		}
		for _, kind := range []int{-1, 0, 3, 4, 5, 6} {
			want, outs, code := doneByHand(g, impl.Act{Kind: kind, N: 5})
			holdAct(t, g, impl.Act{Kind: kind, N: 5, Bytes: more}, want, outs, code)
			holdAct(t, impl.Gateway{}, impl.Act{Kind: kind, N: 5, Bytes: more}, impl.Gateway{}, nil, impl.ErrBad)
		}
	}
}

func TestScriptsWithoutActs(t *testing.T) {
	for _, acts := range [][]impl.Act{nil, {}} {
		g, outs, codes, code := impl.ActsRun(acts)
		if code != impl.OK || len(outs) != 0 || len(codes) != 0 || !sameGateway(g, impl.PlainGateway()) {
			t.Errorf("ActsRun of nothing: %d, %v, %s, %s", code, codes, legible(outs), legible(g))
		}
	}
}

func TestScriptsOfOneAct(t *testing.T) {
	for _, a := range sampleActs() {
		holdRun(t, legible(a), []impl.Act{a})
	}
}

// What each act leaves is what the next one meets, those with a code too.
func TestScriptsOfManyActs(t *testing.T) {
	acts := sampleActs()
	for first := 0; first < len(acts); first += 17 {
		for _, size := range []int{2, 3, 60, 119, 120} {
			holdRun(t, fmt.Sprintf("%d from %d on", size, first), acts[first:min(len(acts), first+size)])
		}
	}
	ticks := slices.Repeat([]impl.Act{{Kind: impl.WoTick}}, 120)
	g, outs, codes, code := impl.ActsRun(ticks)
	if code != impl.OK || g.Now != 120 || len(outs) != 0 || !slices.Equal(codes, make([]int, 120)) {
		t.Errorf("120 ticks: %d, %v, %s, %s", code, codes, legible(outs), legible(g))
	}
	holdRun(t, "120 frames that are none", slices.Repeat([]impl.Act{{Kind: impl.WoWan}, {Kind: impl.WoLan}}, 60))
	holdRun(t, "120 of no Kind", slices.Repeat([]impl.Act{{Kind: 6}, {}, {Kind: -1}}, 40))
}

// Faults of scripts: ErrLong of what is too long a list, ErrMany of what is
// too many acts, ErrLong of Bytes, in whichever act, of whichever Kind.
func TestFaultsOfScriptsInTheirOrder(t *testing.T) {
	most, more := strings.Repeat("b", impl.MaxText), strings.Repeat("b", impl.MaxText+1)
	for _, size := range []int{1, 2, 119, 120, 121, 122, 4095, 4096, 4097, 5000} {
		for _, place := range []int{-1, 0, size / 2, size - 1} {
			for kind := range 7 {
				acts := slices.Repeat([]impl.Act{{Kind: impl.WoIsn, N: 5}}, size)
				want := impl.OK
				if place >= 0 {
					acts[place] = impl.Act{Kind: kind, Bytes: more}
					want = impl.ErrLong
				}
				switch {
				case size > impl.MaxList:
					want = impl.ErrLong
				case size > 120:
					want = impl.ErrMany
				}
				if want != impl.OK {
					holdRunFault(t, fmt.Sprintf("%d acts, %d at %d", size, kind, place), acts, want)
				} else if size < 3 {
					holdRun(t, fmt.Sprintf("%d acts", size), acts)
				}
			}
		}
	}
	for _, place := range []int{0, 1, 119} {
		for kind := range 7 {
			acts := slices.Repeat([]impl.Act{{Kind: impl.WoIsn, N: 5}}, 120)
			acts[place] = impl.Act{Kind: kind, Bytes: most}
			holdRun(t, fmt.Sprintf("most bytes of %d at %d", kind, place), acts)
		}
	}
	holdRunFault(t, "all too long", slices.Repeat([]impl.Act{{Kind: impl.WoLan, Bytes: more}}, 120), impl.ErrLong)
}

// actChanges has ActDo of each sample act, as gateChanges has other calls.
func actChanges() map[string]func(g impl.Gateway) (impl.Gateway, []impl.Out, int) {
	calls := map[string]func(g impl.Gateway) (impl.Gateway, []impl.Out, int){}
	for _, a := range sampleActs() {
		calls["ActDo of "+legible(a)] = func(g impl.Gateway) (impl.Gateway, []impl.Out, int) { return impl.ActDo(g, a) }
	}
	for _, kind := range []int{impl.WoTick, 6} {
		calls[fmt.Sprintf("ActDo of %d at MaxNow", kind)] = func(g impl.Gateway) (impl.Gateway, []impl.Out, int) {
			g.Now = impl.MaxNow
			return impl.ActDo(g, impl.Act{Kind: kind})
		}
	}
	return calls
}

// busyScript logs in, sends, is answered, moves, and meets codes of all kinds.
func busyScript() []impl.Act {
	s := newScript()
	s.isn(impl.MaxAddress)
	s.lan(arpFrame(everyone, guestMac(1), impl.Arp{Op: 1, SrcMac: guestMac(1), SrcIp: guestIp(1), DstMac: everyone, DstIp: s.g.Config.Gate}))
	s.visit(1, far, postOf("/login", "name=ann&word=apple"))
	s.visit(2, far, postOf("/login", "name=bob&word=wrong"))
	s.lan(gateFrame(1, tcpOf(1, far, 1000, 443, "S", "")))
	s.lan(gateFrame(3, tcpOf(3, quadNine, 1000, 443, "S", "")))
	s.wan(wanFrame(tcpTo(1, far, 443, 1000, "SA", "")))
	s.ticks(2)
	s.lan(gateFrame(2, visitPacket(2, far, 10, 0, "S", "")))
	s.do(impl.Act{Kind: 6})
	s.kick(9)
	return s.acts
}

func TestScriptsHandedInStayAsTheyWere(t *testing.T) {
	for _, acts := range [][]impl.Act{busyScript(), nil, slices.Repeat([]impl.Act{{}}, 121), {{Kind: impl.WoLan, Bytes: strings.Repeat("b", impl.MaxText+1)}}} {
		room := append(slices.Clone(acts), impl.Act{Kind: impl.WoTick}, impl.Act{Kind: impl.WoKick, N: 1}, impl.Act{Kind: 7})
		before := slices.Clone(room)
		g, outs, codes, code := impl.ActsRun(room[:len(acts)])
		if !slices.Equal(room, before) {
			t.Errorf("ActsRun changed what it was handed: %s", legible(room))
		}
		// Nor does it hang on what stands behind the end.
		again, others, otherCodes, other := impl.ActsRun(slices.Clip(slices.Clone(acts)))
		if code != other || !slices.Equal(codes, otherCodes) || !slices.Equal(outs, others) || !sameGateway(g, again) {
			t.Error("ActsRun sees what stands behind the end")
		}
	}
}

func TestScriptsAnsweredAreNewMemory(t *testing.T) {
	acts := busyScript()
	want, wantOuts, wantCodes := runByHand(acts)
	for range 3 {
		given := slices.Clone(acts)
		g, outs, codes, _ := impl.ActsRun(given)
		clear(given)
		if !sameGateway(g, want) || !slices.Equal(outs, wantOuts) || !slices.Equal(codes, wantCodes) {
			t.Error("ActsRun was changed through an argument or an answer")
		}
		wipeGateway(g)
		clear(outs[:cap(outs)])
		clear(codes[:cap(codes)])
	}
}

// Runs do not meet one another, and nothing of one goes on behind its answer.
func TestScriptsAtOneTime(t *testing.T) {
	acts := busyScript()
	want, wantOuts, wantCodes := runByHand(acts)
	before := runtime.NumGoroutine()
	var running sync.WaitGroup
	for range 8 {
		running.Go(func() {
			for range 10 {
				g, outs, codes, code := impl.ActsRun(acts)
				if code != impl.OK || !sameGateway(g, want) || !slices.Equal(outs, wantOuts) || !slices.Equal(codes, wantCodes) {
					t.Errorf("ActsRun beside others: %d, %v, %s", code, codes, legible(g))
				}
			}
		})
	}
	running.Wait()
	for range 10 {
		impl.ActsRun(slices.Repeat([]impl.Act{{}}, 121))
		impl.ActsRun(nil)
	}
	// A goroutine that has ended may be counted for a while.
	for wait := 0; runtime.NumGoroutine() > before && wait < 1000; wait++ {
		time.Sleep(time.Millisecond)
	}
	if now := runtime.NumGoroutine(); now > before {
		t.Errorf("%d goroutines ahead of runs, %d behind them", before, now)
	}
}

func TestScriptsOfEmptyListsAreAlike(t *testing.T) {
	for _, a := range sampleActs() {
		empty := impl.PlainGateway()
		empty.Guests.Sessions, empty.Guests.Fails, empty.Guests.Records = []impl.Session{}, []impl.Fail{}, []impl.Record{}
		empty.Flows, empty.Conns = []impl.Flow{}, []impl.Conn{}
		g, outs, code := impl.ActDo(empty, a)
		again, others, other := impl.ActDo(impl.PlainGateway(), a)
		if code != other || !sameGateway(g, again) || !reflect.DeepEqual(append([]impl.Out{}, outs...), append([]impl.Out{}, others...)) {
			t.Errorf("ActDo of %s tells empty lists from nil", legible(a))
		}
	}
}
