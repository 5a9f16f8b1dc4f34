package tests

import (
	"fmt"
	"math"
	"slices"
	"strings"
	"testing"

	"loop.example/g00356/impl"
)

func TestNetsByTheirBits(t *testing.T) {
	if impl.MaxSet != 20 {
		t.Errorf("MaxSet is %d", impl.MaxSet)
	}
	for _, ip := range sampleAddresses() {
		for bits := range 33 {
			n := impl.Net{Ip: ip, Bits: bits}
			if want := strings.Trim(signsOf(ip)[bits:], "0") == ""; impl.NetOK(n) != want {
				t.Errorf("NetOK(%v) is not %v", n, want)
			}
		}
	}
}

func TestNetsWrittenOut(t *testing.T) {
	for _, n := range []impl.Net{{}, {Bits: 1}, {Bits: 31}, {Bits: 32}, {Ip: 0x80000000, Bits: 1}, {Ip: 0xc0000000, Bits: 2},
		{Ip: 1, Bits: 32}, {Ip: 2, Bits: 31}, {Ip: 0x0a000000, Bits: 7}, {Ip: impl.MaxAddress - 1, Bits: 31}, {Ip: impl.MaxAddress, Bits: 32}} {
		if !impl.NetOK(n) {
			t.Errorf("%v is no net", n)
		}
	}
	for _, n := range wrongNets() {
		if impl.NetOK(n) {
			t.Errorf("%v is a net", n)
		}
	}
}

func TestNetsHaveWhatBeginsLikeThem(t *testing.T) {
	for _, base := range sampleAddresses() {
		for _, bits := range []int{0, 1, 2, 8, 15, 16, 17, 24, 30, 31, 32} {
			n := netOf(base, bits)
			for _, ip := range sampleAddresses() {
				want := signsOf(ip)[:bits] == signsOf(base)[:bits]
				if has, code := impl.NetHas(n, ip); has != want || code != impl.OK {
					t.Errorf("NetHas(%v, %d) = %v, %d", n, ip, has, code)
				}
			}
		}
	}
}

func TestNetsEndAtTheirEnds(t *testing.T) {
	for bits := range 33 {
		n := netOf(0x5a5a5a5a, bits)
		first, last := n.Ip, n.Ip+1<<(32-bits)-1
		for ip, want := range map[int]bool{first - 1: false, first: true, last: true, last + 1: false} {
			if ip < 0 || ip > impl.MaxAddress {
				continue
			}
			if has, code := impl.NetHas(n, ip); has != want || code != impl.OK {
				t.Errorf("NetHas(%v, %d) = %v, %d", n, ip, has, code)
			}
		}
	}
}

func TestNetHasFaults(t *testing.T) {
	for _, n := range wrongNets() {
		for _, ip := range append(outside(4), 0, impl.MaxAddress, n.Ip) {
			if has, code := impl.NetHas(n, ip); has || code != impl.ErrBad {
				t.Errorf("NetHas(%v, %d) = %v, %d", n, ip, has, code)
			}
		}
	}
	for _, ip := range outside(4) {
		for _, n := range []impl.Net{{}, {Bits: 32}, {Ip: impl.MaxAddress, Bits: 32}} {
			if has, code := impl.NetHas(n, ip); has || code != impl.ErrRange {
				t.Errorf("NetHas(%v, %d) = %v, %d", n, ip, has, code)
			}
		}
	}
}

func TestLongestNetWhereverItStands(t *testing.T) {
	ip := 0xc0a80a0b
	for _, sizes := range [][]int{{0}, {32}, {0, 32}, {32, 0}, {8, 24, 16}, {1, 0}, {31, 32}, {32, 31}, {0, 1, 31, 32, 31, 1, 0}} {
		var list []impl.Net
		for _, bits := range sizes {
			list = append(list, netOf(ip, bits))
		}
		want := slices.Index(sizes, slices.Max(sizes))
		if k, code := impl.LongestNet(list, ip); k != want || code != impl.OK {
			t.Errorf("LongestNet of %v = %d, %d", sizes, k, code)
		}
	}
}

func TestLongestNetIsTheFirstOfAlike(t *testing.T) {
	ip := 0x0a000005
	for _, bits := range []int{0, 1, 24, 31, 32} {
		alike := netOf(ip, bits)
		for ahead := range 4 {
			list := slices.Repeat([]impl.Net{{Ip: 0xff000000, Bits: 32}}, ahead)
			list = append(list, alike, alike, alike)
			if k, code := impl.LongestNet(list, ip); k != ahead || code != impl.OK {
				t.Errorf("LongestNet of %v = %d, %d", list, k, code)
			}
		}
	}
}

// Longer nets that do not have the address do not count.
func TestLongestNetPassesOver(t *testing.T) {
	list := []impl.Net{{Ip: 0x0a000000, Bits: 8}, {Ip: 0x0a010000, Bits: 16}, {Ip: 0x0a010200, Bits: 24}, {Ip: 0x0a010203, Bits: 32}, {Bits: 1}}
	for ip, want := range map[int]int{0x0a010203: 3, 0x0a010202: 2, 0x0a010204: 2, 0x0a010300: 1, 0x0a020000: 0, 0x0b000000: 4, 0: 4, 0x7fffffff: 4} {
		if k, code := impl.LongestNet(list, ip); k != want || code != impl.OK {
			t.Errorf("LongestNet of %#x = %d, %d", ip, k, code)
		}
	}
	for _, ip := range []int{0x80000000, 0x8a010203, impl.MaxAddress} {
		if k, code := impl.LongestNet(list, ip); k != 0 || code != impl.ErrNone {
			t.Errorf("LongestNet of %#x = %d, %d", ip, k, code)
		}
	}
}

func TestLongestNetOfMany(t *testing.T) {
	for at := range impl.MaxSet {
		list := make([]impl.Net, impl.MaxSet)
		list[at] = impl.Net{Ip: 7, Bits: 32}
		if k, code := impl.LongestNet(list, 7); k != at || code != impl.OK {
			t.Errorf("LongestNet of %d nets = %d, %d, not %d", len(list), k, code, at)
		}
	}
	for size, want := range map[int]int{0: impl.ErrNone, 1: impl.OK, 20: impl.OK, 21: impl.ErrBad, 4096: impl.ErrBad, 4097: impl.ErrLong} {
		if k, code := impl.LongestNet(make([]impl.Net, size), 7); k != 0 || code != want {
			t.Errorf("LongestNet of %d nets = %d, %d", size, k, code)
		}
	}
}

func TestLongestNetFaults(t *testing.T) {
	for _, n := range wrongNets() {
		for _, list := range [][]impl.Net{{n}, {n, {}}, {{}, n}, {{Ip: 7, Bits: 32}, {}, n}} {
			for _, ip := range append(outside(4), 7) {
				if k, code := impl.LongestNet(list, ip); k != 0 || code != impl.ErrBad {
					t.Errorf("LongestNet(%v, %d) = %d, %d", list, ip, k, code)
				}
			}
		}
	}
	for _, ip := range outside(4) {
		for _, list := range [][]impl.Net{nil, {{}}, {{Bits: 32}}} {
			if k, code := impl.LongestNet(list, ip); k != 0 || code != impl.ErrRange {
				t.Errorf("LongestNet(%v, %d) = %d, %d", list, ip, k, code)
			}
		}
		if _, code := impl.LongestNet(make([]impl.Net, impl.MaxSet+1), ip); code != impl.ErrBad {
			t.Errorf("LongestNet of too many nets with %d: %d", ip, code)
		}
		if _, code := impl.LongestNet(slices.Repeat(wrongNets()[:1], impl.MaxList+1), ip); code != impl.ErrLong {
			t.Errorf("LongestNet of a list that is too long with %d: %d", ip, code)
		}
	}
}

func TestNetsReadBack(t *testing.T) {
	for _, ip := range sampleAddresses() {
		for bits := range 33 {
			n := netOf(ip, bits)
			want := fmt.Sprintf("%d.%d.%d.%d/%d", n.Ip>>24, n.Ip>>16&255, n.Ip>>8&255, n.Ip&255, bits)
			if text, code := impl.NetText(n); text != want || code != impl.OK {
				t.Errorf("NetText(%v) = %q, %d", n, text, code)
			}
			if back, code := impl.ReadNet(want); back != n || code != impl.OK {
				t.Errorf("ReadNet(%q) = %v, %d", want, back, code)
			}
		}
	}
}

func TestNetTextFaults(t *testing.T) {
	for _, n := range wrongNets() {
		if text, code := impl.NetText(n); text != "" || code != impl.ErrBad {
			t.Errorf("NetText(%v) = %q, %d", n, text, code)
		}
	}
}

func TestReadNetFaults(t *testing.T) {
	for _, s := range []string{"", "/", "/8", "10.0.0.0", "10.0.0.0/", "10.0.0.0/x", "10.0.0.0/-1", "10.0.0.0/-0", "0.0.0.0/-0", "0.0.0.0/00", "0.0.0.0/-1",
		"10.0.0.0/08", "10.0.0.0/+8", "10.0.0.0/ 8", "10.0.0.0/8 ", " 10.0.0.0/8", "10.0.0.0 /8", "10.0.0.0//8", "10.0.0.0/8/", "10.0.0.0/8/8", "10.0.0.0/33",
		"0.0.0.0/33", "0.0.0.0/64", "0.0.0.0/4294967296", "0.0.0.0/18446744073709551616", "10.0.0/8", "10.0.0.0.0/8", "10.00.0.0/8", "256.0.0.0/8",
		"x/8", "8/10.0.0.0", "10.0.0.0\\8", "10.0.0.0.8", "10.0.0.0/8\x00", "0.0.0.1/0", "128.0.0.0/0", "64.0.0.0/1", "10.0.0.1/8", "10.128.0.0/8",
		"10.0.0.1/31", "255.255.255.255/31", "1.1.1.1/1", "10.0.0.0/8.0", strings.Repeat("/", impl.MaxText), strings.Repeat("1", impl.MaxText)} {
		if n, code := impl.ReadNet(s); n != (impl.Net{}) || code != impl.ErrForm {
			t.Errorf("ReadNet(%.40q) = %v, %d", s, n, code)
		}
	}
	for _, s := range []string{strings.Repeat("/", impl.MaxText+1), "10.0.0.0/8" + strings.Repeat(" ", impl.MaxText)} {
		if n, code := impl.ReadNet(s); n != (impl.Net{}) || code != impl.ErrLong {
			t.Errorf("ReadNet of %d bytes = %v, %d", len(s), n, code)
		}
	}
}

func TestTimersArePutInTheirOrder(t *testing.T) {
	given := []impl.Timer{{At: 7, Id: 3}, {At: 0, Id: 1000000}, {At: 7, Id: 2}, {At: 1000000, Id: 0}, {At: 7, Id: 4}, {At: 0, Id: 9}, {At: 3, Id: 7}}
	want := []impl.Timer{{At: 0, Id: 9}, {At: 0, Id: 1000000}, {At: 3, Id: 7}, {At: 7, Id: 2}, {At: 7, Id: 3}, {At: 7, Id: 4}, {At: 1000000, Id: 0}}
	for turn := range given {
		if list := putAll(t, slices.Concat(given[turn:], given[:turn])); !slices.Equal(list, want) {
			t.Errorf("from %d on they are put as %v", turn, list)
		}
	}
}

func TestTimersAreDueAtTheirTimes(t *testing.T) {
	list := []impl.Timer{{At: 0, Id: 8}, {At: 0, Id: 1000000}, {At: 3, Id: 7}, {At: 7, Id: 2}, {At: 7, Id: 3}, {At: 8, Id: 1}, {At: 1000000, Id: 0}}
	for now, count := range map[int]int{math.MinInt: 0, -1: 0, 0: 2, 1: 2, 2: 2, 3: 3, 4: 3, 6: 3, 7: 5, 8: 6, 9: 6, 999999: 6, 1000000: 7, 1000001: 7, math.MaxInt: 7} {
		left, ids, code := impl.TimersDue(list, now)
		if !slices.Equal(left, list[count:]) || !slices.Equal(ids, idsOf(list[:count])) || code != impl.OK {
			t.Errorf("TimersDue at %d = %v, %v, %d", now, left, ids, code)
		}
	}
}

// From time to time each timer comes once, and none ahead of its time.
func TestTimersAreDueOnce(t *testing.T) {
	var given []impl.Timer
	for id := range impl.MaxSet {
		given = append(given, impl.Timer{At: 13 * (id + 4) % 17, Id: 7 * id % 23})
	}
	for step := 1; step < 20; step++ {
		list, seen := putAll(t, given), []int{}
		for now := -1; now < 40; now += step {
			left, ids, code := impl.TimersDue(list, now)
			if code != impl.OK {
				t.Fatalf("TimersDue(%v, %d): %d", list, now, code)
			}
			for _, id := range ids {
				at := atOf(list, id)
				if at > now || at <= now-step {
					t.Errorf("the timer %d of %d is due at %d, with %d between", id, at, now, step)
				}
			}
			list, seen = left, append(seen, ids...)
		}
		slices.Sort(seen)
		if want := idsOf(given); len(list) != 0 || !slices.Equal(seen, slices.Sorted(slices.Values(want))) {
			t.Errorf("with %d between, due were %v; left is %v", step, seen, list)
		}
	}
}

func TestTimerPutInThePlaceOfItsId(t *testing.T) {
	list := []impl.Timer{{At: 2, Id: 5}, {At: 4, Id: 1}, {At: 4, Id: 6}, {At: 9, Id: 2}}
	for _, c := range []struct {
		put  impl.Timer
		want []impl.Timer
	}{
		{impl.Timer{At: 4, Id: 1}, list},
		{impl.Timer{At: 4, Id: 5}, []impl.Timer{{At: 4, Id: 1}, {At: 4, Id: 5}, {At: 4, Id: 6}, {At: 9, Id: 2}}},
		{impl.Timer{At: 0, Id: 2}, []impl.Timer{{At: 0, Id: 2}, {At: 2, Id: 5}, {At: 4, Id: 1}, {At: 4, Id: 6}}},
		{impl.Timer{At: 1000000, Id: 6}, []impl.Timer{{At: 2, Id: 5}, {At: 4, Id: 1}, {At: 9, Id: 2}, {At: 1000000, Id: 6}}},
		{impl.Timer{At: 2, Id: 1}, []impl.Timer{{At: 2, Id: 1}, {At: 2, Id: 5}, {At: 4, Id: 6}, {At: 9, Id: 2}}},
		{impl.Timer{At: 2, Id: 7}, []impl.Timer{{At: 2, Id: 5}, {At: 2, Id: 7}, {At: 4, Id: 1}, {At: 4, Id: 6}, {At: 9, Id: 2}}},
	} {
		if next, code := impl.TimerPut(list, c.put); !slices.Equal(next, c.want) || code != impl.OK {
			t.Errorf("TimerPut(%v) = %v, %d", c.put, next, code)
		}
	}
}

func TestTimerPutIntoAFullList(t *testing.T) {
	full := rising(impl.MaxSet)
	for _, put := range []impl.Timer{{At: 0, Id: 20}, {At: 5, Id: 1000000}, {At: 1000000, Id: 30}} {
		if next, code := impl.TimerPut(full, put); !slices.Equal(next, full) || code != impl.ErrFull {
			t.Errorf("TimerPut(%v) into a full list = %v, %d", put, next, code)
		}
		if next, code := impl.TimerPut(full[1:], put); len(next) != impl.MaxSet || atOf(next, put.Id) != put.At || code != impl.OK {
			t.Errorf("TimerPut(%v) into a list with room for one = %v, %d", put, next, code)
		}
	}
	for id := range impl.MaxSet {
		next, code := impl.TimerPut(full, impl.Timer{At: 500, Id: id})
		if want := append(slices.Delete(slices.Clone(full), id, id+1), impl.Timer{At: 500, Id: id}); !slices.Equal(next, want) || code != impl.OK {
			t.Errorf("TimerPut of Id %d into a full list = %v, %d", id, next, code)
		}
	}
}

func TestTimerPutFaults(t *testing.T) {
	for _, n := range []int{math.MinInt, -1, 1000001, math.MaxInt} {
		for _, put := range []impl.Timer{{At: n, Id: 1}, {At: 1, Id: n}, {At: n, Id: n}} {
			for _, list := range [][]impl.Timer{nil, rising(1), rising(3), rising(impl.MaxSet)} {
				if next, code := impl.TimerPut(list, put); len(next) != 0 || code != impl.ErrBad {
					t.Errorf("TimerPut(%v, %v) = %v, %d", list, put, next, code)
				}
			}
		}
	}
}

func TestTimerDropOfEach(t *testing.T) {
	for _, size := range []int{1, 2, 19, 20} {
		list := rising(size)
		for k, gone := range list {
			want := slices.Delete(slices.Clone(list), k, k+1)
			if next, code := impl.TimerDrop(list, gone.Id); !slices.Equal(next, want) || code != impl.OK {
				t.Errorf("TimerDrop of Id %d of %d = %v, %d", gone.Id, size, next, code)
			}
		}
	}
	ends := []impl.Timer{{At: 0, Id: 1000000}, {At: 1000000, Id: 0}}
	for k, id := range []int{1000000, 0} {
		if next, code := impl.TimerDrop(ends, id); len(next) != 1 || next[0] != ends[1-k] || code != impl.OK {
			t.Errorf("TimerDrop of Id %d = %v, %d", id, next, code)
		}
	}
}

func TestTimerDropOfNone(t *testing.T) {
	for _, size := range []int{0, 1, 5, 20} {
		list := rising(size)
		for _, id := range []int{math.MinInt, -1, size, 100, 1000000, 1000001, math.MaxInt} {
			if next, code := impl.TimerDrop(list, id); !slices.Equal(next, list) || code != impl.ErrNone {
				t.Errorf("TimerDrop of Id %d of %d = %v, %d", id, size, next, code)
			}
		}
	}
}

func TestTimersThatAreNone(t *testing.T) {
	for _, list := range wrongTimers() {
		for _, put := range []impl.Timer{{At: 1, Id: 1}, {At: 2, Id: 77}, {At: -1, Id: 1}} {
			if next, code := impl.TimerPut(list, put); len(next) != 0 || code != impl.ErrBad {
				t.Errorf("TimerPut(%v, %v) = %v, %d", list, put, next, code)
			}
		}
		for _, n := range []int{math.MinInt, 0, 1, 77, 1000000, math.MaxInt} {
			if left, ids, code := impl.TimersDue(list, n); len(left) != 0 || len(ids) != 0 || code != impl.ErrBad {
				t.Errorf("TimersDue(%v, %d) = %v, %v, %d", list, n, left, ids, code)
			}
			if next, code := impl.TimerDrop(list, n); len(next) != 0 || code != impl.ErrBad {
				t.Errorf("TimerDrop(%v, %d) = %v, %d", list, n, next, code)
			}
		}
	}
}

func TestTimersOfLongLists(t *testing.T) {
	for size, want := range map[int]int{20: impl.OK, 21: impl.ErrBad, 4096: impl.ErrBad, 4097: impl.ErrLong} {
		for _, list := range [][]impl.Timer{rising(size), slices.Repeat([]impl.Timer{{At: -1, Id: -1}}, size)} {
			if size == impl.MaxSet && list[0].At < 0 {
				continue
			}
			next, code := impl.TimerPut(list, list[0])
			left, ids, due := impl.TimersDue(list, -1)
			rest, drop := impl.TimerDrop(list, list[0].Id)
			if code != want || due != want || drop != want {
				t.Errorf("of %d timers TimerPut says %d, TimersDue %d, TimerDrop %d", size, code, due, drop)
			}
			if want != impl.OK && len(next)+len(left)+len(ids)+len(rest) != 0 {
				t.Errorf("of %d timers the answers are %v, %v, %v, %v", size, next, left, ids, rest)
			}
		}
	}
	if _, code := impl.TimerPut(rising(impl.MaxList+1), impl.Timer{At: -1}); code != impl.ErrLong {
		t.Errorf("TimerPut of a wrong timer into a list that is too long: %d", code)
	}
}

func TestListsOfTimersStayAsTheyWere(t *testing.T) {
	for size := range impl.MaxSet + 2 {
		// What stands behind the end of the argument must stay, too.
		room := rising(size + 3)
		before := slices.Clone(room)
		list := room[:size]
		for id := range size + 2 {
			impl.TimerPut(list, impl.Timer{At: 0, Id: id})
			impl.TimerPut(list, impl.Timer{At: 999, Id: id})
			impl.TimersDue(list, 10*id)
			impl.TimerDrop(list, id)
		}
		if !slices.Equal(room, before) {
			t.Errorf("with %d timers handed in, %v became %v", size, before, room)
		}
	}
}

func TestListsOfTimersAreNewMemory(t *testing.T) {
	for _, size := range []int{1, 5, impl.MaxSet} {
		list := rising(size)
		put, _ := impl.TimerPut(list, list[0])
		full, _ := impl.TimerPut(list, impl.Timer{At: 1, Id: 99})
		left, ids, _ := impl.TimersDue(list, list[size/2].At)
		all, _, _ := impl.TimersDue(list, -1)
		drop, _ := impl.TimerDrop(list, 0)
		same, _ := impl.TimerDrop(list, 99)
		for _, answer := range [][]impl.Timer{put, full, left, all, drop, same} {
			clear(answer[:cap(answer)])
		}
		clear(ids[:cap(ids)])
		if !slices.Equal(list, rising(size)) {
			t.Errorf("%d timers were changed through an answer: %v", size, list)
		}
	}
}

func TestEmptyListsOfTimersAreAlike(t *testing.T) {
	for _, list := range [][]impl.Timer{nil, {}} {
		if next, code := impl.TimerPut(list, impl.Timer{At: 1, Id: 2}); len(next) != 1 || next[0] != (impl.Timer{At: 1, Id: 2}) || code != impl.OK {
			t.Errorf("TimerPut into an empty list = %v, %d", next, code)
		}
		if left, ids, code := impl.TimersDue(list, 5); left != nil || ids != nil || code != impl.OK {
			t.Errorf("TimersDue of an empty list = %v, %v, %d", left, ids, code)
		}
		if next, code := impl.TimerDrop(list, 0); next != nil || code != impl.ErrNone {
			t.Errorf("TimerDrop of an empty list = %v, %d", next, code)
		}
	}
	for _, list := range [][]impl.Net{nil, {}} {
		if k, code := impl.LongestNet(list, 0); k != 0 || code != impl.ErrNone {
			t.Errorf("LongestNet of an empty list = %d, %d", k, code)
		}
	}
}

// signsOf tells an address bit by bit, the higher ones first.
func signsOf(ip int) string {
	return fmt.Sprintf("%032b", ip)
}

// netOf is the net of so many bits around ip, made of its signs.
func netOf(ip, bits int) impl.Net {
	n := impl.Net{Bits: bits}
	for i, sign := range signsOf(ip)[:bits] {
		if sign == '1' {
			n.Ip += 1 << (31 - i)
		}
	}
	return n
}

func wrongNets() []impl.Net {
	list := []impl.Net{{Ip: 1}, {Ip: impl.MaxAddress}, {Ip: 0x80000000}, {Ip: 0x40000000, Bits: 1}, {Ip: 1, Bits: 1}, {Ip: 1, Bits: 31},
		{Ip: 0x0a000001, Bits: 24}, {Ip: 0x0a000080, Bits: 24}, {Ip: impl.MaxAddress, Bits: 31}}
	for _, bits := range []int{math.MinInt, -64, -32, -1, 33, 64, 65, math.MaxInt} {
		list = append(list, impl.Net{Bits: bits}, impl.Net{Ip: 0x80000000, Bits: bits})
	}
	for _, ip := range outside(4) {
		list = append(list, impl.Net{Ip: ip}, impl.Net{Ip: ip, Bits: 1}, impl.Net{Ip: ip, Bits: 32})
	}
	return list
}

// wrongTimers has lists that are none: by their order, their Ids, their bounds and their number.
func wrongTimers() [][]impl.Timer {
	lists := [][]impl.Timer{
		{{At: 2, Id: 1}, {At: 1, Id: 2}},
		{{At: 1, Id: 2}, {At: 1, Id: 1}},
		{{At: 1, Id: 1}, {At: 3, Id: 2}, {At: 2, Id: 3}},
		{{At: 1, Id: 1}, {At: 1, Id: 1}},
		{{At: 1, Id: 1}, {At: 2, Id: 1}},
		{{At: 1, Id: 1}, {At: 2, Id: 5}, {At: 3, Id: 1}},
		rising(impl.MaxSet + 1),
	}
	for _, n := range []int{math.MinInt, -1, 1000001, math.MaxInt} {
		lists = append(lists, []impl.Timer{{At: n, Id: 1}}, []impl.Timer{{At: 1, Id: n}})
	}
	lists = append(lists,
		[]impl.Timer{{At: -1, Id: 4}, {At: 1, Id: 1}}, []impl.Timer{{At: 1, Id: 1}, {At: 1000001, Id: 4}},
		[]impl.Timer{{At: 1, Id: 4}, {At: 2, Id: -1}}, []impl.Timer{{At: 1, Id: 1000001}, {At: 2, Id: 1}})
	return lists
}

// rising has size timers in their order, with Ids from 0 on.
func rising(size int) []impl.Timer {
	list := make([]impl.Timer, size)
	for id := range list {
		list[id] = impl.Timer{At: 10 * id, Id: id}
	}
	return list
}

func putAll(t *testing.T, given []impl.Timer) []impl.Timer {
	t.Helper()
	var list []impl.Timer
	for _, put := range given {
		next, code := impl.TimerPut(list, put)
		if code != impl.OK {
			t.Fatalf("TimerPut(%v, %v): %d", list, put, code)
		}
		list = next
	}
	return list
}

func idsOf(list []impl.Timer) []int {
	var ids []int
	for _, t := range list {
		ids = append(ids, t.Id)
	}
	return ids
}

// atOf is the At of the timer of id, or -1.
func atOf(list []impl.Timer, id int) int {
	for _, t := range list {
		if t.Id == id {
			return t.At
		}
	}
	return -1
}
