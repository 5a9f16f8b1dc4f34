package tests

import (
	"fmt"
	"math"
	"math/rand"
	"reflect"
	"slices"
	"strings"
	"testing"

	"loop.example/g00356/impl"
)

func TestSessionsEnd(t *testing.T) {
	for cause := 1; cause <= 6; cause++ {
		for _, now := range []int{0, 15, 25, impl.MaxNow} {
			next, code := impl.EndSession(plainConfig(), busyGuests(), 5, now, cause)
			want := withoutSession(busyGuests(), 0, now, cause)
			if code != impl.OK || !impl.GuestsOK(plainConfig(), next) {
				t.Errorf("EndSession at %d: %d", now, code)
			}
			holdGuests(t, "EndSession", next, want)
			next, code = impl.EndSession(plainConfig(), next, 7, now, cause)
			if code != impl.OK {
				t.Errorf("EndSession of another at %d: %d", now, code)
			}
			holdGuests(t, "EndSession of another", next, withoutSession(want, 0, now, cause))
		}
	}
}

func TestSessionsEndOnce(t *testing.T) {
	c := plainConfig()
	for _, end := range []func(g impl.Guests) impl.Guests{
		func(g impl.Guests) impl.Guests { g, _ = impl.EndSession(c, g, 5, 30, impl.CaLogout); return g },
		func(g impl.Guests) impl.Guests { g, _ = impl.Charge(c, g, 5, 301, 30); return g },
		func(g impl.Guests) impl.Guests { g, _, _ = impl.ExpireSessions(c, g, 50); return g },
		func(g impl.Guests) impl.Guests { g, _, _ = impl.EndMoved(c, g, guestMac(1), guestIp(9), 30); return g },
	} {
		g := end(busyGuests())
		if len(g.Sessions) != 1 || len(g.Records) != 5 || g.Sessions[0].Id != 7 || g.Records[4].Id != 5 || !g.Records[4].Stop {
			t.Fatalf("the session did not end: %v", g)
		}
		for _, again := range []func(g impl.Guests) (impl.Guests, int){
			func(g impl.Guests) (impl.Guests, int) { return impl.EndSession(c, g, 5, 51, impl.CaKick) },
			func(g impl.Guests) (impl.Guests, int) { return impl.Charge(c, g, 5, 1, 51) },
		} {
			next, code := again(g)
			if code != impl.ErrNone {
				t.Errorf("a session ended twice: %d", code)
			}
			holdGuests(t, "a session that ended", next, g)
		}
		for _, now := range []int{50, 51, 111} {
			if next, ids, code := impl.ExpireSessions(c, g, now); len(ids) != 0 || code != impl.OK || !sameGuests(next, g) {
				t.Errorf("a session ended twice: %v, %d", ids, code)
			}
		}
		if next, ids, code := impl.EndMoved(c, g, guestMac(1), guestIp(8), 51); len(ids) != 0 || code != impl.OK || !sameGuests(next, g) {
			t.Errorf("a session ended twice: %v, %d", ids, code)
		}
		if id, code := impl.SessionAt(g, guestMac(1), guestIp(1)); id != 0 || code != impl.ErrNone {
			t.Errorf("a session that ended is there: %d, %d", id, code)
		}
		if _, id, code := impl.Login(c, g, "ann", "apple", guestMac(1), guestIp(1), 60); id != 9 || code != impl.OK {
			t.Errorf("its user does not come back: %d, %d", id, code)
		}
	}
}

func TestIdsThatAreNotThere(t *testing.T) {
	c := plainConfig()
	for _, id := range []int{math.MinInt, -5, -1, 0, 1, 4, 6, 8, 9, 10000, 5 + 1<<32, math.MaxInt} {
		next, code := impl.EndSession(c, busyGuests(), id, 25, impl.CaKick)
		if code != impl.ErrNone {
			t.Errorf("EndSession of %d: %d", id, code)
		}
		holdGuests(t, "EndSession of none", next, busyGuests())
		for _, n := range []int{0, 1, 1000000} {
			next, code = impl.Charge(c, busyGuests(), id, n, 25)
			if code != impl.ErrNone {
				t.Errorf("Charge of %d: %d", id, code)
			}
			holdGuests(t, "Charge of none", next, busyGuests())
		}
	}
}

func TestCausesOutOfRange(t *testing.T) {
	for _, cause := range []int{math.MinInt, -1, 0, 7, 8, 1 << 32, 1<<32 + 1, math.MaxInt} {
		for _, id := range []int{5, 6} {
			if next, code := impl.EndSession(plainConfig(), busyGuests(), id, 25, cause); code != impl.ErrRange || !sameGuests(next, impl.Guests{}) {
				t.Errorf("EndSession of %d by cause %d: %v, %d", id, cause, next, code)
			}
		}
	}
}

func TestChargesThatFit(t *testing.T) {
	for _, n := range []int{0, 1, 299, 300} {
		for _, now := range []int{0, 10, 19, 20, 21, 49, 50, impl.MaxNow} {
			next, code := impl.Charge(plainConfig(), busyGuests(), 5, n, now)
			want := busyGuests()
			want.Sessions[0].Used = 100 + n
			want.Sessions[0].Last = max(20, now)
			want.Users[0].Balance = 600 - n
			if code != impl.OK || !impl.GuestsOK(plainConfig(), next) {
				t.Errorf("Charge of %d at %d: %d", n, now, code)
			}
			holdGuests(t, "Charge", next, want)
		}
	}
}

func TestChargesThatDoNotFit(t *testing.T) {
	for _, n := range []int{301, 302, 400, 600, 601, 1000000} {
		for _, now := range []int{0, 20, 25, impl.MaxNow} {
			next, code := impl.Charge(plainConfig(), busyGuests(), 5, n, now)
			if code != impl.ErrSpent || !impl.GuestsOK(plainConfig(), next) {
				t.Errorf("Charge of %d at %d: %d", n, now, code)
			}
			holdGuests(t, "Charge", next, withoutSession(busyGuests(), 0, now, impl.CaQuota))
		}
	}
}

// A charge must fit into what the quota has left and into the balance alike.
func TestChargesByQuotaAndBalance(t *testing.T) {
	for _, quota := range []int{1, 2, 50, 1000000} {
		for _, used := range []int{0, 1, 2, 49, 50, 999999, 1000000} {
			if used > quota {
				continue
			}
			for _, balance := range []int{0, 1, 2, 48, 49, 50, 51, 1000000} {
				for _, n := range []int{0, 1, 2, 49, 50, 51, 999999, 1000000} {
					g := busyGuests()
					g.Users[1].Balance = balance
					g.Sessions[1].Quota, g.Sessions[1].Used = quota, used
					next, code := impl.Charge(plainConfig(), g, 7, n, 40)
					if used+n > quota || n > balance {
						if code != impl.ErrSpent || !sameGuests(next, withoutSession(g, 1, 40, impl.CaQuota)) {
							t.Errorf("%d of quota %d used, balance %d, %d more: %d", used, quota, balance, n, code)
						}
					} else if code != impl.OK || next.Sessions[1].Used != used+n || next.Users[1].Balance != balance-n || next.Sessions[1].Last != 40 || !impl.GuestsOK(plainConfig(), next) {
						t.Errorf("%d of quota %d used, balance %d, %d more: %d, %v, %v", used, quota, balance, n, code, next.Sessions, next.Users)
					}
				}
			}
		}
	}
}

func TestChargesOutOfRange(t *testing.T) {
	for _, n := range []int{math.MinInt, -1000000, -1, 1000001, 1 << 32, math.MaxInt} {
		for _, id := range []int{5, 6, 7} {
			if next, code := impl.Charge(plainConfig(), busyGuests(), id, n, 25); code != impl.ErrRange || !sameGuests(next, impl.Guests{}) {
				t.Errorf("Charge of %d by %d: %v, %d", id, n, next, code)
			}
		}
	}
}

// A session's times are held against each now around its edges.
func TestSessionsThatAreTooOldOrIdle(t *testing.T) {
	for _, last := range []int{10, 20, 40, impl.MaxNow} {
		for _, until := range []int{10, 25, 30, 50, 101000} {
			for _, idle := range []int{1, 5, 10, 1000} {
				for _, now := range []int{0, 9, 10, 11, 20, 21, 24, 25, 26, 29, 30, 31, 40, 45, 49, 50, 51, 1019, 1020, 99999, impl.MaxNow} {
					g := busyGuests()
					g.Sessions = g.Sessions[:1]
					g.Sessions[0].Last, g.Sessions[0].Until, g.Sessions[0].Idle = last, until, idle
					want, wantIds := g, []int(nil)
					if now >= until {
						want, wantIds = withoutSession(g, 0, now, impl.CaTime), []int{5}
					} else if now >= last+idle {
						want, wantIds = withoutSession(g, 0, now, impl.CaIdle), []int{5}
					}
					next, ids, code := impl.ExpireSessions(plainConfig(), g, now)
					if code != impl.OK || !slices.Equal(ids, wantIds) || !sameGuests(next, want) {
						t.Errorf("last %d, until %d, idle %d, now %d: %v, %d, %v", last, until, idle, now, ids, code, next)
					}
				}
			}
		}
	}
}

// Of three sessions each may end by time, by idleness, or go on.
func TestSeveralSessionsExpire(t *testing.T) {
	causes := []int{0, impl.CaTime, impl.CaIdle}
	for set := range 27 {
		g := crowd(3, 2)
		var want []impl.Session
		var ends []impl.Record
		var wantIds []int
		for k, cause := range []int{causes[set%3], causes[set/3%3], causes[set/9]} {
			s := &g.Sessions[k]
			switch cause {
			case impl.CaTime:
				// It is idle, too: that it is too old comes first.
				s.Until, s.Idle = 30, 1
			case impl.CaIdle:
				s.Until, s.Idle = 31, 10
			default:
				s.Until, s.Idle = 31, 11
				want = append(want, *s)
				continue
			}
			wantIds = append(wantIds, s.Id)
			ends = append(ends, impl.Record{Id: s.Id, At: 30, Cause: cause, Bytes: 10 * k, Stop: true})
		}
		next, ids, code := impl.ExpireSessions(plainConfig(), g, 30)
		if code != impl.OK || !slices.Equal(ids, wantIds) || !slices.Equal(next.Sessions, want) || !slices.Equal(next.Records, append(slices.Clone(g.Records), ends...)) {
			t.Errorf("set %d: %v, %d, %v", set, ids, code, next)
		}
		if !slices.Equal(next.Users, g.Users) || !slices.Equal(next.Fails, g.Fails) || next.Next != g.Next {
			t.Errorf("set %d: other things changed: %v", set, next)
		}
	}
}

func TestSessionsThatMoved(t *testing.T) {
	c := plainConfig()
	macs := []string{guestMac(1), guestMac(2), guestMac(3), guestMac(9), "", "no mac", strings.Repeat("m", impl.MaxText)}
	ips := []int{guestIp(1), guestIp(2), guestIp(3), guestIp(9), 0, -1, quadOne, math.MinInt, math.MaxInt, guestIp(1) + 1<<32}
	for _, mac := range macs {
		for _, ip := range ips {
			for _, now := range []int{0, 30, impl.MaxNow} {
				g := crowd(3, 4)
				want, wantIds := copied(g), []int(nil)
				// From the last one on, so that places stay; records stand the other way round.
				for k := 2; k >= 0; k-- {
					sameMac, sameIp := mac == guestMac(1+k), ip == guestIp(1+k)
					if sameMac && !sameIp || sameIp && !sameMac {
						want = withoutSession(want, k, now, impl.CaMoved)
						wantIds = append(wantIds, 2+k)
					}
				}
				slices.Reverse(want.Records[4:])
				slices.Reverse(wantIds)
				next, ids, code := impl.EndMoved(c, g, mac, ip, now)
				if code != impl.OK || !slices.Equal(ids, wantIds) || !sameGuests(next, want) {
					t.Errorf("EndMoved(%.20q, %#x, %d) = %v, %d, %v", mac, ip, now, ids, code, next)
				}
			}
		}
	}
}

// A record is told as long as there is room for it; the session ends all the same.
func TestEndsWithoutRoomForRecords(t *testing.T) {
	c := plainConfig()
	for records := 56; records <= 60; records++ {
		g := crowd(3, records)
		room := 60 - records
		next, ids, code := impl.ExpireSessions(c, g, 70)
		if code != impl.OK || !slices.Equal(ids, []int{2, 3, 4}) || len(next.Sessions) != 0 || len(next.Records) != records+min(room, 3) {
			t.Errorf("ExpireSessions with %d records: %v, %d, %d records", records, ids, code, len(next.Records))
		}
		for k, r := range next.Records[records:] {
			if r != (impl.Record{Id: 2 + k, At: 70, Cause: impl.CaTime, Bytes: 10 * k, Stop: true}) {
				t.Errorf("ExpireSessions with %d records: %v", records, r)
			}
		}
		next, ids, code = impl.EndMoved(c, g, guestMac(1), guestIp(3), 30)
		if code != impl.OK || !slices.Equal(ids, []int{2, 4}) || len(next.Sessions) != 1 || len(next.Records) != records+min(room, 2) {
			t.Errorf("EndMoved with %d records: %v, %d, %d records", records, ids, code, len(next.Records))
		}
		next, code = impl.EndSession(c, g, 3, 30, impl.CaKick)
		if code != impl.OK || len(next.Sessions) != 2 || len(next.Records) != records+min(room, 1) {
			t.Errorf("EndSession with %d records: %d, %d records", records, code, len(next.Records))
		}
		next, code = impl.Charge(c, g, 3, 41, 30)
		if code != impl.ErrSpent || len(next.Sessions) != 2 || len(next.Records) != records+min(room, 1) || !impl.GuestsOK(c, next) {
			t.Errorf("Charge with %d records: %d, %d records", records, code, len(next.Records))
		}
	}
}

// timedCalls has the calls that are handed a time, each with what else it is
// handed right, and wrong as far as it can be.
func timedCalls() map[string]func(c impl.Config, g impl.Guests, now int) (impl.Guests, []int, int) {
	type guestCall = func(c impl.Config, g impl.Guests, now int) (impl.Guests, []int, int)
	end := func(id, cause int) guestCall {
		return func(c impl.Config, g impl.Guests, now int) (impl.Guests, []int, int) {
			next, code := impl.EndSession(c, g, id, now, cause)
			return next, nil, code
		}
	}
	charge := func(id, n int) guestCall {
		return func(c impl.Config, g impl.Guests, now int) (impl.Guests, []int, int) {
			next, code := impl.Charge(c, g, id, n, now)
			return next, nil, code
		}
	}
	moved := func(mac string, ip int) guestCall {
		return func(c impl.Config, g impl.Guests, now int) (impl.Guests, []int, int) {
			return impl.EndMoved(c, g, mac, ip, now)
		}
	}
	return map[string]guestCall{
		"EndSession": end(5, 1), "EndSession of none": end(6, 1), "EndSession, wrong": end(5, 7), "EndSession of none, wrong": end(6, 0),
		"Charge": charge(5, 1), "Charge of too much": charge(5, 301), "Charge of none": charge(6, 1), "Charge, wrong": charge(5, -1), "Charge of none, wrong": charge(6, 1000001),
		"ExpireSessions": impl.ExpireSessions,
		"EndMoved":       moved(guestMac(1), guestIp(1)), "EndMoved of one": moved(guestMac(1), guestIp(9)), "EndMoved, wrong": moved("", -1),
	}
}

func TestTimedCallsOfWrongGuests(t *testing.T) {
	for name, do := range timedCalls() {
		hold := func(c impl.Config, g impl.Guests, now int) {
			t.Helper()
			if next, ids, code := do(c, g, now); code != impl.ErrBad || len(ids) != 0 || !sameGuests(next, impl.Guests{}) {
				t.Errorf("%s of wrong guests %.200v: %v, %d", name, g, ids, code)
			}
		}
		for _, g := range wrongGuests() {
			hold(plainConfig(), g, 25)
			hold(plainConfig(), g, -1)
		}
		for _, c := range wrongConfigs() {
			hold(c, impl.Guests{Next: 1}, 25)
			hold(c, busyGuests(), impl.MaxNow+1)
		}
	}
}

func TestTimedCallsAtTheirTimes(t *testing.T) {
	for name, do := range timedCalls() {
		for _, now := range wrongTimes() {
			if next, ids, code := do(plainConfig(), busyGuests(), now); code != impl.ErrRange || len(ids) != 0 || !sameGuests(next, impl.Guests{}) {
				t.Errorf("%s at %d: %v, %v, %d", name, now, next, ids, code)
			}
		}
		for _, now := range []int{0, 1, 99999, impl.MaxNow} {
			if _, _, code := do(plainConfig(), busyGuests(), now); code == impl.ErrBad || code == impl.ErrRange && !strings.HasSuffix(name, "wrong") {
				t.Errorf("%s at %d: %d", name, now, code)
			}
		}
	}
}

func TestLongMacs(t *testing.T) {
	long := strings.Repeat("m", impl.MaxText+1)
	for _, g := range []impl.Guests{busyGuests(), {}, crowd(4, 0)} {
		for _, now := range []int{25, -1} {
			if next, ids, code := impl.EndMoved(plainConfig(), g, long, guestIp(1), now); code != impl.ErrLong || len(ids) != 0 || !sameGuests(next, impl.Guests{}) {
				t.Errorf("EndMoved of a long mac: %v, %v, %d", next, ids, code)
			}
		}
		if id, code := impl.SessionAt(g, long, guestIp(1)); id != 0 || code != impl.ErrLong {
			t.Errorf("SessionAt of a long mac: %d, %d", id, code)
		}
	}
}

func TestSessionsAreFound(t *testing.T) {
	g := crowd(3, 0)
	for mac := range 5 {
		for ip := range 5 {
			wantId, wantCode := 0, impl.ErrNone
			if mac == ip && mac >= 1 && mac <= 3 {
				wantId, wantCode = 1+mac, impl.OK
			}
			if id, code := impl.SessionAt(g, guestMac(mac), guestIp(ip)); id != wantId || code != wantCode {
				t.Errorf("SessionAt(%d, %d) = %d, %d", mac, ip, id, code)
			}
		}
	}
	for _, mac := range []string{"", guestMac(1)[:5], guestMac(1) + "\x00", strings.Repeat("m", impl.MaxText)} {
		if id, code := impl.SessionAt(g, mac, guestIp(1)); id != 0 || code != impl.ErrNone {
			t.Errorf("SessionAt(%.20q) = %d, %d", mac, id, code)
		}
	}
	for _, ip := range []int{math.MinInt, -1, 0, guestIp(1) + 1<<32, math.MaxInt} {
		if id, code := impl.SessionAt(g, guestMac(1), ip); id != 0 || code != impl.ErrNone {
			t.Errorf("SessionAt at %d = %d, %d", ip, id, code)
		}
	}
}

// SessionAt asks for no more than that there are not too many sessions.
func TestSessionsAreFoundAmongWrongGuests(t *testing.T) {
	s := impl.Session{Id: -7, User: 99, Mac: "any text", Ip: math.MinInt}
	g := impl.Guests{Sessions: []impl.Session{{Id: math.MaxInt}, s, {Id: 8, Mac: s.Mac, Ip: s.Ip}}}
	if id, code := impl.SessionAt(g, "any text", math.MinInt); id != -7 || code != impl.OK {
		t.Errorf("the first of several: %d, %d", id, code)
	}
	if id, code := impl.SessionAt(g, "", 0); id != math.MaxInt || code != impl.OK {
		t.Errorf("a session that is zero but for its Id: %d, %d", id, code)
	}
	for _, size := range []int{4, 5, impl.MaxList, impl.MaxList + 1} {
		if id, code := impl.SessionAt(impl.Guests{Next: 1, Sessions: make([]impl.Session, size)}, "", 0); id != 0 || code != impl.ErrBad {
			t.Errorf("of %d sessions: %d, %d", size, id, code)
		}
	}
	for _, empty := range []impl.Guests{{}, {Sessions: []impl.Session{}}} {
		if id, code := impl.SessionAt(empty, macA, guestIp(1)); id != 0 || code != impl.ErrNone {
			t.Errorf("without sessions: %d, %d", id, code)
		}
	}
}

func TestRecordsWrittenOut(t *testing.T) {
	begin := func(id, at int) impl.Record { return impl.Record{Id: id, At: at} }
	end := func(id, at int) impl.Record { return impl.Record{Id: id, At: at, Cause: 1, Bytes: 5, Stop: true} }
	for _, row := range []struct {
		list []impl.Record
		want bool
	}{
		{nil, true}, {[]impl.Record{}, true},
		{[]impl.Record{begin(1, 5)}, true},
		{[]impl.Record{begin(1, 5), end(1, 5)}, true},
		{[]impl.Record{begin(1, 5), end(1, 6)}, true},
		{[]impl.Record{begin(1, 5), end(1, 4)}, false},
		{[]impl.Record{end(1, 5)}, false},
		{[]impl.Record{end(1, 5), begin(1, 5)}, false},
		{[]impl.Record{begin(1, 5), begin(1, 5)}, false},
		{[]impl.Record{begin(1, 5), begin(1, 5), end(1, 5)}, false},
		{[]impl.Record{begin(1, 5), end(1, 6), begin(1, 7)}, false},
		{[]impl.Record{begin(1, 5), end(1, 6), end(1, 7)}, false},
		{[]impl.Record{begin(1, 5), end(2, 6)}, false},
		{[]impl.Record{begin(1, 5), begin(2, 6), end(1, 7), end(2, 7)}, true},
		{[]impl.Record{begin(1, 5), begin(2, 6), end(2, 7), end(1, 8)}, true},
		{[]impl.Record{begin(2, 9), begin(1, 5), end(1, 6)}, true},
		{[]impl.Record{begin(2, 9), end(2, 9), begin(1, 5), end(1, 6), begin(3, 0)}, true},
		{[]impl.Record{begin(2, 9), begin(1, 5), end(2, 8), end(1, 6)}, false},
		{[]impl.Record{begin(0, 0), end(0, 0), begin(-1, -5), end(-1, -4), begin(math.MinInt, math.MinInt), end(math.MinInt, math.MaxInt)}, true},
		{[]impl.Record{begin(math.MaxInt, math.MaxInt), end(math.MaxInt, math.MinInt)}, false},
	} {
		if ok, code := impl.RecordsHold(row.list); ok != row.want || code != impl.OK {
			t.Errorf("RecordsHold(%v) = %v, %d", row.list, ok, code)
		}
	}
}

// All lists of up to four records of two Ids and two times.
func TestListsOfFewRecords(t *testing.T) {
	var stock []impl.Record
	for n := range 8 {
		stock = append(stock, impl.Record{Id: 1 + n%2, At: n / 2 % 2, Stop: n/4 == 1})
	}
	lists := [][]impl.Record{nil}
	// The lists stand by their sizes, so that the first of four ends it.
	for i := 0; len(lists[i]) < 4; i++ {
		for _, r := range stock {
			lists = append(lists, append(slices.Clone(lists[i]), r))
		}
	}
	for _, list := range lists {
		if ok, code := impl.RecordsHold(list); ok != bracketedByHand(list) || code != impl.OK {
			t.Errorf("RecordsHold(%v) = %v, %d", list, ok, code)
		}
	}
}

func TestLongListsOfRecords(t *testing.T) {
	for _, size := range []int{60, 61, impl.MaxList, impl.MaxList + 1, impl.MaxList + 2} {
		var list []impl.Record
		for k := range size {
			list = append(list, impl.Record{Id: k / 2, At: k, Stop: k%2 == 1})
		}
		want, wantCode := true, impl.OK
		if size > impl.MaxList {
			want, wantCode = false, impl.ErrLong
		}
		if ok, code := impl.RecordsHold(list); ok != want || code != wantCode {
			t.Errorf("RecordsHold of %d: %v, %d", size, ok, code)
		}
		list[size-1] = list[0]
		if ok, code := impl.RecordsHold(list); ok || code != wantCode {
			t.Errorf("RecordsHold of %d, the last one wrong: %v, %d", size, ok, code)
		}
	}
}

func TestCauseWords(t *testing.T) {
	words := map[int]string{1: "logout", 2: "idle", 3: "time", 4: "quota", 5: "moved", 6: "kick"}
	for _, cause := range []int{math.MinInt, -1, 0, 1, 2, 3, 4, 5, 6, 7, 8, 1 << 32, 1<<32 + 1, math.MaxInt} {
		if word := impl.CauseWord(cause); word != words[cause] {
			t.Errorf("CauseWord(%d) = %q", cause, word)
		}
	}
}

// ledger keeps by hand what a walk has seen of sessions, charges and fails.
type ledger struct {
	began   map[int]impl.User // by Id
	ended   map[int]int
	charged map[string]int // by user
	fails   map[string]impl.Fail
}

// Whatever comes: what was charged is what was taken off balances, never more
// than a quota; records are well bracketed; sessions end once; who has a wrong
// word gets none, and waits after three.
func TestWalksOfGuests(t *testing.T) {
	for seed := range 60 {
		chance := rand.New(rand.NewSource(int64(seed)))
		c, g, now := plainConfig(), quietGuests(), 0
		l := ledger{map[int]impl.User{}, map[int]int{}, map[string]int{}, map[string]impl.Fail{}}
		for range 400 {
			now += chance.Intn(4)
			g = walkStep(t, chance, c, g, now, l)
			if t.Failed() {
				t.Fatalf("seed %d", seed)
			}
			holdLedger(t, c, g, l)
		}
	}
}

func walkStep(t *testing.T, chance *rand.Rand, c impl.Config, g impl.Guests, now int, l ledger) impl.Guests {
	t.Helper()
	before := copied(g)
	var next impl.Guests
	var ids []int
	var code int
	id := 1 + chance.Intn(g.Next+1)
	switch chance.Intn(6) {
	case 0, 1:
		next, code = walkLogin(t, chance, c, g, now, l)
	case 2, 3:
		n := chance.Intn(1 + chance.Intn(300))
		next, code = impl.Charge(c, g, id, n, now)
		if code == impl.OK {
			l.charged[l.began[id].Name] += n
		}
		if code == impl.ErrSpent {
			ids = []int{id}
		}
	case 4:
		next, ids, code = impl.ExpireSessions(c, g, now)
	case 5:
		if chance.Intn(2) == 0 {
			next, code = impl.EndSession(c, g, id, now, 1+chance.Intn(6))
			if code == impl.OK {
				ids = []int{id}
			}
		} else {
			next, ids, code = impl.EndMoved(c, g, guestMac(1+chance.Intn(5)), guestIp(1+chance.Intn(5)), now)
		}
	}
	for _, id := range ids {
		l.ended[id]++
	}
	if code == impl.ErrBad || code == impl.ErrRange || code == impl.ErrLong || !sameGuests(g, before) {
		t.Errorf("a step answered %d, or changed what it was handed", code)
	}
	return next
}

func walkLogin(t *testing.T, chance *rand.Rand, c impl.Config, g impl.Guests, now int, l ledger) (impl.Guests, int) {
	t.Helper()
	words := []string{"apple", "berry", "cider", "dates"}
	user, word := chance.Intn(4), chance.Intn(4)
	if chance.Intn(2) == 0 {
		word = user
	}
	mac := guestMac(1 + chance.Intn(5))
	fail := l.fails[mac]
	next, id, code := impl.Login(c, g, g.Users[user].Name, words[word], mac, guestIp(1+chance.Intn(5)), now)
	if (code == impl.ErrBusy) != (fail.Until > now) || (id == 0) != (code != impl.OK) {
		t.Errorf("the Fail is %v, at %d: %d, %d", fail, now, id, code)
	}
	if code != impl.ErrBusy && (code == impl.ErrUser) != (user != word) {
		t.Errorf("user %d, word %d: %d", user, word, code)
	}
	if code == impl.ErrUser {
		fail.Count++
		if fail.Count == 3 {
			fail.Count, fail.Until = 0, now+10
		}
		l.fails[mac] = fail
	}
	if code == impl.OK {
		l.began[id] = g.Users[user]
	}
	return next, code
}

func holdLedger(t *testing.T, c impl.Config, g impl.Guests, l ledger) {
	t.Helper()
	if !impl.GuestsOK(c, g) {
		t.Errorf("guests are not right any more: %v", g)
	}
	if ok, code := impl.RecordsHold(g.Records); !ok || code != impl.OK || !bracketedByHand(g.Records) {
		t.Errorf("records are not well bracketed: %v", g.Records)
	}
	told := map[string]int{}
	for _, s := range g.Sessions {
		told[l.began[s.Id].Name] += s.Used
		if l.ended[s.Id] != 0 || s.Used > s.Quota {
			t.Errorf("%v ended, or has used too much", s)
		}
	}
	for _, r := range g.Records {
		told[l.began[r.Id].Name] += r.Bytes
		if r.Stop && l.ended[r.Id] != 1 {
			t.Errorf("%v: it ended %d times", r, l.ended[r.Id])
		}
	}
	if len(g.Sessions)+len(l.ended) != len(l.began) || g.Next != len(l.began)+1 || len(g.Records) != len(l.began)+len(l.ended) {
		t.Errorf("%d began and %d ended, but there are %d, and %d records", len(l.began), len(l.ended), len(g.Sessions), len(g.Records))
	}
	for k, u := range quietGuests().Users {
		if taken := u.Balance - g.Users[k].Balance; taken != l.charged[u.Name] || taken != told[u.Name] {
			t.Errorf("%d is taken off %s, %d was charged, %d is told", taken, u.Name, l.charged[u.Name], told[u.Name])
		}
	}
}

func TestGuestsHandedInStayAsTheyWere(t *testing.T) {
	for name, do := range guestChanges() {
		g, before := roomyGuests(), roomyGuests()
		do(g)
		// What stands behind the ends of the lists must stay, too.
		if !reflect.DeepEqual(behindEnds(g), behindEnds(before)) {
			t.Errorf("%s changed what it was handed: %v became %v", name, behindEnds(before), behindEnds(g))
		}
	}
}

func TestGuestsAnsweredAreNewMemory(t *testing.T) {
	for name, do := range guestChanges() {
		g := roomyGuests()
		next := do(g)
		want := copied(next)
		// What is changed in what was handed in is not seen in the answer, ..
		wipe(g)
		if !sameGuests(next, want) {
			t.Errorf("%s answers what it was handed", name)
		}
		// .. nor the other way round, nor from one answer to the next.
		g = roomyGuests()
		wipe(next)
		wipe(do(g))
		if again := do(g); !sameGuests(again, want) || !reflect.DeepEqual(behindEnds(g), behindEnds(roomyGuests())) {
			t.Errorf("%s was changed through its answer", name)
		}
	}
}

// What stands behind the end of a list is not of it, and an empty list is nil.
func TestListsOfGuestsEndAtTheirEnd(t *testing.T) {
	for name, do := range guestChanges() {
		if !sameGuests(do(roomyGuests()), do(busyGuests())) {
			t.Errorf("%s sees what stands behind the ends", name)
		}
		none := impl.Guests{Users: []impl.User{}, Sessions: []impl.Session{}, Fails: []impl.Fail{}, Records: []impl.Record{}, Next: 3}
		if !sameGuests(do(none), do(impl.Guests{Next: 3})) {
			t.Errorf("%s tells empty lists from nil", name)
		}
	}
}

// guestChanges has each way of the calls that answer guests, of busyGuests.
func guestChanges() map[string]func(g impl.Guests) impl.Guests {
	calls := map[string]func(g impl.Guests) impl.Guests{}
	login := func(name, word string, mac int) func(g impl.Guests) impl.Guests {
		return func(g impl.Guests) impl.Guests {
			next, _, _ := impl.Login(plainConfig(), g, name, word, guestMac(mac), guestIp(5), 25)
			return next
		}
	}
	calls["Login"] = login("dan", "dates", 5)
	calls["Login, busy"] = login("dan", "dates", 4)
	calls["Login with a wrong word"] = login("dan", "wrong", 3)
	calls["Login with a wrong word, the first"] = login("dan", "wrong", 0)
	calls["Login, twice"] = login("ann", "apple", 5)
	for name, r := range portalAsks() {
		for _, mac := range []int{1, 3, 4, 5} {
			calls[fmt.Sprintf("PortalDo, %s by %d", name, mac)] = func(g impl.Guests) impl.Guests {
				next, _, _ := impl.PortalDo(plainConfig(), g, r, guestMac(mac), guestIp(mac), 25)
				return next
			}
			calls[fmt.Sprintf("PortalRead, %s by %d", name, mac)] = func(g impl.Guests) impl.Guests {
				next, _, _, _ := impl.PortalRead(plainConfig(), g, requestByHand(r), guestMac(mac), guestIp(mac), 25)
				return next
			}
		}
	}
	calls["PortalRead of no request"] = func(g impl.Guests) impl.Guests {
		next, _, _, _ := impl.PortalRead(plainConfig(), g, "no request\r\n\r\n", guestMac(1), guestIp(1), 25)
		return next
	}
	for name, do := range timedCalls() {
		for _, now := range []int{25, 35, 50, 2000} {
			calls[fmt.Sprintf("%s at %d", name, now)] = func(g impl.Guests) impl.Guests {
				next, _, _ := do(plainConfig(), g, now)
				return next
			}
		}
	}
	return calls
}

// roomyGuests is busyGuests with room behind the ends of its lists, and things in it.
func roomyGuests() impl.Guests {
	g := busyGuests()
	u, s, f, r := len(g.Users), len(g.Sessions), len(g.Fails), len(g.Records)
	g.Users = append(g.Users, impl.User{Name: "zoe"}, impl.User{})[:u]
	g.Sessions = append(g.Sessions, impl.Session{Id: 6, Mac: guestMac(5), Ip: guestIp(5)}, impl.Session{Id: 8})[:s]
	g.Fails = append(g.Fails, impl.Fail{Mac: guestMac(5), Until: 99}, impl.Fail{Count: 9})[:f]
	g.Records = append(g.Records, impl.Record{Id: 77}, impl.Record{Id: 78, Stop: true})[:r]
	return g
}

// behindEnds tells the lists up to their capacity.
func behindEnds(g impl.Guests) []any {
	return []any{len(g.Users), len(g.Sessions), len(g.Fails), len(g.Records), g.Next,
		g.Users[:cap(g.Users)], g.Sessions[:cap(g.Sessions)], g.Fails[:cap(g.Fails)], g.Records[:cap(g.Records)]}
}

func wipe(g impl.Guests) {
	clear(g.Users[:cap(g.Users)])
	clear(g.Sessions[:cap(g.Sessions)])
	clear(g.Fails[:cap(g.Fails)])
	clear(g.Records[:cap(g.Records)])
}

// withoutSession is what guests are when the session at a place has ended.
func withoutSession(g impl.Guests, k, now, cause int) impl.Guests {
	g = copied(g)
	g.Records = append(g.Records, impl.Record{Id: g.Sessions[k].Id, At: now, Cause: cause, Bytes: g.Sessions[k].Used, Stop: true})
	g.Sessions = slices.Delete(g.Sessions, k, k+1)
	return g
}

// bracketedByHand looks at the records of each Id by themselves.
func bracketedByHand(list []impl.Record) bool {
	for _, r := range list {
		var own []impl.Record
		for _, o := range list {
			if o.Id == r.Id {
				own = append(own, o)
			}
		}
		right := len(own) == 1 && !own[0].Stop || len(own) == 2 && !own[0].Stop && own[1].Stop && own[0].At <= own[1].At
		if !right {
			return false
		}
	}
	return true
}
