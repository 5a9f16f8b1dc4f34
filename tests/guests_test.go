package tests

import (
	"fmt"
	"math"
	"slices"
	"strings"
	"testing"

	"loop.example/g00356/impl"
)

func TestGuestsConstants(t *testing.T) {
	for i, c := range []struct{ is, want int }{
		{impl.CaLogout, 1}, {impl.CaIdle, 2}, {impl.CaTime, 3}, {impl.CaQuota, 4}, {impl.CaMoved, 5}, {impl.CaKick, 6},
		{impl.MaxUsers, 6}, {impl.MaxSessions, 3}, {impl.MaxRecords, 60}, {impl.MaxNow, 100000}, {impl.MaxFails, 3}, {impl.FailPause, 10},
	} {
		if c.is != c.want {
			t.Errorf("constant %d is %d, not %d", i, c.is, c.want)
		}
	}
}

func TestUsersMade(t *testing.T) {
	for _, name := range []string{"a", "_", "ann", "A1234567"} {
		for _, role := range []string{"z", "staff", "_2345678"} {
			for _, word := range []string{"", "apple", "\x00\xff", strings.Repeat("w", 40)} {
				for _, n := range [][2]int{{0, 0}, {600, 3}, {1000000, 1000}} {
					want := impl.User{Name: name, Salt: "salt " + name, Hash: passByHand("salt "+name, word), Role: role, Balance: n[0], Logins: n[1]}
					if u, code := impl.MakeUser(name, word, role, n[0], n[1]); u != want || code != impl.OK {
						t.Errorf("MakeUser(%q, %q, %q, %v) = %v, %d", name, word, role, n, u, code)
					}
				}
			}
		}
	}
}

func TestMakeUserFaults(t *testing.T) {
	hold := func(name, word, role string, balance, logins, want int) {
		t.Helper()
		if u, code := impl.MakeUser(name, word, role, balance, logins); u != (impl.User{}) || code != want {
			t.Errorf("MakeUser(%.20q, %.50q, %.20q, %d, %d) = %v, %d, not %d", name, word, role, balance, logins, u, code, want)
		}
	}
	for _, wrong := range wrongShortNames() {
		hold(wrong, "apple", "guest", 600, 3, impl.ErrRange)
		hold("ann", "apple", wrong, 600, 3, impl.ErrRange)
	}
	for _, size := range []int{41, 42, 100, impl.MaxText} {
		hold("ann", strings.Repeat("w", size), "guest", 600, 3, impl.ErrRange)
	}
	for _, n := range []int{math.MinInt, -1000000, -1, 1000001, 1 << 32, math.MaxInt} {
		hold("ann", "apple", "guest", n, 3, impl.ErrRange)
	}
	for _, n := range []int{math.MinInt, -1000, -1, 1001, 1000000, 1 << 32, math.MaxInt} {
		hold("ann", "apple", "guest", 600, n, impl.ErrRange)
	}
	long := strings.Repeat("w", impl.MaxText+1)
	for _, row := range [][3]string{{long, "apple", "guest"}, {"ann", long, "guest"}, {"ann", "apple", long}, {long, long, long}, {"1", long, ""}, {"", "", long}} {
		hold(row[0], row[1], row[2], 600, 3, impl.ErrLong)
		hold(row[0], row[1], row[2], -1, 1001, impl.ErrLong)
	}
}

func TestGuestsThatAreRight(t *testing.T) {
	for i, g := range rightGuests() {
		if !impl.GuestsOK(plainConfig(), g) {
			t.Errorf("the guests %d are none: %v", i, g)
		}
	}
}

func TestGuestsThatAreNot(t *testing.T) {
	for i, g := range wrongGuests() {
		if impl.GuestsOK(plainConfig(), g) {
			t.Errorf("the guests %d are some: %.300v", i, g)
		}
	}
}

func TestGuestsNeedAConfiguration(t *testing.T) {
	for i, c := range wrongConfigs() {
		if impl.GuestsOK(c, impl.Guests{Next: 1}) {
			t.Errorf("there are guests of the wrong configuration %d", i)
		}
	}
}

func TestGuestsByTheirNumbers(t *testing.T) {
	for _, row := range guestNumbers() {
		for _, n := range []int{math.MinInt, -1 << 32, -1, row.low - 1, row.low, row.low + 1, row.high - 1, row.high, row.high + 1, 1 << 32, math.MaxInt} {
			g := busyGuests()
			*row.number(&g) = n
			if want := n >= row.low && n <= row.high; impl.GuestsOK(plainConfig(), g) != want {
				t.Errorf("with a %s of %d guests are not %v", row.name, n, want)
			}
		}
	}
}

func TestGuestsByTheirAddresses(t *testing.T) {
	for _, row := range []struct {
		lan  impl.Net
		ip   int
		want bool
	}{
		{impl.Net{Ip: 0x0a000000, Bits: 24}, 0x0a000000, true},
		{impl.Net{Ip: 0x0a000000, Bits: 24}, 0x0a0000ff, true},
		{impl.Net{Ip: 0x0a000000, Bits: 24}, 0x0a000001, true},
		{impl.Net{Ip: 0x0a000000, Bits: 24}, 0x09ffffff, false},
		{impl.Net{Ip: 0x0a000000, Bits: 24}, 0x0a000100, false},
		{impl.Net{Ip: 0x0a000000, Bits: 8}, 0x0a000100, true},
		{impl.Net{Ip: 0x0a000000, Bits: 24}, quadOne, false},
		{impl.Net{Ip: 0x0a000000, Bits: 24}, -1, false},
		{impl.Net{Ip: 0x0a000000, Bits: 24}, 0x0a000000 + 1<<32, false},
		{impl.Net{Ip: 0x0a000000, Bits: 24}, math.MaxInt, false},
	} {
		c, g := plainConfig(), busyGuests()
		c.Lan = row.lan
		g.Sessions[0].Ip = row.ip
		if impl.GuestsOK(c, g) != row.want {
			t.Errorf("with a session at %#x in %v guests are not %v", row.ip, row.lan, row.want)
		}
	}
}

func TestGuestsByTheirRoles(t *testing.T) {
	c, g := plainConfig(), busyGuests()
	for _, row := range []struct {
		role string
		want bool
	}{{"guest", true}, {"staff", true}, {"", false}, {"gues", false}, {"guests", false}, {"Guest", false}, {"nobody", false}} {
		g.Users[0].Role = row.role
		if impl.GuestsOK(c, g) != row.want {
			t.Errorf("with a user of role %q guests are not %v", row.role, row.want)
		}
	}
	g = busyGuests()
	c.Roles = c.Roles[:1]
	if impl.GuestsOK(c, g) {
		t.Error("a user has a role that is no more there, and is right")
	}
}

func TestWhoHasTheRightWordGetsASession(t *testing.T) {
	g := busyGuests()
	want := busyGuests()
	want.Next = 10
	want.Users[3].Logins = 1
	want.Sessions = append(want.Sessions, impl.Session{Id: 9, User: 3, Mac: guestMac(5), Ip: guestIp(5), Begun: 25, Last: 25, Quota: 400, Until: 65, Idle: 10})
	want.Records = append(want.Records, impl.Record{Id: 9, At: 25})
	next, id, code := impl.Login(plainConfig(), g, "dan", "dates", guestMac(5), guestIp(5), 25)
	if id != 9 || code != impl.OK {
		t.Errorf("Login: %d, %d", id, code)
	}
	holdGuests(t, "Login", next, want)
}

// Each user logs in on a gateway without sessions, at the edges of time and of the Lan.
func TestSessionsBegin(t *testing.T) {
	c := plainConfig()
	words := []string{"apple", "berry", "cider", "dates"}
	for k, name := range []string{"ann", "bob", "cy", "dan"} {
		for _, now := range []int{0, 1, 99999, impl.MaxNow} {
			for _, ip := range []int{0x0a000000, 0x0a000001, 0x0a000002, 0x0a0000ff} {
				g := quietGuests()
				role := c.Roles[slices.IndexFunc(c.Roles, func(r impl.Role) bool { return r.Name == g.Users[k].Role })]
				next, id, code := impl.Login(c, g, name, words[k], macB, ip, now)
				s := impl.Session{Id: 1, User: k, Mac: macB, Ip: ip, Begun: now, Last: now, Quota: min(role.Quota, g.Users[k].Balance), Until: now + role.Minutes, Idle: role.Idle}
				if id != 1 || code != impl.OK || !impl.GuestsOK(c, next) || !slices.Equal(next.Sessions, []impl.Session{s}) {
					t.Errorf("%s at %d: %d, %d, %v", name, now, id, code, next.Sessions)
				}
			}
		}
	}
}

func TestQuotasOfSessions(t *testing.T) {
	for _, row := range []struct{ balance, want int }{{1, 1}, {50, 50}, {399, 399}, {400, 400}, {401, 400}, {1000000, 400}} {
		g := quietGuests()
		g.Users[0].Balance = row.balance
		next, id, code := impl.Login(plainConfig(), g, "ann", "apple", macA, guestIp(1), 5)
		if id != 1 || code != impl.OK || next.Sessions[0].Quota != row.want || next.Users[0].Balance != row.balance {
			t.Errorf("with a balance of %d: %d, %d, %v, %v", row.balance, id, code, next.Sessions, next.Users)
		}
	}
}

// Whoever logs in with any name and word gets a session just if they are a user's.
func TestWhoHasAnotherWordGetsNone(t *testing.T) {
	right := map[string]string{"ann": "apple", "bob": "berry", "cy": "cider", "dan": "dates"}
	names := []string{"", "a", "an", "ann", "anna", "Ann", "ann ", " ann", "bob", "cy", "dan", "eve", "ann\x00", "salt ann", strings.Repeat("n", impl.MaxText)}
	words := []string{"", "apple", "appl", "apples", "Apple", "apple ", "apple\x00", "berry", "cider", "dates", "\xff", strings.Repeat("w", 40)}
	for _, name := range names {
		for _, word := range words {
			g := quietGuests()
			next, id, code := impl.Login(plainConfig(), g, name, word, macB, guestIp(7), 3)
			if secret, known := right[name]; known && secret == word {
				if id != 1 || code != impl.OK || len(next.Sessions) != 1 {
					t.Errorf("Login(%q, %q) = %d, %d", name, word, id, code)
				}
				continue
			}
			want := quietGuests()
			want.Fails = []impl.Fail{{Mac: macB, Count: 1}}
			if id != 0 || code != impl.ErrUser {
				t.Errorf("Login(%.20q, %q) = %d, %d", name, word, id, code)
			}
			holdGuests(t, "Login with a wrong word", next, want)
		}
	}
}

// Words of 0 and of 40 bytes are words as others.
func TestWordsAtTheirEdges(t *testing.T) {
	for _, word := range []string{"", strings.Repeat("w", 40)} {
		u, code := impl.MakeUser("ann", word, "guest", 600, 3)
		g := impl.Guests{Users: []impl.User{u}, Next: 1}
		if _, id, got := impl.Login(plainConfig(), g, "ann", word, macA, guestIp(1), 0); code != impl.OK || id != 1 || got != impl.OK {
			t.Errorf("with a word of %d bytes: %d, %d", len(word), id, got)
		}
		if next, id, got := impl.Login(plainConfig(), g, "ann", word+strings.Repeat("w", 41), macA, guestIp(1), 0); id != 0 || got != impl.ErrRange || !sameGuests(next, impl.Guests{}) {
			t.Errorf("with a longer word: %d, %d", id, got)
		}
	}
}

// A salt is any text of at most 40 bytes, and the hash goes by it.
func TestSaltsOfUsers(t *testing.T) {
	for _, salt := range []string{"", "s", "salt bob", strings.Repeat("s", 40)} {
		g := quietGuests()
		g.Users[0].Salt, g.Users[0].Hash = salt, passByHand(salt, "apple")
		if _, id, code := impl.Login(plainConfig(), g, "ann", "apple", macA, guestIp(1), 0); id != 1 || code != impl.OK {
			t.Errorf("with salt %q: %d, %d", salt, id, code)
		}
		g.Users[0].Salt = "other"
		if _, id, code := impl.Login(plainConfig(), g, "ann", "apple", macA, guestIp(1), 0); id != 0 || code != impl.ErrUser {
			t.Errorf("with another salt than %q: %d, %d", salt, id, code)
		}
	}
}

func TestThreeWrongWordsAndTheWait(t *testing.T) {
	c := plainConfig()
	for _, at := range []int{0, 6, 99990, impl.MaxNow} {
		g := quietGuests()
		for k := range 3 {
			next, id, code := impl.Login(c, g, "ann", "wrong", macA, guestIp(1), at)
			want := impl.Fail{Mac: macA, Count: k + 1}
			if k == 2 {
				want = impl.Fail{Mac: macA, Until: at + 10}
			}
			if id != 0 || code != impl.ErrUser || !slices.Equal(next.Fails, []impl.Fail{want}) || !impl.GuestsOK(c, next) {
				t.Errorf("wrong word %d at %d: %d, %d, %v", k, at, id, code, next.Fails)
			}
			g = next
		}
		for now := at; now <= min(at+12, impl.MaxNow); now++ {
			for _, word := range []string{"apple", "wrong"} {
				next, id, code := impl.Login(c, g, "ann", word, macA, guestIp(1), now)
				if now < at+10 {
					if id != 0 || code != impl.ErrBusy {
						t.Errorf("at %d, %d behind the third: %d, %d", now, now-at, id, code)
					}
					holdGuests(t, "a guest who must wait", next, g)
				} else if word == "apple" && (id != 1 || code != impl.OK || !slices.Equal(next.Fails, g.Fails)) {
					t.Errorf("at %d, %d behind the third: %d, %d, %v", now, now-at, id, code, next.Fails)
				} else if word == "wrong" && (code != impl.ErrUser || next.Fails[0] != (impl.Fail{Mac: macA, Count: 1, Until: at + 10})) {
					t.Errorf("at %d, %d behind the third: %d, %v", now, now-at, code, next.Fails)
				}
			}
		}
		if _, id, code := impl.Login(c, g, "ann", "apple", macB, guestIp(1), at); id != 1 || code != impl.OK {
			t.Errorf("another mac must wait, too: %d, %d", id, code)
		}
	}
}

// The mac fails, whatever names, addresses and times it comes with; a right
// word between two wrong ones takes nothing off the count.
func TestFailsAreCountedByMac(t *testing.T) {
	c, g := plainConfig(), quietGuests()
	for _, row := range []struct {
		name, word string
		k, now     int
		id, code   int
		fail       impl.Fail
	}{
		{"ann", "berry", 1, 50, 0, impl.ErrUser, impl.Fail{Count: 1}},
		{"nobody", "x", 2, 40, 0, impl.ErrUser, impl.Fail{Count: 2}},
		{"ann", "apple", 3, 60, 1, impl.OK, impl.Fail{Count: 2}},
		{"bob", "", 4, 70, 0, impl.ErrUser, impl.Fail{Until: 80}},
		{"bob", "berry", 5, 79, 0, impl.ErrBusy, impl.Fail{Until: 80}},
		{"bob", "x", 5, 80, 0, impl.ErrUser, impl.Fail{Count: 1, Until: 80}},
		{"bob", "x", 5, 79, 0, impl.ErrBusy, impl.Fail{Count: 1, Until: 80}},
		{"bob", "x", 5, 81, 0, impl.ErrUser, impl.Fail{Count: 2, Until: 80}},
		{"bob", "berry", 5, 82, 0, impl.ErrTwice, impl.Fail{Count: 2, Until: 80}},
		{"bob", "x", 5, 83, 0, impl.ErrUser, impl.Fail{Until: 93}},
	} {
		next, id, code := impl.Login(c, g, row.name, row.word, macA, guestIp(row.k), row.now)
		row.fail.Mac = macA
		if id != row.id || code != row.code || !slices.Equal(next.Fails, []impl.Fail{row.fail}) {
			t.Errorf("%s with %q at %d: %d, %d, %v", row.name, row.word, row.now, id, code, next.Fails)
		}
		g = next
	}
}

func TestUntilIsAboveNowOrNot(t *testing.T) {
	for _, now := range []int{0, 1, 500, impl.MaxNow} {
		for _, ahead := range []int{-1, 0, 1, 10} {
			for count := range 3 {
				g := quietGuests()
				g.Fails = []impl.Fail{{Mac: macA, Count: count, Until: max(now+ahead, 0)}}
				next, id, code := impl.Login(plainConfig(), g, "ann", "apple", macA, guestIp(1), now)
				if ahead > 0 {
					if id != 0 || code != impl.ErrBusy || !sameGuests(next, g) {
						t.Errorf("a Fail up to %d, now %d: %d, %d", now+ahead, now, id, code)
					}
				} else if id != 1 || code != impl.OK || !slices.Equal(next.Fails, g.Fails) {
					t.Errorf("a Fail up to %d, now %d: %d, %d, %v", now+ahead, now, id, code, next.Fails)
				}
			}
		}
	}
}

// A new Fail stands in its place, whichever that is, as long as there is room.
func TestRoomForFails(t *testing.T) {
	c := plainConfig()
	for _, size := range []int{0, 1, 5, 18, 19, 20} {
		for place := range size + 1 {
			g := quietGuests()
			for k := range size {
				g.Fails = append(g.Fails, impl.Fail{Mac: guestMac(10 + 2*k), Count: 2, Until: 7})
			}
			mac := guestMac(9 + 2*place)
			want := slices.Clone(g.Fails)
			if size < 20 {
				want = slices.Insert(want, place, impl.Fail{Mac: mac, Count: 1})
			}
			next, id, code := impl.Login(c, g, "ann", "wrong", mac, guestIp(1), 8)
			if id != 0 || code != impl.ErrUser || !slices.Equal(next.Fails, want) || !impl.GuestsOK(c, next) {
				t.Errorf("a new Fail at %d of %d: %d, %v", place, size, code, next.Fails)
			}
			if place < size {
				want = slices.Clone(g.Fails)
				want[place] = impl.Fail{Mac: guestMac(10 + 2*place), Until: 18}
				next, id, code = impl.Login(c, g, "ann", "wrong", guestMac(10+2*place), guestIp(1), 8)
				if id != 0 || code != impl.ErrUser || !slices.Equal(next.Fails, want) {
					t.Errorf("the Fail at %d of %d: %d, %v", place, size, code, next.Fails)
				}
			}
		}
	}
}

// Macs are ordered byte by byte, those from 128 on behind the others.
func TestFailsRiseByTheirMacs(t *testing.T) {
	c, g := plainConfig(), quietGuests()
	for _, mac := range []string{macB, macA, "\xff\xff\xff\xff\xff\xff", "\x00\x00\x00\x00\x00\x00", "\x7fabcde", "\x80abcde"} {
		g, _, _ = impl.Login(c, g, "ann", "wrong", mac, guestIp(1), 8)
	}
	want := []string{"\x00\x00\x00\x00\x00\x00", macA, "\x7fabcde", "\x80abcde", macB, "\xff\xff\xff\xff\xff\xff"}
	for k, f := range g.Fails {
		if len(g.Fails) != len(want) || f != (impl.Fail{Mac: want[k], Count: 1}) {
			t.Errorf("Fails are %v", g.Fails)
		}
	}
}

func TestNothingIsLeftToLogInWith(t *testing.T) {
	for _, row := range []struct{ balance, logins, code int }{{600, 1, impl.OK}, {1, 3, impl.OK}, {1, 1, impl.OK}, {600, 0, impl.ErrSpent}, {0, 3, impl.ErrSpent}, {0, 0, impl.ErrSpent}} {
		g := quietGuests()
		g.Users[0].Balance, g.Users[0].Logins = row.balance, row.logins
		next, id, code := impl.Login(plainConfig(), g, "ann", "apple", macA, guestIp(1), 5)
		if code != row.code {
			t.Errorf("with %v: %d, %d", row, id, code)
		}
		if code == impl.OK && (id != 1 || next.Users[0].Logins != row.logins-1) {
			t.Errorf("with %v: %d, %v", row, id, next.Users[0])
		}
		if code != impl.OK && (id != 0 || !sameGuests(next, g)) {
			t.Errorf("with %v: %d, not as it was", row, id)
		}
	}
}

func TestWhatHasASessionAlready(t *testing.T) {
	for user, name := range []string{"ann", "bob"} {
		for mac := 1; mac <= 3; mac++ {
			for ip := 1; ip <= 3; ip++ {
				g := busyGuests()
				word := []string{"apple", "berry"}[user]
				g.Sessions = g.Sessions[:1]
				g.Fails = nil
				next, id, code := impl.Login(plainConfig(), g, name, word, guestMac(mac), guestIp(ip), 25)
				if user == 0 || mac == 1 || ip == 1 {
					if id != 0 || code != impl.ErrTwice || !sameGuests(next, g) {
						t.Errorf("%s with mac %d at %d: %d, %d", name, mac, ip, id, code)
					}
				} else if id != 9 || code != impl.OK {
					t.Errorf("%s with mac %d at %d: %d, %d", name, mac, ip, id, code)
				}
			}
		}
	}
}

func TestNoRoomForASession(t *testing.T) {
	c := plainConfig()
	for sessions := range 4 {
		for records := range 61 {
			for _, next := range []int{9, 9998, 9999, 10000} {
				g := crowd(sessions, records)
				g.Next = next
				after, id, code := impl.Login(c, g, "fay", "figs", guestMac(9), guestIp(9), 30)
				if sessions == 3 || records+sessions > 58 || next == 10000 {
					if id != 0 || code != impl.ErrFull || !sameGuests(after, g) {
						t.Errorf("%d sessions, %d records, next %d: %d, %d", sessions, records, next, id, code)
					}
				} else if id != next || code != impl.OK || after.Next != next+1 || !impl.GuestsOK(c, after) || len(after.Records) != records+1 || len(after.Sessions) != sessions+1 {
					t.Errorf("%d sessions, %d records, next %d: %d, %d", sessions, records, next, id, code)
				}
			}
		}
	}
}

func TestLoginOutOfRange(t *testing.T) {
	hold := func(word, mac string, ip, now, want int) {
		t.Helper()
		next, id, code := impl.Login(plainConfig(), busyGuests(), "dan", word, mac, ip, now)
		if id != 0 || code != want || !sameGuests(next, impl.Guests{}) {
			t.Errorf("Login(%.50q, %.20q, %#x, %d) = %v, %d, %d, not %d", word, mac, ip, now, next, id, code, want)
		}
	}
	for _, now := range wrongTimes() {
		hold("dates", guestMac(5), guestIp(5), now, impl.ErrRange)
	}
	for _, mac := range wrongMacs() {
		want := impl.ErrRange
		if len(mac) > impl.MaxText {
			want = impl.ErrLong
		}
		hold("dates", mac, guestIp(5), 25, want)
	}
	for _, ip := range append(outside(4), 0, 0x09ffffff, 0x0a000100, quadOne, impl.MaxAddress) {
		hold("dates", guestMac(5), ip, 25, impl.ErrRange)
	}
	for _, size := range []int{41, 100, impl.MaxText} {
		hold(strings.Repeat("w", size), guestMac(5), guestIp(5), 25, impl.ErrRange)
	}
	hold("dates", strings.Repeat("m", impl.MaxText), guestIp(5), 25, impl.ErrRange)
	hold(strings.Repeat("w", impl.MaxText+1), guestMac(5), guestIp(5), 25, impl.ErrLong)
}

// A text that is too long comes ahead of all other faults, whichever it is.
func TestLoginWithLongTexts(t *testing.T) {
	long := strings.Repeat("t", impl.MaxText+1)
	for _, texts := range [][3]string{{long, "dates", macA}, {"dan", long, macA}, {"dan", "dates", long}, {long, long, long}} {
		for _, g := range []impl.Guests{busyGuests(), {}} {
			for _, now := range []int{25, -1} {
				next, id, code := impl.Login(plainConfig(), g, texts[0], texts[1], texts[2], guestIp(5), now)
				if id != 0 || code != impl.ErrLong || !sameGuests(next, impl.Guests{}) {
					t.Errorf("Login of texts of %d, %d and %d bytes at %d: %d, %d", len(texts[0]), len(texts[1]), len(texts[2]), now, id, code)
				}
			}
		}
	}
}

// loginAsk is all that Login is handed.
type loginAsk struct {
	c               impl.Config
	g               impl.Guests
	name, word, mac string
	ip, now         int
}

// loginFault is a fault that an ask may have, and what Login answers of it if it is the first.
type loginFault struct {
	code, empty int
	set         func(a *loginAsk)
}

// All sets of faults: the first in the document's order gives the code, and
// says whether the answer is empty or as it was.
func TestLoginFaultsInTheirOrder(t *testing.T) {
	faults := loginFaults()
	for set := range 1 << len(faults) {
		a := loginAsk{plainConfig(), busyGuests(), "dan", "dates", guestMac(5), guestIp(5), 25}
		first := loginFault{code: impl.OK}
		// From the last one on, so that an earlier fault is not undone by a later one.
		for k, f := range slices.Backward(faults) {
			if set>>k&1 == 1 {
				f.set(&a)
				first = f
			}
		}
		want := impl.Guests{}
		if first.empty == 0 {
			want = copied(a.g)
		}
		if first.code == impl.ErrUser {
			want.Fails = append(want.Fails, impl.Fail{Mac: a.mac, Count: 1})
		}
		next, id, code := impl.Login(a.c, a.g, a.name, a.word, a.mac, a.ip, a.now)
		if code != first.code {
			t.Errorf("faults %b: %d, not %d", set, code, first.code)
		}
		if code != impl.OK && (id != 0 || !sameGuests(next, want)) {
			t.Errorf("faults %b with code %d: %d, %v", set, code, id, next)
		}
	}
}

func loginFaults() []loginFault {
	return []loginFault{
		{impl.ErrLong, 1, func(a *loginAsk) { a.name = strings.Repeat("n", impl.MaxText+1) }},
		{impl.ErrBad, 1, func(a *loginAsk) { a.g.Users[1].Balance = -1 }},
		{impl.ErrRange, 1, func(a *loginAsk) { a.now = impl.MaxNow + 1 }},
		{impl.ErrRange, 1, func(a *loginAsk) { a.mac = a.mac[:5] }},
		{impl.ErrRange, 1, func(a *loginAsk) { a.ip = quadOne }},
		{impl.ErrRange, 1, func(a *loginAsk) { a.word = strings.Repeat("w", 41) }},
		{impl.ErrBusy, 0, func(a *loginAsk) { a.g.Fails = []impl.Fail{{Mac: a.mac, Until: impl.MaxNow + 10}} }},
		{impl.ErrUser, 0, func(a *loginAsk) { a.word = "apple" }},
		{impl.ErrSpent, 0, func(a *loginAsk) { a.g.Users[3].Logins = 0 }},
		{impl.ErrTwice, 0, func(a *loginAsk) { a.g.Sessions[1].Ip = a.ip }},
		{impl.ErrFull, 0, func(a *loginAsk) { a.g.Next = 10000 }},
	}
}

func TestLoginOfWrongGuests(t *testing.T) {
	hold := func(c impl.Config, g impl.Guests, now int) {
		t.Helper()
		if next, id, code := impl.Login(c, g, "ann", "apple", "no mac", -1, now); id != 0 || code != impl.ErrBad || !sameGuests(next, impl.Guests{}) {
			t.Errorf("Login of wrong guests %.200v: %d, %d", g, id, code)
		}
	}
	for _, g := range wrongGuests() {
		hold(plainConfig(), g, 5)
		hold(plainConfig(), g, -1)
	}
	for _, c := range wrongConfigs() {
		hold(c, impl.Guests{Next: 1}, 5)
	}
}

// passByHand is the hash of a word of a user.
func passByHand(salt, word string) string {
	h := hashOf([]byte(salt + "\x00" + word))
	for range 3 {
		h = hashOf([]byte(salt + h))
	}
	return h
}

func guestMac(k int) string {
	return "\x02\x00\x00\x00\x00" + string([]byte{byte(k)})
}

func guestIp(k int) int {
	return 0x0a000001 + k
}

func userOf(name, word, role string, balance, logins int) impl.User {
	return impl.User{Name: name, Salt: "salt " + name, Hash: passByHand("salt "+name, word), Role: role, Balance: balance, Logins: logins}
}

// quietGuests has users alone.
func quietGuests() impl.Guests {
	return impl.Guests{Next: 1, Users: []impl.User{
		userOf("ann", "apple", "guest", 600, 3),
		userOf("bob", "berry", "staff", 100000, 100),
		userOf("cy", "cider", "guest", 50, 1),
		userOf("dan", "dates", "guest", 700, 2),
	}}
}

// busyGuests has sessions, fails and records, too; there is room for more.
func busyGuests() impl.Guests {
	g := quietGuests()
	g.Next = 9
	g.Sessions = []impl.Session{
		{Id: 5, User: 0, Mac: guestMac(1), Ip: guestIp(1), Begun: 10, Last: 20, Used: 100, Quota: 400, Until: 50, Idle: 10},
		{Id: 7, User: 1, Mac: guestMac(2), Ip: guestIp(2), Begun: 12, Last: 12, Quota: 100000, Until: 1012, Idle: 100},
	}
	g.Fails = []impl.Fail{{Mac: guestMac(3), Count: 2}, {Mac: guestMac(4), Until: 30}}
	g.Records = []impl.Record{{Id: 4, At: 1}, {Id: 4, At: 3, Cause: impl.CaIdle, Bytes: 7, Stop: true}, {Id: 5, At: 10}, {Id: 7, At: 12}}
	return g
}

// crowd has six users, so many sessions of the first of them, and so many records.
func crowd(sessions, records int) impl.Guests {
	g := quietGuests()
	g.Next = 9
	g.Users = append(g.Users, userOf("eve", "elder", "guest", 600, 3), userOf("fay", "figs", "staff", 600, 3))
	for k := range sessions {
		g.Sessions = append(g.Sessions, impl.Session{Id: 2 + k, User: k, Mac: guestMac(1 + k), Ip: guestIp(1 + k), Begun: 10, Last: 20, Used: 10 * k, Quota: 50, Until: 60, Idle: 20})
	}
	for range records {
		g.Records = append(g.Records, impl.Record{Id: 1, At: 3})
	}
	return g
}

// guestNumber is a number within busyGuests, with the bounds that it has there.
type guestNumber struct {
	name      string
	low, high int
	number    func(g *impl.Guests) *int
}

func guestNumbers() []guestNumber {
	return []guestNumber{
		{"Next", 8, 10000, func(g *impl.Guests) *int { return &g.Next }},
		{"Balance", 0, 1000000, func(g *impl.Guests) *int { return &g.Users[1].Balance }},
		{"Logins", 0, 1000, func(g *impl.Guests) *int { return &g.Users[3].Logins }},
		{"first Id", 1, 6, func(g *impl.Guests) *int { return &g.Sessions[0].Id }},
		{"last Id", 6, 8, func(g *impl.Guests) *int { return &g.Sessions[1].Id }},
		{"User", 1, 3, func(g *impl.Guests) *int { g.Sessions[1].User = 0; return &g.Sessions[0].User }},
		{"Begun", 0, 20, func(g *impl.Guests) *int { return &g.Sessions[0].Begun }},
		{"Begun of a long one", 0, 100000, func(g *impl.Guests) *int {
			g.Sessions[0].Last, g.Sessions[0].Until = 100000, 100500
			return &g.Sessions[0].Begun
		}},
		{"Last", 10, 100000, func(g *impl.Guests) *int { return &g.Sessions[0].Last }},
		{"Until", 10, 101000, func(g *impl.Guests) *int { return &g.Sessions[0].Until }},
		{"Used", 0, 400, func(g *impl.Guests) *int { return &g.Sessions[0].Used }},
		{"Quota", 100, 1000000, func(g *impl.Guests) *int { return &g.Sessions[0].Quota }},
		{"unused Quota", 1, 1000000, func(g *impl.Guests) *int { return &g.Sessions[1].Quota }},
		{"Idle", 1, 1000, func(g *impl.Guests) *int { return &g.Sessions[1].Idle }},
		{"Count", 0, 2, func(g *impl.Guests) *int { return &g.Fails[1].Count }},
		{"Fail's Until", 0, 100010, func(g *impl.Guests) *int { return &g.Fails[0].Until }},
		{"beginning's Id", 1, 8, func(g *impl.Guests) *int { return &g.Records[0].Id }},
		{"end's Id", 1, 8, func(g *impl.Guests) *int { return &g.Records[1].Id }},
		{"beginning's time", 0, 100000, func(g *impl.Guests) *int { return &g.Records[3].At }},
		{"end's time", 0, 100000, func(g *impl.Guests) *int { return &g.Records[1].At }},
		{"beginning's Cause", 0, 0, func(g *impl.Guests) *int { return &g.Records[2].Cause }},
		{"end's Cause", 1, 6, func(g *impl.Guests) *int { return &g.Records[1].Cause }},
		{"beginning's Bytes", 0, 0, func(g *impl.Guests) *int { return &g.Records[0].Bytes }},
		{"end's Bytes", 0, 1000000, func(g *impl.Guests) *int { return &g.Records[1].Bytes }},
	}
}

func rightGuests() []impl.Guests {
	list := []impl.Guests{{Next: 1}, {Next: 10000}, quietGuests(), busyGuests(), crowd(3, 60), crowd(0, 60), crowd(3, 0), {Next: 1, Users: []impl.User{}, Sessions: []impl.Session{}, Fails: []impl.Fail{}, Records: []impl.Record{}}}
	change := func(set func(g *impl.Guests)) {
		g := busyGuests()
		set(&g)
		list = append(list, g)
	}
	change(func(g *impl.Guests) { g.Users[0].Salt = "" })
	change(func(g *impl.Guests) { g.Users[0].Salt = strings.Repeat("s", 40) })
	change(func(g *impl.Guests) { g.Users[0].Hash = strings.Repeat("\x00", 32) })
	change(func(g *impl.Guests) { g.Users[0].Hash = g.Users[1].Hash })
	change(func(g *impl.Guests) { g.Users[0].Name = "_" })
	change(func(g *impl.Guests) { g.Users[0].Name = "ZZZZZZZZ" })
	change(func(g *impl.Guests) { g.Users[3].Name = "cy1" })
	change(func(g *impl.Guests) { g.Sessions[0].Mac = "\xff\xff\xff\xff\xff\xff" })
	change(func(g *impl.Guests) { g.Sessions[0].Ip = 0x0a000001 })
	change(func(g *impl.Guests) { g.Sessions[0].User, g.Sessions[1].User = 3, 2 })
	change(func(g *impl.Guests) { g.Fails[1].Mac = "\xff\xff\xff\xff\xff\xff" })
	change(func(g *impl.Guests) { g.Fails[0].Mac = g.Sessions[0].Mac })
	change(func(g *impl.Guests) { g.Fails = fails(20) })
	// What records say together is not of the guests' being right.
	change(func(g *impl.Guests) { g.Records = []impl.Record{{Id: 1, Cause: 1, Stop: true}, {Id: 1}, {Id: 1}} })
	return list
}

func wrongGuests() []impl.Guests {
	list := []impl.Guests{{}, {Next: -1}, {Next: 10001}, {Next: math.MinInt}, {Next: math.MaxInt}}
	change := func(set func(g *impl.Guests)) {
		g := busyGuests()
		set(&g)
		list = append(list, g)
	}
	for _, name := range wrongShortNames() {
		change(func(g *impl.Guests) { g.Users = []impl.User{g.Users[0]}; g.Sessions = nil; g.Users[0].Name = name })
	}
	for _, size := range []int{7, 8, impl.MaxList, impl.MaxList + 1} {
		change(func(g *impl.Guests) { g.Users = namedUsers(size) })
	}
	for _, size := range []int{41, impl.MaxText + 1} {
		change(func(g *impl.Guests) { g.Users[3].Salt = strings.Repeat("s", size) })
	}
	for _, size := range []int{0, 31, 33, 64, impl.MaxText + 1} {
		change(func(g *impl.Guests) { g.Users[3].Hash = strings.Repeat("h", size) })
	}
	change(func(g *impl.Guests) { g.Users[0], g.Users[1] = g.Users[1], g.Users[0] })
	change(func(g *impl.Guests) { g.Users[2], g.Users[3] = g.Users[3], g.Users[2] })
	change(func(g *impl.Guests) { g.Users[3].Name = "cy" })
	change(func(g *impl.Guests) { g.Users[3].Name = "c" })
	change(func(g *impl.Guests) { g.Users[3].Name = "Zoe" })
	change(func(g *impl.Guests) { g.Users[1].Role = "" })
	change(func(g *impl.Guests) { g.Users = nil })
	change(func(g *impl.Guests) { g.Users = g.Users[:1] })
	for _, mac := range wrongMacs() {
		change(func(g *impl.Guests) { g.Sessions[1].Mac = mac })
		change(func(g *impl.Guests) { g.Fails = []impl.Fail{{Mac: mac}} })
	}
	change(func(g *impl.Guests) { g.Sessions[1].User = 0 })
	change(func(g *impl.Guests) { g.Sessions[1].Mac = guestMac(1) })
	change(func(g *impl.Guests) { g.Sessions[1].Ip = guestIp(1) })
	change(func(g *impl.Guests) { g.Sessions[1].Id = 5 })
	change(func(g *impl.Guests) { slices.Reverse(g.Sessions) })
	change(func(g *impl.Guests) { *g = crowd(4, 0) })
	change(func(g *impl.Guests) { *g = crowd(3, 0); g.Sessions[2].User = 0 })
	change(func(g *impl.Guests) { *g = crowd(3, 0); g.Sessions[2].Mac = guestMac(1) })
	change(func(g *impl.Guests) { *g = crowd(3, 0); g.Sessions[2].Ip = guestIp(1) })
	change(func(g *impl.Guests) { g.Sessions = make([]impl.Session, impl.MaxList+1) })
	change(func(g *impl.Guests) { slices.Reverse(g.Fails) })
	change(func(g *impl.Guests) { g.Fails[1].Mac = g.Fails[0].Mac })
	change(func(g *impl.Guests) { g.Fails = fails(21) })
	change(func(g *impl.Guests) { g.Fails = make([]impl.Fail, impl.MaxList+1) })
	change(func(g *impl.Guests) { *g = crowd(0, 61) })
	change(func(g *impl.Guests) { *g = crowd(3, impl.MaxList+1) })
	change(func(g *impl.Guests) { g.Records[0].Stop = true })
	change(func(g *impl.Guests) { g.Records[1].Stop = false })
	change(func(g *impl.Guests) { g.Records[0] = impl.Record{Id: 4, Bytes: 1} })
	change(func(g *impl.Guests) { g.Records[0] = impl.Record{Id: 4, Cause: impl.CaKick} })
	return list
}

func fails(size int) []impl.Fail {
	var list []impl.Fail
	for k := range size {
		list = append(list, impl.Fail{Mac: guestMac(k), Count: k % 3, Until: k})
	}
	return list
}

func namedUsers(size int) []impl.User {
	var list []impl.User
	for k := range size {
		list = append(list, userOf(fmt.Sprintf("u%05d", k), "word", "guest", 600, 3))
	}
	return list
}

func wrongShortNames() []string {
	return []string{"", "1", "1a", "a-b", "a b", " a", "a ", "\xff", "ä", "a\x00", "ninechars", strings.Repeat("a", impl.MaxName), strings.Repeat("a", impl.MaxText)}
}

func wrongTimes() []int {
	return []int{math.MinInt, -impl.MaxNow, -1, impl.MaxNow + 1, impl.MaxNow + 10, 1 << 32, math.MaxInt}
}

// copied has lists of its own.
func copied(g impl.Guests) impl.Guests {
	g.Users, g.Sessions, g.Fails, g.Records = slices.Clone(g.Users), slices.Clone(g.Sessions), slices.Clone(g.Fails), slices.Clone(g.Records)
	return g
}

// sameGuests takes an empty list and nil for the same value.
func sameGuests(a, b impl.Guests) bool {
	return a.Next == b.Next && slices.Equal(a.Users, b.Users) && slices.Equal(a.Sessions, b.Sessions) && slices.Equal(a.Fails, b.Fails) && slices.Equal(a.Records, b.Records)
}

func holdGuests(t *testing.T, what string, got, want impl.Guests) {
	t.Helper()
	if !sameGuests(got, want) {
		t.Errorf("%s: %v, not %v", what, got, want)
	}
}
