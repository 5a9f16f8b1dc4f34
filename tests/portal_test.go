package tests

import (
	"fmt"
	"math"
	"math/rand"
	"slices"
	"strings"
	"testing"

	"loop.example/g00356/impl"
)

func getOf(path string) impl.Request {
	return impl.Request{Method: "GET", Path: path}
}

func postOf(path, body string) impl.Request {
	return impl.Request{Method: "POST", Path: path, Body: body}
}

// portalAsks has a request of each kind that the portal knows, of busyGuests.
func portalAsks() map[string]impl.Request {
	return map[string]impl.Request{
		"the login page":   getOf("/login"),
		"the status":       getOf("/status"),
		"another page":     getOf("/"),
		"a logout":         postOf("/logout", "x"),
		"another form":     postOf("/status", ""),
		"a right word":     postOf("/login", "name=dan&word=dates"),
		"a wrong word":     postOf("/login", "name=dan&word=apple"),
		"nobody":           postOf("/login", ""),
		"one who is there": postOf("/login", "name=bob&word=berry"),
		"no form":          postOf("/login", "name"),
		"a long word":      postOf("/login", "name=dan&word="+strings.Repeat("w", 41)),
	}
}

// visitor is where a request comes from, and when.
type visitor struct {
	mac     string
	ip, now int
}

func visitorOf(k, now int) visitor {
	return visitor{guestMac(k), guestIp(k), now}
}

// shown is the page that a request must have, and the guests behind it.
type shown struct {
	status      int
	where, body string
	guests      impl.Guests
}

// holdPage holds what both calls answer to a request of plainConfig.
func holdPage(t *testing.T, g impl.Guests, r impl.Request, v visitor, want shown) {
	t.Helper()
	page := pageByHand(want.status, want.where, want.body)
	next, told, code := impl.PortalDo(plainConfig(), g, r, v.mac, v.ip, v.now)
	if told != page || code != impl.OK || !sameGuests(next, want.guests) {
		t.Errorf("PortalDo of %q by %x at %d: %q, %d, %v; not %d, %q, %v", r, v.mac, v.now, told, code, next, want.status, want.body, want.guests)
	}
	for _, behind := range []string{"", "x", "GET / HTTP/1.1\r\n\r\n"} {
		text := requestByHand(r)
		next, told, size, code := impl.PortalRead(plainConfig(), g, text+behind, v.mac, v.ip, v.now)
		if told != page || size != len(text) || code != impl.OK || !sameGuests(next, want.guests) {
			t.Errorf("PortalRead of %q by %x at %d: %q, %d, %d, %v; not %d, %q, %v", text+behind, v.mac, v.now, told, size, code, next, want.status, want.body, want.guests)
		}
	}
}

// otherPaths has paths that are near those of the portal.
func otherPaths() []string {
	return append(samplePaths()[3:], "/", "/logi", "/loginn", "/login/", "/login?", "/login?name=ann", "/Login", "/LOGIN", "//login", "/status/", "/statu", "/Status", "/status?a=b", "/logout/", "/logou", "/Logout", "/index.html")
}

func TestPagesToLookAt(t *testing.T) {
	g := busyGuests()
	for _, now := range []int{0, 25, impl.MaxNow} {
		for mac := range 6 {
			v := visitorOf(mac, now)
			for _, body := range []string{"", "x", "name=dan&word=dates"} {
				look := func(path string, status int, where, told string) {
					t.Helper()
					holdPage(t, g, impl.Request{Method: "GET", Path: path, Body: body}, v, shown{status, where, told, g})
				}
				look("/login", 200, "", "name and word, please")
				look("/logout", 302, "/login", "")
				for _, path := range otherPaths() {
					look(path, 302, "/login", "")
				}
			}
		}
	}
}

func TestOtherFormsAreNotThere(t *testing.T) {
	g := busyGuests()
	for _, now := range []int{0, 25, impl.MaxNow} {
		for mac := range 6 {
			for _, path := range append(otherPaths(), "/status") {
				for _, body := range []string{"", "name", "name=dan&word=dates", "name=dan&word=apple"} {
					holdPage(t, g, postOf(path, body), visitorOf(mac, now), shown{404, "", "", g})
				}
			}
		}
	}
}

func TestStatusPages(t *testing.T) {
	g := busyGuests()
	for _, row := range []struct {
		mac, now int
		body     string
	}{
		{1, 0, "session 5 of ann, 300 left, 50 ticks"},
		{1, 25, "session 5 of ann, 300 left, 25 ticks"},
		{1, 49, "session 5 of ann, 300 left, 1 ticks"},
		{1, 50, "session 5 of ann, 300 left, 0 ticks"},
		{1, 51, "session 5 of ann, 300 left, 0 ticks"},
		{1, impl.MaxNow, "session 5 of ann, 300 left, 0 ticks"},
		{2, 12, "session 7 of bob, 100000 left, 1000 ticks"},
		{2, 1012, "session 7 of bob, 100000 left, 0 ticks"},
		{3, 25, "no session"},
		{4, 25, "no session"},
		{0, 25, "no session"},
	} {
		holdPage(t, g, getOf("/status"), visitorOf(row.mac, row.now), shown{200, "", row.body, g})
		holdPage(t, g, impl.Request{Method: "GET", Path: "/status", Body: "any body"}, visitorOf(row.mac, row.now), shown{200, "", row.body, g})
	}
	// A session is of a mac and an address, both of them.
	for _, v := range []visitor{{guestMac(1), guestIp(2), 25}, {guestMac(2), guestIp(1), 25}, {guestMac(1), guestIp(9), 25}, {guestMac(9), guestIp(1), 25}} {
		holdPage(t, g, getOf("/status"), v, shown{200, "", "no session", g})
		holdPage(t, g, postOf("/logout", ""), v, shown{403, "", "no session", g})
	}
}

// A status page has room for the longest that there is to tell.
func TestTheLongestStatusPage(t *testing.T) {
	g := impl.Guests{Next: 10000, Users: []impl.User{userOf("abcdefgh", "word", "guest", 1000000, 0)}}
	g.Sessions = []impl.Session{{Id: 9999, Mac: guestMac(1), Ip: guestIp(1), Quota: 1000000, Until: 101000, Idle: 1}}
	holdPage(t, g, getOf("/status"), visitorOf(1, 0), shown{200, "", "session 9999 of abcdefgh, 1000000 left, 101000 ticks", g})
}

func TestLogouts(t *testing.T) {
	for _, body := range []string{"", "x", "name=bob", "name=dan&word=dates"} {
		for _, now := range []int{0, 25, 50, 2000, impl.MaxNow} {
			g := busyGuests()
			first := withoutSession(g, 0, now, impl.CaLogout)
			both := withoutSession(first, 0, now, impl.CaLogout)
			holdPage(t, g, postOf("/logout", body), visitorOf(1, now), shown{200, "", "bye", first})
			holdPage(t, g, postOf("/logout", body), visitorOf(2, now), shown{200, "", "bye", withoutSession(g, 1, now, impl.CaLogout)})
			holdPage(t, first, postOf("/logout", body), visitorOf(2, now), shown{200, "", "bye", both})
			for _, mac := range []int{0, 3, 4, 5} {
				holdPage(t, g, postOf("/logout", body), visitorOf(mac, now), shown{403, "", "no session", g})
			}
			// It ends once.
			holdPage(t, first, postOf("/logout", body), visitorOf(1, now), shown{403, "", "no session", first})
		}
	}
	full := crowd(3, 60)
	gone := copied(full)
	gone.Sessions = gone.Sessions[1:]
	holdPage(t, full, postOf("/logout", ""), visitorOf(1, 25), shown{200, "", "bye", gone})
}

// begun is what busyGuests or other guests are when dan has come in.
func begun(g impl.Guests, v visitor) impl.Guests {
	g = copied(g)
	g.Sessions = append(g.Sessions, impl.Session{Id: g.Next, User: 3, Mac: v.mac, Ip: v.ip, Begun: v.now, Last: v.now, Quota: 400, Until: v.now + 40, Idle: 10})
	g.Records = append(g.Records, impl.Record{Id: g.Next, At: v.now})
	g.Users[3].Logins--
	g.Next++
	return g
}

func TestRightWordsLetIn(t *testing.T) {
	g := busyGuests()
	for _, now := range []int{0, 25, 99999, impl.MaxNow} {
		for _, mac := range []int{0, 5, 9} {
			v := visitorOf(mac, now)
			for _, body := range []string{
				"name=dan&word=dates",
				"word=dates&name=dan",
				"name=%64an&word=dat%65s",
				"na%6de=dan&%77ord=dates",
				"a=b&name=dan&c=&word=dates&d=e",
				"name=dan&name=ann&word=dates&word=wrong",
				"word=dates&word=&name=dan&name=",
				"name=dan&word=dates&a=1&b=2&c=3&d=4&e=5&f=6",
				"name=dan&word=dates&word=" + strings.Repeat("w", 41),
				"name=dan&word=dates&Word=" + strings.Repeat("w", 41),
			} {
				holdPage(t, g, postOf("/login", body), v, shown{200, "", "welcome, session 9", begun(g, v)})
			}
		}
	}
	// One who failed before is let in; its Fail stays.
	v := visitorOf(3, 25)
	holdPage(t, g, postOf("/login", "name=dan&word=dates"), v, shown{200, "", "welcome, session 9", begun(g, v)})
	// So is one who had to wait up to now.
	v = visitorOf(4, 30)
	holdPage(t, g, postOf("/login", "name=dan&word=dates"), v, shown{200, "", "welcome, session 9", begun(g, v)})
	g.Next = 9999
	v = visitorOf(5, 25)
	holdPage(t, g, postOf("/login", "name=dan&word=dates"), v, shown{200, "", "welcome, session 9999", begun(g, v)})
}

func TestWrongWordsAreCounted(t *testing.T) {
	for _, body := range []string{
		"",
		"name=dan",
		"word=dates",
		"name=dan&word=",
		"name=&word=dates",
		"name=dan&word=date",
		"name=dan&word=datess",
		"name=dan&word=Dates",
		"name=dan&word=dates+",
		"name=dan&word=dates%00",
		"name=dan&word=apple",
		"name=ann&word=dates",
		"name=eve&word=dates",
		"name=Dan&word=dates",
		"name=+dan&word=dates",
		"Name=dan&word=dates",
		"name=dan&Word=dates",
		"name=dan&word=wrong&word=dates",
		"name=ann&name=dan&word=dates",
		"name=&name=dan&word=dates",
		"name=dan&word=&word=dates",
		"name=dan&word=" + strings.Repeat("w", 40),
		"name=" + strings.Repeat("n", 65) + "&word=abc",
		"x=y",
	} {
		for _, row := range []struct {
			mac, now int
			change   func(g *impl.Guests)
		}{
			{0, 25, func(g *impl.Guests) { g.Fails = slices.Insert(g.Fails, 0, impl.Fail{Mac: guestMac(0), Count: 1}) }},
			{5, 25, func(g *impl.Guests) { g.Fails = append(g.Fails, impl.Fail{Mac: guestMac(5), Count: 1}) }},
			{3, 25, func(g *impl.Guests) { g.Fails[0] = impl.Fail{Mac: guestMac(3), Until: 35} }},
			{3, impl.MaxNow, func(g *impl.Guests) { g.Fails[0] = impl.Fail{Mac: guestMac(3), Until: impl.MaxNow + 10} }},
			{4, 30, func(g *impl.Guests) { g.Fails[1] = impl.Fail{Mac: guestMac(4), Count: 1, Until: 30} }},
			// One who has a session, too.
			{1, 25, func(g *impl.Guests) { g.Fails = slices.Insert(g.Fails, 0, impl.Fail{Mac: guestMac(1), Count: 1}) }},
		} {
			want := busyGuests()
			row.change(&want)
			holdPage(t, busyGuests(), postOf("/login", body), visitorOf(row.mac, row.now), shown{403, "", "user", want})
		}
	}
	// Without room a mac is not counted.
	g := busyGuests()
	g.Fails = fails(20)
	holdPage(t, g, postOf("/login", "name=dan&word=no"), visitorOf(30, 25), shown{403, "", "user", g})
}

func TestThreeWrongWordsMakeWait(t *testing.T) {
	c := plainConfig()
	g := busyGuests()
	wrong, right := postOf("/login", "name=dan&word=no"), postOf("/login", "name=dan&word=dates")
	v := visitorOf(5, 25)
	for range 3 {
		g, _, _ = impl.PortalDo(c, g, wrong, v.mac, v.ip, v.now)
	}
	if last := g.Fails[2]; last != (impl.Fail{Mac: v.mac, Until: 35}) {
		t.Errorf("behind three wrong words: %v", last)
	}
	for _, now := range []int{0, 25, 34} {
		v.now = now
		holdPage(t, g, right, v, shown{429, "", "", g})
		holdPage(t, g, wrong, v, shown{429, "", "", g})
		// Others need not wait, nor is the wait of other pages.
		other := visitorOf(6, now)
		holdPage(t, g, right, other, shown{200, "", "welcome, session 9", begun(g, other)})
		holdPage(t, g, getOf("/login"), v, shown{200, "", "name and word, please", g})
		holdPage(t, g, getOf("/status"), v, shown{200, "", "no session", g})
		// A body that is no form is looked at ahead of the wait.
		holdPage(t, g, postOf("/login", "name"), v, shown{400, "", "", g})
	}
	v.now = 35
	holdPage(t, g, right, v, shown{200, "", "welcome, session 9", begun(g, v)})
}

func TestBodiesThatAreNoLogin(t *testing.T) {
	g := busyGuests()
	for _, body := range []string{
		"name", "=", "=x", "&", "name=dan&", "&name=dan&word=dates", "name=dan&&word=dates", "name=dan&word=dates&", "name=dan&word==dates",
		"name=dan=word=dates", "name=dan&word", "name=dan&word=%", "name=dan&word=dates%4", "name=dan&word=%zz", "%=x&name=dan&word=dates",
		"a=1&b=2&c=3&d=4&e=5&f=6&g=7&name=dan&word=dates",
		"word=" + strings.Repeat("w", 41),
		"word=" + strings.Repeat("w", 75),
		"name=dan&word=" + strings.Repeat("w", 41),
		"name=dan&word=" + strings.Repeat("+", 41),
		"word=" + strings.Repeat("w", 41) + "&name=dan&word=dates",
		"name=dan&%77ord=" + strings.Repeat("w", 41),
	} {
		if len(body) > impl.MaxForm {
			t.Fatalf("%q is no body", body)
		}
		for mac := range 6 {
			for _, now := range []int{0, 25, impl.MaxNow} {
				holdPage(t, g, postOf("/login", body), visitorOf(mac, now), shown{400, "", "", g})
			}
		}
	}
}

// A word's bytes count, not the signs that they are escaped by.
func TestWordsOfFortyBytes(t *testing.T) {
	for _, word := range []string{strings.Repeat("w", 40), strings.Repeat(" ", 40), "%!" + strings.Repeat("w", 38), "\x00\xff&=" + strings.Repeat("-", 36)} {
		g := quietGuests()
		g.Users[3] = userOf("dan", word, "guest", 700, 2)
		form := formByHand([]impl.Pair{{Key: "name", Value: "dan"}, {Key: "word", Value: word}})
		v := visitorOf(5, 25)
		holdPage(t, g, postOf("/login", form), v, shown{200, "", "welcome, session 1", begun(g, v)})
		holdPage(t, g, postOf("/login", form+"w"), v, shown{400, "", "", g})
		short := copied(g)
		short.Fails = []impl.Fail{{Mac: v.mac, Count: 1}}
		holdPage(t, g, postOf("/login", form[:len(form)-1]), v, shown{403, "", "user", short})
	}
	// Without a word it is the empty one.
	g := quietGuests()
	g.Users[3] = userOf("dan", "", "guest", 700, 2)
	v := visitorOf(5, 25)
	for _, body := range []string{"name=dan", "name=dan&word=", "word=&name=dan"} {
		holdPage(t, g, postOf("/login", body), v, shown{200, "", "welcome, session 1", begun(g, v)})
	}
}

func TestRightWordsThatDoNotLetIn(t *testing.T) {
	right := postOf("/login", "name=dan&word=dates")
	hold := func(status int, body string, mac, ip int, change func(g *impl.Guests)) {
		t.Helper()
		g := busyGuests()
		change(&g)
		holdPage(t, g, right, visitor{guestMac(mac), guestIp(ip), 25}, shown{status, "", body, g})
	}
	nothing := func(g *impl.Guests) {}
	hold(429, "", 4, 5, nothing)
	hold(403, "spent", 5, 5, func(g *impl.Guests) { g.Users[3].Logins = 0 })
	hold(403, "spent", 5, 5, func(g *impl.Guests) { g.Users[3].Balance = 0 })
	hold(403, "spent", 1, 1, func(g *impl.Guests) { g.Users[3].Balance = 0 })
	hold(403, "twice", 1, 1, nothing)
	hold(403, "twice", 1, 5, nothing)
	hold(403, "twice", 5, 1, nothing)
	hold(403, "twice", 5, 5, func(g *impl.Guests) { g.Sessions[1].User = 3 })
	hold(503, "", 5, 5, func(g *impl.Guests) { *g = crowd(3, 0) })
	hold(503, "", 5, 5, func(g *impl.Guests) { *g = crowd(2, 57) })
	hold(503, "", 5, 5, func(g *impl.Guests) { *g = crowd(0, 59) })
	hold(503, "", 5, 5, func(g *impl.Guests) { g.Next = 10000 })
	for _, g := range []impl.Guests{crowd(2, 56), crowd(0, 58)} {
		v := visitorOf(5, 25)
		holdPage(t, g, right, v, shown{200, "", "welcome, session 9", begun(g, v)})
	}
	// A wrong word is counted where there is no room either.
	g := crowd(3, 60)
	want := copied(g)
	want.Fails = []impl.Fail{{Mac: guestMac(5), Count: 1}}
	holdPage(t, g, postOf("/login", "name=dan&word=no"), visitorOf(5, 25), shown{403, "", "user", want})
}

// wrongRequests has requests that are none.
func wrongRequests() []impl.Request {
	list := []impl.Request{{}, {Method: "GET"}, {Path: "/login"}}
	for _, method := range []string{"", "get", "PUT", "HEAD", "GET ", " GET", "POST\x00", strings.Repeat("G", impl.MaxText+1)} {
		list = append(list, impl.Request{Method: method, Path: "/login", Body: "name=dan&word=dates"})
	}
	for _, path := range append(wrongPaths(), "/"+strings.Repeat("p", impl.MaxText)) {
		list = append(list, impl.Request{Method: "GET", Path: path}, postOf(path, ""))
	}
	for _, size := range []int{81, 82, 1000, impl.MaxText, impl.MaxText + 1} {
		list = append(list, postOf("/login", strings.Repeat("b", size)), impl.Request{Method: "GET", Path: "/status", Body: strings.Repeat("b", size)})
	}
	return list
}

func holdPortalFault(t *testing.T, c impl.Config, g impl.Guests, r impl.Request, v visitor, want int) {
	t.Helper()
	if next, page, code := impl.PortalDo(c, g, r, v.mac, v.ip, v.now); page != "" || code != want || !sameGuests(next, impl.Guests{}) {
		t.Errorf("PortalDo of %.60q by %.20x, %d at %d: %v, %.40q, %d, not %d", r, v.mac, v.ip, v.now, next, page, code, want)
	}
}

func holdReadFault(t *testing.T, c impl.Config, g impl.Guests, text string, v visitor, want int) {
	t.Helper()
	if next, page, size, code := impl.PortalRead(c, g, text, v.mac, v.ip, v.now); page != "" || size != 0 || code != want || !sameGuests(next, impl.Guests{}) {
		t.Errorf("PortalRead of %.60q by %.20x, %d at %d: %v, %.40q, %d, %d, not %d", text, v.mac, v.ip, v.now, next, page, size, code, want)
	}
}

func TestPortalOfNoRequest(t *testing.T) {
	for _, r := range wrongRequests() {
		for _, mac := range []int{1, 5} {
			holdPortalFault(t, plainConfig(), busyGuests(), r, visitorOf(mac, 25), impl.ErrForm)
		}
	}
	g := busyGuests()
	for _, body := range []string{strings.Repeat("b", 79), strings.Repeat("b", 80)} {
		holdPage(t, g, postOf("/logout", body), visitorOf(5, 25), shown{403, "", "no session", g})
		holdPage(t, g, postOf("/login", body), visitorOf(5, 25), shown{400, "", "", g})
	}
}

// wrongVisitors has those whose time, mac or address is out of its bounds.
func wrongVisitors() []visitor {
	var list []visitor
	for _, now := range wrongTimes() {
		list = append(list, visitor{guestMac(1), guestIp(1), now})
	}
	for _, mac := range wrongMacs() {
		// One that is too long has a code of its own.
		list = append(list, visitor{mac[:min(len(mac), impl.MaxText)], guestIp(1), 25})
	}
	for _, ip := range []int{math.MinInt, -1, 0, 7, 0x09ffffff, 0x0a000100, guestIp(1) + 1<<32, impl.MaxAddress, impl.MaxAddress + 1, math.MaxInt} {
		list = append(list, visitor{guestMac(1), ip, 25})
	}
	return list
}

func TestVisitorsOutOfTheirBounds(t *testing.T) {
	for _, v := range wrongVisitors() {
		for _, r := range portalAsks() {
			holdPortalFault(t, plainConfig(), busyGuests(), r, v, impl.ErrRange)
			holdReadFault(t, plainConfig(), busyGuests(), requestByHand(r), v, impl.ErrRange)
		}
		holdReadFault(t, plainConfig(), busyGuests(), "no request\r\n\r\n", v, impl.ErrRange)
		holdReadFault(t, plainConfig(), busyGuests(), "", v, impl.ErrRange)
	}
	for _, mac := range []string{"\x00\x00\x00\x00\x00\x00", "\xff\xff\xff\xff\xff\xff", macA} {
		for _, ip := range []int{0x0a000000, 0x0a000001, 0x0a0000ff} {
			for _, now := range []int{0, impl.MaxNow} {
				holdPage(t, busyGuests(), getOf("/login"), visitor{mac, ip, now}, shown{200, "", "name and word, please", busyGuests()})
				v := visitor{mac, ip, now}
				holdPage(t, quietGuests(), postOf("/login", "name=dan&word=dates"), v, shown{200, "", "welcome, session 1", begun(quietGuests(), v)})
			}
		}
	}
}

func TestPortalOfWrongGuests(t *testing.T) {
	hold := func(c impl.Config, g impl.Guests) {
		t.Helper()
		for _, v := range []visitor{visitorOf(1, 25), {"no mac", -1, -1}} {
			for _, r := range []impl.Request{getOf("/login"), getOf("/status"), postOf("/logout", ""), postOf("/login", "name=dan&word=dates"), {}} {
				holdPortalFault(t, c, g, r, v, impl.ErrBad)
				holdReadFault(t, c, g, requestByHand(r), v, impl.ErrBad)
			}
			holdReadFault(t, c, g, "", v, impl.ErrBad)
		}
	}
	for _, g := range wrongGuests() {
		hold(plainConfig(), g)
	}
	for _, c := range wrongConfigs() {
		hold(c, impl.Guests{Next: 1})
	}
}

// portalAsk is all that the portal is handed.
type portalAsk struct {
	c    impl.Config
	g    impl.Guests
	r    impl.Request
	text string
	v    visitor
}

type portalFault struct {
	code int
	set  func(a *portalAsk)
}

func visitFaults() []portalFault {
	return []portalFault{
		{impl.ErrLong, func(a *portalAsk) { a.v.mac = strings.Repeat("m", impl.MaxText+1) }},
		{impl.ErrBad, func(a *portalAsk) { a.c.Gate = -1 }},
		{impl.ErrBad, func(a *portalAsk) { a.g.Users[1].Balance = -1 }},
		{impl.ErrRange, func(a *portalAsk) { a.v.now = -1 }},
		{impl.ErrRange, func(a *portalAsk) { a.v.mac = a.v.mac[:5] }},
		{impl.ErrRange, func(a *portalAsk) { a.v.ip = quadOne }},
	}
}

// asksWith hands over each set of faults, with the code of the first of them.
func asksWith(faults []portalFault, hold func(a portalAsk, code int)) {
	for set := range 1 << len(faults) {
		r := postOf("/login", "name=dan&word=dates")
		a := portalAsk{plainConfig(), busyGuests(), r, requestByHand(r), visitorOf(5, 25)}
		code := impl.OK
		for k, f := range slices.Backward(faults) {
			if set>>k&1 == 1 {
				f.set(&a)
				code = f.code
			}
		}
		hold(a, code)
	}
}

func TestFaultsOfPortalDoInTheirOrder(t *testing.T) {
	faults := append(visitFaults(),
		portalFault{impl.ErrForm, func(a *portalAsk) { a.r.Method = "PUT" }},
		portalFault{impl.ErrForm, func(a *portalAsk) { a.r.Path = strings.Repeat("/", impl.MaxText+1) }},
		portalFault{impl.ErrForm, func(a *portalAsk) { a.r.Body = strings.Repeat("b", impl.MaxText+1) }})
	asksWith(faults, func(a portalAsk, code int) {
		if code != impl.OK {
			holdPortalFault(t, a.c, a.g, a.r, a.v, code)
			return
		}
		holdPage(t, a.g, a.r, a.v, shown{200, "", "welcome, session 9", begun(a.g, a.v)})
	})
}

func TestFaultsOfPortalReadInTheirOrder(t *testing.T) {
	faults := slices.Concat(
		[]portalFault{{impl.ErrLong, func(a *portalAsk) { a.text += strings.Repeat("x", impl.MaxText) }}},
		visitFaults(),
		[]portalFault{{impl.ErrMore, func(a *portalAsk) { a.text = a.text[:len(a.text)-1] }}})
	asksWith(faults, func(a portalAsk, code int) {
		if code != impl.OK {
			holdReadFault(t, a.c, a.g, a.text, a.v, code)
			return
		}
		holdPage(t, a.g, a.r, a.v, shown{200, "", "welcome, session 9", begun(a.g, a.v)})
	})
}

func TestCutRequestsAreWaitedFor(t *testing.T) {
	for _, r := range append(sampleRequests(), postOf("/login", "name=dan&word=dates"), postOf("/logout", "x")) {
		text := requestByHand(r)
		for size := range len(text) {
			holdReadFault(t, plainConfig(), busyGuests(), text[:size], visitorOf(1, 25), impl.ErrMore)
		}
	}
	holdReadFault(t, plainConfig(), busyGuests(), strings.Repeat("x", 200), visitorOf(1, 25), impl.ErrMore)
}

// What is no request is answered by a page, and read to the last byte.
func TestTextsThatAreNoRequest(t *testing.T) {
	g := busyGuests()
	for text, word := range map[string]string{
		strings.Repeat("x", 201):                               "long",
		strings.Repeat("x", impl.MaxText):                      "long",
		headOfSize(201):                                        "long",
		headOfSize(201) + requestByHand(postOf("/logout", "")): "long",
		headWith("Content-Length: 81"):                         "long",
		headWith("Content-Length: 999999999999999999") + "abc": "long",
		"\r\n\r\n":                                                "form",
		"no request\r\n\r\n":                                      "form",
		"GET  / HTTP/1.1\r\n\r\n":                                 "form",
		"GET / HTTP/1.0\r\n\r\n":                                  "form",
		"GET login HTTP/1.1\r\n\r\nabc":                           "form",
		"POST /log%6fut HTTP/1.1\r\n\r\n":                         "form",
		headWith("no colon"):                                      "form",
		headWith(": nothing ahead"):                               "form",
		headWith("Content-Length: x") + "abc":                     "form",
		headWith("Content-Length: -1"):                            "form",
		headWith("Content-Length: 01") + "a":                      "form",
		"PUT / HTTP/1.1\r\n\r\nabc":                               "method",
		"post /logout HTTP/1.1\r\n\r\n":                           "method",
		"DELETE /logout HTTP/1.1\r\nx\r\n\r\nx":                   "method",
		headWith("content-length: 1", "Content-Length: 1") + "ab": "form",
		"PUT / HTTP/1.1\r\n\r\n" + strings.Repeat("y", 60000):     "method",
	} {
		for _, v := range []visitor{visitorOf(1, 25), visitorOf(4, 0), visitorOf(5, impl.MaxNow)} {
			next, page, size, code := impl.PortalRead(plainConfig(), g, text, v.mac, v.ip, v.now)
			if page != pageByHand(400, "", word) || size != len(text) || code != impl.OK || !sameGuests(next, g) {
				t.Errorf("PortalRead(%.60q) = %v, %.80q, %d, %d, not %s", text, next, page, size, code, word)
			}
		}
	}
}

// Requests that stand behind one another are read one by one.
func TestSeveralRequestsInOneText(t *testing.T) {
	c, g, v := plainConfig(), quietGuests(), visitorOf(5, 25)
	asks := []impl.Request{getOf("/"), postOf("/login", "name=dan&word=dates"), getOf("/status"), postOf("/logout", "bye"), getOf("/status")}
	pages := []string{pageByHand(302, "/login", ""), pageByHand(200, "", "welcome, session 1"), pageByHand(200, "", "session 1 of dan, 400 left, 40 ticks"), pageByHand(200, "", "bye"), pageByHand(200, "", "no session")}
	var text string
	for _, r := range asks {
		text += requestByHand(r)
	}
	for k, want := range pages {
		next, page, size, code := impl.PortalRead(c, g, text, v.mac, v.ip, v.now)
		if page != want || size != len(requestByHand(asks[k])) || code != impl.OK {
			t.Fatalf("request %d of a text: %q, %d, %d", k, page, size, code)
		}
		g, text = next, text[size:]
	}
	holdReadFault(t, c, g, text, v, impl.ErrMore)
	if len(g.Sessions) != 0 || len(g.Records) != 2 || g.Records[1].Cause != impl.CaLogout {
		t.Errorf("behind all requests: %v", g)
	}
}

func holdStatus(t *testing.T, g impl.Guests, v visitor, text string, code int) {
	t.Helper()
	if told, got := impl.StatusText(g, v.mac, v.ip, v.now); told != text || got != code {
		t.Errorf("StatusText of %.200v by %.20x, %d at %d: %.80q, %d, not %.80q, %d", g.Sessions, v.mac, v.ip, v.now, told, got, text, code)
	}
}

func TestStatusTexts(t *testing.T) {
	for _, quota := range []int{0, 1, 2, 400, 999999, 1000000} {
		for _, used := range []int{0, 1, quota / 2, quota - 1, quota} {
			if used < 0 || used > quota {
				continue
			}
			for _, until := range []int{0, 1, 25, 26, 100000, 101000} {
				for _, now := range []int{0, 1, 24, 25, 26, 99999, impl.MaxNow} {
					g := busyGuests()
					g.Sessions[0].Quota, g.Sessions[0].Used, g.Sessions[0].Until = quota, used, until
					ticks := 0
					if until > now {
						ticks = until - now
					}
					holdStatus(t, g, visitorOf(1, now), fmt.Sprintf("session 5 of ann, %d left, %d ticks", quota-used, ticks), impl.OK)
				}
			}
		}
	}
	for _, g := range []impl.Guests{{}, {Sessions: []impl.Session{}}, {Next: -1, Users: make([]impl.User, impl.MaxList+1)}} {
		holdStatus(t, g, visitorOf(1, 25), "no session", impl.OK)
	}
	g := crowd(3, 0)
	holdStatus(t, g, visitorOf(3, 25), "session 4 of cy, 30 left, 35 ticks", impl.OK)
	holdStatus(t, g, visitorOf(4, 25), "no session", impl.OK)
}

// statusNumbers has the numbers of a session that StatusText looks at.
func statusNumbers() []guestNumber {
	return []guestNumber{
		{"User", 0, 3, func(g *impl.Guests) *int { return &g.Sessions[0].User }},
		{"Id", 0, 10000, func(g *impl.Guests) *int { return &g.Sessions[0].Id }},
		{"Quota", 100, 1000000, func(g *impl.Guests) *int { return &g.Sessions[0].Quota }},
		{"unused Quota", 0, 1000000, func(g *impl.Guests) *int { g.Sessions[0].Used = 0; return &g.Sessions[0].Quota }},
		{"Used", 0, 400, func(g *impl.Guests) *int { return &g.Sessions[0].Used }},
		{"Used of most", 0, 1000000, func(g *impl.Guests) *int { g.Sessions[0].Quota = 1000000; return &g.Sessions[0].Used }},
		{"Until", 0, 101000, func(g *impl.Guests) *int { return &g.Sessions[0].Until }},
	}
}

func TestStatusNumbersAtTheirBounds(t *testing.T) {
	for _, row := range statusNumbers() {
		for _, n := range []int{math.MinInt, -1 << 32, row.low - 1, row.low, row.low + 1, row.high - 1, row.high, row.high + 1, 1 << 32, math.MaxInt} {
			g := busyGuests()
			*row.number(&g) = n
			right := row.low <= n && n <= row.high
			s := g.Sessions[0]
			if !right {
				// It is of no account whose session is asked for, nor at what time.
				for _, v := range []visitor{visitorOf(1, 25), visitorOf(2, 25), visitorOf(3, 25), visitorOf(1, -1), {"", -1, impl.MaxNow + 1}} {
					holdStatus(t, g, v, "", impl.ErrBad)
				}
				continue
			}
			holdStatus(t, g, visitorOf(1, 25), fmt.Sprintf("session %d of %s, %d left, %d ticks", s.Id, g.Users[s.User].Name, s.Quota-s.Used, max(0, s.Until-25)), impl.OK)
			holdStatus(t, g, visitorOf(2, 25), "session 7 of bob, 100000 left, 987 ticks", impl.OK)
			holdStatus(t, g, visitorOf(3, 25), "no session", impl.OK)
			holdStatus(t, g, visitorOf(1, -1), "", impl.ErrRange)
		}
	}
}

// Each place of the list is looked at.
func TestStatusOfAnyWrongSession(t *testing.T) {
	for k := range 3 {
		for _, change := range []func(s *impl.Session){
			func(s *impl.Session) { s.User = -1 },
			func(s *impl.Session) { s.User = 6 },
			func(s *impl.Session) { s.Id = 10001 },
			func(s *impl.Session) { s.Quota = 1000001 },
			func(s *impl.Session) { s.Quota, s.Used = -1, -1 },
			func(s *impl.Session) { s.Used = 51 },
			func(s *impl.Session) { s.Until = -1 },
		} {
			g := crowd(3, 0)
			change(&g.Sessions[k])
			for mac := range 5 {
				holdStatus(t, g, visitorOf(mac, 25), "", impl.ErrBad)
			}
		}
	}
	for _, size := range []int{4, 5, impl.MaxList, impl.MaxList + 1} {
		g := impl.Guests{Users: quietGuests().Users, Sessions: make([]impl.Session, size)}
		holdStatus(t, g, visitor{"", 0, 25}, "", impl.ErrBad)
		holdStatus(t, g, visitor{"", 0, -1}, "", impl.ErrBad)
	}
	three := impl.Guests{Users: quietGuests().Users, Sessions: make([]impl.Session, 3)}
	holdStatus(t, three, visitor{"", 0, 25}, "session 0 of ann, 0 left, 0 ticks", impl.OK)
	holdStatus(t, impl.Guests{Sessions: make([]impl.Session, 1)}, visitor{"", 0, 25}, "", impl.ErrBad)
}

// Of guests that are not right otherwise the first fitting session is told.
func TestStatusAsksForNoMore(t *testing.T) {
	name := "any name, \x00 of any length" + strings.Repeat("n", 1000)
	s := impl.Session{Id: 0, User: 7, Mac: "any text", Ip: math.MinInt, Begun: -1, Last: math.MaxInt, Quota: 3, Used: 1, Until: 30, Idle: -1}
	twin := s
	twin.Id, twin.Used = 10000, 2
	g := impl.Guests{Users: make([]impl.User, 8), Sessions: []impl.Session{s, twin, {Mac: "m", Ip: 1}}, Fails: make([]impl.Fail, 99), Records: make([]impl.Record, 99), Next: -1}
	g.Users[7].Name = name
	holdStatus(t, g, visitor{"any text", math.MinInt, 25}, "session 0 of "+name+", 2 left, 5 ticks", impl.OK)
	holdStatus(t, g, visitor{"m", 1, 25}, "session 0 of , 0 left, 0 ticks", impl.OK)
	for _, v := range []visitor{{"any text", math.MaxInt, 25}, {"other text", math.MinInt, 25}, {"", 0, 25}, {strings.Repeat("m", impl.MaxText), math.MinInt, 25}} {
		holdStatus(t, g, v, "no session", impl.OK)
	}
}

func TestStatusFaultsInTheirOrder(t *testing.T) {
	long := strings.Repeat("m", impl.MaxText+1)
	for _, g := range []impl.Guests{busyGuests(), crowd(4, 0), {}} {
		for _, now := range []int{25, -1} {
			holdStatus(t, g, visitor{long, guestIp(1), now}, "", impl.ErrLong)
		}
	}
	for _, now := range wrongTimes() {
		holdStatus(t, crowd(4, 0), visitorOf(1, now), "", impl.ErrBad)
		for _, mac := range []int{1, 3} {
			holdStatus(t, busyGuests(), visitorOf(mac, now), "", impl.ErrRange)
			holdStatus(t, impl.Guests{}, visitorOf(mac, now), "", impl.ErrRange)
		}
	}
	for _, now := range []int{0, impl.MaxNow} {
		holdStatus(t, busyGuests(), visitorOf(3, now), "no session", impl.OK)
	}
}

// shownByHand is the page of a right request, as the document's words go.
func shownByHand(g impl.Guests, r impl.Request, v visitor) shown {
	place := slices.IndexFunc(g.Sessions, func(s impl.Session) bool { return s.Mac == v.mac && s.Ip == v.ip })
	switch what := r.Method + " " + r.Path; {
	case what == "GET /login":
		return shown{200, "", "name and word, please", g}
	case what == "GET /status" && place >= 0:
		s := g.Sessions[place]
		return shown{200, "", fmt.Sprintf("session %d of %s, %d left, %d ticks", s.Id, g.Users[s.User].Name, s.Quota-s.Used, max(0, s.Until-v.now)), g}
	case what == "GET /status":
		return shown{200, "", "no session", g}
	case r.Method == "GET":
		return shown{302, "/login", "", g}
	case what == "POST /logout" && place >= 0:
		return shown{200, "", "bye", withoutSession(g, place, v.now, impl.CaLogout)}
	case what == "POST /logout":
		return shown{403, "", "no session", g}
	case what == "POST /login":
		return loginByHand(g, r.Body, v)
	}
	return shown{404, "", "", g}
}

func loginByHand(g impl.Guests, body string, v visitor) shown {
	form, right := formReadByHand(body)
	fields := map[string]string{}
	for _, p := range slices.Backward(form) {
		fields[p.Key] = p.Value
	}
	if !right || len(fields["word"]) > 40 {
		return shown{400, "", "", g}
	}
	next, id, code := impl.Login(plainConfig(), g, fields["name"], fields["word"], v.mac, v.ip, v.now)
	switch code {
	case impl.OK:
		return shown{200, "", fmt.Sprintf("welcome, session %d", id), next}
	case impl.ErrBusy:
		return shown{429, "", "", next}
	case impl.ErrFull:
		return shown{503, "", "", next}
	}
	return shown{403, "", impl.CodeWord(code), next}
}

func randomAsk(chance *rand.Rand) impl.Request {
	method := []string{"GET", "POST", "POST", "POST"}[chance.Intn(4)]
	path := []string{"/login", "/login", "/login", "/login", "/logout", "/status", "/", "/login?a=b"}[chance.Intn(8)]
	bodies := []string{"name=ann&word=apple", "name=bob&word=berry", "name=cy&word=cider", "name=dan&word=dates", "name=eve&word=elder", "name=fay&word=figs", "name=ann&word=berry", "name=dan", "", "x", "a=%"}
	return impl.Request{Method: method, Path: path, Body: bodies[chance.Intn(len(bodies))]}
}

// Whatever is asked for, one after the other: a right word alone begins a
// session, a logout alone ends one, and it is the asker's own.
func TestNothingElseBeginsOrEndsASession(t *testing.T) {
	c := plainConfig()
	seen := map[int]int{}
	for seed := range 60 {
		chance := rand.New(rand.NewSource(int64(seed)))
		g := crowd(0, seed%3*20)
		for now := 0; now < 60; now += chance.Intn(2) {
			k := chance.Intn(5)
			v := visitor{guestMac(k), guestIp((k + chance.Intn(12)/11) % 5), now}
			r := randomAsk(chance)
			want := shownByHand(g, r, v)
			holdPage(t, g, r, v, want)
			next, _, _ := impl.PortalDo(c, g, r, v.mac, v.ip, v.now)
			if !impl.GuestsOK(c, next) {
				t.Fatalf("%q left wrong guests: %v", r, next)
			}
			holdSessions(t, g, next, r, v)
			seen[want.status]++
			g = next
		}
	}
	for status := range pageStatuses() {
		if seen[status] < 20 {
			t.Errorf("status %d was seen %d times", status, seen[status])
		}
	}
}

// holdSessions holds which sessions began and ended by a request.
func holdSessions(t *testing.T, before, behind impl.Guests, r impl.Request, v visitor) {
	t.Helper()
	for _, s := range before.Sessions {
		if !slices.Contains(behind.Sessions, s) && (r.Method != "POST" || r.Path != "/logout" || s.Mac != v.mac || s.Ip != v.ip) {
			t.Errorf("%q by %x ended %v", r, v.mac, s)
		}
	}
	for _, s := range behind.Sessions {
		u := behind.Users[s.User]
		words := map[string]string{"ann": "apple", "bob": "berry", "cy": "cider", "dan": "dates", "eve": "elder", "fay": "figs"}
		right := r == postOf("/login", "name="+u.Name+"&word="+words[u.Name])
		if !slices.Contains(before.Sessions, s) && (!right || s.Mac != v.mac || s.Ip != v.ip || s.Id != before.Next) {
			t.Errorf("%q by %x began %v", r, v.mac, s)
		}
	}
}
