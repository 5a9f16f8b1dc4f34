package tests

import (
	"fmt"
	"math/rand"
	"reflect"
	"slices"
	"strings"
	"testing"

	"loop.example/g00356/impl"
)

// letOut is what a guest's frame let out to the wide side: the packet, the
// gateways ahead of it and behind it, and what the audit sees in it.
type letOut struct {
	before, next impl.Gateway
	from         impl.Frame
	p            impl.Packet
	sight        impl.Sight
}

// holdSafe holds what came out behind a frame to the theorem of safety, and
// tells what came to the wide side.
func holdSafe(t *testing.T, before, next impl.Gateway, b []byte, outs []impl.Out) []letOut {
	t.Helper()
	var list []letOut
	for _, out := range outs {
		if out.Side != impl.OutWan {
			continue
		}
		l := letOut{before: before, next: next}
		l.from, _ = impl.ReadFrame(b)
		f, _ := impl.ReadFrame([]byte(out.Bytes))
		l.p, _ = impl.ReadPacket([]byte(f.Body))
		s, code := impl.SightOf(next, []byte(out.Bytes))
		want, _ := sightByHand(next, []byte(out.Bytes))
		if code != impl.OK || s != want {
			t.Errorf("SightOf %s: %+v, %d; not %+v", legible(l.p), s, code, want)
		}
		if !s.Garden && !s.Service && !s.Session {
			t.Errorf("%s was let out by nothing, of %s", legible(l.p), legible(before))
		}
		l.sight = s
		if !s.Garden && !s.Service {
			holdPaid(t, l)
		}
		list = append(list, l)
	}
	return list
}

// holdPaid holds that a packet was let out by the session of who sent it, that
// its role allows it, and that its quota and its user's balance had room.
func holdPaid(t *testing.T, l letOut) {
	t.Helper()
	is := func(s impl.Session) bool { return s.Id == l.sight.Id }
	k, behind := slices.IndexFunc(l.before.Guests.Sessions, is), slices.IndexFunc(l.next.Guests.Sessions, is)
	if k < 0 || behind < 0 {
		t.Errorf("%s was let out by a session that is not there: %s", legible(l.p), legible(l.next))
		return
	}
	s, user, size := l.before.Guests.Sessions[k], l.before.Guests.Sessions[k].User, len(l.p.Body)
	if s.Mac != l.from.Src || s.Ip != l.p.Src {
		t.Errorf("%s of %s was let out by another's session: %s", legible(l.p), legible(l.from.Src), legible(s))
	}
	_, to, _, _ := endsByHand(l.p)
	if _, _, allow := firstByHand(roleByHand(l.before, s).Rules, l.p.Proto, l.p.Dst, to); !allow {
		t.Errorf("%s was let out by a role that does not allow it: %s", legible(l.p), legible(s))
	}
	if size > s.Quota-s.Used || size > l.before.Guests.Users[user].Balance {
		t.Errorf("%s was let out without room: %s, %s", legible(l.p), legible(s), legible(l.before.Guests.Users[user]))
	}
	if spent, code := impl.SpentOf(l.next, l.next.Guests.Users[user].Name); code != impl.OK || spent != s.Used+size {
		t.Errorf("behind %d bytes SpentOf: %d, %d; ahead %s", size, spent, code, legible(s))
	}
}

// holdAudit holds what the audit tells of a gateway that began plain.
func holdAudit(t *testing.T, g impl.Gateway) {
	t.Helper()
	holdBytes(t, g, "a gateway that began plain", true)
	holdFlows(t, g, "a gateway that began plain", true)
	for k, u := range g.Guests.Users {
		spent := 0
		for _, s := range g.Guests.Sessions {
			if s.User == k {
				spent = s.Used
			}
		}
		holdSpent(t, g, u.Name, spent, impl.OK)
	}
}

// What a frame lets out, by whom it is sent and where it goes.
func TestWhatIsLetOut(t *testing.T) {
	garden, service := impl.Sight{Garden: true}, impl.Sight{Service: true}
	for name, row := range map[string]struct {
		k     int
		p     impl.Packet
		sight impl.Sight
		code  int
	}{
		"the garden without a session":          {5, tcpOf(5, quadNine, 4000, 443, "S", ""), garden, impl.OK},
		"the garden with a session":             {1, tcpOf(1, quadNine, 4000, 443, "S", ""), impl.Sight{Garden: true, Session: true, Id: 5}, impl.OK},
		"a lease":                               {5, udpBetween(0, impl.MaxAddress, 68, 67, leaseOf(5, false)), service, impl.OK},
		"a lease with staff's session":          {2, udpOf(2, far, 68, 67, leaseOf(2, false)), impl.Sight{Service: true, Session: true, Id: 7}, impl.OK},
		"no lease":                              {5, udpBetween(0, impl.MaxAddress, 68, 67, leaseOf(6, false)), impl.Sight{}, impl.ErrForm},
		"a name":                                {5, udpOf(5, quadOne, 4000, 53, questionOf(false)), service, impl.OK},
		"no name":                               {5, udpOf(5, quadOne, 4000, 53, "junk"), impl.Sight{}, impl.ErrForm},
		"what a role allows":                    {1, tcpOf(1, far, 4000, 443, "S", ""), impl.Sight{Session: true, Id: 5}, impl.OK},
		"what a role does not allow":            {1, tcpOf(1, barred, 4000, 443, "S", ""), impl.Sight{}, impl.ErrRefused},
		"a port that a role does not allow":     {1, tcpOf(1, far, 4000, 22, "S", ""), impl.Sight{}, impl.ErrRefused},
		"what staff's role allows":              {2, tcpOf(2, barred, 4000, 22, "S", ""), impl.Sight{Session: true, Id: 7}, impl.OK},
		"without a session":                     {5, tcpOf(5, far, 4000, 443, "S", ""), impl.Sight{}, impl.ErrUser},
		"a session's address, of another's mac": {9, tcpOf(1, far, 4000, 443, "S", ""), impl.Sight{}, impl.ErrUser},
		"a session's mac, of another's address": {1, tcpOf(9, far, 4000, 443, "S", ""), impl.Sight{}, impl.ErrUser},
		"staff's address, of a guest's mac":     {1, tcpOf(2, far, 4000, 22, "S", ""), impl.Sight{}, impl.ErrUser},
	} {
		g := busyGateway()
		b := gateFrame(row.k, row.p)
		next, outs, code := impl.LanIn(g, b)
		list := holdSafe(t, g, next, b, outs)
		if code != row.code || (len(list) == 1) != (code == impl.OK) || len(list) > 1 {
			t.Errorf("%s: %d, %s", name, code, legible(outs))
		}
		if len(list) == 1 && list[0].sight != row.sight {
			t.Errorf("%s: %+v, not %+v", name, list[0].sight, row.sight)
		}
	}
}

// Whatever mac and address a frame has, and wherever it goes.
func TestNothingElseIsLetOut(t *testing.T) {
	bases := []impl.Gateway{impl.PlainGateway(), busyGateway()}
	crowded := busyGateway()
	crowded.Guests, crowded.Flows = crowd(3, 0), nil
	bases = append(bases, crowded)
	came := 0
	for _, g := range bases {
		for _, mac := range []int{1, 2, 3, 9} {
			for _, src := range []int{guestIp(0), guestIp(1), guestIp(2), guestIp(3), guestIp(9), 0, far} {
				for _, dst := range []int{far, barred, quadNine, quadOne, g.Config.Gate, guestIp(2)} {
					for _, port := range []int{0, 22, 53, 67, 80, 443} {
						for _, p := range []impl.Packet{tcpBetween(src, dst, 68, port, "S", "x"), udpBetween(src, dst, 68, port, "x"), udpBetween(src, dst, 68, port, questionOf(false)), icmpBetween(src, dst, port, "x")} {
							b := gateFrame(mac, p)
							next, outs, _ := impl.LanIn(g, b)
							came += len(holdSafe(t, g, next, b, outs))
						}
					}
				}
			}
		}
	}
	if came < 100 {
		t.Errorf("%d frames came out alone", came)
	}
}

// A packet is let out just if its quota, and its user's balance, have room.
func TestQuotasHaveRoomForWhatIsLetOut(t *testing.T) {
	for _, left := range []int{20, 21, 100, 379, 380} {
		for size := 20; size <= 380; size += 10 {
			for _, balance := range []bool{false, true} {
				g := busyGateway()
				g.Guests.Sessions[0].Used = 400 - left
				if balance {
					g.Guests.Sessions[0].Used, g.Guests.Users[0].Balance = 7, left
				}
				b := gateFrame(1, sized(1, size, false, 4000))
				next, outs, code := impl.LanIn(g, b)
				list := holdSafe(t, g, next, b, outs)
				if (len(list) == 1) != (size <= left) || (code == impl.ErrSpent) != (size > left) {
					t.Errorf("%d bytes, %d left: %d, %s", size, left, code, legible(outs))
				}
			}
		}
	}
}

// Once a session ended, the audit sees it no more, nor does anything come out.
func TestSightsOfSessionsThatEnded(t *testing.T) {
	b := gateFrame(1, tcpOf(1, far, 1000, 443, "A", "x"))
	g := visited(impl.PlainGateway(), 1, far, postOf("/login", "name=ann&word=apple"))
	holdAudit(t, g)
	holdSight(t, g, "behind a login", b, impl.Sight{Session: true, Id: 1}, impl.OK)
	g, outs, _ := impl.LanIn(g, b)
	if len(outs) != 1 {
		t.Errorf("behind a login: %s", legible(outs))
	}
	holdSpent(t, g, "ann", 21, impl.OK)
	late := g
	for late.Now < 40 {
		late, _, _ = impl.TickGate(late)
		holdAudit(t, late)
	}
	kicked, _ := impl.KickGuest(g, 1)
	moved, _, _ := impl.LanIn(g, gateFrame(9, udpOf(1, far, 1, 1, "")))
	left := visited(g, 1, g.Config.Gate, postOf("/logout", ""))
	spent, _, _ := impl.LanIn(g, gateFrame(1, tcpOf(1, far, 1000, 443, "A", strings.Repeat("x", 360))))
	for k, ended := range []impl.Gateway{late, kicked, moved, left, spent} {
		name := fmt.Sprintf("end %d", k)
		holdAudit(t, ended)
		holdSight(t, ended, name, b, impl.Sight{}, impl.OK)
		holdSpent(t, ended, "ann", 0, impl.OK)
		next, outs, code := impl.LanIn(ended, b)
		if len(holdSafe(t, ended, next, b, outs)) != 0 || code != impl.ErrUser {
			t.Errorf("%s: %d, %s", name, code, legible(outs))
		}
	}
}

// safetyGateway is a plain one, of other gardens and roles now and then.
func safetyGateway(chance *rand.Rand) impl.Gateway {
	g := impl.PlainGateway()
	g.Isn = choice(chance, roundNumbers()...)
	switch chance.Intn(4) {
	case 0:
		g.Config.Garden = append(g.Config.Garden, impl.Place{Net: netOf(quadOne, 32), Ports: impl.Range{High: 100}})
	case 1:
		g.Config.Garden = nil
	case 2:
		g.Config.Roles[0].Rules = []impl.Rule{{Proto: 17, Allow: true, Ports: impl.Range{High: 53}}, {Proto: 1, Allow: true}, {Proto: 6, Net: netOf(far, 24), Ports: impl.Range{Low: 22, High: 443}, Allow: true}}
	}
	return g
}

// sightings count what came to the wide side in walks, by what the audit saw.
type sightings struct {
	seen               map[impl.Sight]int
	codes              map[int]int
	sessions, heldBack int
}

// The theorem of safety, whatever comes to a gateway that began plain: frames,
// ticks, kicks and visits to the portal.
func TestWalksAreSafe(t *testing.T) {
	met := sightings{seen: map[impl.Sight]int{}, codes: map[int]int{}}
	for seed := range 60 {
		chance := rand.New(rand.NewSource(int64(1000 + seed)))
		g := safetyGateway(chance)
		for range 600 {
			g = safetyStep(t, chance, g, &met)
			if t.Failed() {
				t.Fatalf("seed %d: the gateway is %s", seed, legible(g))
			}
		}
	}
	for set := 1; set < 8; set++ {
		s := impl.Sight{Garden: set&1 > 0, Service: set&2 > 0, Session: set&4 > 0}
		if met.seen[s] == 0 {
			t.Errorf("no walk met %+v", s)
		}
	}
	for _, code := range []int{impl.OK, impl.ErrForm, impl.ErrProto, impl.ErrSum} {
		if met.codes[code] == 0 {
			t.Errorf("no walk met %d of SightOf", code)
		}
	}
	if met.sessions < 100 || met.heldBack == 0 {
		t.Errorf("walks met too little: %+v", met)
	}
}

func safetyStep(t *testing.T, chance *rand.Rand, g impl.Gateway, met *sightings) impl.Gateway {
	t.Helper()
	var next impl.Gateway
	switch n := chance.Intn(30); {
	case n < 2:
		next, _, _ = impl.TickGate(g)
	case n == 2 && chance.Intn(6) == 0:
		next, _ = impl.KickGuest(g, 1+chance.Intn(g.Guests.Next))
	case n < 7:
		b := randomFrame(chance, g, false)
		var outs []impl.Out
		next, outs, _ = impl.WanIn(g, b)
		if len(holdSafe(t, g, next, b, outs)) != 0 {
			t.Errorf("a frame from the wide side comes out there: %s", legible(outs))
		}
	default:
		next = safetyFrame(t, chance, g, met)
	}
	met.sessions += max(0, len(next.Guests.Sessions)-len(g.Guests.Sessions))
	holdAudit(t, next)
	return next
}

// safetyFrame hands in a guest's frame; the audit sees that one, too, be it
// let out or not.
func safetyFrame(t *testing.T, chance *rand.Rand, g impl.Gateway, met *sightings) impl.Gateway {
	t.Helper()
	b := randomFrame(chance, g, true)
	want, wantCode := sightByHand(g, b)
	holdSight(t, g, "a guest's frame", b, want, wantCode)
	met.codes[wantCode]++
	next, outs, code := impl.LanIn(g, b)
	list := holdSafe(t, g, next, b, outs)
	for _, l := range list {
		// The frame that came in was of the same sight.
		holdSight(t, next, "the frame that came in", b, l.sight, impl.OK)
		l.sight.Id = 0
		met.seen[l.sight]++
	}
	// What the audit would see in it may be held back, by whose it is.
	if wantCode == impl.OK && want.Session && code == impl.ErrUser {
		met.heldBack++
	}
	if len(list) > 1 || len(list) == 1 && code != impl.OK {
		t.Errorf("one frame let out %s, with %d", legible(outs), code)
	}
	return next
}

func TestGatewaysAuditedStayAsTheyWere(t *testing.T) {
	before := allOf(roomyGateway())
	for name, b := range gateFrames() {
		for call, do := range audited() {
			g := roomyGateway()
			room := append(slices.Clone(b), sampleBytes(40, 3)...)
			bytes := slices.Clone(room)
			told, code := do(g, room[:len(b)], "ann")
			if !slices.Equal(room, bytes) {
				t.Errorf("%s, %s: the frame was changed", call, name)
			}
			if !reflect.DeepEqual(allOf(g), before) {
				t.Errorf("%s, %s: the gateway was changed", call, name)
			}
			// Nor does it hang on what stands behind the ends.
			if again, other := do(busyGateway(), slices.Clone(b), "ann"); again != told || other != code {
				t.Errorf("%s, %s: %v, %d, then %v, %d", call, name, told, code, again, other)
			}
		}
	}
}

func TestAuditsOfEmptyListsAreAlike(t *testing.T) {
	empty := impl.PlainGateway()
	empty.Guests.Sessions, empty.Guests.Fails, empty.Guests.Records = []impl.Session{}, []impl.Fail{}, []impl.Record{}
	empty.Flows, empty.Conns = []impl.Flow{}, []impl.Conn{}
	for name, b := range gateFrames() {
		for call, do := range audited() {
			a, code := do(impl.PlainGateway(), b, "ann")
			if again, other := do(empty, b, "ann"); again != a || other != code {
				t.Errorf("%s, %s tells empty lists from nil: %v, %d; %v, %d", call, name, a, code, again, other)
			}
		}
	}
	for _, b := range [][]byte{nil, {}} {
		holdSight(t, empty, "nothing", b, impl.Sight{}, impl.ErrForm)
	}
}
