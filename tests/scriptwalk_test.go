package tests

import (
	"fmt"
	"math/rand"
	"slices"
	"testing"

	"loop.example/g00356/impl"
)

// script does acts one by one by ActDo, to a gateway that began plain, and
// keeps what a run of them must tell, and whose each session was.
type script struct {
	g     impl.Gateway
	acts  []impl.Act
	outs  []impl.Out
	codes []int
	began map[int]int // the user's place, by Id
}

func newScript() *script {
	return &script{g: impl.PlainGateway(), began: map[int]int{}}
}

func (s *script) do(a impl.Act) ([]impl.Out, int) {
	next, outs, code := impl.ActDo(s.g, a)
	s.g = next
	s.acts, s.outs, s.codes = append(s.acts, a), append(s.outs, outs...), append(s.codes, code)
	for _, o := range next.Guests.Sessions {
		s.began[o.Id] = o.User
	}
	return outs, code
}

func (s *script) lan(b []byte) ([]impl.Out, int) {
	return s.do(impl.Act{Kind: impl.WoLan, Bytes: string(b)})
}

func (s *script) wan(b []byte) ([]impl.Out, int) {
	return s.do(impl.Act{Kind: impl.WoWan, Bytes: string(b)})
}

func (s *script) ticks(count int) {
	for range count {
		s.do(impl.Act{Kind: impl.WoTick})
	}
}

func (s *script) kick(id int) int {
	_, code := s.do(impl.Act{Kind: impl.WoKick, N: id})
	return code
}

func (s *script) isn(n int) int {
	_, code := s.do(impl.Act{Kind: impl.WoIsn, N: n})
	return code
}

// visit is a whole visit of a guest to the portal, as visited.
func (s *script) visit(k, dst int, r impl.Request) {
	isn, text := s.g.Isn, requestByHand(r)
	s.lan(gateFrame(k, visitPacket(k, dst, 10, 0, "S", "")))
	outs, _ := s.lan(gateFrame(k, visitPacket(k, dst, 11, numberBehind(isn, 1), "PA", text)))
	size := 0
	for _, out := range outs {
		f, _ := impl.ReadFrame([]byte(out.Bytes))
		p, _ := impl.ReadPacket([]byte(f.Body))
		size += len(p.Body) - 20
	}
	s.lan(gateFrame(k, visitPacket(k, dst, 11+len(text), numberBehind(isn, 2+size), "A", "")))
}

// hold holds promise 16: records are well bracketed; what is charged is what
// is taken off balances; flows go with their sessions.
func (s *script) hold(t *testing.T) {
	t.Helper()
	g := s.g
	if !impl.GatewayOK(g) {
		t.Errorf("the gateway is not right: %s", legible(g))
	}
	holdAudit(t, g)
	if ok, code := impl.RecordsHold(g.Guests.Records); !ok || code != impl.OK || !bracketedByHand(g.Guests.Records) {
		t.Errorf("records are not well bracketed: %s", legible(g.Guests.Records))
	}
	for _, f := range g.Flows {
		owned := f.Owner == 0 || slices.ContainsFunc(g.Guests.Sessions, func(o impl.Session) bool {
			return o.Id == f.Owner && o.Mac == f.Mac && o.Ip == f.SrcIp
		})
		if !owned {
			t.Errorf("%s did not go with its session: %s", legible(f), legible(g.Guests.Sessions))
		}
	}
	s.holdBalances(t)
}

// holdBalances holds what was taken off balances against what sessions have
// used, and what records tell of those that ended.
func (s *script) holdBalances(t *testing.T) {
	t.Helper()
	told := map[int]int{}
	for _, o := range s.g.Guests.Sessions {
		told[o.User] += o.Used
		if o.Used > o.Quota {
			t.Errorf("more than its quota: %s", legible(o))
		}
	}
	for _, r := range s.g.Guests.Records {
		user, there := s.began[r.Id]
		told[user] += r.Bytes
		if !there {
			t.Errorf("a record of nobody: %s", legible(r))
		}
	}
	for id := range s.began {
		is := func(r impl.Record) bool { return r.Id == id && r.Stop }
		there := slices.ContainsFunc(s.g.Guests.Sessions, func(o impl.Session) bool { return o.Id == id })
		if there == slices.ContainsFunc(s.g.Guests.Records, is) {
			t.Errorf("of session %d, there: %v, records tell %s", id, there, legible(s.g.Guests.Records))
		}
	}
	for k, u := range impl.PlainGateway().Guests.Users {
		if taken := u.Balance - s.g.Guests.Users[k].Balance; taken != told[k] {
			t.Errorf("%d is taken off %s, %d is told: %s", taken, u.Name, told[k], legible(s.g.Guests))
		}
	}
}

// holdRun holds a run of the acts against them done one by one.
func (s *script) holdRun(t *testing.T) {
	t.Helper()
	g, outs, codes, code := impl.ActsRun(s.acts)
	if code != impl.OK || !slices.Equal(outs, s.outs) || !slices.Equal(codes, s.codes) || !sameGateway(g, s.g) {
		t.Errorf("ActsRun of %d acts: %d, %v,\n%s; not %v,\n%s", len(s.acts), code, codes, legible(g), s.codes, legible(s.g))
	}
	texts, code := impl.OutsText(outs)
	if code != impl.OK || len(texts) != len(outs) {
		t.Errorf("OutsText of %d: %d, %d texts", len(outs), code, len(texts))
	}
	for k, o := range outs {
		if k < len(texts) && texts[k] != outByHand(o) {
			t.Errorf("OutsText, %s: %q", legible(o), texts[k])
		}
	}
}

// holdEnd holds the last record, which tells how ann's session ended.
func (s *script) holdEnd(t *testing.T, name string, cause, bytes, balance int) {
	t.Helper()
	s.hold(t)
	list := s.g.Guests.Records
	last := list[len(list)-1]
	if !last.Stop || last.Cause != cause || last.Bytes != bytes || s.g.Guests.Users[0].Balance != balance {
		t.Errorf("%s: %s, %s", name, legible(last), legible(s.g.Guests.Users[0]))
	}
	for _, f := range s.g.Flows {
		if f.Owner == last.Id {
			t.Errorf("%s: %s goes on", name, legible(f))
		}
	}
}

// A session of each way to its end: what it used is what was taken off, and
// its flows go.
func TestScriptsOfEachEnd(t *testing.T) {
	for name, row := range map[string]struct {
		end         func(s *script)
		cause, more int
	}{
		"logout": {func(s *script) { s.visit(1, s.g.Config.Gate, postOf("/logout", "")) }, impl.CaLogout, 0},
		"idle":   {func(s *script) { s.ticks(10) }, impl.CaIdle, 0},
		"time": {func(s *script) {
			for range 4 {
				s.ticks(9)
				s.lan(gateFrame(1, udpOf(1, far, 2000, 443, "")))
			}
			s.ticks(4)
		}, impl.CaTime, 32},
		"quota by a guest":  {func(s *script) { s.lan(gateFrame(1, sized(1, 340, false, 1000))) }, impl.CaQuota, 0},
		"quota by answers":  {func(s *script) { s.wan(wanFrame(sized(1, 340, true, 1000))) }, impl.CaQuota, 0},
		"another's mac":     {func(s *script) { s.lan(gateFrame(9, tcpOf(1, far, 1000, 443, "S", ""))) }, impl.CaMoved, 0},
		"another's address": {func(s *script) { s.lan(gateFrame(1, tcpOf(9, far, 1000, 443, "S", ""))) }, impl.CaMoved, 0},
		"kick":              {func(s *script) { s.kick(1) }, impl.CaKick, 0},
	} {
		s := newScript()
		s.visit(1, far, postOf("/login", "name=ann&word=apple"))
		s.hold(t)
		s.lan(gateFrame(1, tcpOf(1, far, 1000, 443, "S", "abc")))
		s.wan(wanFrame(tcpTo(1, far, 443, 1000, "SA", "abcdefgh")))
		s.lan(gateFrame(1, udpOf(1, far, 1001, 443, "abcd")))
		s.hold(t)
		if spent, _ := impl.SpentOf(s.g, "ann"); spent != 63 || len(s.g.Flows) != 2 || s.g.Guests.Users[0].Balance != 537 {
			t.Errorf("%s, ahead of its end: %d, %s", name, spent, legible(s.g))
		}
		row.end(s)
		s.holdEnd(t, name, row.cause, 63+row.more, 537-row.more)
		s.holdRun(t)
		if len(s.g.Guests.Sessions) != 0 {
			t.Errorf("%s: %s", name, legible(s.g.Guests.Sessions))
		}
	}
}

// A script that is written out: what came out, by its texts, and the codes.
func TestScriptWrittenOut(t *testing.T) {
	s := newScript()
	s.isn(100)
	s.lan(gateFrame(1, tcpOf(1, far, 1000, 443, "S", "")))
	s.visit(1, far, postOf("/login", "name=ann&word=apple"))
	s.lan(gateFrame(1, tcpOf(1, far, 1000, 443, "S", "")))
	s.wan(wanFrame(tcpTo(1, far, 443, 1000, "SA", "abc")))
	s.wan(wanFrame(tcpTo(1, far, 443, 1001, "SA", "abc")))
	s.lan(gateFrame(1, udpOf(1, quadOne, 1000, 53, questionOf(false))))
	s.lan(gateFrame(1, tcpOf(1, barred, 1000, 443, "S", "")))
	s.lan(gateFrame(1, tcpOf(1, far, 1000, 443, "", "x")))
	s.isn(-1)
	s.kick(2)
	s.do(impl.Act{Kind: 9})
	s.visit(1, s.g.Config.Gate, postOf("/logout", ""))
	s.ticks(1)
	s.lan(gateFrame(1, tcpOf(1, far, 1000, 443, "A", "x")))
	_, outs, codes, _ := impl.ActsRun(s.acts)
	texts, code := impl.OutsText(outs)
	want := []string{
		"lan 5.5.5.5 10.0.0.2 6 80 4000 SA 0",
		"lan 5.5.5.5 10.0.0.2 6 80 4000 A 0",
		"lan 5.5.5.5 10.0.0.2 6 80 4000 PA 76",
		"lan 5.5.5.5 10.0.0.2 6 80 4000 FA 0",
		"wan 10.0.0.2 5.5.5.5 6 1000 443 S 0",
		"lan 5.5.5.5 10.0.0.2 6 443 1000 SA 3",
		"wan 10.0.0.2 1.1.1.1 17 1000 53",
		"wan 10.0.0.2 5.5.5.5 6 1000 443  1",
		"lan 10.0.0.1 10.0.0.2 6 80 4000 SA 0",
		"lan 10.0.0.1 10.0.0.2 6 80 4000 A 0",
		"lan 10.0.0.1 10.0.0.2 6 80 4000 PA 60",
		"lan 10.0.0.1 10.0.0.2 6 80 4000 FA 0",
	}
	wantCodes := []int{0, impl.ErrUser, 0, 0, 0, 0, 0, impl.ErrNone, 0, impl.ErrRefused, 0, impl.ErrRange, impl.ErrNone, impl.ErrForm, 0, 0, 0, 0, impl.ErrUser}
	if code != impl.OK || !slices.Equal(codes, wantCodes) {
		t.Errorf("codes %v, not %v", codes, wantCodes)
	}
	for k := range max(len(texts), len(want)) {
		if k >= len(texts) || k >= len(want) || texts[k] != want[k] {
			t.Errorf("from line %d on: %q; not %q", k, texts[min(k, len(texts)):], want[min(k, len(want)):])
			break
		}
	}
	s.hold(t)
	s.holdRun(t)
}

// chargedBy is how many bytes of frames that came out are a session's, by the
// flows ahead or behind.
func chargedBy(before, next impl.Gateway, outs []impl.Out) int {
	sum := 0
	for _, o := range outs {
		f, _ := impl.ReadFrame([]byte(o.Bytes))
		p, code := impl.ReadPacket([]byte(f.Body))
		from, to, _, ends := endsByHand(p)
		if f.Kind != impl.KindIp || code != impl.OK || ends != impl.OK {
			continue
		}
		if p.Proto == impl.ProIcmp && o.Side == impl.OutLan {
			from, to = to, from
		}
		for _, g := range []impl.Gateway{before, next} {
			if k, _, code := findByHand(g.Flows, p.Proto, p.Src, from, p.Dst, to); code == impl.OK {
				if g.Flows[k].Owner != 0 {
					sum += len(p.Body)
				}
				break
			}
		}
	}
	return sum
}

// randomAct is one of what may come: mostly frames that meet what is there.
func randomAct(chance *rand.Rand, g impl.Gateway, ticks int) impl.Act {
	switch n := chance.Intn(100); {
	case n < ticks:
		return impl.Act{Kind: impl.WoTick, N: chance.Intn(9)}
	case n < ticks+1:
		return impl.Act{Kind: impl.WoKick, N: chance.Intn(g.Guests.Next + 2)}
	case n < ticks+3:
		return impl.Act{Kind: impl.WoIsn, N: choice(chance, -1, 0, 5, 4294967295, 4294967296, 4294966500)}
	case n < ticks+4:
		return impl.Act{Kind: choice(chance, otherKinds()...), N: 1}
	case n < ticks+20:
		return impl.Act{Kind: impl.WoWan, Bytes: string(randomFrame(chance, g, false))}
	}
	return impl.Act{Kind: impl.WoLan, Bytes: string(randomFrame(chance, g, true))}
}

// scriptsMet counts what walks of scripts have met.
type scriptsMet struct {
	codes  map[int]map[int]int // by Kind
	causes map[int]int
}

// scriptStep does one act, and holds what it leaves.
func scriptStep(t *testing.T, s *script, a impl.Act, met scriptsMet) {
	t.Helper()
	before := copiedGateway(s.g)
	want, wantOuts, wantCode := doneByHand(s.g, a)
	outs, code := s.do(a)
	if code != wantCode || !slices.Equal(outs, wantOuts) || !sameGateway(s.g, want) {
		t.Errorf("ActDo of %s: %d, %s,\n%s; not %d, %s,\n%s", legible(a), code, legible(outs), legible(s.g), wantCode, legible(wantOuts), legible(want))
	}
	s.hold(t)
	taken := 0
	for k, u := range before.Guests.Users {
		taken += u.Balance - s.g.Guests.Users[k].Balance
	}
	if charged := chargedBy(before, s.g, outs); taken != charged {
		t.Errorf("%d bytes of sessions came out, %d were taken off: %s", charged, taken, legible(a))
	}
	if met.codes[a.Kind] == nil {
		met.codes[a.Kind] = map[int]int{}
	}
	met.codes[a.Kind][code]++
	for _, r := range s.g.Guests.Records[len(before.Guests.Records):] {
		met.causes[r.Cause]++
	}
}

// Promise 16, of scripts of all that may come; a run of the first acts, as
// many as it takes, is what they do one by one.
func TestWalksOfScripts(t *testing.T) {
	met := scriptsMet{map[int]map[int]int{}, map[int]int{}}
	for seed := range 120 {
		chance := rand.New(rand.NewSource(int64(5000 + seed)))
		s := newScript()
		ticks := choice(chance, 2, 5, 10, 20)
		for step := range 500 {
			scriptStep(t, s, randomAct(chance, s.g, ticks), met)
			if step+1 == impl.MaxActs || step < 20 && seed < 10 {
				s.holdRun(t)
			}
			if t.Failed() {
				t.Fatalf("seed %d, step %d", seed, step)
			}
		}
	}
	holdMet(t, met)
}

func holdMet(t *testing.T, met scriptsMet) {
	t.Helper()
	for kind, codes := range map[int][]int{
		impl.WoLan:  {impl.OK, impl.ErrForm, impl.ErrProto, impl.ErrSum, impl.ErrRefused, impl.ErrUser, impl.ErrRange, impl.ErrTwice, impl.ErrFull, impl.ErrSpent, impl.ErrState},
		impl.WoWan:  {impl.OK, impl.ErrForm, impl.ErrProto, impl.ErrSum, impl.ErrRefused, impl.ErrNone, impl.ErrRange, impl.ErrSpent},
		impl.WoTick: {impl.OK},
		impl.WoKick: {impl.OK, impl.ErrNone},
		impl.WoIsn:  {impl.OK, impl.ErrRange},
		6:           {impl.ErrForm},
		0:           {impl.ErrForm},
		-1:          {impl.ErrForm},
	} {
		for _, code := range codes {
			if met.codes[kind][code] == 0 {
				t.Errorf("no walk met %d of %d", code, kind)
			}
		}
	}
	// Walks are too lively for CaTime: TestScriptsOfEachEnd has that one.
	for _, cause := range []int{0, impl.CaLogout, impl.CaIdle, impl.CaQuota, impl.CaMoved, impl.CaKick} {
		if met.causes[cause] == 0 {
			t.Errorf("no walk met cause %d", cause)
		}
	}
}

// Visits that log in and out, one behind the other, until nothing is left.
func TestScriptsOfVisits(t *testing.T) {
	for _, name := range []string{"ann&word=apple", "bob&word=berry", "ticket&word=12345"} {
		for _, dst := range []int{far, plainConfig().Gate} {
			s := newScript()
			for round := range 40 {
				s.visit(1, dst, postOf("/login", "name="+name))
				s.lan(gateFrame(1, tcpOf(1, far, 1000, 443, "S", fmt.Sprint(round))))
				s.visit(1, s.g.Config.Gate, postOf("/logout", ""))
				s.hold(t)
				if len(s.acts) < impl.MaxActs && round%4 == 0 {
					s.holdRun(t)
				}
			}
			logins := map[string]int{"ann&word=apple": 3, "bob&word=berry": 30, "ticket&word=12345": 1}[name]
			if len(s.g.Guests.Records) != 2*logins || s.g.Guests.Next != logins+1 {
				t.Errorf("%s logged in %d times: %s", name, s.g.Guests.Next-1, legible(s.g.Guests.Records))
			}
		}
	}
}
