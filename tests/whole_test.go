package tests

import (
	"fmt"
	"math/rand"
	"strings"
	"testing"

	"loop.example/g00356/impl"
)

// wholeMet counts what was met, so that all there is was held.
type wholeMet struct {
	sights map[impl.Sight]int // by what let it out, without the Id
	codes  map[int]int
	causes map[int]int
}

func newWholeMet() wholeMet {
	return wholeMet{map[impl.Sight]int{}, map[int]int{}, map[int]int{}}
}

// wholeStep does an act, and holds all that promise 18 says of it: what is let
// out is there by something, and behind it records, balances and flows hold.
func wholeStep(t *testing.T, s *script, a impl.Act, met wholeMet) ([]impl.Out, int) {
	t.Helper()
	before := s.g
	outs, code := s.do(a)
	met.codes[code]++
	for _, l := range holdSafe(t, before, s.g, []byte(a.Bytes), outs) {
		if a.Kind != impl.WoLan {
			t.Errorf("%s let out %s", legible(a), legible(l.p))
		}
		l.sight.Id = 0
		met.sights[l.sight]++
	}
	for _, r := range s.g.Guests.Records[len(before.Guests.Records):] {
		met.causes[r.Cause]++
	}
	s.hold(t)
	return outs, code
}

// holdAll holds that something of each kind was met.
func (met wholeMet) holdAll(t *testing.T, codes, causes []int) {
	t.Helper()
	for _, s := range []impl.Sight{{Garden: true}, {Service: true}, {Session: true}, {Garden: true, Session: true}, {Service: true, Session: true}} {
		if met.sights[s] == 0 {
			t.Errorf("nothing was let out by %+v", s)
		}
	}
	for _, code := range codes {
		if met.codes[code] == 0 {
			t.Errorf("no act met %d", code)
		}
	}
	for _, cause := range causes {
		if met.causes[cause] == 0 {
			t.Errorf("no act met cause %d", cause)
		}
	}
}

// An ordinary script, act by act, with what each of its frames lets out.
func TestWholeOfAnOrdinaryScript(t *testing.T) {
	garden, service, session := impl.Sight{Garden: true}, impl.Sight{Service: true}, impl.Sight{Session: true, Id: 1}
	met := newWholeMet()
	s := newScript()
	for k, row := range []struct {
		name  string
		b     []byte
		sight impl.Sight // none if nothing is let out
		code  int
	}{
		{"a lease", frameOf(everyone, guestMac(1), udpBetween(0, impl.MaxAddress, 68, 67, leaseOf(1, false))), service, impl.OK},
		{"a question for a mac", arpFrame(everyone, guestMac(1), impl.Arp{Op: 1, SrcMac: guestMac(1), SrcIp: guestIp(1), DstMac: everyone, DstIp: s.g.Config.Gate}), impl.Sight{}, impl.OK},
		{"a name", gateFrame(1, udpOf(1, quadOne, 1000, 53, questionOf(false))), service, impl.OK},
		{"no name", gateFrame(1, udpOf(1, quadOne, 1000, 53, "junk")), impl.Sight{}, impl.ErrForm},
		{"the garden", gateFrame(1, tcpOf(1, quadNine, 1000, 443, "S", "")), garden, impl.OK},
		{"nobody's", gateFrame(1, tcpOf(1, far, 1000, 443, "S", "")), impl.Sight{}, impl.ErrUser},
		{"a login", nil, impl.Sight{}, impl.OK},
		{"a session's", gateFrame(1, tcpOf(1, far, 1000, 443, "S", "")), session, impl.OK},
		{"more of it", gateFrame(1, tcpOf(1, far, 1000, 443, "A", "hello")), session, impl.OK},
		{"the garden, with a session", gateFrame(1, tcpOf(1, quadNine, 1001, 443, "S", "")), impl.Sight{Garden: true, Session: true, Id: 1}, impl.OK},
		{"what is barred", gateFrame(1, tcpOf(1, barred, 1000, 443, "S", "")), impl.Sight{}, impl.ErrRefused},
		{"another's address", gateFrame(2, tcpOf(3, far, 1000, 443, "S", "")), impl.Sight{}, impl.ErrUser},
		{"too much", gateFrame(1, sized(1, 356, false, 1000)), impl.Sight{}, impl.ErrSpent},
		{"behind its end", gateFrame(1, tcpOf(1, far, 1000, 443, "A", "x")), impl.Sight{}, impl.ErrUser},
		{"the garden, behind its end", gateFrame(1, tcpOf(1, quadNine, 1002, 443, "S", "")), garden, impl.OK},
	} {
		if row.b == nil {
			s.visit(1, far, postOf("/login", "name=ann&word=apple"))
			s.hold(t)
			continue
		}
		outs, code := wholeStep(t, s, impl.Act{Kind: impl.WoLan, Bytes: string(row.b)}, met)
		var seen impl.Sight
		for _, o := range outs {
			if o.Side == impl.OutWan {
				seen, _ = impl.SightOf(s.g, []byte(o.Bytes))
			}
		}
		if code != row.code || seen != row.sight {
			t.Errorf("%d, %s: %d, %+v", k, row.name, code, seen)
		}
	}
	if spent := 600 - s.g.Guests.Users[0].Balance; spent != 45 || len(s.g.Guests.Records) != 2 || s.g.Guests.Records[1].Bytes != 45 {
		t.Errorf("%d were spent: %s", spent, legible(s.g.Guests.Records))
	}
	s.holdRun(t)
}

// oddAct is one of what may come; now and then what a service is asked, but of
// somebody else.
func oddAct(chance *rand.Rand, g impl.Gateway) impl.Act {
	if chance.Intn(10) > 0 {
		return randomAct(chance, g, 3)
	}
	k, dst := 1+chance.Intn(4), choice(chance, far, barred, quadNine, quadOne, g.Config.Gate, guestIp(2))
	from, to := choice(chance, 68, 67, 1000), choice(chance, 67, 68, 53, 443)
	p := udpOf(k, dst, from, to, choice(chance, questionOf(false), leaseOf(k, false), leaseOf(k, true), ""))
	return impl.Act{Kind: choice(chance, impl.WoLan, impl.WoLan, impl.WoWan), Bytes: string(gateFrame(k, p))}
}

// The theorem of the whole, of scripts of all that may come: lines of a
// console, and frames of all kinds, from both sides, between them.
func TestTheoremOfTheWhole(t *testing.T) {
	met := newWholeMet()
	for seed := range 150 {
		chance := rand.New(rand.NewSource(int64(8000 + seed)))
		s := newScript()
		odd := choice(chance, 0, 30, 80)
		for len(s.acts) < 300 {
			if chance.Intn(100) < odd {
				wholeStep(t, s, oddAct(chance, s.g), met)
			} else {
				for _, line := range randomLines(chance) {
					if a, code := impl.ReadLine(line); code == impl.OK {
						wholeStep(t, s, a, met)
					}
				}
			}
			if t.Failed() {
				t.Fatalf("seed %d, act %d", seed, len(s.acts))
			}
		}
	}
	met.holdAll(t, []int{impl.OK, impl.ErrForm, impl.ErrRange, impl.ErrNone, impl.ErrFull, impl.ErrTwice, impl.ErrState, impl.ErrUser, impl.ErrSpent, impl.ErrRefused},
		[]int{0, impl.CaLogout, impl.CaIdle, impl.CaQuota, impl.CaMoved, impl.CaKick})
}

// The same, of what a console does: its text is what its acts let out, and
// what it tells of records is what is there.
func TestTheoremOfConsoles(t *testing.T) {
	met := newWholeMet()
	for seed := range 200 {
		chance := rand.New(rand.NewSource(int64(8500 + seed)))
		lines := randomText(chance, 59)
		s := newScript()
		s.isn(100)
		want := ""
		for _, line := range lines {
			a, code := impl.ReadLine(line)
			if code != impl.OK {
				_, said := toldByHand(s.g, line)
				want += said
				continue
			}
			outs, code := wholeStep(t, s, a, met)
			if code != impl.OK {
				want += "error " + impl.CodeWord(code) + "\n"
				continue
			}
			texts, _ := impl.OutsText(outs)
			want += strings.Join(append([]string{"ok"}, texts...), "\n") + "\n"
		}
		want += recordsByHand(s.g.Guests.Records)
		holdSaid(t, fmt.Sprintf("seed %d", seed), textOf(append(lines, "records")), want, impl.OK)
		if len(s.acts) <= impl.MaxActs {
			s.holdRun(t)
		}
		if t.Failed() {
			t.Fatalf("seed %d, of\n%s", seed, textOf(lines))
		}
	}
	met.holdAll(t, []int{impl.OK, impl.ErrRange, impl.ErrNone, impl.ErrFull, impl.ErrState, impl.ErrUser, impl.ErrSpent, impl.ErrRefused},
		[]int{0, impl.CaLogout, impl.CaIdle, impl.CaQuota, impl.CaKick})
}
