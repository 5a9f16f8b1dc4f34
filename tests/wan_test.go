package tests

import (
	"slices"
	"strings"
	"testing"

	"loop.example/g00356/impl"
)

// The ways of a frame from the wide side are looked at ahead of its packet.
func TestWideFramesOfOtherWays(t *testing.T) {
	g := busyGateway()
	right := tcpTo(1, far, 443, 1000, "A", "x")
	junk, part := []byte("junk"), packetBytes(right)
	part[7] = 1
	for _, dst := range []string{everyone, g.Config.WanMac, guestMac(1), "\x00\x00\x00\x00\x00\x00"} {
		holdWan(t, g, "to another mac", frameOf(dst, g.Config.WanMac, right), impl.ErrRefused, nil, nil)
		for _, body := range [][]byte{nil, junk, part} {
			holdWan(t, g, "to another mac, no packet", slices.Concat([]byte(dst+g.Config.WanMac+"\x08\x00"), body), impl.ErrRefused, nil, nil)
			holdWan(t, g, "arp to another mac", slices.Concat([]byte(dst+g.Config.WanMac+"\x08\x06"), body), impl.ErrRefused, nil, nil)
		}
	}
	for _, body := range [][]byte{nil, junk, packetBytes(right)} {
		holdWan(t, g, "arp", slices.Concat([]byte(g.Config.GateMac+g.Config.WanMac+"\x08\x06"), body), impl.ErrRefused, nil, nil)
	}
	// Another kind is none on both ways.
	holdWan(t, g, "another kind to another mac", []byte(everyone+g.Config.WanMac+"\x86\xddjunk"), impl.ErrProto, nil, nil)
}

func TestRepliesOfLeasesComeIn(t *testing.T) {
	for _, g := range []impl.Gateway{impl.PlainGateway(), busyGateway(), fullGateway()} {
		for _, src := range []string{g.Config.WanMac, everyone, guestMac(1)} {
			for _, k := range []int{1, 3, 9} {
				for _, ends := range [][2]int{{7, impl.MaxAddress}, {far, guestIp(k)}, {guestIp(2), 0}, {g.Config.Gate, g.Config.Gate}} {
					for _, ttl := range []int{0, 1, 2, 255} {
						p := udpBetween(ends[0], ends[1], 67, 68, leaseOf(k, true))
						p.Ttl = ttl
						in := frameOf(g.Config.GateMac, src, p)
						holdWan(t, g, "a reply", in, impl.OK, asItIs(impl.OutLan, guestMac(k), p), nil)
						holdWan(t, g, "a reply with more behind", append(in, "behind"...), impl.OK, asItIs(impl.OutLan, guestMac(k), p), nil)
					}
				}
			}
		}
	}
}

func TestRepliesOfLeasesThatDoNotComeIn(t *testing.T) {
	g := busyGateway()
	// A flow of these ports does not help what is no reply.
	g.Flows = append(g.Flows, flowOfGuest(5, impl.ProUdp, 68, far, 67, impl.FoOpen, 30, 0))
	for name, data := range map[string]string{
		"nothing": "", "junk": "junk", "an answer": questionOf(true), "no reply": leaseOf(5, false), "cut": leaseOf(5, true)[:243],
	} {
		for _, ttl := range []int{0, 9} {
			p := udpTo(5, far, 67, 68, data)
			p.Ttl = ttl
			holdWan(t, g, name, wanFrame(p), impl.ErrForm, nil, nil)
		}
	}
	lease := leaseOf(5, true)
	for _, ports := range [][2]int{{68, 67}, {67, 67}, {68, 68}, {67, 69}, {66, 68}} {
		holdWan(t, g, "other ports", wanFrame(udpTo(5, far, ports[0], ports[1], lease)), impl.ErrNone, nil, nil)
	}
	holdWan(t, g, "a segment", wanFrame(tcpTo(5, far, 67, 68, "A", lease)), impl.ErrNone, nil, nil)
	p := udpTo(5, far, 67, 68, lease)
	p.Body = p.Body[:len(p.Body)-1] + "\xfe"
	holdWan(t, g, "a wrong sum", wanFrame(p), impl.ErrSum, nil, nil)
}

// flowAnswer is a packet that answers a flow, by its ends turned round.
func flowAnswer(f impl.Flow, letters, data string) impl.Packet {
	switch f.Proto {
	case impl.ProTcp:
		return tcpBetween(f.DstIp, f.SrcIp, f.DstPort, f.SrcPort, letters, data)
	case impl.ProUdp:
		return udpBetween(f.DstIp, f.SrcIp, f.DstPort, f.SrcPort, data)
	}
	return icmpBetween(f.DstIp, f.SrcIp, f.SrcPort, data)
}

func TestAnswersComeBack(t *testing.T) {
	for place, f := range busyGateway().Flows {
		for flags := range 32 {
			letters, _ := impl.FlagsText(flags)
			for _, state := range []int{impl.FoNew, impl.FoOpen, impl.FoClosing} {
				for _, until := range []int{24, 25, 26, impl.MaxNow + 100} {
					g := busyGateway()
					g.Flows[place].State, g.Flows[place].Until = state, until
					// It goes to the flow's mac, whosever that is.
					g.Flows[place].Mac = guestMac(8)
					p := flowAnswer(f, letters, "answer")
					if until <= g.Now {
						holdWan(t, g, "too late", wanFrame(p), impl.ErrNone, nil, nil)
						continue
					}
					holdWan(t, g, "an answer", frameOf(g.Config.GateMac, everyone, p), impl.OK, toGuest(8, p), func(g *impl.Gateway) {
						if f.Owner != 0 {
							charged(g, f.Owner/2-2, f.Owner/2-2, p)
						}
						passed := flags
						if f.Proto != impl.ProTcp {
							passed = 0
						}
						g.Flows = passedByHand(g.Flows, place, true, passed, g.Now)
					})
				}
			}
		}
	}
}

// busyGateway's Owners, 5 and 7, are those of users 0 and 1, at places 0 and 1.
func TestOwnersOfBusyGateway(t *testing.T) {
	for k, s := range busyGuests().Sessions {
		if s.Id/2-2 != k || s.User != k {
			t.Errorf("the session at %d is %s", k, legible(s))
		}
	}
}

func TestWhatAnswersNoFlow(t *testing.T) {
	g := busyGateway()
	for _, f := range g.Flows {
		// The way of the flow itself is not the way back.
		holdWan(t, g, "this way", wanFrame(flowAnswer(turnedFlow(f), "A", "x")), impl.ErrNone, nil, nil)
		if f.Proto == impl.ProIcmp {
			continue
		}
		for _, other := range nearEnds(f) {
			if other.Proto != f.Proto {
				continue
			}
			p := flowAnswer(other, "A", "x")
			holdWan(t, g, "near a flow", wanFrame(p), impl.ErrNone, nil, nil)
			// ErrNone comes ahead of ErrRange.
			p.Ttl = 1
			holdWan(t, g, "near a flow, of a low Ttl", wanFrame(p), impl.ErrNone, nil, nil)
		}
	}
	for _, number := range []int{0, 76, 78, 77 << 8} {
		holdWan(t, g, "another number", wanFrame(icmpTo(2, far, number, "x")), impl.ErrNone, nil, nil)
	}
	// A flow of one proto is none of another.
	holdWan(t, g, "another proto", wanFrame(udpTo(1, far, 443, 1000, "x")), impl.ErrNone, nil, nil)
	holdWan(t, g, "another proto", wanFrame(tcpTo(1, far, 443, 1001, "A", "x")), impl.ErrNone, nil, nil)
	// A connection to the portal is no flow, and a plain gateway has none.
	holdWan(t, g, "a connection's", wanFrame(tcpTo(3, far, 80, 1000, "A", "x")), impl.ErrNone, nil, nil)
	for k := range 5 {
		for _, p := range []impl.Packet{tcpTo(k, far, 443, 1000, "SA", ""), udpTo(k, quadOne, 53, 1000, questionOf(true)), icmpTo(k, far, 7, "x"), tcpTo(k, quadNine, 443, 1000, "SA", "")} {
			holdWan(t, impl.PlainGateway(), "of a stranger", wanFrame(p), impl.ErrNone, nil, nil)
		}
	}
}

// The flow of a question has its number first, and 0 second; its answer has
// the same number, and is found by both turned round.
func TestQuestionsNumbersAreTurnedRound(t *testing.T) {
	for _, number := range []int{0, 1, 77, 65535} {
		p := icmpOf(2, far, number, "asks")
		back := icmpTo(2, far, number, "told")
		g := busyGateway()
		g.Flows = nil
		g = holdLan(t, g, "a question", gateFrame(2, p), impl.OK, toWan(p), func(g *impl.Gateway) {
			charged(g, 1, 1, p)
			opened(g, guestMac(2), p, number, 0, 7)
		})
		holdWan(t, g, "an answer", wanFrame(back), impl.OK, toGuest(2, back), func(g *impl.Gateway) {
			charged(g, 1, 1, back)
			g.Flows[0].State = impl.FoOpen
		})
		holdWan(t, g, "another's answer", wanFrame(icmpTo(2, far, number^1, "told")), impl.ErrNone, nil, nil)
		holdWan(t, g, "an answer to another", wanFrame(icmpTo(3, far, number, "told")), impl.ErrNone, nil, nil)
	}
}

func TestVerdictsFromTheWideSideComeInTheirOrder(t *testing.T) {
	holdVerdicts(t, impl.WanIn, func() trial {
		a := trial{g: busyGateway(), dst: plainConfig().GateMac, kind: impl.KindIp, p: impl.Packet{Src: far, Dst: guestIp(1), Proto: impl.ProTcp, Ttl: 9, Id: 3}}
		// A trial's segment goes from port 4000 to 443.
		a.g.Flows = []impl.Flow{flowOfGuest(1, impl.ProTcp, 443, far, 4000, impl.FoOpen, 26, 5)}
		return a
	}, slices.Concat([]verdict{anotherKind, anotherMac}, wrongHeads(), wrongEnds(), []verdict{
		{impl.ErrNone, func(a *trial) { a.g.Flows[0].Until = a.g.Now }},
		lowTtl,
		nothingLeft,
	}))
}

// Once a session ended, in each of the ways, nothing comes through for it.
func TestNothingComesBackForSessionsThatEnded(t *testing.T) {
	gone := map[string]func(g impl.Gateway) impl.Gateway{
		"kicked": func(g impl.Gateway) impl.Gateway { next, _ := impl.KickGuest(g, 5); return next },
		"moved": func(g impl.Gateway) impl.Gateway {
			next, _, _ := impl.LanIn(g, gateFrame(9, udpOf(1, g.Config.Gate, 1, 1, "")))
			return next
		},
		"spent": func(g impl.Gateway) impl.Gateway {
			next, _, _ := impl.WanIn(g, wanFrame(tcpTo(1, far, 443, 1000, "A", strings.Repeat("x", 300))))
			return next
		},
		"timed out": func(g impl.Gateway) impl.Gateway {
			g.Guests.Sessions[0].Until = 26
			next, _, _ := impl.TickGate(g)
			return next
		},
		"idle": func(g impl.Gateway) impl.Gateway {
			g.Guests.Sessions[0].Idle = 6
			next, _, _ := impl.TickGate(g)
			return next
		},
		"logged out": func(g impl.Gateway) impl.Gateway { return visited(g, 1, g.Config.Gate, postOf("/logout", "")) },
	}
	for name, end := range gone {
		g := busyGateway()
		g.Flows[2].Until = 40
		next := end(g)
		if len(next.Guests.Sessions) != 1 || next.Guests.Sessions[0].Id != 7 {
			t.Errorf("%s: the sessions are %s", name, legible(next.Guests.Sessions))
		}
		for _, f := range next.Flows {
			if f.Owner == 5 {
				t.Errorf("%s: the flow %s is left", name, legible(f))
			}
		}
		holdWan(t, next, name, wanFrame(tcpTo(1, far, 443, 1000, "A", "x")), impl.ErrNone, nil, nil)
		holdWan(t, next, name, wanFrame(udpTo(1, far, 443, 1001, "x")), impl.ErrNone, nil, nil)
		holdLan(t, next, name, gateFrame(1, tcpOf(1, far, 1000, 443, "A", "x")), impl.ErrUser, nil, nil)
		holdLan(t, next, name, gateFrame(1, udpOf(1, far, 1001, 443, "x")), impl.ErrUser, nil, nil)
		// Another's go on.
		p := icmpTo(2, far, 77, "x")
		if _, outs, code := impl.WanIn(next, wanFrame(p)); code != impl.OK || !slices.Equal(outs, toGuest(2, p)) {
			t.Errorf("%s: another's answer: %d, %s", name, code, legible(outs))
		}
	}
}
