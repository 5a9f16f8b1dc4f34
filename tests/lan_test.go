package tests

import (
	"fmt"
	"math"
	"slices"
	"strings"
	"testing"

	"loop.example/g00356/impl"
)

const everyone = "\xff\xff\xff\xff\xff\xff"

// framesThatAreNone are so on both sides, with their codes: the frame itself,
// or its packet.
func framesThatAreNone() map[string]codedFrame {
	right := packetBytes(tcpOf(1, far, 1000, 443, "A", "data"))
	packetWith := func(set func(b []byte) []byte) []byte {
		return slices.Concat([]byte(plainConfig().GateMac+guestMac(1)+"\x08\x00"), set(slices.Clone(right)))
	}
	summed := func(at int, value byte) []byte {
		return packetWith(func(b []byte) []byte { b[at] = value; sumPacket(b); return b })
	}
	whole := packetWith(func(b []byte) []byte { return b })
	return map[string]codedFrame{
		"nothing":                      {nil, impl.ErrForm},
		"13 bytes":                     {whole[:13], impl.ErrForm},
		"415 bytes":                    {append(slices.Clone(whole), make([]byte, 415-len(whole))...), impl.ErrForm},
		"MaxText bytes":                {make([]byte, impl.MaxText), impl.ErrForm},
		"another kind":                 {[]byte(plainConfig().GateMac + guestMac(1) + "\x86\xdd" + string(right)), impl.ErrProto},
		"another kind and no body":     {[]byte(plainConfig().GateMac + guestMac(1) + "\x00\x00"), impl.ErrProto},
		"no packet":                    {whole[:14], impl.ErrForm},
		"19 bytes of a packet":         {whole[:33], impl.ErrForm},
		"a packet cut":                 {whole[:len(whole)-1], impl.ErrForm},
		"a packet's first byte":        {summed(0, 0x46), impl.ErrForm},
		"a packet's length":            {summed(3, 19), impl.ErrForm},
		"a packet's sum":               {packetWith(func(b []byte) []byte { b[10] ^= 1; return b }), impl.ErrSum},
		"a part":                       {summed(6, 0x20), impl.ErrPart},
		"another part":                 {summed(7, 1), impl.ErrPart},
		"a part with a wrong sum":      {packetWith(func(b []byte) []byte { b[7] = 1; return b }), impl.ErrSum},
		"a first byte and a wrong sum": {packetWith(func(b []byte) []byte { b[0], b[7] = 0x55, 1; return b }), impl.ErrForm},
	}
}

type codedFrame struct {
	b    []byte
	code int
}

// What is none changes the count of drops alone.
func TestFramesThatAreNone(t *testing.T) {
	for name, f := range framesThatAreNone() {
		for _, g := range rightGateways() {
			holdLan(t, g, name, f.b, f.code, nil, nil)
			holdWan(t, g, name, f.b, f.code, nil, nil)
		}
	}
}

func TestDropsAreCountedToTheirMost(t *testing.T) {
	for _, row := range [][2]int{{0, 1}, {1, 2}, {999998, 999999}, {999999, 1000000}, {1000000, 1000000}} {
		for name, take := range sides() {
			g := impl.PlainGateway()
			g.Drops = row[0]
			next, _, code := take(g, nil)
			if next.Drops != row[1] || code != impl.ErrForm {
				t.Errorf("%s with %d drops: %d, %d", name, row[0], next.Drops, code)
			}
		}
	}
}

// spoiltBodies are packets from src to dst whose frame and head are right,
// and whose ends are none, with their codes.
func spoiltBodies(src, dst int) map[string]codedPacket {
	list := map[string]codedPacket{}
	with := func(name string, p impl.Packet, code int, set func(b []byte) []byte) {
		p.Body = string(set([]byte(p.Body)))
		list[name] = codedPacket{p, code}
	}
	tcp, udp, icmp := tcpBetween(src, dst, 1000, 80, "S", "data"), udpBetween(src, dst, 1000, 53, "data"), icmpBetween(src, dst, 7, "data")
	with("no segment", tcp, impl.ErrForm, func(b []byte) []byte { return b[:19] })
	with("a segment's head", tcp, impl.ErrForm, func(b []byte) []byte { b[12] = 0x40; return b })
	with("a segment's long head", tcp, impl.ErrForm, func(b []byte) []byte { b[12] = 0x70; return b })
	with("a segment's sum", tcp, impl.ErrSum, func(b []byte) []byte { b[16] ^= 1; return b })
	with("a segment of other addresses", tcpBetween(src, dst+2, 1000, 80, "S", ""), impl.ErrSum, func(b []byte) []byte { return b })
	with("no datagram", udp, impl.ErrForm, func(b []byte) []byte { return b[:7] })
	with("a datagram's length", udp, impl.ErrForm, func(b []byte) []byte { return append(b, 0) })
	with("a datagram's sum", udp, impl.ErrSum, func(b []byte) []byte { b[8] ^= 1; return b })
	with("no question", icmp, impl.ErrForm, func(b []byte) []byte { return b[:7] })
	with("no body", icmp, impl.ErrForm, func(b []byte) []byte { return nil })
	with("a question's sum", icmp, impl.ErrSum, func(b []byte) []byte { b[9] ^= 1; return b })
	with("a short one's sum", icmp, impl.ErrSum, func(b []byte) []byte { return b[:8] })
	for _, proto := range []int{0, 2, 4, 5, 7, 16, 18, 58, 255} {
		p := tcp
		p.Proto = proto
		list[fmt.Sprintf("proto %d", proto)] = codedPacket{p, impl.ErrProto}
	}
	// Its Dst is the one that was asked for, whatever its sum was made of.
	for name, c := range list {
		c.p.Dst = dst
		list[name] = c
	}
	return list
}

type codedPacket struct {
	p    impl.Packet
	code int
}

func TestEndsThatAreNone(t *testing.T) {
	g := busyGateway()
	for _, dst := range []int{far, quadNine, quadOne, g.Config.Gate} {
		// Guest 5 has no session; guest 1 has one; mac 1 with another address
		// would have moved, but that is looked at behind the ends.
		for _, from := range [][2]int{{5, 5}, {1, 1}, {1, 9}, {9, 1}} {
			for name, c := range spoiltBodies(guestIp(from[1]), dst) {
				holdLan(t, g, name, gateFrame(from[0], c.p), c.code, nil, nil)
				// Behind ErrRefused of the frame.
				holdLan(t, g, name+" to everyone", frameOf(everyone, guestMac(from[0]), c.p), impl.ErrRefused, nil, nil)
			}
		}
	}
	for name, c := range spoiltBodies(far, guestIp(1)) {
		holdWan(t, g, name, wanFrame(c.p), c.code, nil, nil)
		holdWan(t, g, name+" to everyone", frameOf(everyone, g.Config.WanMac, c.p), impl.ErrRefused, nil, nil)
	}
}

// arpFrame is a question for a mac, or an answer, in a frame.
func arpFrame(dst, src string, a impl.Arp) []byte {
	return []byte(dst + src + "\x08\x06\x00\x01\x08\x00\x06\x04" + twoBytes(a.Op) + a.SrcMac + fourBytes(a.SrcIp) + a.DstMac + fourBytes(a.DstIp))
}

func TestTheGatesMacIsTold(t *testing.T) {
	for _, g := range []impl.Gateway{impl.PlainGateway(), busyGateway()} {
		for _, dst := range []string{everyone, g.Config.GateMac, macB} {
			for _, src := range []string{guestMac(1), guestMac(9), g.Config.WanMac, everyone} {
				for _, ip := range []int{guestIp(1), guestIp(9), 0, far, g.Config.Gate, impl.MaxAddress} {
					for _, asked := range []string{"\x00\x00\x00\x00\x00\x00", everyone, macB} {
						in := arpFrame(dst, src, impl.Arp{Op: 1, SrcMac: src, SrcIp: ip, DstMac: asked, DstIp: g.Config.Gate})
						told := arpFrame(src, g.Config.GateMac, impl.Arp{Op: 2, SrcMac: g.Config.GateMac, SrcIp: g.Config.Gate, DstMac: src, DstIp: ip})
						holdLan(t, g, "arp", in, impl.OK, []impl.Out{{Side: impl.OutLan, Bytes: string(told)}}, nil)
						holdWan(t, g, "arp", in, impl.ErrRefused, nil, nil)
					}
				}
			}
		}
	}
}

func TestOtherQuestionsForMacs(t *testing.T) {
	g := busyGateway()
	right := impl.Arp{Op: 1, SrcMac: guestMac(1), SrcIp: guestIp(1), DstMac: everyone, DstIp: g.Config.Gate}
	hold := func(name string, set func(a *impl.Arp)) {
		a := right
		set(&a)
		holdLan(t, g, name, arpFrame(everyone, guestMac(1), a), impl.ErrRefused, nil, nil)
	}
	hold("an answer", func(a *impl.Arp) { a.Op = 2 })
	hold("another mac's", func(a *impl.Arp) { a.SrcMac = guestMac(2) })
	for _, ip := range []int{0, guestIp(2), g.Config.Gate - 1, far, impl.MaxAddress} {
		hold("for another", func(a *impl.Arp) { a.DstIp = ip })
	}
	whole := arpFrame(everyone, guestMac(1), right)
	for size := 14; size < len(whole); size++ {
		holdLan(t, g, "cut", whole[:size], impl.ErrForm, nil, nil)
	}
	holdLan(t, g, "with a byte behind", append(slices.Clone(whole), 0), impl.ErrForm, nil, nil)
	// ErrForm comes ahead of ErrRefused.
	for _, op := range []int{0, 3, 256, 257} {
		for _, ip := range []int{g.Config.Gate, far} {
			a := impl.Arp{Op: op, SrcMac: guestMac(2), DstMac: everyone, DstIp: ip}
			holdLan(t, g, "no Op", arpFrame(everyone, guestMac(1), a), impl.ErrForm, nil, nil)
			holdWan(t, g, "no Op", arpFrame(everyone, guestMac(1), a), impl.ErrRefused, nil, nil)
		}
	}
}

func leaseOf(k int, reply bool) string {
	return string(dhcpBytes(impl.Dhcp{Xid: 77, Yours: guestIp(k), Kind: impl.DhDiscover, Reply: reply, Mac: guestMac(k)}))
}

// asItIs is a packet that goes out unchanged.
func asItIs(side int, mac string, p impl.Packet) []impl.Out {
	return []impl.Out{outOf(side, mac, p)}
}

func TestMessagesOfLeasesGoOut(t *testing.T) {
	for _, g := range []impl.Gateway{impl.PlainGateway(), busyGateway(), fullGateway()} {
		for _, dst := range []string{everyone, g.Config.GateMac, macB} {
			for _, k := range []int{1, 3, 9} {
				for _, ends := range [][2]int{{0, impl.MaxAddress}, {guestIp(k), g.Config.Gate}, {guestIp(2), guestIp(7)}, {far, quadOne}, {g.Config.Gate, quadNine}} {
					for _, ttl := range []int{0, 1, 2, 255} {
						p := udpBetween(ends[0], ends[1], 68, 67, leaseOf(k, false))
						p.Ttl = ttl
						in := frameOf(dst, guestMac(k), p)
						holdLan(t, g, "a lease", in, impl.OK, asItIs(impl.OutWan, g.Config.WanMac, p), nil)
						// What stands behind the packet's length is not of it.
						holdLan(t, g, "a lease with more behind", append(in, "behind"...), impl.OK, asItIs(impl.OutWan, g.Config.WanMac, p), nil)
					}
				}
			}
		}
	}
	// Without a sum it is a right datagram, too; each kind is let out.
	g := busyGateway()
	for kind := 1; kind <= 8; kind++ {
		p := udpBetween(0, impl.MaxAddress, 68, 67, string(dhcpBytes(impl.Dhcp{Kind: kind, Mac: guestMac(5)})))
		p.Body = p.Body[:6] + "\x00\x00" + p.Body[8:]
		holdLan(t, g, "a lease without a sum", frameOf(everyone, guestMac(5), p), impl.OK, asItIs(impl.OutWan, g.Config.WanMac, p), nil)
	}
}

func TestMessagesOfLeasesThatDoNotGoOut(t *testing.T) {
	g := busyGateway()
	for name, data := range map[string]string{
		"nothing": "", "junk": "junk", "a question": string(dnsBytes(impl.Dns{Name: "a.b"})),
		"a reply": leaseOf(5, true), "another mac's": leaseOf(6, false), "another mac's reply": leaseOf(6, true),
		"cut": leaseOf(5, false)[:243], "no kind": leaseOf(5, false)[:240] + "\xff",
	} {
		for _, ttl := range []int{0, 1, 64} {
			// From a mac and an address that moved: that is not looked at here.
			p := udpBetween(guestIp(1), g.Config.Resolver, 68, 67, data)
			p.Ttl = ttl
			for _, dst := range []string{everyone, g.Config.GateMac} {
				holdLan(t, g, name, frameOf(dst, guestMac(5), p), impl.ErrForm, nil, nil)
			}
		}
	}
	// Other ports, another proto, and a wrong datagram are no service.
	lease := leaseOf(5, false)
	for _, ports := range [][2]int{{67, 68}, {68, 68}, {67, 67}, {69, 67}, {68, 66}, {0, 0}, {68, 53}} {
		p := udpBetween(0, impl.MaxAddress, ports[0], ports[1], lease)
		holdLan(t, g, "other ports", frameOf(everyone, guestMac(5), p), impl.ErrRefused, nil, nil)
		p = udpOf(5, far, ports[0], ports[1], lease)
		holdLan(t, g, "other ports from a guest", gateFrame(5, p), impl.ErrUser, nil, nil)
	}
	p := tcpBetween(0, impl.MaxAddress, 68, 67, "A", lease)
	holdLan(t, g, "a segment", frameOf(everyone, guestMac(5), p), impl.ErrRefused, nil, nil)
	p = udpOf(5, far, 68, 67, lease)
	p.Body = p.Body[:len(p.Body)-1] + "\xfe"
	holdLan(t, g, "a wrong sum", gateFrame(5, p), impl.ErrSum, nil, nil)
	holdLan(t, g, "a wrong sum to everyone", frameOf(everyone, guestMac(5), p), impl.ErrRefused, nil, nil)
}

func questionOf(answer bool) string {
	return string(dnsBytes(impl.Dns{Id: 1, Type: 1, Answer: answer, Name: "www.example.com"}))
}

// opened lays a flow of a packet behind the others, as FlowOpen does.
func opened(g *impl.Gateway, mac string, p impl.Packet, from, to, owner int) {
	wait := 5
	if p.Proto == impl.ProTcp {
		wait = 3
	}
	g.Flows = append(g.Flows, impl.Flow{Proto: p.Proto, Mac: mac, SrcIp: p.Src, SrcPort: from, DstIp: p.Dst, DstPort: to, State: impl.FoNew, Until: g.Now + wait, Owner: owner})
}

func TestQuestionsForNamesGoOut(t *testing.T) {
	for _, base := range []impl.Gateway{impl.PlainGateway(), busyGateway()} {
		for _, dst := range []string{everyone, base.Config.GateMac, macB} {
			// Guest 1 has a session, and is not charged; mac 1 with another
			// address does not move by this; 0 has the gate's address.
			for _, from := range [][2]int{{1, 1}, {5, 5}, {1, 9}, {9, 1}, {5, 0}} {
				p := udpOf(from[1], quadOne, 4000, 53, questionOf(false))
				in := frameOf(dst, guestMac(from[0]), p)
				g := holdLan(t, base, "a question", in, impl.OK, toWan(p), func(g *impl.Gateway) { opened(g, guestMac(from[0]), p, 4000, 53, 0) })
				g.Now += 2
				holdLan(t, g, "a question again", in, impl.OK, toWan(p), func(g *impl.Gateway) { g.Flows[len(g.Flows)-1].Until += 2 })
				// Its answer comes back, and another's does not.
				answer := udpTo(from[1], quadOne, 53, 4000, questionOf(true))
				holdWan(t, g, "an answer", wanFrame(answer), impl.OK, toGuest(from[0], answer), func(g *impl.Gateway) {
					last := &g.Flows[len(g.Flows)-1]
					last.State, last.Until = impl.FoOpen, g.Now+5
				})
				holdWan(t, g, "another's answer", wanFrame(udpTo(from[1], far, 53, 4000, questionOf(true))), impl.ErrNone, nil, nil)
			}
		}
	}
}

func TestQuestionsForNamesThatDoNotGoOut(t *testing.T) {
	g := busyGateway()
	for name, data := range map[string]string{
		"nothing": "", "junk": "junk", "an answer": questionOf(true), "cut": questionOf(false)[:20], "a lease": leaseOf(5, false),
	} {
		for _, ttl := range []int{0, 1, 2, 64} {
			p := udpOf(5, quadOne, 4000, 53, data)
			p.Ttl = ttl
			for _, dst := range []string{everyone, g.Config.GateMac} {
				holdLan(t, g, name, frameOf(dst, guestMac(5), p), impl.ErrForm, nil, nil)
				// ErrForm comes ahead of ErrTwice and ErrFull, too.
				holdLan(t, fullGateway(), name, frameOf(dst, guestMac(5), p), impl.ErrForm, nil, nil)
			}
		}
	}
	question := questionOf(false)
	p := udpOf(5, quadOne, 4000, 53, question)
	for _, ttl := range []int{0, 1} {
		p.Ttl = ttl
		holdLan(t, g, "a Ttl", gateFrame(5, p), impl.ErrRange, nil, nil)
		holdLan(t, fullGateway(), "a Ttl, and full", gateFrame(5, p), impl.ErrRange, nil, nil)
	}
	p.Ttl = 2
	holdLan(t, g, "the least Ttl", gateFrame(5, p), impl.OK, toWan(p), func(g *impl.Gateway) { opened(g, guestMac(5), p, 4000, 53, 0) })
	holdLan(t, fullGateway(), "full", gateFrame(5, p), impl.ErrFull, nil, nil)
	// From elsewhere than the Lan, to another, to another port, by another proto.
	holdLan(t, g, "from elsewhere", gateFrame(5, udpBetween(far, quadOne, 4000, 53, question)), impl.ErrRefused, nil, nil)
	holdLan(t, g, "to another", gateFrame(5, udpOf(5, quadOne+1, 4000, 53, question)), impl.ErrUser, nil, nil)
	holdLan(t, g, "to another port", gateFrame(5, udpOf(5, quadOne, 53, 54, question)), impl.ErrUser, nil, nil)
	holdLan(t, g, "by a segment", gateFrame(5, tcpOf(5, quadOne, 4000, 53, "S", question)), impl.ErrUser, nil, nil)
	holdLan(t, g, "to everyone, by a segment", frameOf(everyone, guestMac(5), tcpOf(5, quadOne, 4000, 53, "S", question)), impl.ErrRefused, nil, nil)
}

// A frame is refused by its ways alone, ahead of its ends, and nobody has moved.
func TestFramesOfOtherWays(t *testing.T) {
	g := busyGateway()
	gate := g.Config.Gate
	for _, from := range []string{guestMac(1), guestMac(5), guestMac(9)} {
		refused := func(name, dst string, src, to int) {
			t.Helper()
			for _, p := range []impl.Packet{tcpBetween(src, to, 1000, 443, "S", ""), tcpBetween(src, to, 1000, 80, "S", ""), udpBetween(src, to, 1000, 443, "x"), icmpBetween(src, to, 7, "")} {
				holdLan(t, g, name, frameOf(dst, from, p), impl.ErrRefused, nil, nil)
				p.Ttl = 0
				holdLan(t, g, name, frameOf(dst, from, p), impl.ErrRefused, nil, nil)
				p.Body = "junk"
				holdLan(t, g, name, frameOf(dst, from, p), impl.ErrRefused, nil, nil)
			}
		}
		for _, dst := range []string{everyone, g.Config.WanMac, guestMac(2), "\x02\x00\x00\x00\x01\x00"} {
			for _, to := range []int{far, gate, quadNine, quadOne} {
				refused("to another mac", dst, guestIp(1), to)
			}
		}
		for _, src := range []int{0, far, 0x09ffffff, 0x0a000100, 0x0a000200, impl.MaxAddress, gate} {
			refused("from another address", g.Config.GateMac, src, far)
			refused("from another address to the garden", g.Config.GateMac, src, quadNine)
			refused("from another address to the gate", g.Config.GateMac, src, gate)
		}
		for _, to := range []int{0x0a000000, guestIp(1), guestIp(2), guestIp(9), 0x0a0000ff} {
			refused("to a neighbour", g.Config.GateMac, guestIp(1), to)
		}
	}
}

// moves are frames' macs and addresses by which sessions of busyGateway move,
// with the places of those that do, the last first.
func moves() map[[2]int][]int {
	return map[[2]int][]int{{1, 9}: {0}, {9, 1}: {0}, {2, 9}: {1}, {9, 2}: {1}, {1, 2}: {1, 0}, {2, 1}: {1, 0}, {1, 1}: nil, {9, 9}: nil}
}

// movedFrom is what becomes of a gateway with sessions that moved, in the
// order of their Ids.
func movedFrom(g impl.Gateway, places []int) impl.Gateway {
	g = copiedGateway(g)
	for range places {
		// The one of the least place ends first; the next has its place then.
		g = endedBy(g, places[len(places)-1], impl.CaMoved)
	}
	return g
}

func TestSessionsThatMovedEnd(t *testing.T) {
	for from, places := range moves() {
		g := busyGateway()
		ended := movedFrom(g, places)
		hold := func(name string, p impl.Packet, code int, outs []impl.Out, change func(g *impl.Gateway)) {
			t.Helper()
			holdLan(t, g, name, gateFrame(from[0], p), code, outs, func(g *impl.Gateway) {
				g.Guests, g.Flows = copied(ended.Guests), slices.Clone(ended.Flows)
				if change != nil {
					change(g)
				}
			})
		}
		mac, ip := guestMac(from[0]), from[1]
		hold("to the gate", udpOf(ip, g.Config.Gate, 1000, 443, "x"), impl.ErrRefused, nil, nil)
		hold("to the portal", tcpOf(ip, g.Config.Gate, 1000, 80, "A", "x"), impl.ErrState, nil, nil)
		low := tcpOf(ip, quadNine, 1000, 443, "S", "")
		low.Ttl = 1
		hold("to the garden, of a low Ttl", low, impl.ErrRange, nil, nil)
		p := tcpOf(ip, quadNine, 1000, 443, "S", "")
		hold("to the garden", p, impl.OK, toWan(p), func(g *impl.Gateway) { opened(g, mac, p, 1000, 443, 0) })
		if from != [2]int{1, 1} {
			hold("elsewhere", udpOf(ip, far, 5000, 443, "x"), impl.ErrUser, nil, nil)
		}
		greets := tcpOf(ip, far, 5000, 80, "S", "")
		if from != [2]int{1, 1} {
			conn := connOf(ip, far, connAt(impl.TcSyn, 7000, 11, "", ""))
			conn.Mac, conn.Port = mac, 5000
			hold("to port 80", greets, impl.OK, segmentsTo(conn, ourSegment(conn, 7000, "SA", "")), func(g *impl.Gateway) {
				g.Conns, g.Isn = append(g.Conns, conn), 8000
			})
		}
	}
}

// With the session its flows have ended: their ends, and their room, are free.
func TestFlowsOfWhoMovedMakeRoom(t *testing.T) {
	g := busyGateway()
	g.Config.Garden[0].Net.Ip = far
	g.Flows = owned(slices.Concat(g.Flows[1:2], filler(7)), 5)
	p := tcpOf(1, far, 1000, 443, "A", "x")
	holdLan(t, g, "the ends of one who moved", gateFrame(9, p), impl.OK, toWan(p), func(g *impl.Gateway) {
		g.Guests, g.Flows = withoutSession(g.Guests, 0, 25, impl.CaMoved), nil
		opened(g, guestMac(9), p, 1000, 443, 0)
	})
	// Without a move the flow of these ends is another's.
	holdLan(t, g, "the ends of one who is there", gateFrame(1, p), impl.ErrTwice, nil, nil)
	q := tcpOf(9, far, 1000, 443, "A", "x")
	holdLan(t, g, "the room of one who is there", gateFrame(8, q), impl.ErrFull, nil, nil)
	holdLan(t, g, "the room of one who moved", gateFrame(1, q), impl.OK, toWan(q), func(g *impl.Gateway) {
		g.Guests, g.Flows = withoutSession(g.Guests, 0, 25, impl.CaMoved), nil
		opened(g, guestMac(1), q, 1000, 443, 0)
	})
}

// filler are flows of nobody from far away, which no test's packet meets.
func filler(size int) []impl.Flow {
	return owned(manyFlows(size), 0)
}

// fullGateway is busyGateway with MaxFlows.
func fullGateway() impl.Gateway {
	g := busyGateway()
	g.Flows = append(g.Flows, filler(8-len(g.Flows))...)
	return g
}

func TestNothingButThePortalIsAtTheGate(t *testing.T) {
	g := busyGateway()
	gate := g.Config.Gate
	for _, k := range []int{1, 2, 3, 5} {
		for _, port := range []int{0, 22, 53, 79, 80, 81, 443, 65535} {
			holdLan(t, g, "a datagram", gateFrame(k, udpOf(k, gate, 1000, port, "x")), impl.ErrRefused, nil, nil)
			if port != 80 {
				holdLan(t, g, "a segment", gateFrame(k, tcpOf(k, gate, 80, port, "S", "")), impl.ErrRefused, nil, nil)
			}
		}
		for _, number := range []int{0, 80, 65535} {
			holdLan(t, g, "a question", gateFrame(k, icmpOf(k, gate, number, "")), impl.ErrRefused, nil, nil)
		}
		// A garden of the gate's own address does not matter.
		open := busyGateway()
		open.Config.Garden[0] = impl.Place{Ports: impl.Range{High: 65535}}
		holdLan(t, open, "a garden of all", gateFrame(k, tcpOf(k, gate, 1000, 443, "S", "")), impl.ErrRefused, nil, nil)
	}
}

func TestTheGarden(t *testing.T) {
	for _, base := range []impl.Gateway{impl.PlainGateway(), busyGateway()} {
		// With a session or without one, by whatever role: nobody is charged.
		for _, k := range []int{1, 2, 5} {
			for _, p := range []impl.Packet{tcpOf(k, quadNine, 4000, 443, "S", ""), tcpOf(k, quadNine, 4000, 443, "R", "x"), udpOf(k, quadNine, 4000, 443, "x")} {
				g := holdLan(t, base, "the garden", gateFrame(k, p), impl.OK, toWan(p), func(g *impl.Gateway) { opened(g, guestMac(k), p, 4000, 443, 0) })
				back := p
				back.Src, back.Dst = p.Dst, p.Src
				back.Body = udpTo(k, quadNine, 443, 4000, "answer").Body
				if p.Proto == impl.ProTcp {
					back.Body = tcpTo(k, quadNine, 443, 4000, "SA", "answer").Body
				}
				holdWan(t, g, "back from the garden", wanFrame(back), impl.OK, toGuest(k, back), func(g *impl.Gateway) {
					g.Flows = passedByHand(g.Flows, len(g.Flows)-1, true, 0, g.Now)
				})
			}
		}
		holdLan(t, base, "beside the garden", gateFrame(5, tcpOf(5, quadNine, 443, 442, "S", "")), impl.ErrUser, nil, nil)
		holdLan(t, base, "beside the garden", gateFrame(5, tcpOf(5, quadNine+1, 443, 443, "S", "")), impl.ErrUser, nil, nil)
		holdLan(t, base, "the garden by a question", gateFrame(5, icmpOf(5, quadNine, 443, "")), impl.ErrUser, nil, nil)
	}
}

// The second port of a question is 0, whatever its number is.
func TestQuestionsInTheGarden(t *testing.T) {
	g := busyGateway()
	g.Config.Garden[0].Ports = impl.Range{}
	p := icmpOf(5, quadNine, 443, "x")
	holdLan(t, g, "a question", gateFrame(5, p), impl.OK, toWan(p), func(g *impl.Gateway) { opened(g, guestMac(5), p, 443, 0, 0) })
	holdLan(t, g, "a segment", gateFrame(5, tcpOf(5, quadNine, 0, 443, "S", "")), impl.ErrUser, nil, nil)
}

// A garden of port 80 is behind the portal, for who has no session.
func TestAGardenOfPagesIsBehindThePortal(t *testing.T) {
	g := busyGateway()
	g.Config.Garden[0].Ports.Low = 80
	holdLan(t, g, "without a session", gateFrame(5, tcpOf(5, quadNine, 1000, 80, "A", "")), impl.ErrState, nil, nil)
	p := tcpOf(1, quadNine, 1000, 80, "A", "")
	holdLan(t, g, "with a session", gateFrame(1, p), impl.OK, toWan(p), func(g *impl.Gateway) { opened(g, guestMac(1), p, 1000, 80, 0) })
	u := udpOf(5, quadNine, 1000, 80, "x")
	holdLan(t, g, "by a datagram", gateFrame(5, u), impl.OK, toWan(u), func(g *impl.Gateway) { opened(g, guestMac(5), u, 1000, 80, 0) })
}

func TestWhatARoleAllows(t *testing.T) {
	g := busyGateway()
	for _, row := range []struct {
		name  string
		k     int
		p     impl.Packet
		ports [2]int
		code  int
	}{
		{"a port of guests", 1, tcpOf(1, far, 4000, 443, "S", ""), [2]int{4000, 443}, impl.OK},
		{"port 80", 1, tcpOf(1, far, 4000, 80, "S", ""), [2]int{4000, 80}, impl.OK},
		{"a port between", 1, udpOf(1, far, 4000, 81, "x"), [2]int{4000, 81}, impl.OK},
		{"a port below", 1, tcpOf(1, far, 443, 79, "S", ""), [2]int{}, impl.ErrRefused},
		{"a port above", 1, tcpOf(1, far, 443, 444, "S", ""), [2]int{}, impl.ErrRefused},
		{"a net that is barred", 1, tcpOf(1, barred, 4000, 443, "S", ""), [2]int{}, impl.ErrRefused},
		{"port 80 of a net that is barred", 1, tcpOf(1, barred, 4000, 80, "S", ""), [2]int{}, impl.ErrRefused},
		{"a net that is barred, by a datagram", 1, udpOf(1, barred, 4000, 443, "x"), [2]int{4000, 443}, impl.OK},
		{"a question", 1, icmpOf(1, far, 443, "x"), [2]int{}, impl.ErrRefused},
		{"names elsewhere", 1, udpOf(1, far, 4000, 53, questionOf(false)), [2]int{}, impl.ErrRefused},
		{"staff", 2, tcpOf(2, barred, 4000, 22, "S", ""), [2]int{4000, 22}, impl.OK},
		{"staff's question", 2, icmpOf(2, far, 443, "x"), [2]int{443, 0}, impl.OK},
		{"staff's names elsewhere", 2, udpOf(2, far, 4000, 53, questionOf(false)), [2]int{4000, 53}, impl.OK},
		{"a segment without a session", 5, tcpOf(5, far, 4000, 443, "S", ""), [2]int{}, impl.ErrUser},
		{"a datagram to port 80 without one", 5, udpOf(5, far, 4000, 80, "x"), [2]int{}, impl.ErrUser},
		{"a question without one", 5, icmpOf(5, far, 4000, "x"), [2]int{}, impl.ErrUser},
	} {
		if row.code != impl.OK {
			holdLan(t, g, row.name, gateFrame(row.k, row.p), row.code, nil, nil)
			continue
		}
		holdLan(t, g, row.name, gateFrame(row.k, row.p), impl.OK, toWan(row.p), func(g *impl.Gateway) {
			charged(g, row.k-1, row.k-1, row.p)
			opened(g, guestMac(row.k), row.p, row.ports[0], row.ports[1], []int{0, 5, 7}[row.k])
		})
	}
}

func TestTtls(t *testing.T) {
	g := busyGateway()
	for _, row := range [][2]int{{0, impl.ErrRange}, {1, impl.ErrRange}, {2, impl.OK}, {3, impl.OK}, {255, impl.OK}} {
		for _, p := range []impl.Packet{tcpOf(1, far, 1000, 443, "A", ""), tcpOf(1, far, 4000, 443, "S", "")} {
			p.Ttl = row[0]
			if row[1] != impl.OK {
				holdLan(t, g, "a Ttl", gateFrame(1, p), row[1], nil, nil)
				continue
			}
			if _, outs, code := impl.LanIn(g, gateFrame(1, p)); code != impl.OK || !slices.Equal(outs, toWan(p)) {
				t.Errorf("of Ttl %d: %d, %s", p.Ttl, code, legible(outs))
			}
		}
		p := tcpTo(1, far, 443, 1000, "A", "")
		p.Ttl = row[0]
		if row[1] != impl.OK {
			holdWan(t, g, "a Ttl", wanFrame(p), row[1], nil, nil)
			continue
		}
		if _, outs, code := impl.WanIn(g, wanFrame(p)); code != impl.OK || !slices.Equal(outs, toGuest(1, p)) {
			t.Errorf("back, of Ttl %d: %d, %s", p.Ttl, code, legible(outs))
		}
	}
}

// A packet that goes out is whole, whatever it has, but for its Ttl.
func TestPacketsGoOutWhole(t *testing.T) {
	g := busyGateway()
	for _, size := range []int{0, 1, 255, 360} {
		for _, id := range []int{0, 65535} {
			p := tcpOf(2, far, 4000, 443, "PA", string(sampleBytes(size, size)))
			p.Id = id
			_, outs, code := impl.LanIn(g, gateFrame(2, p))
			if code != impl.OK || !slices.Equal(outs, toWan(p)) {
				t.Errorf("out, of %d bytes: %d, %s", size, code, legible(outs))
			}
			p = tcpTo(2, far, 22, 1000, "PA", string(sampleBytes(size, size)))
			p.Id = id
			late := copiedGateway(g)
			late.Now = 24
			_, outs, code = impl.WanIn(late, wanFrame(p))
			if code != impl.OK || !slices.Equal(outs, toGuest(2, p)) {
				t.Errorf("back, of %d bytes: %d, %s", size, code, legible(outs))
			}
		}
	}
	// More options in a segment's head are of its Body, too.
	p := tcpOf(2, far, 4000, 443, "S", "optsdata")
	body := []byte(p.Body)
	body[12] = 0x60
	sumSegment(p.Src, p.Dst, body)
	p.Body = string(body)
	holdLan(t, g, "options", gateFrame(2, p), impl.OK, toWan(p), func(g *impl.Gateway) {
		charged(g, 1, 1, p)
		opened(g, guestMac(2), p, 4000, 443, 7)
	})
}

func TestFlowsThatArePassedOut(t *testing.T) {
	for flags := range 32 {
		letters, _ := impl.FlagsText(flags)
		for place, p := range map[int]impl.Packet{
			1: tcpOf(1, far, 1000, 443, letters, "x"),
			4: tcpOf(2, far, 1000, 22, letters, ""),
		} {
			k := p.Src - guestIp(0)
			for _, state := range []int{impl.FoNew, impl.FoOpen, impl.FoClosing} {
				g := busyGateway()
				g.Flows[place].State = state
				holdLan(t, g, "a flow", gateFrame(k, p), impl.OK, toWan(p), func(g *impl.Gateway) {
					charged(g, k-1, k-1, p)
					g.Flows = passedByHand(g.Flows, place, false, flags, g.Now)
				})
			}
		}
	}
	g := busyGateway()
	u := udpOf(1, far, 1001, 443, "x")
	holdLan(t, g, "a datagram's", gateFrame(1, u), impl.OK, toWan(u), func(g *impl.Gateway) {
		charged(g, 0, 0, u)
		g.Flows[2].Until = 30
	})
	i := icmpOf(2, far, 77, "x")
	holdLan(t, g, "a question's", gateFrame(2, i), impl.OK, toWan(i), func(g *impl.Gateway) {
		charged(g, 1, 1, i)
		g.Flows[3].Until = 30
	})
	// A full list does not matter to a flow that is there.
	p := tcpOf(1, far, 1000, 443, "A", "x")
	holdLan(t, fullGateway(), "a flow among many", gateFrame(1, p), impl.OK, toWan(p), func(g *impl.Gateway) {
		charged(g, 0, 0, p)
		g.Flows[1].Until = 55
	})
}

func TestFlowsOfOthers(t *testing.T) {
	p := tcpOf(1, far, 1000, 443, "A", "x")
	garden := tcpOf(3, quadNine, 1000, 443, "A", "x")
	for name, set := range map[string]func(g *impl.Gateway){
		"turned round":           func(g *impl.Gateway) { g.Flows[1] = turnedFlow(g.Flows[1]) },
		"of nobody":              func(g *impl.Gateway) { g.Flows[1].Owner = 0 },
		"of another":             func(g *impl.Gateway) { g.Flows[1].Owner = 7 },
		"of another mac":         func(g *impl.Gateway) { g.Flows[1].Mac = guestMac(2) },
		"of another mac, turned": func(g *impl.Gateway) { g.Flows[1] = turnedFlow(g.Flows[1]); g.Flows[1].Mac = guestMac(2) },
		"whose time has come":    func(g *impl.Gateway) { g.Flows[1].Owner, g.Flows[1].Until = 7, 0 },
		// ErrTwice comes ahead of ErrFull and ErrSpent.
		"of a full list":        func(g *impl.Gateway) { *g = fullGateway(); g.Flows[1].Owner = 7 },
		"of one who has nought": func(g *impl.Gateway) { g.Flows[1].Owner, g.Guests.Sessions[0].Used = 7, 400 },
	} {
		g := busyGateway()
		set(&g)
		holdLan(t, g, name, gateFrame(1, p), impl.ErrTwice, nil, nil)
		low := p
		low.Ttl = 1
		holdLan(t, g, name+", of a low Ttl", gateFrame(1, low), impl.ErrRange, nil, nil)
	}
	for name, set := range map[string]func(g *impl.Gateway){
		"a session's":    func(g *impl.Gateway) { g.Flows[0].Owner = 5 },
		"another mac's":  func(g *impl.Gateway) { g.Flows[0].Mac = guestMac(4) },
		"turned, nobody": func(g *impl.Gateway) { g.Flows[0] = turnedFlow(g.Flows[0]) },
	} {
		g := busyGateway()
		set(&g)
		holdLan(t, g, "the garden, "+name, gateFrame(3, garden), impl.ErrTwice, nil, nil)
	}
}

func TestNoMoreThanMaxFlows(t *testing.T) {
	p := tcpOf(1, far, 4000, 443, "S", "")
	for size := range 9 {
		g := busyGateway()
		g.Flows = filler(size)
		if size < 8 {
			holdLan(t, g, "room", gateFrame(1, p), impl.OK, toWan(p), func(g *impl.Gateway) {
				charged(g, 0, 0, p)
				opened(g, guestMac(1), p, 4000, 443, 5)
			})
			continue
		}
		holdLan(t, g, "no room", gateFrame(1, p), impl.ErrFull, nil, nil)
		holdLan(t, g, "no room for the garden", gateFrame(5, tcpOf(5, quadNine, 4000, 443, "S", "")), impl.ErrFull, nil, nil)
		// ErrFull comes ahead of ErrSpent, so that nothing ends.
		g.Guests.Sessions[0].Used = 400
		holdLan(t, g, "no room, and nothing left", gateFrame(1, p), impl.ErrFull, nil, nil)
		// Flows whose time has come take room until the next tick.
		for k := range g.Flows {
			g.Flows[k].Until = 0
		}
		holdLan(t, g, "no room by flows whose time has come", gateFrame(1, p), impl.ErrFull, nil, nil)
	}
}

// sized is a packet of guest k, or to it, with so many bytes in its Body.
func sized(k, size int, back bool, port int) impl.Packet {
	if back {
		return tcpTo(k, far, 443, port, "A", strings.Repeat("x", size-20))
	}
	return tcpOf(k, far, port, 443, "A", strings.Repeat("x", size-20))
}

// takenIn hands a packet of guest 1, or to it, in.
func takenIn(g impl.Gateway, p impl.Packet) (impl.Gateway, []impl.Out, int) {
	if p.Dst == guestIp(1) {
		return impl.WanIn(g, wanFrame(p))
	}
	return impl.LanIn(g, gateFrame(1, p))
}

func TestChargesToTheLastByte(t *testing.T) {
	for _, left := range []int{20, 21, 100, 300, 379, 380} {
		for _, size := range []int{20, left - 1, left, left + 1, 380} {
			if size < 20 || size > 380 {
				continue
			}
			for name, set := range map[string]func(g *impl.Gateway){
				"the quota":   func(g *impl.Gateway) { g.Guests.Sessions[0].Used = 400 - left },
				"the balance": func(g *impl.Gateway) { g.Guests.Sessions[0].Used, g.Guests.Users[0].Balance = 0, left },
			} {
				// A flow that was there, a new one, and the way back.
				for _, p := range []impl.Packet{sized(1, size, false, 1000), sized(1, size, false, 4000), sized(1, size, true, 1000)} {
					holdCharge(t, name, left, set, p)
				}
			}
		}
	}
}

func holdCharge(t *testing.T, name string, left int, set func(g *impl.Gateway), p impl.Packet) {
	t.Helper()
	g := busyGateway()
	set(&g)
	next, outs, code := takenIn(g, p)
	if len(p.Body) > left {
		want := endedBy(g, 0, impl.CaQuota)
		want.Drops++
		if code != impl.ErrSpent || len(outs) != 0 || !sameGateway(next, want) {
			t.Errorf("%d of %s, %d left: %d, %s, %s", len(p.Body), name, left, code, legible(outs), legible(next))
		}
		// Once it ended nothing comes through for it.
		for _, again := range []impl.Packet{sized(1, 20, false, 1000), sized(1, 20, true, 1000)} {
			if _, outs, code := takenIn(next, again); code != impl.ErrUser && code != impl.ErrNone || len(outs) != 0 {
				t.Errorf("behind its end: %d, %s", code, legible(outs))
			}
		}
		return
	}
	s := next.Guests.Sessions[0]
	if code != impl.OK || len(outs) != 1 || s.Used != g.Guests.Sessions[0].Used+len(p.Body) || s.Last != g.Now {
		t.Errorf("%d of %s, %d left: %d, %s, %s", len(p.Body), name, left, code, legible(outs), legible(next))
	}
	if next.Guests.Users[0].Balance != g.Guests.Users[0].Balance-len(p.Body) || next.Drops != g.Drops {
		t.Errorf("%d of %s, %d left: the balance is %d, drops %d", len(p.Body), name, left, next.Guests.Users[0].Balance, next.Drops)
	}
}

// A session whose end finds no room for its record ends all the same.
func TestSpentWithoutRoomForARecord(t *testing.T) {
	g := busyGateway()
	g.Guests, g.Flows = crowd(3, 60), filler(3)
	g.Flows[1].Owner = 2
	p := tcpOf(1, far, 4000, 443, "S", strings.Repeat("x", 40))
	holdLan(t, g, "spent", gateFrame(1, p), impl.ErrSpent, nil, func(g *impl.Gateway) {
		g.Guests.Sessions = g.Guests.Sessions[1:]
		g.Flows = slices.Delete(g.Flows, 1, 2)
	})
}

// trial is a packet of guest 1 that is let through, until it is spoilt.
type trial struct {
	g             impl.Gateway
	dst           string
	kind          int
	p             impl.Packet
	body, packets []func(b []byte)
}

func (a trial) bytes() []byte {
	body := segmentBytes(a.p.Src, a.p.Dst, impl.Segment{SrcPort: 4000, DstPort: 443, Flags: impl.FlSyn})
	for _, set := range a.body {
		set(body)
	}
	a.p.Body = string(body)
	b := packetBytes(a.p)
	for _, set := range a.packets {
		set(b)
	}
	return slices.Concat([]byte(a.dst+guestMac(1)+twoBytes(a.kind)), b)
}

// verdict is a fault of a trial, and its code.
type verdict struct {
	code int
	do   func(a *trial)
}

// wrongHeads are faults of a packet's head, in the order in which they are looked for.
func wrongHeads() []verdict {
	return []verdict{
		{impl.ErrForm, func(a *trial) { a.packets = append(a.packets, func(b []byte) { b[0] = 0x44; sumPacket(b) }) }},
		{impl.ErrSum, func(a *trial) { a.packets = append(a.packets, func(b []byte) { b[11] ^= 4 }) }},
		{impl.ErrPart, func(a *trial) {
			// It is summed up ahead of what spoils the sum.
			a.packets = slices.Insert(a.packets, 0, func(b []byte) { b[7] = 9; sumPacket(b) })
		}},
	}
}

// wrongEnds are faults of a packet's segment likewise.
func wrongEnds() []verdict {
	return []verdict{
		{impl.ErrForm, func(a *trial) { a.body = append(a.body, func(b []byte) { b[12] = 0x40 }) }},
		{impl.ErrSum, func(a *trial) { a.body = append(a.body, func(b []byte) { b[17] ^= 4 }) }},
	}
}

var (
	anotherKind = verdict{impl.ErrProto, func(a *trial) { a.kind = 0x0801 }}
	anotherMac  = verdict{impl.ErrRefused, func(a *trial) { a.dst = everyone }}
	lowTtl      = verdict{impl.ErrRange, func(a *trial) { a.p.Ttl = 1 }}
	nothingLeft = verdict{impl.ErrSpent, func(a *trial) { a.g.Guests.Users[0].Balance = 19 }}
)

func TestVerdictsComeInTheirOrder(t *testing.T) {
	holdVerdicts(t, impl.LanIn, func() trial {
		return trial{g: busyGateway(), dst: plainConfig().GateMac, kind: impl.KindIp, p: impl.Packet{Src: guestIp(1), Dst: far, Proto: impl.ProTcp, Ttl: 9, Id: 3}}
	}, slices.Concat([]verdict{anotherKind}, wrongHeads(), []verdict{anotherMac}, wrongEnds(), []verdict{
		{impl.ErrUser, func(a *trial) { a.g, _ = impl.KickGuest(a.g, 5) }},
		{impl.ErrRefused, func(a *trial) { a.g.Config.Roles[0].Rules = nil }},
		lowTtl,
		{impl.ErrTwice, func(a *trial) {
			a.g.Flows = slices.Insert(a.g.Flows, 0, flowOfGuest(1, impl.ProTcp, 4000, far, 443, impl.FoNew, 30, 7))
		}},
		{impl.ErrFull, func(a *trial) { a.g.Flows = append(a.g.Flows, filler(8-len(a.g.Flows))...) }},
		nothingLeft,
	}))
}

// holdVerdicts holds each set of faults, as the bits of a number: the first in
// the order of the verdicts gives the code, and tells what is changed.
func holdVerdicts(t *testing.T, take func(g impl.Gateway, b []byte) (impl.Gateway, []impl.Out, int), begin func() trial, faults []verdict) {
	t.Helper()
	for set := range 1 << len(faults) {
		a, code := begin(), impl.OK
		for k := range faults {
			if set>>k&1 == 1 {
				faults[k].do(&a)
				if code == impl.OK {
					code = faults[k].code
				}
			}
		}
		next, outs, found := take(a.g, a.bytes())
		if found != code || (len(outs) == 1) != (code == impl.OK) {
			t.Fatalf("faults %b: %d, %s; not %d", set, found, legible(outs), code)
		}
		want := copiedGateway(a.g)
		if code == impl.ErrSpent {
			want = endedBy(want, 0, impl.CaQuota)
		}
		want.Drops++
		if code != impl.OK && !sameGateway(next, want) {
			t.Fatalf("faults %b: the gateway is\n%s, not\n%s", set, legible(next), legible(want))
		}
	}
}

// Times at their edges: a flow and a record of the last time are right.
func TestPacketsAtTheLastTime(t *testing.T) {
	g := busyGateway()
	g.Now = impl.MaxNow
	p := tcpOf(1, far, 4000, 443, "S", "")
	g = holdLan(t, g, "MaxNow", gateFrame(1, p), impl.OK, toWan(p), func(g *impl.Gateway) {
		charged(g, 0, 0, p)
		opened(g, guestMac(1), p, 4000, 443, 5)
	})
	back := tcpTo(1, far, 443, 4000, "A", "")
	g = holdWan(t, g, "MaxNow", wanFrame(back), impl.OK, toGuest(1, back), func(g *impl.Gateway) {
		charged(g, 0, 0, back)
		g.Flows[5].State, g.Flows[5].Until = impl.FoOpen, impl.MaxNow+30
	})
	if _, code := impl.KickGuest(g, 5); code != impl.OK {
		t.Errorf("KickGuest at MaxNow: %d", code)
	}
	if _, code := impl.KickGuest(g, math.MaxInt); code != impl.ErrNone {
		t.Errorf("KickGuest of nobody at MaxNow: %d", code)
	}
}
