package tests

import (
	"fmt"
	"math"
	"reflect"
	"slices"
	"strconv"
	"strings"
	"testing"

	"loop.example/g00356/impl"
)

const (
	// far is where a guest of role `guest` may go, barred where it may not by tcp.
	far    = 0x05050505
	barred = 0x05050607
)

func TestGateConstants(t *testing.T) {
	if impl.OutLan != 1 || impl.OutWan != 2 || impl.MaxConns != 3 {
		t.Error(impl.OutLan, impl.OutWan, impl.MaxConns)
	}
}

func TestPlainGateway(t *testing.T) {
	want := impl.Gateway{Config: plainConfig(), Guests: impl.Guests{Next: 1, Users: []impl.User{
		userOf("ann", "apple", "guest", 600, 3),
		userOf("bob", "berry", "staff", 100000, 100),
		userOf("ticket", "12345", "guest", 50, 1),
	}}}
	holdGateway(t, "PlainGateway", impl.PlainGateway(), want)
	if !impl.GatewayOK(impl.PlainGateway()) {
		t.Error("PlainGateway is not right")
	}
}

func TestRightGateways(t *testing.T) {
	for k, g := range rightGateways() {
		if !impl.GatewayOK(g) {
			t.Errorf("right gateway %d is none: %s", k, legible(g))
		}
	}
}

func TestWrongGateways(t *testing.T) {
	for k, g := range wrongGateways() {
		if impl.GatewayOK(g) {
			t.Errorf("wrong gateway %d is right: %s", k, legible(g))
		}
	}
}

// Each call answers ErrBad of a gateway that is not right, ahead of its other
// codes, and an empty one.
func TestWrongGatewaysAreRefused(t *testing.T) {
	for k, g := range wrongGateways() {
		for _, in := range [][]byte{nil, []byte("junk"), gateFrame(1, tcpOf(1, far, 1000, 443, "A", "")), make([]byte, impl.MaxText)} {
			for name, take := range sides() {
				next, outs, code := take(g, in)
				if code != impl.ErrBad || len(outs) != 0 || !sameGateway(next, impl.Gateway{}) {
					t.Errorf("%s of wrong gateway %d: %d, %s", name, k, code, legible(next))
				}
			}
		}
		if next, outs, code := impl.TickGate(g); code != impl.ErrBad || len(outs) != 0 || !sameGateway(next, impl.Gateway{}) {
			t.Errorf("TickGate of wrong gateway %d: %d, %s", k, code, legible(next))
		}
		for _, n := range []int{math.MinInt, -1, 0, 5, 6, impl.MaxAddress + 1, math.MaxInt} {
			if next, code := impl.KickGuest(g, n); code != impl.ErrBad || !sameGateway(next, impl.Gateway{}) {
				t.Errorf("KickGuest of wrong gateway %d: %d, %s", k, code, legible(next))
			}
			if next, code := impl.SetIsn(g, n); code != impl.ErrBad || !sameGateway(next, impl.Gateway{}) {
				t.Errorf("SetIsn of wrong gateway %d: %d, %s", k, code, legible(next))
			}
		}
	}
}

func TestLongFramesAreRefusedAheadOfAll(t *testing.T) {
	for _, g := range []impl.Gateway{impl.PlainGateway(), busyGateway(), {}, {Now: -1}} {
		for name, take := range sides() {
			next, outs, code := take(g, make([]byte, impl.MaxText+1))
			if code != impl.ErrLong || len(outs) != 0 || !sameGateway(next, impl.Gateway{}) {
				t.Errorf("%s of too many bytes: %d, %s, %s", name, code, legible(outs), legible(next))
			}
		}
	}
}

func TestNewGateway(t *testing.T) {
	for _, g := range rightGuests() {
		next, code := impl.NewGateway(plainConfig(), g)
		if len(g.Sessions) > 0 {
			if code != impl.ErrState || !sameGateway(next, impl.Gateway{}) {
				t.Errorf("NewGateway with sessions: %d, %s", code, legible(next))
			}
			continue
		}
		if code != impl.OK || !impl.GatewayOK(next) || !sameGateway(next, impl.Gateway{Config: plainConfig(), Guests: g}) {
			t.Errorf("NewGateway of %s: %d, %s", legible(g), code, legible(next))
		}
	}
	for _, c := range wrongConfigs() {
		for _, g := range []impl.Guests{quietGuests(), busyGuests()} {
			if next, code := impl.NewGateway(c, g); code != impl.ErrBad || !sameGateway(next, impl.Gateway{}) {
				t.Errorf("NewGateway of a wrong configuration: %d, %s", code, legible(next))
			}
		}
	}
	// Wrong guests with sessions are ErrBad, too: that comes ahead.
	for _, g := range wrongGuests() {
		if next, code := impl.NewGateway(plainConfig(), g); code != impl.ErrBad || !sameGateway(next, impl.Gateway{}) {
			t.Errorf("NewGateway of wrong guests: %d, %s", code, legible(next))
		}
	}
}

func TestSetIsn(t *testing.T) {
	for _, g := range rightGateways() {
		for _, isn := range roundNumbers() {
			want := copiedGateway(g)
			want.Isn = isn
			if next, code := impl.SetIsn(g, isn); code != impl.OK || !sameGateway(next, want) {
				t.Errorf("SetIsn of %d: %d, %s", isn, code, legible(next))
			}
		}
		for _, isn := range outside(4) {
			if next, code := impl.SetIsn(g, isn); code != impl.ErrRange || !sameGateway(next, impl.Gateway{}) {
				t.Errorf("SetIsn of %d: %d, %s", isn, code, legible(next))
			}
		}
	}
}

func TestGuestsAreKicked(t *testing.T) {
	for k, id := range []int{5, 7} {
		g := busyGateway()
		want := endedBy(g, k, impl.CaKick)
		if next, code := impl.KickGuest(g, id); code != impl.OK || !sameGateway(next, want) {
			t.Errorf("KickGuest of %d: %d, %s; not %s", id, code, legible(next), legible(want))
		}
	}
	for _, id := range []int{math.MinInt, -5, -1, 0, 1, 4, 6, 8, 9, 10000, 10001, 1<<32 + 5, math.MaxInt} {
		g := busyGateway()
		if next, code := impl.KickGuest(g, id); code != impl.ErrNone || !sameGateway(next, g) {
			t.Errorf("KickGuest of %d: %d, %s", id, code, legible(next))
		}
	}
	// Without room the record is left out, and the session ends all the same.
	g := busyGateway()
	g.Guests, g.Flows = crowd(3, 60), nil
	want := copiedGateway(g)
	want.Guests.Sessions = want.Guests.Sessions[1:]
	if next, code := impl.KickGuest(g, 2); code != impl.OK || !sameGateway(next, want) {
		t.Errorf("KickGuest without room for a record: %d, %s", code, legible(next))
	}
}

// Once a session ended nothing comes through for it, either way.
func TestNothingComesThroughForWhoWasKicked(t *testing.T) {
	g, code := impl.KickGuest(busyGateway(), 5)
	if code != impl.OK {
		t.Fatal(code)
	}
	holdLan(t, g, "out by its flow", gateFrame(1, tcpOf(1, far, 1000, 443, "A", "x")), impl.ErrUser, nil, nil)
	holdWan(t, g, "back by its flow", wanFrame(tcpTo(1, far, 443, 1000, "A", "x")), impl.ErrNone, nil, nil)
	holdWan(t, g, "back by its other flow", wanFrame(udpTo(1, far, 443, 1001, "x")), impl.ErrNone, nil, nil)
	p := tcpOf(2, far, 1000, 22, "A", "x")
	holdLan(t, g, "another's flow", gateFrame(2, p), impl.OK, toWan(p), func(g *impl.Gateway) {
		charged(g, 0, 1, p)
		g.Flows[2].Until = g.Now + 30
	})
}

func TestTicks(t *testing.T) {
	g := busyGateway()
	// At 26 the late flow goes; at 27 ann's datagrams' flow; ..
	want := copiedGateway(g)
	want.Now = 26
	want.Flows = slices.Delete(want.Flows, 4, 5)
	g = holdTick(t, "26", g, want, againOf(g.Conns...))
	want = copiedGateway(g)
	want.Now = 27
	want.Flows = slices.Delete(want.Flows, 2, 3)
	g = holdTick(t, "27", g, want, againOf(g.Conns...))
	// .. at 28 that of the garden; at 30 ann is idle, and her flow, whose time
	// has not come, goes with her session; bob's own one goes by its time.
	want = copiedGateway(g)
	want.Now = 28
	want.Flows = slices.Delete(want.Flows, 0, 1)
	g = holdTick(t, "28", g, want, againOf(g.Conns...))
	want = copiedGateway(g)
	want.Now = 29
	g = holdTick(t, "29", g, want, againOf(g.Conns...))
	want = endedBy(g, 0, impl.CaIdle)
	want.Now, want.Flows, want.Guests.Records[4].At = 30, nil, 30
	holdTick(t, "30", g, want, againOf(g.Conns...))
}

func TestTicksEndSessionsByTheirTime(t *testing.T) {
	g := busyGateway()
	g.Guests.Sessions[0].Until = 26
	want := endedBy(g, 0, impl.CaTime)
	want.Now, want.Guests.Records[4].At = 26, 26
	want.Flows = slices.DeleteFunc(want.Flows, func(f impl.Flow) bool { return f.Until <= 26 })
	holdTick(t, "Until", g, want, againOf(g.Conns...))
}

func TestTicksAreNoMoreThanTimes(t *testing.T) {
	for _, drops := range []int{0, 1000000} {
		g := busyGateway()
		g.Now, g.Drops = impl.MaxNow, drops
		next, outs, code := impl.TickGate(g)
		if code != impl.ErrMany || len(outs) != 0 || !sameGateway(next, g) {
			t.Errorf("TickGate at MaxNow: %d, %s, %s", code, legible(outs), legible(next))
		}
	}
	g := impl.PlainGateway()
	g.Now = impl.MaxNow - 1
	want := copiedGateway(g)
	want.Now = impl.MaxNow
	holdTick(t, "the last", g, want, nil)
}

// A connection in TcSyn greets again, one in TcOpen says nothing, one in
// TcLast says what was not acknowledged, in pieces, and its end.
func TestTicksSendAgain(t *testing.T) {
	for _, una := range roundNumbers() {
		g := busyGateway()
		g.Conns = []impl.Conn{
			connOf(4, far, connAt(impl.TcLast, una, 9, "in", strings.Repeat("o", 300))),
			connOf(3, far, connAt(impl.TcSyn, una, 9, "", "")),
			connOf(5, barred, connAt(impl.TcLast, una, 9, "", "")),
		}
		_, outs, code := impl.TickGate(g)
		first, second, third := g.Conns[0], g.Conns[1], g.Conns[2]
		want := slices.Concat(
			segmentsTo(first, ourSegment(first, una, "PA", strings.Repeat("o", 200)), ourSegment(first, numberBehind(una, 200), "PA", strings.Repeat("o", 100)), ourSegment(first, numberBehind(una, 300), "FA", "")),
			segmentsTo(second, ourSegment(second, una, "SA", "")),
			segmentsTo(third, ourSegment(third, una, "FA", "")),
		)
		if code != impl.OK || !slices.Equal(outs, want) {
			t.Errorf("TickGate at %d: %d, %s; not %s", una, code, legible(outs), legible(want))
		}
	}
}

func holdTick(t *testing.T, name string, g, want impl.Gateway, outs []impl.Out) impl.Gateway {
	t.Helper()
	next, told, code := impl.TickGate(g)
	if code != impl.OK || !slices.Equal(told, outs) {
		t.Errorf("TickGate, %s: %d, %s; not %s", name, code, legible(told), legible(outs))
	}
	holdGateway(t, "TickGate, "+name, next, want)
	return next
}

// holdLan holds what LanIn answers: with a code there is a drop more, and no
// out; change tells what else becomes of the gateway.
func holdLan(t *testing.T, g impl.Gateway, name string, in []byte, code int, outs []impl.Out, change func(g *impl.Gateway)) impl.Gateway {
	t.Helper()
	next, told, found := impl.LanIn(g, in)
	holdTakenIn(t, "LanIn, "+name, g, next, told, outs, found, code, change)
	return next
}

func holdWan(t *testing.T, g impl.Gateway, name string, in []byte, code int, outs []impl.Out, change func(g *impl.Gateway)) impl.Gateway {
	t.Helper()
	next, told, found := impl.WanIn(g, in)
	holdTakenIn(t, "WanIn, "+name, g, next, told, outs, found, code, change)
	return next
}

func holdTakenIn(t *testing.T, name string, g, next impl.Gateway, told, outs []impl.Out, found, code int, change func(g *impl.Gateway)) {
	t.Helper()
	want := copiedGateway(g)
	if code != impl.OK {
		want.Drops = min(want.Drops+1, 1000000)
	}
	if change != nil {
		change(&want)
	}
	if found != code || !slices.Equal(told, outs) {
		t.Errorf("%s: %d, %s; not %d, %s", name, found, legible(told), code, legible(outs))
	}
	holdGateway(t, name, next, want)
}

func holdGateway(t *testing.T, name string, got, want impl.Gateway) {
	t.Helper()
	if !sameGateway(got, want) {
		t.Errorf("%s: the gateway is\n%s, not\n%s", name, legible(got), legible(want))
	}
	if !impl.GatewayOK(got) {
		t.Errorf("%s: the gateway is not right: %s", name, legible(got))
	}
}

// legible tells macs and frames, which are bytes of any kind, by escapes.
func legible(what any) string {
	return strconv.QuoteToASCII(fmt.Sprintf("%+v", what))
}

// sides has both calls that take a frame.
func sides() map[string]func(g impl.Gateway, b []byte) (impl.Gateway, []impl.Out, int) {
	return map[string]func(g impl.Gateway, b []byte) (impl.Gateway, []impl.Out, int){"LanIn": impl.LanIn, "WanIn": impl.WanIn}
}

// busyGateway has a bit of all: sessions of guest 1 (ann, 300 bytes left) and
// guest 2 (bob), flows of both, of the garden and a late one, and connections
// of guests 3 and 4. Its time is 25.
func busyGateway() impl.Gateway {
	return impl.Gateway{
		Config: plainConfig(),
		Guests: busyGuests(),
		Flows: []impl.Flow{
			flowOfGuest(3, impl.ProTcp, 1000, quadNine, 443, impl.FoNew, 28, 0),
			flowOfGuest(1, impl.ProTcp, 1000, far, 443, impl.FoOpen, 40, 5),
			flowOfGuest(1, impl.ProUdp, 1001, far, 443, impl.FoNew, 27, 5),
			flowOfGuest(2, impl.ProIcmp, 77, far, 0, impl.FoNew, 30, 7),
			flowOfGuest(2, impl.ProTcp, 1000, far, 22, impl.FoOpen, 25, 7),
		},
		Conns: []impl.Conn{
			connOf(3, far, connAt(impl.TcOpen, 900, 50, "", "")),
			connOf(4, barred, connAt(impl.TcLast, impl.MaxAddress, 60, "", "page")),
		},
		Now: 25, Drops: 11, Isn: 7000,
	}
}

func flowOfGuest(k, proto, port, dst, dstPort, state, until, owner int) impl.Flow {
	return impl.Flow{Proto: proto, Mac: guestMac(k), SrcIp: guestIp(k), SrcPort: port, DstIp: dst, DstPort: dstPort, State: state, Until: until, Owner: owner}
}

// connOf is a connection of a guest, from port 1000.
func connOf(k, dst int, c impl.Conn) impl.Conn {
	c.Mac, c.Ip, c.DstIp = guestMac(k), guestIp(k), dst
	return c
}

func rightGateways() []impl.Gateway {
	list := []impl.Gateway{impl.PlainGateway(), busyGateway(), {Config: plainConfig(), Guests: impl.Guests{Next: 1}},
		{Config: plainConfig(), Guests: impl.Guests{Next: 1}, Flows: []impl.Flow{}, Conns: []impl.Conn{}}}
	change := func(set func(g *impl.Gateway)) {
		g := busyGateway()
		set(&g)
		list = append(list, g)
	}
	for _, guests := range rightGuests() {
		change(func(g *impl.Gateway) { g.Guests, g.Flows = guests, nil })
	}
	for _, flows := range rightFlows() {
		change(func(g *impl.Gateway) { g.Flows = owned(flows, 0) })
		change(func(g *impl.Gateway) { g.Flows = owned(flows, 7) })
	}
	for _, c := range rightConns() {
		if c.State != impl.TcGone {
			change(func(g *impl.Gateway) { g.Conns = []impl.Conn{c} })
		}
	}
	change(func(g *impl.Gateway) { g.Conns = append(g.Conns, connOf(5, far, g.Conns[0])) })
	// Two of the three ends alike, and a mac alike, are no fault.
	change(func(g *impl.Gateway) {
		g.Conns = []impl.Conn{g.Conns[0], g.Conns[0], g.Conns[0]}
		g.Conns[1].Port, g.Conns[2].DstIp = 1001, barred
	})
	change(func(g *impl.Gateway) {
		g.Conns = []impl.Conn{g.Conns[0], g.Conns[0]}
		g.Conns[1].Ip = guestIp(9)
	})
	for _, now := range []int{0, 1, impl.MaxNow} {
		change(func(g *impl.Gateway) { g.Now = now })
	}
	for _, drops := range []int{0, 1000000} {
		change(func(g *impl.Gateway) { g.Drops = drops })
	}
	for _, isn := range []int{0, impl.MaxAddress} {
		change(func(g *impl.Gateway) { g.Isn = isn })
	}
	return list
}

// wrongGateways are not right, in one way each.
func wrongGateways() []impl.Gateway {
	list := []impl.Gateway{{}}
	change := func(set func(g *impl.Gateway)) {
		g := busyGateway()
		set(&g)
		list = append(list, g)
	}
	for _, c := range wrongConfigs() {
		change(func(g *impl.Gateway) { g.Config = c })
	}
	for _, guests := range wrongGuests() {
		change(func(g *impl.Gateway) { g.Guests, g.Flows = guests, nil })
	}
	for _, flows := range wrongFlows() {
		change(func(g *impl.Gateway) { g.Flows = flows })
	}
	for _, owner := range []int{math.MinInt, -1, 1, 4, 6, 8, 9, 9999, 10000, 10001, math.MaxInt} {
		for k := range busyGateway().Flows {
			change(func(g *impl.Gateway) { g.Flows[k].Owner = owner })
		}
	}
	change(func(g *impl.Gateway) { g.Guests.Sessions = g.Guests.Sessions[:1] })
	change(func(g *impl.Gateway) { g.Flows = owned(manyFlows(9), 0) })
	for _, c := range wrongConns() {
		change(func(g *impl.Gateway) { g.Conns[1] = c })
	}
	for k := range 2 {
		change(func(g *impl.Gateway) { g.Conns[k] = connOf(5, far, connAt(impl.TcGone, 5, 7, "", "")) })
	}
	change(func(g *impl.Gateway) { g.Conns[1] = g.Conns[0] })
	change(func(g *impl.Gateway) { g.Conns[1].Ip, g.Conns[1].DstIp = g.Conns[0].Ip, g.Conns[0].DstIp })
	change(func(g *impl.Gateway) { g.Conns = append(g.Conns, g.Conns[0]); g.Conns[2].Mac = macB })
	change(func(g *impl.Gateway) { g.Conns = manyConns(4) })
	change(func(g *impl.Gateway) { g.Conns = manyConns(impl.MaxList + 1) })
	for _, now := range wrongTimes() {
		change(func(g *impl.Gateway) { g.Now = now })
	}
	for _, drops := range []int{math.MinInt, -1, 1000001, 1 << 32, math.MaxInt} {
		change(func(g *impl.Gateway) { g.Drops = drops })
	}
	for _, isn := range outside(4) {
		change(func(g *impl.Gateway) { g.Isn = isn })
	}
	return list
}

func manyConns(size int) []impl.Conn {
	var list []impl.Conn
	for k := range size {
		c := connOf(5, far, connAt(impl.TcOpen, 900, 50, "", ""))
		c.Port = 2000 + k
		list = append(list, c)
	}
	return list
}

// owned are flows with that Owner each.
func owned(flows []impl.Flow, owner int) []impl.Flow {
	flows = slices.Clone(flows)
	for k := range flows {
		flows[k].Owner = owner
	}
	return flows
}

// endedBy is a gateway whose session at a place has ended now, with its flows.
func endedBy(g impl.Gateway, k, cause int) impl.Gateway {
	g = copiedGateway(g)
	id := g.Guests.Sessions[k].Id
	g.Guests = withoutSession(g.Guests, k, g.Now, cause)
	g.Flows = slices.DeleteFunc(g.Flows, func(f impl.Flow) bool { return f.Owner == id })
	return g
}

// charged charges the session at a place, of a user at its own, for a packet.
func charged(g *impl.Gateway, k, user int, p impl.Packet) {
	g.Guests.Sessions[k].Used += len(p.Body)
	g.Guests.Sessions[k].Last = max(g.Guests.Sessions[k].Last, g.Now)
	g.Guests.Users[user].Balance -= len(p.Body)
}

// againOf is what a tick sends of connections: what TcLast has out, and an
// end; a greeting of TcSyn.
func againOf(conns ...impl.Conn) []impl.Out {
	var outs []impl.Out
	for _, c := range conns {
		switch c.State {
		case impl.TcSyn:
			outs = append(outs, segmentsTo(c, ourSegment(c, c.Una, "SA", ""))...)
		case impl.TcLast:
			outs = append(outs, segmentsTo(c, saidByHand(c)...)...)
		}
	}
	return outs
}

// segmentsTo are our segments as they go out to a connection's guest.
func segmentsTo(c impl.Conn, list ...impl.Segment) []impl.Out {
	var outs []impl.Out
	for _, g := range list {
		p := impl.Packet{Src: c.DstIp, Dst: c.Ip, Proto: impl.ProTcp, Ttl: 64, Body: string(segmentBytes(c.DstIp, c.Ip, g))}
		outs = append(outs, outOf(impl.OutLan, c.Mac, p))
	}
	return outs
}

// outOf is a packet as it goes out, from GateMac.
func outOf(side int, mac string, p impl.Packet) impl.Out {
	return impl.Out{Side: side, Bytes: mac + plainConfig().GateMac + "\x08\x00" + string(packetBytes(p))}
}

// toWan is a packet that is forwarded, its Ttl 1 less.
func toWan(p impl.Packet) []impl.Out {
	p.Ttl--
	return []impl.Out{outOf(impl.OutWan, plainConfig().WanMac, p)}
}

// toGuest is a packet that is let back, its Ttl 1 less.
func toGuest(k int, p impl.Packet) []impl.Out {
	p.Ttl--
	return []impl.Out{outOf(impl.OutLan, guestMac(k), p)}
}

// gateFrame is a packet in a frame from a guest to the gateway.
func gateFrame(k int, p impl.Packet) []byte {
	return frameOf(plainConfig().GateMac, guestMac(k), p)
}

// wanFrame is a packet in a frame from the wide side to the gateway.
func wanFrame(p impl.Packet) []byte {
	return frameOf(plainConfig().GateMac, plainConfig().WanMac, p)
}

func frameOf(dst, src string, p impl.Packet) []byte {
	return []byte(dst + src + "\x08\x00" + string(packetBytes(p)))
}

// tcpOf, udpOf and icmpOf are packets of a guest; tcpTo, udpTo and icmpTo go to one.
func tcpOf(k, dst, from, to int, letters, data string) impl.Packet {
	return tcpBetween(guestIp(k), dst, from, to, letters, data)
}

func tcpTo(k, src, from, to int, letters, data string) impl.Packet {
	return tcpBetween(src, guestIp(k), from, to, letters, data)
}

func tcpBetween(src, dst, from, to int, letters, data string) impl.Packet {
	g := impl.Segment{SrcPort: from, DstPort: to, Seq: 10, Ack: 20, Flags: flagsOf(letters), Window: 30, Data: data}
	return impl.Packet{Src: src, Dst: dst, Proto: impl.ProTcp, Ttl: 9, Id: 3, Body: string(segmentBytes(src, dst, g))}
}

func udpOf(k, dst, from, to int, data string) impl.Packet {
	return udpBetween(guestIp(k), dst, from, to, data)
}

func udpTo(k, src, from, to int, data string) impl.Packet {
	return udpBetween(src, guestIp(k), from, to, data)
}

func udpBetween(src, dst, from, to int, data string) impl.Packet {
	body := datagramBytes(src, dst, impl.Datagram{SrcPort: from, DstPort: to, Data: data})
	return impl.Packet{Src: src, Dst: dst, Proto: impl.ProUdp, Ttl: 9, Id: 4, Body: string(body)}
}

func icmpOf(k, dst, number int, data string) impl.Packet {
	return icmpBetween(guestIp(k), dst, number, data)
}

func icmpTo(k, src, number int, data string) impl.Packet {
	return icmpBetween(src, guestIp(k), number, data)
}

func icmpBetween(src, dst, number int, data string) impl.Packet {
	body := []byte("\x08\x00\x00\x00" + twoBytes(number) + "\x00\x07" + data)
	copy(body[2:], twoBytes(sumByRemainder(body)))
	return impl.Packet{Src: src, Dst: dst, Proto: impl.ProIcmp, Ttl: 9, Id: 5, Body: string(body)}
}

func copiedGateway(g impl.Gateway) impl.Gateway {
	g.Config.Garden = slices.Clone(g.Config.Garden)
	g.Config.Roles = slices.Clone(g.Config.Roles)
	for k, r := range g.Config.Roles {
		g.Config.Roles[k].Rules = slices.Clone(r.Rules)
	}
	g.Guests = copied(g.Guests)
	g.Flows, g.Conns = slices.Clone(g.Flows), slices.Clone(g.Conns)
	return g
}

// sameGateway takes an empty list and nil for the same value.
func sameGateway(a, b impl.Gateway) bool {
	same := sameGuests(a.Guests, b.Guests) && slices.Equal(a.Flows, b.Flows) && slices.Equal(a.Conns, b.Conns) && sameConfig(a.Config, b.Config)
	return same && a.Now == b.Now && a.Drops == b.Drops && a.Isn == b.Isn
}

func sameConfig(a, b impl.Config) bool {
	sameRole := func(a, b impl.Role) bool {
		same := slices.Equal(a.Rules, b.Rules)
		a.Rules, b.Rules = nil, nil
		return same && reflect.DeepEqual(a, b)
	}
	same := slices.Equal(a.Garden, b.Garden) && slices.EqualFunc(a.Roles, b.Roles, sameRole)
	a.Garden, a.Roles, b.Garden, b.Roles = nil, nil, nil, nil
	return same && reflect.DeepEqual(a, b)
}
