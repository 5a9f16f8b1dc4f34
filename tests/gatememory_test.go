package tests

import (
	"bytes"
	"fmt"
	"maps"
	"reflect"
	"slices"
	"testing"

	"loop.example/g00356/impl"
)

// gateFrames has frames of each way through busyGateway, to both sides.
func gateFrames() map[string][]byte {
	gate := plainConfig().Gate
	frames := map[string][]byte{
		"arp":                  arpFrame(everyone, guestMac(1), impl.Arp{Op: 1, SrcMac: guestMac(1), SrcIp: guestIp(1), DstMac: everyone, DstIp: gate}),
		"a lease":              frameOf(everyone, guestMac(5), udpBetween(0, impl.MaxAddress, 68, 67, leaseOf(5, false))),
		"a reply of leases":    wanFrame(udpBetween(7, impl.MaxAddress, 67, 68, leaseOf(5, true))),
		"a name":               gateFrame(5, udpOf(5, quadOne, 4000, 53, questionOf(false))),
		"the garden":           gateFrame(5, tcpOf(5, quadNine, 4000, 443, "S", "")),
		"a new flow":           gateFrame(1, tcpOf(1, far, 4000, 443, "S", "")),
		"a flow":               gateFrame(1, tcpOf(1, far, 1000, 443, "A", "x")),
		"a flow's end":         gateFrame(1, tcpOf(1, far, 1000, 443, "R", "")),
		"an answer":            wanFrame(tcpTo(1, far, 443, 1000, "A", "x")),
		"an answer's end":      wanFrame(tcpTo(1, far, 443, 1000, "R", "")),
		"a question's answer":  wanFrame(icmpTo(2, far, 77, "x")),
		"too much":             gateFrame(1, sized(1, 301, false, 1000)),
		"too much of a new":    gateFrame(1, sized(1, 301, false, 4000)),
		"too much of answers":  wanFrame(sized(1, 301, true, 1000)),
		"one who moved":        gateFrame(9, udpOf(1, far, 1, 1, "")),
		"two who moved":        gateFrame(1, tcpOf(2, quadNine, 1, 443, "S", "")),
		"another flow":         gateFrame(4, tcpOf(3, quadNine, 1000, 443, "A", "")),
		"an opening":           gateFrame(5, visitPacket(5, far, 10, 0, "S", "")),
		"no opening":           gateFrame(5, visitPacket(5, far, 10, 0, "A", "")),
		"a page":               gateFrame(3, tcpOf(3, far, 1000, 80, "A", "")),
		"a page's end":         gateFrame(4, tcpOf(4, barred, 1000, 80, "A", "")),
		"another's connection": gateFrame(5, tcpOf(3, far, 1000, 80, "A", "")),
		"a neighbour":          gateFrame(1, tcpOf(1, guestIp(2), 1000, 80, "S", "")),
		"a stranger":           wanFrame(tcpTo(1, barred, 443, 1000, "A", "x")),
	}
	p := tcpOf(3, far, 1000, 80, "A", "")
	for name, r := range portalAsks() {
		s := impl.Segment{SrcPort: 1000, DstPort: 80, Seq: 50, Ack: 900, Flags: impl.FlAck, Data: requestByHand(r)}
		p.Body = string(segmentBytes(p.Src, p.Dst, s))
		frames[name] = gateFrame(3, p)
	}
	s := impl.Segment{SrcPort: 1000, DstPort: 80, Seq: 50, Flags: impl.FlRst}
	p.Body = string(segmentBytes(p.Src, p.Dst, s))
	frames["a broken connection"] = gateFrame(3, p)
	for name, f := range framesThatAreNone() {
		if len(f.b) < 500 {
			frames[name] = f.b
		}
	}
	return frames
}

// sampleFrames are gateFrames in the order of their names.
func sampleFrames() [][]byte {
	var list [][]byte
	named := gateFrames()
	for _, name := range slices.Sorted(maps.Keys(named)) {
		list = append(list, named[name])
	}
	return list
}

// gateChanges has each way of the calls that answer a gateway, of busyGateway.
func gateChanges() map[string]func(g impl.Gateway) (impl.Gateway, []impl.Out, int) {
	type change = func(g impl.Gateway) (impl.Gateway, []impl.Out, int)
	calls := map[string]change{"TickGate": impl.TickGate}
	for name, b := range gateFrames() {
		for side, take := range sides() {
			calls[side+", "+name] = func(g impl.Gateway) (impl.Gateway, []impl.Out, int) { return take(g, b) }
		}
	}
	for _, now := range []int{29, 49, 1011, impl.MaxNow} {
		calls[fmt.Sprintf("TickGate at %d", now)] = func(g impl.Gateway) (impl.Gateway, []impl.Out, int) {
			g.Now = now
			return impl.TickGate(g)
		}
	}
	for _, n := range []int{-1, 0, 5, 7, 8, impl.MaxAddress + 1} {
		calls[fmt.Sprintf("KickGuest of %d", n)] = func(g impl.Gateway) (impl.Gateway, []impl.Out, int) {
			next, code := impl.KickGuest(g, n)
			return next, nil, code
		}
		calls[fmt.Sprintf("SetIsn of %d", n)] = func(g impl.Gateway) (impl.Gateway, []impl.Out, int) {
			next, code := impl.SetIsn(g, n)
			return next, nil, code
		}
	}
	calls["NewGateway"] = func(g impl.Gateway) (impl.Gateway, []impl.Out, int) {
		g.Guests.Sessions = g.Guests.Sessions[:0]
		next, code := impl.NewGateway(g.Config, g.Guests)
		return next, nil, code
	}
	maps.Copy(calls, actChanges())
	return calls
}

// roomyGateway is busyGateway with room behind the ends of its lists, and
// things in it.
func roomyGateway() impl.Gateway {
	g := busyGateway()
	g.Guests = roomyGuests()
	flows, conns, places, roles := len(g.Flows), len(g.Conns), len(g.Config.Garden), len(g.Config.Roles)
	g.Flows = append(g.Flows, newFlow(), impl.Flow{Owner: 5}, impl.Flow{Owner: -7})[:flows]
	g.Conns = append(g.Conns, connOf(5, far, connAt(impl.TcOpen, 1, 2, "in", "")), impl.Conn{State: 9})[:conns]
	g.Config.Garden = append(g.Config.Garden, impl.Place{Ports: impl.Range{High: 65535}}, impl.Place{Net: impl.Net{Ip: -1}})[:places]
	g.Config.Roles = append(g.Config.Roles, impl.Role{Name: "zoe"})[:roles]
	for k, r := range g.Config.Roles {
		rules := len(r.Rules)
		g.Config.Roles[k].Rules = append(r.Rules, impl.Rule{Allow: true}, impl.Rule{Proto: -1})[:rules]
	}
	return g
}

// allOf tells a gateway with its lists up to their capacity.
func allOf(g impl.Gateway) []any {
	all := append(behindEnds(g.Guests), g.Now, g.Drops, g.Isn, len(g.Flows), len(g.Conns), len(g.Config.Garden), len(g.Config.Roles),
		g.Flows[:cap(g.Flows)], g.Conns[:cap(g.Conns)], g.Config.Garden[:cap(g.Config.Garden)], g.Config.Roles[:cap(g.Config.Roles)])
	for _, r := range g.Config.Roles {
		all = append(all, len(r.Rules), r.Rules[:cap(r.Rules)])
	}
	return all
}

func wipeGateway(g impl.Gateway) {
	wipe(g.Guests)
	for _, r := range g.Config.Roles {
		clear(r.Rules[:cap(r.Rules)])
	}
	clear(g.Flows[:cap(g.Flows)])
	clear(g.Conns[:cap(g.Conns)])
	clear(g.Config.Garden[:cap(g.Config.Garden)])
	clear(g.Config.Roles[:cap(g.Config.Roles)])
}

func TestGatewaysHandedInStayAsTheyWere(t *testing.T) {
	before := allOf(roomyGateway())
	for name, do := range gateChanges() {
		g := roomyGateway()
		do(g)
		if !reflect.DeepEqual(allOf(g), before) {
			t.Errorf("%s changed what it was handed", name)
		}
	}
	g := roomyGateway()
	impl.GatewayOK(g)
	if !reflect.DeepEqual(allOf(g), before) {
		t.Error("GatewayOK changed what it was handed")
	}
}

func TestGatewaysAnsweredAreNewMemory(t *testing.T) {
	for name, do := range gateChanges() {
		g := roomyGateway()
		next, outs, code := do(g)
		want, wantOuts := copiedGateway(next), slices.Clone(outs)
		// What is changed in what was handed in is not seen in the answer, ..
		wipeGateway(g)
		if !sameGateway(next, want) {
			t.Errorf("%s answers what it was handed", name)
		}
		// .. nor the other way round, nor from one answer to the next.
		g = roomyGateway()
		wipeGateway(next)
		clear(outs[:cap(outs)])
		other, outs, _ := do(g)
		wipeGateway(other)
		clear(outs[:cap(outs)])
		again, outs, otherCode := do(g)
		if !sameGateway(again, want) || !slices.Equal(outs, wantOuts) || code != otherCode || !reflect.DeepEqual(allOf(g), allOf(roomyGateway())) {
			t.Errorf("%s was changed through its answer", name)
		}
	}
}

func TestPlainGatewaysAreNewMemory(t *testing.T) {
	for range 2 {
		g := impl.PlainGateway()
		if !sameConfig(g.Config, plainConfig()) || len(g.Guests.Users) != 3 || g.Guests.Users[0].Name != "ann" {
			t.Errorf("PlainGateway was changed through its answer: %v", g)
		}
		wipeGateway(g)
	}
}

// What stands behind the end of a list is not of it, and an empty list is nil.
func TestListsOfGatewaysEndAtTheirEnd(t *testing.T) {
	empty := impl.PlainGateway()
	empty.Guests.Sessions, empty.Guests.Fails, empty.Guests.Records = []impl.Session{}, []impl.Fail{}, []impl.Record{}
	empty.Flows, empty.Conns = []impl.Flow{}, []impl.Conn{}
	for name, do := range gateChanges() {
		a, outs, code := do(roomyGateway())
		if b, others, other := do(busyGateway()); code != other || !sameGateway(a, b) || !slices.Equal(outs, others) {
			t.Errorf("%s sees what stands behind the ends", name)
		}
		a, outs, code = do(empty)
		if b, others, other := do(impl.PlainGateway()); code != other || !sameGateway(a, b) || !slices.Equal(outs, others) {
			t.Errorf("%s tells empty lists from nil", name)
		}
	}
}

func TestFramesTakenInStayAsTheyWere(t *testing.T) {
	for name, b := range gateFrames() {
		for side, take := range sides() {
			room := append(bytes.Clone(b), sampleBytes(40, 3)...)
			before := bytes.Clone(room)
			next, outs, code := take(busyGateway(), room[:len(b)])
			if !bytes.Equal(room, before) {
				t.Errorf("%s, %s: the frame was changed", side, name)
			}
			// What comes out does not hang on the frame's memory, nor on what
			// stands behind it.
			clear(room)
			tight, others, other := take(busyGateway(), bytes.Clone(b))
			if code != other || !sameGateway(next, tight) || !slices.Equal(outs, others) {
				t.Errorf("%s, %s: the answer hangs on the frame's memory", side, name)
			}
		}
	}
}
