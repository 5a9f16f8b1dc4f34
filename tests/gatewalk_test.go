package tests

import (
	"math/rand"
	"slices"
	"testing"

	"loop.example/g00356/impl"
)

// gateByHand follows the words of chapter 14 one by one, on a gateway of its own.
type gateByHand struct {
	g    impl.Gateway
	outs []impl.Out
}

// takenInByHand is what LanIn or WanIn must answer.
func takenInByHand(g impl.Gateway, b []byte, lan bool) (impl.Gateway, []impl.Out, int) {
	h := &gateByHand{g: copiedGateway(g)}
	code := 0
	if lan {
		code = h.lan(b)
	} else {
		code = h.wan(b)
	}
	if code != impl.OK {
		h.outs = nil
		h.g.Drops = min(h.g.Drops+1, 1000000)
	}
	return h.g, h.outs, code
}

func (h *gateByHand) inLan(ip int) bool {
	return netOf(ip, h.g.Config.Lan.Bits) == h.g.Config.Lan
}

// end ends sessions, each with its flows.
func (h *gateByHand) end(cause int, ends func(s impl.Session) bool) {
	g := &h.g.Guests
	for _, s := range slices.Clone(g.Sessions) {
		if !ends(s) {
			continue
		}
		if len(g.Records) < 60 {
			g.Records = append(g.Records, impl.Record{Id: s.Id, At: h.g.Now, Cause: cause, Bytes: s.Used, Stop: true})
		}
		g.Sessions = slices.DeleteFunc(g.Sessions, func(o impl.Session) bool { return o == s })
		h.g.Flows = slices.DeleteFunc(h.g.Flows, func(f impl.Flow) bool { return f.Owner == s.Id })
	}
}

// endsByHand are a packet's ends, read from its bytes once it is right.
func endsByHand(p impl.Packet) (from, to, flags, code int) {
	b := []byte(p.Body)
	switch p.Proto {
	case impl.ProTcp:
		if _, code := impl.ReadSegment(p.Src, p.Dst, b); code != impl.OK {
			return 0, 0, 0, code
		}
		return numberIn(b[:2]), numberIn(b[2:4]), int(b[13]) & 31, impl.OK
	case impl.ProUdp:
		if _, code := impl.ReadDatagram(p.Src, p.Dst, b); code != impl.OK {
			return 0, 0, 0, code
		}
		return numberIn(b[:2]), numberIn(b[2:4]), 0, impl.OK
	case impl.ProIcmp:
		if len(b) < 8 {
			return 0, 0, 0, impl.ErrForm
		}
		if sumByRemainder(b) != 0 {
			return 0, 0, 0, impl.ErrSum
		}
		return numberIn(b[4:6]), 0, 0, impl.OK
	}
	return 0, 0, 0, impl.ErrProto
}

func (h *gateByHand) lan(b []byte) int {
	c := h.g.Config
	f, code := impl.ReadFrame(b)
	if code != impl.OK {
		return code
	}
	if f.Kind == impl.KindArp {
		a, code := impl.ReadArp([]byte(f.Body))
		if code != impl.OK {
			return code
		}
		if a.Op != 1 || a.DstIp != c.Gate || a.SrcMac != f.Src {
			return impl.ErrRefused
		}
		told := arpFrame(f.Src, c.GateMac, impl.Arp{Op: 2, SrcMac: c.GateMac, SrcIp: c.Gate, DstMac: a.SrcMac, DstIp: a.SrcIp})
		h.outs = []impl.Out{{Side: 1, Bytes: string(told)}}
		return impl.OK
	}
	p, code := impl.ReadPacket([]byte(f.Body))
	if code != impl.OK {
		return code
	}
	from, to, flags, code := endsByHand(p)
	if p.Proto == impl.ProUdp && code == impl.OK && from == 68 && to == 67 {
		d, code := impl.ReadDhcp([]byte(p.Body[8:]))
		if code != impl.OK || d.Reply || d.Mac != f.Src {
			return impl.ErrForm
		}
		h.outs = asItIs(2, c.WanMac, p)
		return impl.OK
	}
	if p.Proto == impl.ProUdp && code == impl.OK && p.Dst == c.Resolver && to == 53 && h.inLan(p.Src) {
		if d, code := impl.ReadDns([]byte(p.Body[8:])); code != impl.OK || d.Answer {
			return impl.ErrForm
		}
		return h.forward(f.Src, p, from, to, flags, 0)
	}
	if f.Dst != c.GateMac || !h.inLan(p.Src) || p.Src == c.Gate || p.Dst != c.Gate && h.inLan(p.Dst) {
		return impl.ErrRefused
	}
	if code != impl.OK {
		return code
	}
	h.end(impl.CaMoved, func(s impl.Session) bool {
		return s.Mac == f.Src && s.Ip != p.Src || s.Mac != f.Src && s.Ip == p.Src
	})
	return h.route(f.Src, p, from, to, flags)
}

func (h *gateByHand) route(mac string, p impl.Packet, from, to, flags int) int {
	c := h.g.Config
	pages := p.Proto == impl.ProTcp && to == 80
	if p.Dst == c.Gate && !pages {
		return impl.ErrRefused
	}
	session := slices.IndexFunc(h.g.Guests.Sessions, func(s impl.Session) bool { return s.Mac == mac && s.Ip == p.Src })
	conn := slices.IndexFunc(h.g.Conns, func(c impl.Conn) bool { return c.Ip == p.Src && c.Port == from && c.DstIp == p.Dst })
	if p.Dst == c.Gate || pages && session < 0 || pages && conn >= 0 {
		return h.portal(mac, p, conn)
	}
	for _, place := range c.Garden {
		if netOf(p.Dst, place.Net.Bits) == place.Net && place.Ports.Low <= to && to <= place.Ports.High {
			return h.forward(mac, p, from, to, flags, 0)
		}
	}
	if session < 0 {
		return impl.ErrUser
	}
	s := h.g.Guests.Sessions[session]
	for _, r := range c.Roles {
		if r.Name == h.g.Guests.Users[s.User].Role {
			if _, _, allow := firstByHand(r.Rules, p.Proto, p.Dst, to); !allow {
				return impl.ErrRefused
			}
		}
	}
	return h.forward(mac, p, from, to, flags, s.Id)
}

func (h *gateByHand) charge(owner int, p impl.Packet) int {
	for k, s := range h.g.Guests.Sessions {
		if s.Id != owner {
			continue
		}
		if len(p.Body) > s.Quota-s.Used || len(p.Body) > h.g.Guests.Users[s.User].Balance {
			h.end(impl.CaQuota, func(o impl.Session) bool { return o.Id == owner })
			return impl.ErrSpent
		}
		charged(&h.g, k, s.User, p)
	}
	return impl.OK
}

func (h *gateByHand) forward(mac string, p impl.Packet, from, to, flags, owner int) int {
	if p.Ttl < 2 {
		return impl.ErrRange
	}
	k, back, code := findByHand(h.g.Flows, p.Proto, p.Src, from, p.Dst, to)
	there := code == impl.OK
	if there && (back || h.g.Flows[k].Owner != owner || h.g.Flows[k].Mac != mac) {
		return impl.ErrTwice
	}
	if !there && len(h.g.Flows) == 8 {
		return impl.ErrFull
	}
	if !there {
		opened(&h.g, mac, p, from, to, owner)
	}
	if code := h.charge(owner, p); code != impl.OK {
		return code
	}
	if there {
		h.g.Flows = passedByHand(h.g.Flows, k, false, flags, h.g.Now)
	}
	h.outs = toWan(p)
	return impl.OK
}

func (h *gateByHand) portal(mac string, p impl.Packet, k int) int {
	g, _ := impl.ReadSegment(p.Src, p.Dst, []byte(p.Body))
	if k < 0 {
		if g.Flags&^impl.FlPsh != impl.FlSyn {
			return impl.ErrState
		}
		if len(h.g.Conns) >= 3 {
			return impl.ErrFull
		}
		c := impl.Conn{Mac: mac, Ip: p.Src, Port: g.SrcPort, DstIp: p.Dst, State: impl.TcSyn, Una: h.g.Isn, Next: numberBehind(h.g.Isn, 1), Want: numberBehind(g.Seq, 1)}
		h.g.Conns = append(h.g.Conns, c)
		h.g.Isn = numberBehind(h.g.Isn, 1000)
		h.outs = segmentsTo(c, ourSegment(c, c.Una, "SA", ""))
		return impl.OK
	}
	if h.g.Conns[k].Mac != mac {
		return impl.ErrRefused
	}
	c, told := takenByHand(h.g.Conns[k], g)
	if c.State == impl.TcOpen && c.In != "" {
		guests, page, size, code := impl.PortalRead(h.g.Config, h.g.Guests, c.In, c.Mac, c.Ip, h.g.Now)
		if code == impl.OK {
			h.g.Guests = guests
			h.g.Flows = slices.DeleteFunc(h.g.Flows, func(f impl.Flow) bool {
				return f.Owner != 0 && !slices.ContainsFunc(guests.Sessions, func(s impl.Session) bool { return s.Id == f.Owner })
			})
			c.In, c.Out, c.State, c.Fin = c.In[size:], page, impl.TcLast, true
			c.Next = numberBehind(c.Una, len(page)+1)
			told = append(told, saidByHand(c)...)
		}
	}
	h.outs = segmentsTo(c, told...)
	replaced(k, c)(&h.g)
	return impl.OK
}

func (h *gateByHand) wan(b []byte) int {
	c := h.g.Config
	f, code := impl.ReadFrame(b)
	if code != impl.OK {
		return code
	}
	if f.Kind != impl.KindIp || f.Dst != c.GateMac {
		return impl.ErrRefused
	}
	p, code := impl.ReadPacket([]byte(f.Body))
	if code != impl.OK {
		return code
	}
	from, to, flags, code := endsByHand(p)
	if code != impl.OK {
		return code
	}
	if p.Proto == impl.ProIcmp {
		from, to = to, from
	}
	if p.Proto == impl.ProUdp && from == 67 && to == 68 {
		d, code := impl.ReadDhcp([]byte(p.Body[8:]))
		if code != impl.OK || !d.Reply {
			return impl.ErrForm
		}
		h.outs = asItIs(1, d.Mac, p)
		return impl.OK
	}
	k, back, code := findByHand(h.g.Flows, p.Proto, p.Src, from, p.Dst, to)
	if code != impl.OK || !back || h.g.Flows[k].Until <= h.g.Now {
		return impl.ErrNone
	}
	if p.Ttl < 2 {
		return impl.ErrRange
	}
	flow := h.g.Flows[k]
	if code := h.charge(flow.Owner, p); code != impl.OK {
		return code
	}
	h.g.Flows = passedByHand(h.g.Flows, k, true, flags, h.g.Now)
	p.Ttl--
	h.outs = []impl.Out{outOf(1, flow.Mac, p)}
	return impl.OK
}

// tickByHand is what TickGate must answer ahead of MaxNow.
func tickByHand(g impl.Gateway) (impl.Gateway, []impl.Out) {
	h := &gateByHand{g: copiedGateway(g)}
	h.g.Now++
	now := h.g.Now
	for _, s := range slices.Clone(h.g.Guests.Sessions) {
		is := func(o impl.Session) bool { return o == s }
		if s.Until <= now {
			h.end(impl.CaTime, is)
		} else if s.Last+s.Idle <= now {
			h.end(impl.CaIdle, is)
		}
	}
	h.g.Flows = slices.DeleteFunc(h.g.Flows, func(f impl.Flow) bool { return f.Until <= now })
	return h.g, againOf(h.g.Conns...)
}

// choice is one of a list.
func choice[T any](chance *rand.Rand, list ...T) T {
	return list[chance.Intn(len(list))]
}

// randomFrame is one of few, so that frames often meet what is there. Most
// are right, some are spoilt.
func randomFrame(chance *rand.Rand, g impl.Gateway, lan bool) []byte {
	var b []byte
	switch {
	case lan && chance.Intn(3) == 0 && len(g.Conns) > 0:
		b = randomVisit(chance, g)
	case lan:
		b = randomLan(chance, g)
	default:
		b = randomWan(chance, g)
	}
	if chance.Intn(20) == 0 {
		b = turned(b, chance.Intn(8*len(b)))
	}
	if chance.Intn(60) == 0 {
		b = b[:chance.Intn(len(b)+1)]
	}
	return b
}

func randomLan(chance *rand.Rand, g impl.Gateway) []byte {
	mac := 1 + chance.Intn(4)
	ip := mac
	if chance.Intn(25) == 0 {
		ip = chance.Intn(6)
	}
	gate := choice(chance, g.Config.GateMac, g.Config.GateMac, g.Config.GateMac, g.Config.GateMac, g.Config.GateMac, g.Config.GateMac, everyone)
	dst := choice(chance, far, far, far, barred, quadNine, quadOne, g.Config.Gate, guestIp(3))
	letters, _ := impl.FlagsText(choice(chance, 2, 2, 16, 16, 24, 17, 4, chance.Intn(32)))
	from, to := choice(chance, 1000, 1001), choice(chance, 80, 443, 443, 443, 22, 53)
	data := string(sampleBytes(choice(chance, 0, 0, 1, 30, 100, 340), 3))
	var p impl.Packet
	switch chance.Intn(12) {
	case 0:
		a := impl.Arp{Op: choice(chance, 1, 1, 1, 2), SrcMac: guestMac(mac), SrcIp: guestIp(ip), DstMac: everyone, DstIp: choice(chance, g.Config.Gate, g.Config.Gate, guestIp(2))}
		return arpFrame(everyone, guestMac(mac), a)
	case 1:
		p = udpBetween(0, impl.MaxAddress, 68, choice(chance, 67, 67, 67, 53), leaseOf(choice(chance, mac, mac, 1), chance.Intn(4) == 0))
	case 2, 3:
		p = udpOf(ip, quadOne, from, 53, choice(chance, questionOf(false), questionOf(false), questionOf(true), data))
	case 4:
		p = udpOf(ip, dst, from, to, data)
	case 5:
		p = icmpOf(ip, dst, from, data)
	case 6, 7:
		p = tcpOf(ip, choice(chance, far, g.Config.Gate), from, 80, "S", "")
	default:
		p = tcpOf(ip, dst, from, to, letters, data)
	}
	p.Ttl = choice(chance, 0, 1, 2, 64, 64, 64, 64, 64, 64, 64)
	return frameOf(gate, guestMac(mac), p)
}

// randomVisit is a segment to a connection that is there, mostly in order.
func randomVisit(chance *rand.Rand, g impl.Gateway) []byte {
	c := choice(chance, g.Conns...)
	asks := []impl.Request{postOf("/login", "name=ann&word=apple"), postOf("/login", "name=bob&word=berry"), postOf("/login", "name=ticket&word=12345"),
		postOf("/login", "name=ann&word=wrong"), getOf("/status"), getOf("/"), postOf("/logout", "")}
	text := requestByHand(choice(chance, asks...))
	if chance.Intn(4) == 0 {
		text = text[:chance.Intn(len(text))]
	}
	if rest := len(c.In); rest > 0 && chance.Intn(2) == 0 {
		text = requestByHand(asks[0])[min(rest, 40):]
	}
	s := impl.Segment{SrcPort: c.Port, DstPort: 80, Seq: c.Want, Ack: c.Next, Flags: choice(chance, 16, 16, 16, 24, 17, 2, 4, 0), Window: 9, Data: choice(chance, "", text, text)}
	if chance.Intn(8) == 0 {
		s.Seq, s.Ack = numberBehind(s.Seq, chance.Intn(5)), numberBehind(c.Una, chance.Intn(40))
	}
	mac := c.Mac
	if chance.Intn(20) == 0 {
		mac = guestMac(1 + chance.Intn(4))
	}
	p := impl.Packet{Src: c.Ip, Dst: c.DstIp, Proto: impl.ProTcp, Ttl: chance.Intn(3), Body: string(segmentBytes(c.Ip, c.DstIp, s))}
	return frameOf(g.Config.GateMac, mac, p)
}

func randomWan(chance *rand.Rand, g impl.Gateway) []byte {
	letters, _ := impl.FlagsText(choice(chance, 18, 16, 16, 16, 24, 17, 4))
	data := string(sampleBytes(choice(chance, 0, 0, 1, 30, 100, 340), 3))
	f := impl.Flow{Proto: choice(chance, 1, 6, 17), SrcIp: guestIp(chance.Intn(5)), SrcPort: 1000, DstIp: choice(chance, far, quadNine, quadOne), DstPort: choice(chance, 80, 443)}
	if len(g.Flows) > 0 && chance.Intn(4) > 0 {
		f = choice(chance, g.Flows...)
	}
	p := flowAnswer(f, letters, data)
	if chance.Intn(12) == 0 {
		p = udpBetween(7, impl.MaxAddress, 67, 68, leaseOf(chance.Intn(5), chance.Intn(4) > 0))
	}
	p.Ttl = choice(chance, 0, 1, 2, 64, 64, 64, 64, 64, 64)
	dst := choice(chance, g.Config.GateMac, g.Config.GateMac, g.Config.GateMac, g.Config.GateMac, g.Config.GateMac, g.Config.GateMac, everyone)
	return frameOf(dst, g.Config.WanMac, p)
}

// seen counts what walks have met, so that they meet all there is.
type seen struct {
	lan, wan         map[int]int
	ended, opened    int
	kicked, sessions int
}

// Whatever comes to a gateway that began plain: what it answers is what the
// words say, and it stays right.
func TestWalksOfGateways(t *testing.T) {
	met := seen{lan: map[int]int{}, wan: map[int]int{}}
	for seed := range 60 {
		chance := rand.New(rand.NewSource(int64(seed)))
		g := impl.PlainGateway()
		g.Isn = choice(chance, roundNumbers()...)
		for range 500 {
			g = gateStep(t, chance, g, &met)
			if t.Failed() {
				t.Fatalf("seed %d", seed)
			}
		}
	}
	for _, code := range []int{impl.OK, impl.ErrForm, impl.ErrProto, impl.ErrSum, impl.ErrRefused, impl.ErrUser, impl.ErrRange, impl.ErrTwice, impl.ErrFull, impl.ErrSpent, impl.ErrState} {
		if met.lan[code] == 0 {
			t.Errorf("no walk met %d from the lan", code)
		}
	}
	for _, code := range []int{impl.OK, impl.ErrForm, impl.ErrProto, impl.ErrSum, impl.ErrRefused, impl.ErrNone, impl.ErrRange, impl.ErrSpent} {
		if met.wan[code] == 0 {
			t.Errorf("no walk met %d from the wide side", code)
		}
	}
	if met.ended == 0 || met.opened == 0 || met.kicked == 0 || met.sessions < 100 {
		t.Errorf("walks met too little: %v", met)
	}
}

func gateStep(t *testing.T, chance *rand.Rand, g impl.Gateway, met *seen) impl.Gateway {
	t.Helper()
	before := copiedGateway(g)
	var next, want impl.Gateway
	var outs, wantOuts []impl.Out
	var code, wantCode int
	switch n := chance.Intn(24); {
	case n == 0:
		next, outs, code = impl.TickGate(g)
		want, wantOuts = tickByHand(g)
	case n == 1 && chance.Intn(4) == 0:
		id := 1 + chance.Intn(g.Guests.Next)
		next, code = impl.KickGuest(g, id)
		h := &gateByHand{g: copiedGateway(g)}
		h.end(impl.CaKick, func(s impl.Session) bool { return s.Id == id })
		want, wantCode = h.g, impl.ErrNone
		if len(want.Guests.Sessions) < len(g.Guests.Sessions) {
			wantCode = impl.OK
			met.kicked++
		}
	case n < 17:
		b := randomFrame(chance, g, true)
		next, outs, code = impl.LanIn(g, b)
		want, wantOuts, wantCode = takenInByHand(g, b, true)
		met.lan[code]++
		met.opened += max(0, len(next.Conns)-len(g.Conns))
	default:
		b := randomFrame(chance, g, false)
		next, outs, code = impl.WanIn(g, b)
		want, wantOuts, wantCode = takenInByHand(g, b, false)
		met.wan[code]++
		holdLetIn(t, g, b, code)
	}
	met.sessions += max(0, len(next.Guests.Sessions)-len(g.Guests.Sessions))
	met.ended += max(0, len(g.Guests.Sessions)-len(next.Guests.Sessions))
	if code != wantCode || !slices.Equal(outs, wantOuts) {
		t.Errorf("a step answers %d, %s; not %d, %s", code, legible(outs), wantCode, legible(wantOuts))
	}
	holdGateway(t, "a step", next, want)
	if !sameGateway(g, before) {
		t.Errorf("a step changed what it was handed")
	}
	return next
}

// A frame from the wide side comes through just if it answers a flow, whose
// session is there then, or a question for a lease.
func holdLetIn(t *testing.T, g impl.Gateway, b []byte, code int) {
	t.Helper()
	if code != impl.OK {
		return
	}
	f, _ := impl.ReadFrame(b)
	p, _ := impl.ReadPacket([]byte(f.Body))
	if d, code := impl.ReadDatagram(p.Src, p.Dst, []byte(p.Body)); p.Proto == impl.ProUdp && code == impl.OK && d.SrcPort == 67 && d.DstPort == 68 {
		return
	}
	answers := slices.ContainsFunc(g.Flows, func(f impl.Flow) bool {
		owned := f.Owner == 0 || slices.ContainsFunc(g.Guests.Sessions, func(s impl.Session) bool { return s.Id == f.Owner })
		return owned && f.Proto == p.Proto && f.SrcIp == p.Dst && f.DstIp == p.Src && f.Until > g.Now
	})
	if !answers {
		t.Errorf("%x came through, and answers no flow of %s", b, legible(g.Flows))
	}
}
