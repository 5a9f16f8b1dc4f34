package tests

import (
	"slices"
	"strings"
	"testing"

	"loop.example/g00356/impl"
)

// sightByHand is what SightOf must answer of a right gateway.
func sightByHand(g impl.Gateway, b []byte) (impl.Sight, int) {
	f, code := impl.ReadFrame(b)
	if code != impl.OK {
		return impl.Sight{}, code
	}
	p, code := impl.ReadPacket([]byte(f.Body))
	if code != impl.OK {
		return impl.Sight{}, code
	}
	from, to, _, code := endsByHand(p)
	if code != impl.OK {
		return impl.Sight{}, code
	}
	s := impl.Sight{Service: p.Proto == 17 && (from == 68 && to == 67 || p.Dst == g.Config.Resolver && to == 53)}
	for _, place := range g.Config.Garden {
		if netOf(p.Dst, place.Net.Bits) == place.Net && place.Ports.Low <= to && to <= place.Ports.High {
			s.Garden = true
		}
	}
	for _, o := range g.Guests.Sessions {
		if _, _, allow := firstByHand(roleByHand(g, o).Rules, p.Proto, p.Dst, to); allow && o.Ip == p.Src {
			s.Session, s.Id = true, o.Id
		}
	}
	return s, impl.OK
}

func roleByHand(g impl.Gateway, s impl.Session) impl.Role {
	for _, r := range g.Config.Roles {
		if r.Name == g.Guests.Users[s.User].Role {
			return r
		}
	}
	return impl.Role{}
}

func holdSight(t *testing.T, g impl.Gateway, name string, b []byte, want impl.Sight, wantCode int) {
	t.Helper()
	if s, code := impl.SightOf(g, b); s != want || code != wantCode {
		t.Errorf("SightOf, %s, %.600q: %+v, %d; not %+v, %d", name, b, s, code, want, wantCode)
	}
}

// The sights of busyGateway: guest 1 has session 5 of role guest, guest 2 has
// session 7 of role staff, guest 5 has none.
func TestSightsWrittenOut(t *testing.T) {
	garden, service := impl.Sight{Garden: true}, impl.Sight{Service: true}
	five, seven := impl.Sight{Session: true, Id: 5}, impl.Sight{Session: true, Id: 7}
	both := func(a, b impl.Sight) impl.Sight {
		return impl.Sight{Garden: a.Garden || b.Garden, Service: a.Service || b.Service, Session: a.Session || b.Session, Id: a.Id + b.Id}
	}
	for name, row := range map[string]struct {
		p    impl.Packet
		want impl.Sight
	}{
		"the garden":                            {tcpOf(5, quadNine, 4000, 443, "S", ""), garden},
		"the garden by a datagram":              {udpOf(5, quadNine, 4000, 443, "x"), garden},
		"the garden from far away":              {tcpBetween(far, quadNine, 4000, 443, "A", ""), garden},
		"the garden by a question":              {icmpOf(5, quadNine, 443, "x"), impl.Sight{}},
		"the garden's port below":               {tcpOf(5, quadNine, 443, 442, "S", ""), impl.Sight{}},
		"the garden's port above":               {tcpOf(5, quadNine, 443, 444, "S", ""), impl.Sight{}},
		"beside the garden":                     {tcpOf(5, quadNine+1, 4000, 443, "S", ""), impl.Sight{}},
		"from the garden":                       {tcpBetween(quadNine, far, 443, 4000, "S", ""), impl.Sight{}},
		"the garden with a session":             {tcpOf(1, quadNine, 4000, 443, "S", ""), both(garden, five)},
		"beside the garden with a session":      {tcpOf(1, quadNine, 4000, 442, "S", ""), five},
		"a lease":                               {udpBetween(0, impl.MaxAddress, 68, 67, leaseOf(5, false)), service},
		"a lease of a guest":                    {udpOf(5, far, 68, 67, leaseOf(5, false)), service},
		"what is no lease, by its ports":        {udpOf(5, far, 68, 67, "junk"), service},
		"a lease with a session":                {udpOf(1, far, 68, 67, leaseOf(1, false)), service},
		"a lease with staff's session":          {udpOf(2, far, 68, 67, leaseOf(2, false)), both(service, seven)},
		"a reply of leases":                     {udpOf(5, far, 67, 68, leaseOf(5, true)), impl.Sight{}},
		"a lease's first port below":            {udpOf(5, far, 67, 67, leaseOf(5, false)), impl.Sight{}},
		"a lease's first port above":            {udpOf(5, far, 69, 67, leaseOf(5, false)), impl.Sight{}},
		"a lease's second port below":           {udpOf(5, far, 68, 66, leaseOf(5, false)), impl.Sight{}},
		"a lease's second port above":           {udpOf(5, far, 68, 68, leaseOf(5, false)), impl.Sight{}},
		"a lease by a segment":                  {tcpOf(5, far, 68, 67, "S", leaseOf(5, false)), impl.Sight{}},
		"a name":                                {udpOf(5, quadOne, 4000, 53, questionOf(false)), service},
		"a name from port 53":                   {udpOf(5, quadOne, 53, 53, questionOf(false)), service},
		"what is no name, by its ends":          {udpOf(5, quadOne, 4000, 53, ""), service},
		"a name from far away":                  {udpBetween(far, quadOne, 4000, 53, questionOf(false)), service},
		"a name's port below":                   {udpOf(5, quadOne, 53, 52, questionOf(false)), impl.Sight{}},
		"a name's port above":                   {udpOf(5, quadOne, 53, 54, questionOf(false)), impl.Sight{}},
		"a name to the one below":               {udpOf(5, quadOne-1, 4000, 53, questionOf(false)), impl.Sight{}},
		"a name to the one above":               {udpOf(5, quadOne+1, 4000, 53, questionOf(false)), impl.Sight{}},
		"a name from the resolver":              {udpBetween(quadOne, guestIp(5), 53, 4000, questionOf(true)), impl.Sight{}},
		"a name by a segment":                   {tcpOf(5, quadOne, 4000, 53, "S", questionOf(false)), impl.Sight{}},
		"a name with a session":                 {udpOf(1, quadOne, 4000, 53, questionOf(false)), service},
		"a name with staff's session":           {udpOf(2, quadOne, 4000, 53, questionOf(false)), both(service, seven)},
		"a name by staff's segment":             {tcpOf(2, quadOne, 4000, 53, "S", ""), seven},
		"a guest's port":                        {tcpOf(1, far, 4000, 443, "S", ""), five},
		"a guest's least port":                  {tcpOf(1, far, 4000, 80, "S", ""), five},
		"a guest's port below":                  {tcpOf(1, far, 443, 79, "S", ""), impl.Sight{}},
		"a guest's port above":                  {tcpOf(1, far, 443, 444, "S", ""), impl.Sight{}},
		"a guest's datagram":                    {udpOf(1, far, 4000, 443, "x"), five},
		"a guest's question":                    {icmpOf(1, far, 443, "x"), impl.Sight{}},
		"where a guest may not":                 {tcpOf(1, barred, 4000, 443, "S", ""), impl.Sight{}},
		"where a guest may by a datagram":       {udpOf(1, barred, 4000, 443, "x"), five},
		"staff's port":                          {tcpOf(2, barred, 4000, 22, "S", ""), seven},
		"staff's question":                      {icmpOf(2, far, 0, "x"), seven},
		"no session":                            {tcpOf(5, far, 4000, 443, "S", ""), impl.Sight{}},
		"a session's address as Dst":            {tcpTo(1, far, 443, 4000, "S", ""), impl.Sight{}},
		"staff's address as Dst":                {tcpBetween(guestIp(5), guestIp(2), 4000, 443, "S", ""), impl.Sight{}},
		"a session to another's":                {tcpOf(1, guestIp(2), 4000, 443, "S", ""), five},
		"a guest's, and a role of staff's port": {tcpOf(1, far, 4000, 22, "S", ""), impl.Sight{}},
		"the gate's address":                    {tcpOf(0, far, 4000, 443, "S", ""), impl.Sight{}},
		"an address with higher bits":           {tcpBetween(guestIp(1)+1<<24, far, 4000, 443, "S", ""), impl.Sight{}},
	} {
		for _, ttl := range []int{0, 1, 9, 255} {
			// The frame's macs do not matter, nor how much its packet may go on.
			for _, macs := range [][2]string{{plainConfig().GateMac, guestMac(5)}, {plainConfig().WanMac, plainConfig().GateMac}, {everyone, guestMac(2)}} {
				row.p.Ttl = ttl
				holdSight(t, busyGateway(), name, frameOf(macs[0], macs[1], row.p), row.want, impl.OK)
			}
		}
	}
}

// What stands behind the packet's length is not of it.
func TestSightsOfFramesWithMoreBehind(t *testing.T) {
	b := append(gateFrame(1, tcpOf(1, far, 4000, 443, "S", "")), "behind"...)
	holdSight(t, busyGateway(), "more behind", b, impl.Sight{Session: true, Id: 5}, impl.OK)
}

func TestSightsAllAtOnce(t *testing.T) {
	p := udpOf(2, quadOne, 68, 53, questionOf(false))
	for _, row := range []struct {
		name string
		set  func(g *impl.Gateway)
		want impl.Sight
	}{
		{"all", func(g *impl.Gateway) {}, impl.Sight{Garden: true, Service: true, Session: true, Id: 7}},
		{"another's garden", func(g *impl.Gateway) { g.Config.Garden = g.Config.Garden[:1] }, impl.Sight{Service: true, Session: true, Id: 7}},
		{"no garden", func(g *impl.Gateway) { g.Config.Garden = nil }, impl.Sight{Service: true, Session: true, Id: 7}},
		{"another resolver", func(g *impl.Gateway) { g.Config.Resolver = far }, impl.Sight{Garden: true, Session: true, Id: 7}},
		{"a role without rules", func(g *impl.Gateway) { g.Config.Roles[1].Rules = nil }, impl.Sight{Garden: true, Service: true}},
		{"a role that denies first", func(g *impl.Gateway) {
			g.Config.Roles[1].Rules = slices.Insert(g.Config.Roles[1].Rules, 0, impl.Rule{Proto: 17, Ports: impl.Range{High: 53}})
		}, impl.Sight{Garden: true, Service: true}},
		{"a role that denies then", func(g *impl.Gateway) {
			g.Config.Roles[1].Rules = append(g.Config.Roles[1].Rules, impl.Rule{Ports: impl.Range{High: 65535}})
		}, impl.Sight{Garden: true, Service: true, Session: true, Id: 7}},
		{"a user of another role", func(g *impl.Gateway) { g.Guests.Users[1].Role = "guest" }, impl.Sight{Garden: true, Service: true}},
		{"a session of another address", func(g *impl.Gateway) { g.Guests.Sessions[1].Ip = guestIp(9) }, impl.Sight{Garden: true, Service: true}},
		{"a session of another mac", func(g *impl.Gateway) { g.Guests.Sessions[1].Mac = guestMac(9) }, impl.Sight{Garden: true, Service: true, Session: true, Id: 7}},
		{"a session of another user", func(g *impl.Gateway) { g.Guests.Sessions[1].User = 3 }, impl.Sight{Garden: true, Service: true}},
		{"a session of another Id", func(g *impl.Gateway) { g.Guests.Sessions[1].Id, g.Flows = 8, nil }, impl.Sight{Garden: true, Service: true, Session: true, Id: 8}},
		{"sessions change addresses", func(g *impl.Gateway) {
			g.Guests.Sessions[0].Ip, g.Guests.Sessions[1].Ip = guestIp(2), guestIp(1)
			g.Config.Roles[0].Rules = g.Config.Roles[1].Rules
		}, impl.Sight{Garden: true, Service: true, Session: true, Id: 5}},
		// What is spent, and whose time has come, is not asked for.
		{"nothing left", func(g *impl.Gateway) {
			g.Guests.Sessions[1].Used, g.Guests.Users[1].Balance, g.Now = 100000, 0, impl.MaxNow
		}, impl.Sight{Garden: true, Service: true, Session: true, Id: 7}},
	} {
		g := busyGateway()
		g.Config.Garden = append(g.Config.Garden, impl.Place{Net: netOf(quadOne, 32), Ports: impl.Range{Low: 53, High: 53}})
		row.set(&g)
		if !impl.GatewayOK(g) {
			t.Errorf("%s: the gateway is not right", row.name)
		}
		holdSight(t, g, row.name, gateFrame(2, p), row.want, impl.OK)
	}
}

// Of sessions one alone may have an address: several are no right gateway's.
func TestSightsOfSeveralSessionsOfOneAddress(t *testing.T) {
	g := busyGateway()
	g.Guests = crowd(3, 0)
	g.Flows = nil
	for k := range 3 {
		holdSight(t, g, "one each", gateFrame(1, tcpOf(1+k, far, 4000, 443, "S", "")), impl.Sight{Session: true, Id: 2 + k}, impl.OK)
	}
	for _, pair := range [][2]int{{0, 1}, {0, 2}, {1, 2}} {
		two := copiedGateway(g)
		two.Guests.Sessions[pair[1]].Ip = two.Guests.Sessions[pair[0]].Ip
		for k := range 3 {
			holdSight(t, two, "two of one", gateFrame(1, tcpOf(1+k, far, 4000, 443, "S", "")), impl.Sight{}, impl.ErrBad)
		}
	}
}

// All ends that the tests know, of all gateways.
func TestSightsAsByHand(t *testing.T) {
	for k, g := range rightGateways() {
		for _, src := range []int{0, 1, 2, 3, 5, 9} {
			for _, dst := range []int{far, barred, quadNine, quadOne, g.Config.Gate, guestIp(2)} {
				for _, port := range []int{0, 22, 53, 67, 80, 443} {
					for _, p := range []impl.Packet{tcpOf(src, dst, 68, port, "S", ""), udpOf(src, dst, 68, port, "x"), icmpOf(src, dst, port, "x")} {
						b := gateFrame(1, p)
						want, wantCode := sightByHand(g, b)
						if s, code := impl.SightOf(g, b); s != want || code != wantCode {
							t.Fatalf("gateway %d, SightOf %s: %+v, %d; not %+v, %d", k, legible(p), s, code, want, wantCode)
						}
					}
				}
			}
		}
	}
}

func TestSightsOfFramesThatAreNone(t *testing.T) {
	for _, g := range []impl.Gateway{impl.PlainGateway(), busyGateway(), fullGateway()} {
		for name, f := range framesThatAreNone() {
			holdSight(t, g, name, f.b, impl.Sight{}, f.code)
		}
		for _, k := range []int{1, 2, 5} {
			for _, dst := range []int{far, quadNine, quadOne} {
				for name, c := range spoiltBodies(guestIp(k), dst) {
					holdSight(t, g, name, gateFrame(k, c.p), impl.Sight{}, c.code)
				}
			}
		}
	}
}

// A question for a mac has no packet; a packet counts whatever the Kind is.
func TestSightsOfKindArp(t *testing.T) {
	g := busyGateway()
	a := impl.Arp{Op: 1, SrcMac: guestMac(1), SrcIp: guestIp(1), DstMac: everyone, DstIp: g.Config.Gate}
	holdSight(t, g, "a question", arpFrame(everyone, guestMac(1), a), impl.Sight{}, impl.ErrForm)
	b := gateFrame(1, tcpOf(1, far, 4000, 443, "S", ""))
	b[13] = 6
	holdSight(t, g, "a packet", b, impl.Sight{Session: true, Id: 5}, impl.OK)
}

// audited are the calls of the audit as they are of a gateway, a frame and a
// name: what else than a code is told, and the code.
func audited() map[string]func(g impl.Gateway, b []byte, user string) (any, int) {
	return map[string]func(g impl.Gateway, b []byte, user string) (any, int){
		"SightOf":   func(g impl.Gateway, b []byte, _ string) (any, int) { s, code := impl.SightOf(g, b); return s, code },
		"BytesHold": func(g impl.Gateway, _ []byte, _ string) (any, int) { ok, code := impl.BytesHold(g); return ok, code },
		"FlowsHold": func(g impl.Gateway, _ []byte, _ string) (any, int) { ok, code := impl.FlowsHold(g); return ok, code },
		"SpentOf": func(g impl.Gateway, _ []byte, user string) (any, int) {
			n, code := impl.SpentOf(g, user)
			return n, code
		},
	}
}

// ErrBad comes ahead of what is wrong in frames and names, and behind ErrLong.
func TestAuditsOfWrongGateways(t *testing.T) {
	none := map[string]any{"SightOf": impl.Sight{}, "BytesHold": false, "FlowsHold": false, "SpentOf": 0}
	right := gateFrame(1, tcpOf(1, far, 1000, 443, "A", ""))
	another := slices.Clone(right)
	another[12] = 0x86
	texts := [][]byte{right, another, nil, make([]byte, impl.MaxText), make([]byte, impl.MaxText+1)}
	names := []string{"ann", "bob", "nobody", "", strings.Repeat("n", impl.MaxText), strings.Repeat("n", impl.MaxText+1)}
	for k, g := range wrongGateways() {
		for name, do := range audited() {
			for i := range 6 {
				b, user := texts[i%len(texts)], names[i]
				want := impl.ErrBad
				if name == "SightOf" && len(b) > impl.MaxText || name == "SpentOf" && len(user) > impl.MaxText {
					want = impl.ErrLong
				}
				if told, code := do(g, b, user); told != none[name] || code != want {
					t.Errorf("%s of wrong gateway %d: %v, %d; not %d", name, k, told, code, want)
				}
			}
		}
	}
}

func TestAuditsOfLongTexts(t *testing.T) {
	for _, g := range []impl.Gateway{impl.PlainGateway(), busyGateway()} {
		holdSight(t, g, "65536 bytes", make([]byte, impl.MaxText), impl.Sight{}, impl.ErrForm)
		holdSight(t, g, "65537 bytes", make([]byte, impl.MaxText+1), impl.Sight{}, impl.ErrLong)
		holdSpent(t, g, strings.Repeat("a", impl.MaxText), 0, impl.ErrUser)
		holdSpent(t, g, strings.Repeat("a", impl.MaxText+1), 0, impl.ErrLong)
	}
}

func TestFaultsOfSightsInTheirOrder(t *testing.T) {
	wrong := verdict{impl.ErrBad, func(a *trial) { a.g.Now = -1 }}
	faults := slices.Concat([]verdict{wrong, anotherKind}, wrongHeads(), wrongEnds())
	for set := range 1 << len(faults) {
		a := trial{g: busyGateway(), dst: plainConfig().GateMac, kind: impl.KindIp, p: impl.Packet{Src: guestIp(1), Dst: far, Proto: impl.ProTcp, Ttl: 9, Id: 3}}
		want, code := impl.Sight{Session: true, Id: 5}, impl.OK
		for k := range faults {
			if set>>k&1 == 1 {
				faults[k].do(&a)
				if code == impl.OK {
					want, code = impl.Sight{}, faults[k].code
				}
			}
		}
		if s, found := impl.SightOf(a.g, a.bytes()); s != want || found != code {
			t.Fatalf("faults %b: %+v, %d; not %+v, %d", set, s, found, want, code)
		}
	}
}

func holdBytes(t *testing.T, g impl.Gateway, name string, want bool) {
	t.Helper()
	if ok, code := impl.BytesHold(g); ok != want || code != impl.OK {
		t.Errorf("BytesHold, %s: %v, %d", name, ok, code)
	}
}

func TestRecordsOfSessionsWrittenOut(t *testing.T) {
	begin := func(id, at int) impl.Record { return impl.Record{Id: id, At: at} }
	end := func(id, at int) impl.Record {
		return impl.Record{Id: id, At: at, Cause: impl.CaKick, Bytes: 5, Stop: true}
	}
	for _, row := range []struct {
		name string
		list []impl.Record
		want bool
	}{
		{"both begun", []impl.Record{begin(5, 10), begin(7, 12)}, true},
		{"the other way round", []impl.Record{begin(7, 12), begin(5, 10)}, true},
		{"others that ended", []impl.Record{begin(4, 1), end(4, 3), begin(5, 10), begin(6, 11), begin(7, 12), end(6, 13)}, true},
		{"another that began alone", []impl.Record{begin(4, 1), begin(5, 10), begin(7, 12), begin(8, 13)}, true},
		{"other times than the sessions'", []impl.Record{begin(5, 99), begin(7, 0)}, true},
		{"none", nil, false},
		{"the first one alone", []impl.Record{begin(5, 10)}, false},
		{"the last one alone", []impl.Record{begin(7, 12)}, false},
		{"others alone", []impl.Record{begin(4, 1), begin(6, 2), begin(8, 3)}, false},
		{"the first one ended", []impl.Record{begin(5, 10), begin(7, 12), end(5, 13)}, false},
		{"the last one ended", []impl.Record{begin(5, 10), begin(7, 12), end(7, 12)}, false},
		{"both ended", []impl.Record{begin(5, 10), begin(7, 12), end(5, 13), end(7, 13)}, false},
		{"an end alone", []impl.Record{begin(5, 10), end(7, 12)}, false},
		{"an end, then a beginning", []impl.Record{begin(5, 10), end(7, 12), begin(7, 12)}, false},
		{"begun twice", []impl.Record{begin(5, 10), begin(7, 12), begin(5, 13)}, false},
		{"begun again", []impl.Record{begin(5, 10), begin(7, 12), end(5, 13), begin(5, 14)}, false},
		{"another's end alone", []impl.Record{begin(5, 10), begin(7, 12), end(4, 13)}, false},
		{"another begun twice", []impl.Record{begin(4, 1), begin(4, 1), begin(5, 10), begin(7, 12)}, false},
		{"another ended twice", []impl.Record{begin(4, 1), end(4, 1), end(4, 1), begin(5, 10), begin(7, 12)}, false},
		{"another's end ahead of its time", []impl.Record{begin(4, 2), end(4, 1), begin(5, 10), begin(7, 12)}, false},
	} {
		g := busyGateway()
		g.Guests.Records = row.list
		holdBytes(t, g, row.name, row.want)
	}
	holdBytes(t, busyGateway(), "a busy one", true)
	holdBytes(t, impl.PlainGateway(), "a plain one", true)
}

// Without sessions the records alone count.
func TestRecordsWithoutSessions(t *testing.T) {
	for name, row := range map[string]struct {
		list []impl.Record
		want bool
	}{
		"none":               {nil, true},
		"a beginning":        {[]impl.Record{{Id: 1}}, true},
		"a beginning, twice": {[]impl.Record{{Id: 1}, {Id: 1}}, false},
		"an end":             {[]impl.Record{{Id: 1, Cause: impl.CaIdle, Stop: true}}, false},
		"both":               {[]impl.Record{{Id: 1}, {Id: 1, Cause: impl.CaIdle, Stop: true}}, true},
	} {
		g := impl.PlainGateway()
		g.Guests.Next, g.Guests.Records = 2, row.list
		holdBytes(t, g, name, row.want)
	}
}

// All lists of up to four records of two sessions, and of nobody's.
func TestRecordsOfSessionsAsByHand(t *testing.T) {
	var stock []impl.Record
	for _, id := range []int{4, 5, 7} {
		stock = append(stock, impl.Record{Id: id, At: 20}, impl.Record{Id: id, At: 20, Cause: impl.CaTime, Stop: true}, impl.Record{Id: id, At: 19, Cause: impl.CaTime, Stop: true})
	}
	g := busyGateway()
	lists := [][]impl.Record{nil}
	for i := 0; i < len(lists); i++ {
		list := lists[i]
		want := bracketedByHand(list)
		for _, s := range g.Guests.Sessions {
			begun := slices.ContainsFunc(list, func(r impl.Record) bool { return r.Id == s.Id && !r.Stop })
			ended := slices.ContainsFunc(list, func(r impl.Record) bool { return r.Id == s.Id && r.Stop })
			want = want && begun && !ended
		}
		g.Guests.Records = list
		if ok, code := impl.BytesHold(g); ok != want || code != impl.OK {
			t.Errorf("BytesHold of %v: %v, %d", list, ok, code)
		}
		if len(list) == 4 {
			continue
		}
		for _, r := range stock {
			lists = append(lists, append(slices.Clone(list), r))
		}
	}
}

// The most of them: sixty records, and three sessions among them.
func TestManyRecords(t *testing.T) {
	g := busyGateway()
	g.Guests, g.Flows = crowd(3, 0), nil
	g.Guests.Next = 100
	for k := range 28 {
		id := 50 + k
		g.Guests.Records = append(g.Guests.Records, impl.Record{Id: id, At: 3}, impl.Record{Id: id, At: 3, Cause: impl.CaIdle, Stop: true})
	}
	for k := range 3 {
		holdBytes(t, g, "one is not there", false)
		g.Guests.Records = append(g.Guests.Records, impl.Record{Id: 2 + k, At: 10})
	}
	holdBytes(t, g, "59 records", true)
	g.Guests.Records = append(g.Guests.Records, impl.Record{Id: 90, At: 11})
	holdBytes(t, g, "60 records", true)
	for k := range 3 {
		g.Guests.Records[59] = impl.Record{Id: 2 + k, At: 10, Cause: impl.CaIdle, Stop: true}
		holdBytes(t, g, "the last one an end", false)
	}
}

func holdFlows(t *testing.T, g impl.Gateway, name string, want bool) {
	t.Helper()
	if ok, code := impl.FlowsHold(g); ok != want || code != impl.OK {
		t.Errorf("FlowsHold, %s: %v, %d", name, ok, code)
	}
}

// Each flow, of each Owner, mac and address, among others that hold.
func TestFlowsOfEachOwner(t *testing.T) {
	guests := map[int]int{5: 1, 7: 2}
	for place := range busyGateway().Flows {
		for _, owner := range []int{0, 5, 7} {
			for _, mac := range []int{0, 1, 2, 3, 9} {
				for _, ip := range []int{0, 1, 2, 3, 9, far - guestIp(0)} {
					g := busyGateway()
					f := &g.Flows[place]
					// A port of its own, so that no other flow has these ends.
					f.Owner, f.Mac, f.SrcIp, f.SrcPort = owner, guestMac(mac), guestIp(ip), 9000
					k := guests[owner]
					holdFlows(t, g, legible(*f), owner == 0 || mac == k && ip == k)
				}
			}
		}
	}
}

func TestFlowsWrittenOut(t *testing.T) {
	for _, row := range []struct {
		name string
		set  func(g *impl.Gateway)
		want bool
	}{
		{"as they are", func(g *impl.Gateway) {}, true},
		{"none", func(g *impl.Gateway) { g.Flows = nil }, true},
		{"nobody's", func(g *impl.Gateway) { g.Flows = owned(manyFlows(8), 0) }, true},
		{"nobody's, without sessions", func(g *impl.Gateway) { g.Flows, g.Guests.Sessions = owned(g.Flows, 0), nil }, true},
		{"another's owner", func(g *impl.Gateway) { g.Flows[1].Owner = 7 }, false},
		{"nobody's of a session's ends", func(g *impl.Gateway) { g.Flows[1].Owner = 0 }, true},
		{"turned round", func(g *impl.Gateway) { g.Flows[1] = turnedFlow(g.Flows[1]) }, false},
		{"the last one alone", func(g *impl.Gateway) { g.Flows[4].Mac = guestMac(1) }, false},
		{"the first one alone", func(g *impl.Gateway) { g.Flows[0].Owner = 5 }, false},
		{"two that would be right together", func(g *impl.Gateway) {
			g.Flows[1].Mac, g.Flows[4].Mac = g.Flows[4].Mac, g.Flows[1].Mac
		}, false},
		{"where they go", func(g *impl.Gateway) { g.Flows[1].DstIp, g.Flows[1].DstPort = barred, 22 }, true},
		{"their states and times", func(g *impl.Gateway) { g.Flows[1].State, g.Flows[1].Until = impl.FoClosing, 0 }, true},
		{"a session of another mac", func(g *impl.Gateway) { g.Guests.Sessions[0].Mac = guestMac(9) }, false},
		{"a session of another address", func(g *impl.Gateway) { g.Guests.Sessions[1].Ip = guestIp(9) }, false},
		{"a session of another user", func(g *impl.Gateway) { g.Guests.Sessions[0].User = 3 }, true},
		// What its role allows is not asked for.
		{"a role without rules", func(g *impl.Gateway) { g.Config.Roles[0].Rules, g.Config.Roles[1].Rules = nil, nil }, true},
		{"records that do not hold", func(g *impl.Gateway) { g.Guests.Records = nil }, true},
	} {
		g := busyGateway()
		row.set(&g)
		holdFlows(t, g, row.name, row.want)
	}
	holdFlows(t, impl.PlainGateway(), "a plain one", true)
	// Of somebody who is not there it is no right gateway.
	g := busyGateway()
	g.Flows[1].Owner = 6
	if ok, code := impl.FlowsHold(g); ok || code != impl.ErrBad {
		t.Errorf("FlowsHold of an Owner who is not there: %v, %d", ok, code)
	}
}

func holdSpent(t *testing.T, g impl.Gateway, user string, want, wantCode int) {
	t.Helper()
	if n, code := impl.SpentOf(g, user); n != want || code != wantCode {
		t.Errorf("SpentOf %.40q: %d, %d; not %d, %d", user, n, code, want, wantCode)
	}
}

func TestWhatUsersSpent(t *testing.T) {
	g := busyGateway()
	g.Guests.Sessions[1].Used = 33
	holdAll := func(spent [4]int) {
		t.Helper()
		for k, name := range []string{"ann", "bob", "cy", "dan"} {
			holdSpent(t, g, name, spent[k], impl.OK)
		}
	}
	holdAll([4]int{100, 33, 0, 0})
	// A session is its user's, wherever it stands.
	g.Guests.Sessions[0].User, g.Guests.Sessions[1].User = 3, 2
	holdAll([4]int{0, 0, 33, 100})
	g.Guests.Sessions[0].User, g.Guests.Sessions[1].User = 1, 0
	holdAll([4]int{33, 100, 0, 0})
	g.Guests.Sessions[0].Used, g.Guests.Sessions[0].Quota = 1000000, 1000000
	holdAll([4]int{33, 1000000, 0, 0})
	// What ended ones used, and what balances are, is not told.
	g.Guests.Users[0].Balance, g.Guests.Records = 0, append(g.Guests.Records, impl.Record{Id: 3, At: 20, Cause: impl.CaKick, Bytes: 77, Stop: true})
	holdAll([4]int{33, 1000000, 0, 0})
	g.Guests.Sessions, g.Flows = nil, nil
	holdAll([4]int{})
	g.Guests = crowd(3, 60)
	for k, name := range []string{"ann", "bob", "cy", "dan", "eve", "fay"} {
		holdSpent(t, g, name, []int{0, 10, 20, 0, 0, 0}[k], impl.OK)
	}
}

func TestUsersWhoAreNotThere(t *testing.T) {
	for _, g := range []impl.Gateway{impl.PlainGateway(), busyGateway()} {
		for _, name := range []string{"", "a", "an", "anna", "Ann", "ANN", " ann", "ann ", "ann\x00", "\x00", "eve", "nobody", "salt ann", "guest", "\xff", "0", "-1", strings.Repeat("ann", 100)} {
			holdSpent(t, g, name, 0, impl.ErrUser)
		}
	}
	none := impl.Gateway{Config: plainConfig(), Guests: impl.Guests{Next: 1}}
	for _, name := range []string{"", "ann"} {
		holdSpent(t, none, name, 0, impl.ErrUser)
	}
}

func TestSpentGoesByWhatIsCharged(t *testing.T) {
	g := impl.PlainGateway()
	g.Guests, _, _ = impl.Login(g.Config, g.Guests, "ann", "apple", guestMac(1), guestIp(1), 0)
	spent := 0
	for _, n := range []int{0, 1, 33, 166, 200} {
		g.Guests, _ = impl.Charge(g.Config, g.Guests, 1, n, 0)
		spent += n
		holdSpent(t, g, "ann", spent, impl.OK)
		holdSpent(t, g, "bob", 0, impl.OK)
	}
	// One more is too much: with the session what it used is gone.
	g.Guests, _ = impl.Charge(g.Config, g.Guests, 1, 1, 0)
	holdSpent(t, g, "ann", 0, impl.OK)
	holdBytes(t, g, "behind its end", true)
}
