package tests

import (
	"slices"
	"strings"
	"testing"

	"loop.example/g00356/impl"
)

// visitPacket is a segment from port 4000 of a guest to the portal at dst.
func visitPacket(k, dst, seq, ack int, letters, data string) impl.Packet {
	g := impl.Segment{SrcPort: 4000, DstPort: 80, Seq: seq, Ack: ack, Flags: flagsOf(letters), Window: 500, Data: data}
	return impl.Packet{Src: guestIp(k), Dst: dst, Proto: impl.ProTcp, Ttl: 9, Id: 8, Body: string(segmentBytes(guestIp(k), dst, g))}
}

// visited is a gateway behind a whole visit of a guest to the portal: it opens
// a connection, asks, acknowledges the page, and the connection is gone.
func visited(g impl.Gateway, k, dst int, r impl.Request) impl.Gateway {
	isn := g.Isn
	say := func(seq, ack int, letters, data string) []impl.Out {
		next, outs, _ := impl.LanIn(g, gateFrame(k, visitPacket(k, dst, seq, ack, letters, data)))
		g = next
		return outs
	}
	text := requestByHand(r)
	say(10, 0, "S", "")
	say(11, numberBehind(isn, 1), "A", "")
	size := 0
	for _, out := range say(11, numberBehind(isn, 1), "PA", text) {
		f, _ := impl.ReadFrame([]byte(out.Bytes))
		p, _ := impl.ReadPacket([]byte(f.Body))
		size += len(p.Body) - 20
	}
	say(11+len(text), numberBehind(isn, 2+size), "A", "")
	return g
}

// newConn is a connection that was greeted at isn by Seq 10.
func newConn(k, dst, isn int) impl.Conn {
	c := connOf(k, dst, connAt(impl.TcSyn, isn, 11, "", ""))
	c.Port = 4000
	return c
}

// replaced sets the connection at a place, or takes it away if it is gone.
func replaced(k int, c impl.Conn) func(g *impl.Gateway) {
	return func(g *impl.Gateway) {
		g.Conns[k] = c
		if c.State == impl.TcGone {
			g.Conns = slices.Delete(g.Conns, k, k+1)
		}
	}
}

func TestConnectionsAreOpened(t *testing.T) {
	for _, base := range []impl.Gateway{impl.PlainGateway(), busyGateway()} {
		for _, isn := range append(roundNumbers(), impl.MaxAddress-1000, impl.MaxAddress-999) {
			g := copiedGateway(base)
			g.Isn = isn
			for _, dst := range []int{g.Config.Gate, far, barred, quadOne, quadNine, 0, impl.MaxAddress} {
				for _, letters := range []string{"S", "SP"} {
					for _, data := range []string{"", "GET / HTTP/1.1\r\n\r\n"} {
						for _, ttl := range []int{0, 1, 9} {
							p := visitPacket(5, dst, 10, 99, letters, data)
							p.Ttl = ttl
							c := newConn(5, dst, isn)
							holdLan(t, g, "opening", gateFrame(5, p), impl.OK, segmentsTo(c, ourSegment(c, isn, "SA", "")), func(g *impl.Gateway) {
								g.Conns, g.Isn = append(g.Conns, c), numberBehind(isn, 1000)
							})
						}
					}
				}
			}
		}
	}
}

func TestSegmentsThatOpenNothing(t *testing.T) {
	g := busyGateway()
	for flags := range 32 {
		letters, _ := impl.FlagsText(flags)
		opens := letters == "S" || letters == "SP"
		for _, k := range []int{1, 5} {
			_, _, code := impl.LanIn(g, gateFrame(k, visitPacket(k, g.Config.Gate, 10, 0, letters, "x")))
			if (code == impl.OK) != opens {
				t.Errorf("with %s: %d", letters, code)
			}
			if !opens {
				holdLan(t, g, letters, gateFrame(k, visitPacket(k, g.Config.Gate, 10, 0, letters, "x")), impl.ErrState, nil, nil)
			}
		}
	}
}

func TestNoMoreThanMaxConns(t *testing.T) {
	for size := range 4 {
		g := busyGateway()
		g.Conns = manyConns(size)
		c := newConn(6, far, g.Isn)
		in := gateFrame(6, visitPacket(6, far, 10, 0, "S", ""))
		if size < 3 {
			holdLan(t, g, "room", in, impl.OK, segmentsTo(c, ourSegment(c, g.Isn, "SA", "")), func(g *impl.Gateway) {
				g.Conns, g.Isn = append(g.Conns, c), g.Isn+1000
			})
			continue
		}
		holdLan(t, g, "no room", in, impl.ErrFull, nil, nil)
		// ErrState comes ahead of it.
		holdLan(t, g, "no room, and no opening", gateFrame(6, visitPacket(6, far, 10, 0, "A", "")), impl.ErrState, nil, nil)
		// One that is there is taken to, all the same.
		last := g.Conns[2]
		p := tcpOf(5, far, last.Port, 80, "A", "")
		holdLan(t, g, "one that is there", gateFrame(5, p), impl.OK, nil, nil)
	}
}

// Who comes to port 80 comes to the portal without a session, or by a
// connection that is there; with a session it is forwarded.
func TestWhoComesToThePortal(t *testing.T) {
	g := busyGateway()
	p := visitPacket(1, far, 10, 0, "S", "")
	holdLan(t, g, "with a session", gateFrame(1, p), impl.OK, toWan(p), func(g *impl.Gateway) {
		charged(g, 0, 0, p)
		opened(g, guestMac(1), p, 4000, 80, 5)
	})
	holdLan(t, g, "with a session, where it may not", gateFrame(1, visitPacket(1, barred, 10, 0, "S", "")), impl.ErrRefused, nil, nil)
	c := newConn(1, g.Config.Gate, 7000)
	holdLan(t, g, "with a session, to the gate", gateFrame(1, visitPacket(1, g.Config.Gate, 10, 0, "S", "")), impl.OK, segmentsTo(c, ourSegment(c, 7000, "SA", "")), func(g *impl.Gateway) {
		g.Conns, g.Isn = append(g.Conns, c), 8000
	})
	// A connection of these ends: it was opened ahead of the session.
	for _, dst := range []int{far, barred, g.Config.Gate} {
		there := busyGateway()
		c := connOf(1, dst, connAt(impl.TcOpen, 900, 50, "", ""))
		c.Port = 4000
		there.Conns = append(there.Conns, c)
		taken := c
		taken.In, taken.Want = "GET", 53
		holdLan(t, there, "by a connection", gateFrame(1, visitPacket(1, dst, 50, 900, "A", "GET")), impl.OK, segmentsTo(c, ourSegment(taken, 900, "A", "")), replaced(2, taken))
		// Near its ends there is none.
		for _, near := range []impl.Packet{tcpOf(1, dst, 4001, 80, "A", ""), tcpOf(2, dst, 4000, 80, "A", "")} {
			k := near.Src - guestIp(0)
			if dst == there.Config.Gate {
				holdLan(t, there, "near a connection, at the gate", gateFrame(k, near), impl.ErrState, nil, nil)
			} else if dst == far {
				if _, outs, code := impl.LanIn(there, gateFrame(k, near)); code != impl.OK || !slices.Equal(outs, toWan(near)) {
					t.Errorf("near a connection: %d, %s", code, legible(outs))
				}
			}
		}
		// Another port, or another proto, is not of these ends.
		u := udpOf(1, far, 4000, 80, "x")
		if _, outs, code := impl.LanIn(there, gateFrame(1, u)); code != impl.OK || !slices.Equal(outs, toWan(u)) {
			t.Errorf("a datagram: %d, %s", code, legible(outs))
		}
	}
}

func TestConnectionsOfAnotherMac(t *testing.T) {
	g := busyGateway()
	for flags := range 32 {
		letters, _ := impl.FlagsText(flags)
		for _, data := range []string{"", "GET / HTTP/1.1\r\n\r\n"} {
			p := tcpOf(3, far, 1000, 80, letters, data)
			holdLan(t, g, "another mac", gateFrame(5, p), impl.ErrRefused, nil, nil)
		}
	}
	// Who takes over a session's address ends the session, refused or not.
	g.Conns[0] = connOf(1, far, g.Conns[0])
	holdLan(t, g, "another mac of an address with a session", gateFrame(5, tcpOf(1, far, 1000, 80, "A", "x")), impl.ErrRefused, nil, func(g *impl.Gateway) {
		*g = endedBy(*g, 0, impl.CaMoved)
	})
}

// takes holds a segment of guest 5 to its connection at the last place: what
// becomes of it, and what is told.
func takes(t *testing.T, g impl.Gateway, name string, p impl.Packet, next impl.Conn, told []impl.Segment, change func(g *impl.Gateway)) impl.Gateway {
	t.Helper()
	k := len(g.Conns) - 1
	return holdLan(t, g, name, gateFrame(5, p), impl.OK, segmentsTo(g.Conns[k], told...), func(g *impl.Gateway) {
		if change != nil {
			change(g)
		}
		replaced(k, next)(g)
	})
}

// pageOf is a connection that said a page, and what it tells.
func pageOf(c impl.Conn, status int, where, body string) (impl.Conn, []impl.Segment) {
	page := pageByHand(status, where, body)
	said := c
	said.State, said.Fin, said.Out, said.Next = impl.TcLast, true, page, numberBehind(c.Una, len(page)+1)
	return said, saidByHand(said)
}

// A whole visit, segment by segment, with numbers that go round in it.
func TestAVisitToThePortal(t *testing.T) {
	for _, isn := range roundNumbers() {
		for _, dst := range []int{far, plainConfig().Gate} {
			g := impl.PlainGateway()
			g.Isn = isn
			login := requestByHand(postOf("/login", "name=ann&word=apple"))
			g, _, _ = impl.LanIn(g, gateFrame(5, visitPacket(5, dst, 10, 0, "S", "")))
			c := newConn(5, dst, isn)
			first := numberBehind(isn, 1)
			greeted := ourSegment(c, isn, "SA", "")
			g = takes(t, g, "the greeting again", visitPacket(5, dst, 10, 0, "S", ""), c, []impl.Segment{greeted}, nil)
			g = takes(t, g, "data ahead of the greeting's end", visitPacket(5, dst, 11, isn, "A", login), c, nil, nil)
			c.State, c.Una = impl.TcOpen, first
			g = takes(t, g, "the greeting's end", visitPacket(5, dst, 11, first, "A", ""), c, nil, nil)
			g = takes(t, g, "data of later", visitPacket(5, dst, 31, first, "A", login[20:]), c, []impl.Segment{ourSegment(c, first, "A", "")}, nil)
			c.In, c.Want = login[:20], 31
			g = takes(t, g, "the first half", visitPacket(5, dst, 11, first, "PA", login[:20]), c, []impl.Segment{ourSegment(c, first, "A", "")}, nil)
			g = takes(t, g, "the first half again", visitPacket(5, dst, 11, first, "PA", login[:20]), c, []impl.Segment{ourSegment(c, first, "A", "")}, nil)
			c.In, c.Want = "", 11+len(login)
			said, page := pageOf(c, 200, "", "welcome, session 1")
			told := append([]impl.Segment{ourSegment(c, first, "A", "")}, page...)
			g = takes(t, g, "the last half", visitPacket(5, dst, 31, first, "PA", login[20:]), said, told, func(g *impl.Gateway) {
				g.Guests.Sessions = []impl.Session{{Id: 1, Mac: guestMac(5), Ip: guestIp(5), Quota: 400, Until: 40, Idle: 10}}
				g.Guests.Records = []impl.Record{{Id: 1}}
				g.Guests.Users[0].Logins--
				g.Guests.Next++
			})
			c, said.Una, said.Out = said, numberBehind(said.Una, 30), said.Out[30:]
			g = takes(t, g, "a part of the page", visitPacket(5, dst, c.Want, said.Una, "A", ""), said, nil, nil)
			_, outs, code := impl.TickGate(g)
			if code != impl.OK || !slices.Equal(outs, segmentsTo(said, saidByHand(said)...)) {
				t.Errorf("what was not acknowledged: %d, %s", code, legible(outs))
			}
			gone := said
			gone.State = impl.TcGone
			g = takes(t, g, "all of the page", visitPacket(5, dst, c.Want, said.Next, "A", ""), gone, nil, nil)
			if len(g.Conns) != 0 || len(g.Guests.Sessions) != 1 || g.Drops != 0 {
				t.Errorf("behind the visit: %s", legible(g))
			}
		}
	}
}

// asked is a gateway with an open connection of guest k at the last place,
// which has taken in some of a text.
func asked(base impl.Gateway, k int, in string) impl.Gateway {
	g := copiedGateway(base)
	c := connOf(k, g.Config.Gate, connAt(impl.TcOpen, 900, 50, in, ""))
	c.Port = 4000
	g.Conns = append(g.Conns, c)
	return g
}

func TestPagesAreSaid(t *testing.T) {
	for name, row := range map[string]struct {
		text, where string
		status      int
		body        string
	}{
		"the login page": {requestByHand(getOf("/login")), "", 200, "name and word, please"},
		"no status":      {requestByHand(getOf("/status")), "", 200, "no session"},
		"elsewhere":      {requestByHand(getOf("/")), "/login", 302, ""},
		"no logout":      {requestByHand(postOf("/logout", "")), "", 403, "no session"},
		"no form":        {requestByHand(postOf("/login", "name")), "", 400, ""},
		"nothing there":  {requestByHand(postOf("/other", "")), "", 404, ""},
		"no method":      {"PUT / HTTP/1.1\r\n\r\n", "", 400, "method"},
		"no request":     {"junk\r\n\r\n", "", 400, "form"},
		"too long":       {strings.Repeat("x", 201), "", 400, "long"},
	} {
		base := asked(busyGateway(), 5, "")
		k := len(base.Conns) - 1
		for _, letters := range []string{"A", "PA", "FA"} {
			c := base.Conns[k]
			c.Want += len(row.text)
			if letters == "FA" {
				c.Want++
			}
			said, page := pageOf(c, row.status, row.where, row.body)
			told := append([]impl.Segment{ourSegment(c, 900, "A", "")}, page...)
			takes(t, base, name, visitPacket(5, base.Config.Gate, 50, 900, letters, row.text), said, told, nil)
		}
		// What was taken in is looked at whatever the segment has; an
		// acknowledgement alone is not answered for itself.
		waiting := asked(busyGateway(), 5, row.text)
		c := waiting.Conns[k]
		c.In = ""
		said, page := pageOf(c, row.status, row.where, row.body)
		takes(t, waiting, name+", waiting", visitPacket(5, base.Config.Gate, 50, 900, "A", ""), said, page, nil)
	}
}

// What stands behind a request is kept; of what is none all is taken off.
func TestWhatIsReadIsTakenOff(t *testing.T) {
	status := requestByHand(getOf("/status"))
	for _, behind := range []string{"", "x", status} {
		g := asked(busyGateway(), 5, status+behind)
		c := g.Conns[2]
		c.In = behind
		said, page := pageOf(c, 200, "", "no session")
		g = takes(t, g, "with more behind", visitPacket(5, g.Config.Gate, 50, 900, "A", ""), said, page, nil)
		// One page is said: a connection that has said its last asks nothing more.
		takes(t, g, "behind its page", visitPacket(5, g.Config.Gate, 50, 900, "A", ""), said, nil, nil)
	}
	g := asked(busyGateway(), 5, "junk\r\n\r\n"+status)
	c := g.Conns[2]
	c.In = ""
	said, page := pageOf(c, 400, "", "form")
	takes(t, g, "no request", visitPacket(5, g.Config.Gate, 50, 900, "A", ""), said, page, nil)
}

func TestMoreIsWaitedFor(t *testing.T) {
	text := requestByHand(postOf("/login", "name=dan&word=dates"))
	for size := 1; size < len(text); size++ {
		g := asked(busyGateway(), 5, "")
		c := g.Conns[2]
		c.In, c.Want = text[:size], 50+size
		takes(t, g, "cut", visitPacket(5, g.Config.Gate, 50, 900, "A", text[:size]), c, []impl.Segment{ourSegment(c, 900, "A", "")}, nil)
		takes(t, asked(busyGateway(), 5, text[:size]), "waiting", visitPacket(5, g.Config.Gate, 50, 900, "A", ""), asked(busyGateway(), 5, text[:size]).Conns[2], nil, nil)
	}
}

// A segment that acknowledges the greeting may ask already.
func TestTheGreetingsEndMayAsk(t *testing.T) {
	text := requestByHand(getOf("/status"))
	g := busyGateway()
	c := newConn(5, far, 900)
	g.Conns = append(g.Conns, c)
	c.State, c.Una, c.Want = impl.TcOpen, 901, 11+len(text)
	said, page := pageOf(c, 200, "", "no session")
	told := append([]impl.Segment{ourSegment(c, 901, "A", "")}, page...)
	takes(t, g, "both", visitPacket(5, far, 11, 901, "A", text), said, told, nil)
}

func TestConnectionsThatAreGoneAreTakenAway(t *testing.T) {
	g := asked(busyGateway(), 5, "GET")
	gate := g.Config.Gate
	gone := g.Conns[2]
	gone.State = impl.TcGone
	takes(t, g, "broken", visitPacket(5, gate, 50, 0, "R", ""), gone, nil, nil)
	takes(t, g, "broken elsewhere", visitPacket(5, gate, 51, 0, "R", ""), g.Conns[2], nil, nil)
	// The last of its page is acknowledged: from between two others.
	p := tcpOf(4, barred, 1000, 80, "A", "")
	holdLan(t, g, "acknowledged", gateFrame(4, p), impl.OK, nil, nil)
	last := impl.Segment{SrcPort: 1000, DstPort: 80, Seq: 60, Ack: 4, Flags: impl.FlAck}
	p.Body = string(segmentBytes(p.Src, p.Dst, last))
	holdLan(t, g, "acknowledged to its end", gateFrame(4, p), impl.OK, nil, func(g *impl.Gateway) { g.Conns = slices.Delete(g.Conns, 1, 2) })
	// There is room for another one then, which is laid behind.
	next, _, _ := impl.LanIn(g, gateFrame(4, p))
	c := newConn(6, far, 7000)
	holdLan(t, next, "another", gateFrame(6, visitPacket(6, far, 10, 0, "S", "")), impl.OK, segmentsTo(c, ourSegment(c, 7000, "SA", "")), func(g *impl.Gateway) {
		g.Conns, g.Isn = append(g.Conns, c), 8000
	})
}

func TestLoginsByThePortal(t *testing.T) {
	login := func(name, word string) string {
		return requestByHand(postOf("/login", formByHand([]impl.Pair{{Key: "name", Value: name}, {Key: "word", Value: word}})))
	}
	hold := func(name, text string, k, status int, body string, change func(g *impl.Gateway)) {
		t.Helper()
		g := asked(busyGateway(), k, "")
		c := g.Conns[2]
		c.Want += len(text)
		said, page := pageOf(c, status, "", body)
		told := append([]impl.Segment{ourSegment(c, 900, "A", "")}, page...)
		holdLan(t, g, name, gateFrame(k, visitPacket(k, g.Config.Gate, 50, 900, "A", text)), impl.OK, segmentsTo(c, told...), func(g *impl.Gateway) {
			if change != nil {
				change(g)
			}
			g.Conns[2] = said
		})
	}
	hold("a right word", login("dan", "dates"), 5, 200, "welcome, session 9", func(g *impl.Gateway) { g.Guests = begun(g.Guests, visitorOf(5, 25)) })
	hold("a wrong word", login("dan", "apple"), 5, 403, "user", func(g *impl.Gateway) {
		g.Guests.Fails = append(g.Guests.Fails, impl.Fail{Mac: guestMac(5), Count: 1})
	})
	hold("the third wrong word", login("dan", "apple"), 3, 403, "user", func(g *impl.Gateway) {
		g.Guests.Fails[0] = impl.Fail{Mac: guestMac(3), Until: 35}
	})
	hold("one who must wait", login("dan", "dates"), 4, 429, "", nil)
	hold("one who is there", login("bob", "berry"), 5, 403, "twice", nil)
	hold("one with a session", login("dan", "dates"), 1, 403, "twice", nil)
	hold("a status", requestByHand(getOf("/status")), 1, 200, "session 5 of ann, 300 left, 25 ticks", nil)
	// With the session its flows end.
	hold("a logout", requestByHand(postOf("/logout", "")), 1, 200, "bye", func(g *impl.Gateway) { *g = endedBy(*g, 0, impl.CaLogout) })
	hold("another's logout", requestByHand(postOf("/logout", "")), 2, 200, "bye", func(g *impl.Gateway) { *g = endedBy(*g, 1, impl.CaLogout) })
}

func TestNoMoreThanMaxSessionsByThePortal(t *testing.T) {
	base := busyGateway()
	base.Guests, base.Flows = crowd(3, 0), nil
	text := requestByHand(postOf("/login", "name=dan&word=dates"))
	g := asked(base, 5, "")
	c := g.Conns[2]
	c.Want += len(text)
	said, page := pageOf(c, 503, "", "")
	told := append([]impl.Segment{ourSegment(c, 900, "A", "")}, page...)
	takes(t, g, "full", visitPacket(5, g.Config.Gate, 50, 900, "A", text), said, told, nil)
}

// The theorem of liveness: a guest who logs in by the portal can send what its
// role allows, and no more; what it sends is answered.
func TestWhoLogsInMaySend(t *testing.T) {
	for user, word := range map[string]string{"ann": "apple", "bob": "berry", "ticket": "12345"} {
		for _, dst := range []int{far, barred, quadNine, plainConfig().Gate} {
			for _, k := range []int{1, 7, 0xfe} {
				g := visited(impl.PlainGateway(), k, dst, postOf("/login", "name="+user+"&word="+word))
				if len(g.Guests.Sessions) != 1 || len(g.Conns) != 0 || g.Drops != 0 {
					t.Fatalf("%s by %d: %s, %s", user, k, legible(g.Guests.Sessions), legible(g.Conns))
				}
				holdLiveness(t, g, k)
			}
		}
	}
	// Who has a wrong word may send nothing.
	for _, body := range []string{"name=ann&word=berry", "name=eve&word=apple", ""} {
		g := visited(impl.PlainGateway(), 1, far, postOf("/login", body))
		holdLan(t, g, "behind a wrong word", gateFrame(1, tcpOf(1, far, 1000, 443, "S", "")), impl.ErrUser, nil, nil)
	}
}

func holdLiveness(t *testing.T, g impl.Gateway, k int) {
	t.Helper()
	role := g.Config.Roles[slices.IndexFunc(g.Config.Roles, func(r impl.Role) bool {
		return r.Name == g.Guests.Users[g.Guests.Sessions[0].User].Role
	})]
	for _, dst := range []int{far, barred, quadOne, 0, impl.MaxAddress} {
		for _, port := range []int{0, 22, 79, 80, 81, 442, 443, 444, 65535} {
			for _, p := range []impl.Packet{tcpOf(k, dst, 5000, port, "S", ""), udpOf(k, dst, 5000, port, "x"), icmpOf(k, dst, 5000, "x")} {
				to := port
				if p.Proto == impl.ProIcmp {
					to = 0
				}
				_, _, allow := firstByHand(role.Rules, p.Proto, dst, to)
				next, outs, code := impl.LanIn(g, gateFrame(k, p))
				if !allow {
					if code != impl.ErrRefused || len(outs) != 0 {
						t.Errorf("%d to %x, port %d: %d, %s", p.Proto, dst, port, code, legible(outs))
					}
					continue
				}
				if code != impl.OK || !slices.Equal(outs, toWan(p)) {
					t.Errorf("%d to %x, port %d: %d, %s", p.Proto, dst, port, code, legible(outs))
				}
				answer := flowAnswer(impl.Flow{Proto: p.Proto, SrcIp: p.Src, SrcPort: 5000, DstIp: dst, DstPort: to}, "SA", "")
				if _, outs, code := impl.WanIn(next, wanFrame(answer)); code != impl.OK && code != impl.ErrSpent || code == impl.OK && !slices.Equal(outs, toGuest(k, answer)) {
					t.Errorf("back, %d from %x, port %d: %d, %s", p.Proto, dst, port, code, legible(outs))
				}
			}
		}
	}
}
