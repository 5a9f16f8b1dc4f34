package tests

import (
	"fmt"
	"strings"
	"testing"

	"loop.example/g00356/impl"
)

// linesByHand are the lines of a text.
func linesByHand(text string) []string {
	var lines []string
	for text != "" {
		line, rest, _ := strings.Cut(text, "\n")
		lines, text = append(lines, line), rest
	}
	return lines
}

// spokenByHand is what a console must say to lines that it takes.
func spokenByHand(lines []string) string {
	g := impl.PlainGateway()
	g.Isn = 100
	said := ""
	for _, line := range lines {
		var told string
		g, told = toldByHand(g, line)
		said += told
	}
	return said
}

// toldByHand is what a line does, and what is said to it.
func toldByHand(g impl.Gateway, line string) (impl.Gateway, string) {
	switch word := strings.Trim(line, " "); {
	case word == "" || word[0] == '#':
		return g, ""
	case word == "records":
		return g, recordsByHand(g.Guests.Records)
	}
	a, code := actByHand(line)
	if code != impl.OK {
		return g, "error form\n"
	}
	next, outs, code := doneByHand(g, a)
	if code != impl.OK {
		return next, "error " + codeRows()[code].word + "\n"
	}
	said := "ok\n"
	for _, o := range outs {
		said += outByHand(o) + "\n"
	}
	return next, said
}

func recordsByHand(list []impl.Record) string {
	said := ""
	for _, r := range list {
		said += fmt.Sprintf("%d session %d", r.At, r.Id)
		if r.Stop {
			cause := []string{"", "logout", "idle", "time", "quota", "moved", "kick"}[r.Cause]
			said += fmt.Sprintf(" %s %d", cause, r.Bytes)
		}
		said += "\n"
	}
	return said + "end\n"
}

func holdSaid(t *testing.T, name, text, want string, wantCode int) {
	t.Helper()
	if said, code := impl.Console(text); said != want || code != wantCode {
		t.Errorf("Console, %s: %d\n%.3000s; not %d\n%.3000s", name, code, said, wantCode, want)
	}
}

// loginLines has a guest log in, by the first connection from its number on.
func loginLines(guest int, name, word string) []string {
	return []string{"isn 100", fmt.Sprintf("syn %d 10.0.0.1 80", guest), fmt.Sprintf("say %d 10.0.0.1 POST /login name=%s&word=%s", guest, name, word)}
}

func repeated(line string, count int) []string {
	lines := make([]string, count)
	for k := range lines {
		lines[k] = line
	}
	return lines
}

func TestConsoleConstants(t *testing.T) {
	if impl.MaxLines != 60 {
		t.Error(impl.MaxLines)
	}
}

// A guest comes, asks, logs in, sends, is answered, and logs out.
func TestConsoleOfAVisit(t *testing.T) {
	rows := []struct{ line, said string }{
		{"arp 3", "ok\nlan arp 02:00:00:00:00:03\n"},
		{"  # a guest comes", ""},
		{"dns 1 www.example.com", "ok\nwan 10.0.0.2 1.1.1.1 17 1000 53\n"},
		{"send 1 5.5.5.5 443 x", "error user\n"},
		{"send 1 9.9.9.9 443 abc", "ok\nwan 10.0.0.2 9.9.9.9 6 1000 443 A 3\n"},
		{"say 1 10.0.0.1 GET /status", "error state\n"},
		{"syn 1 10.0.0.1 80", "ok\nlan 10.0.0.1 10.0.0.2 6 80 1000 SA 0\n"},
		{"isn 100", "ok\n"},
		{"syn 1 7.7.7.7 80", "ok\nlan 7.7.7.7 10.0.0.2 6 80 1000 SA 0\n"},
		{"isn 100", "ok\n"},
		{"syn 1 8.8.8.8 80", "ok\nlan 8.8.8.8 10.0.0.2 6 80 1000 SA 0\n"},
		{"syn 2 8.8.8.8 80", "error full\n"},
		{"say 1 10.0.0.1 GET /status", "ok\nlan 10.0.0.1 10.0.0.2 6 80 1000 A 0\nlan 10.0.0.1 10.0.0.2 6 80 1000 PA 68\nlan 10.0.0.1 10.0.0.2 6 80 1000 FA 0\n"},
		{"records", "end\n"},
		{"say 1 7.7.7.7 POST /login name=ann&word=apple", "ok\nlan 7.7.7.7 10.0.0.2 6 80 1000 A 0\nlan 7.7.7.7 10.0.0.2 6 80 1000 PA 76\nlan 7.7.7.7 10.0.0.2 6 80 1000 FA 0\n"},
		{"records", "0 session 1\nend\n"},
		{"", ""},
		{"tick", "ok\n" +
			"lan 10.0.0.1 10.0.0.2 6 80 1000 PA 68\nlan 10.0.0.1 10.0.0.2 6 80 1000 FA 0\n" +
			"lan 7.7.7.7 10.0.0.2 6 80 1000 PA 76\nlan 7.7.7.7 10.0.0.2 6 80 1000 FA 0\n" +
			"lan 8.8.8.8 10.0.0.2 6 80 1000 SA 0\n"},
		{"syn 1 5.5.5.5 443", "ok\nwan 10.0.0.2 5.5.5.5 6 1000 443 S 0\n"},
		{"answer 5.5.5.5 1 443 hello", "ok\nlan 5.5.5.5 10.0.0.2 6 443 1000 A 5\n"},
		{"answer 5.5.5.5 2 443 hello", "error none\n"},
		{"answer 5.5.5.5 1 444 hello", "error none\n"},
		{"send 1 5.5.5.5 22 x", "error refused\n"},
		{"send 1 5.5.6.7 443 x", "error refused\n"},
		{"send 1 10.0.0.3 443 x", "error refused\n"},
		{"send 1 5.5.5.5 443 " + strings.Repeat("x", 100), "ok\nwan 10.0.0.2 5.5.5.5 6 1000 443 A 100\n"},
		{"kick 2", "error none\n"},
		{"kick -1", "error none\n"},
		{"isn -1", "error range\n"},
		{"isn 4294967296", "error range\n"},
		{"tick tock", "error form\n"},
		{"say 1 8.8.8.8 POST /logout", "ok\nlan 8.8.8.8 10.0.0.2 6 80 1000 A 0\nlan 8.8.8.8 10.0.0.2 6 80 1000 PA 60\nlan 8.8.8.8 10.0.0.2 6 80 1000 FA 0\n"},
		{"records", "0 session 1\n1 session 1 logout 165\nend\n"},
		{"answer 5.5.5.5 1 443 late", "error none\n"},
		{"send 1 5.5.5.5 443 late", "error user\n"},
		{"kick 1", "error none\n"},
	}
	text, want := "", ""
	for k, row := range rows {
		text, want = text+row.line+"\n", want+row.said
		holdSaid(t, fmt.Sprintf("up to line %d", k), text, want, impl.OK)
		holdSaid(t, fmt.Sprintf("up to line %d, without its end", k), strings.TrimSuffix(text, "\n"), want, impl.OK)
		if t.Failed() {
			break
		}
	}
	if by := spokenByHand(linesByHand(text)); by != want {
		t.Errorf("the words say\n%s", by)
	}
}

// Records tell of the beginning of a session, and of each end that a line may
// bring: a guest of the console has one mac and one address, and never moves.
func TestRecordsOfEachEnd(t *testing.T) {
	send, most := "send 1 5.5.5.5 443 hello", "send 1 5.5.5.5 443 "+strings.Repeat("x", 100)
	var lively []string
	for range 4 {
		lively = append(append(lively, repeated("tick", 9)...), send)
	}
	for name, row := range map[string]struct {
		lines []string
		want  string
	}{
		"a beginning": {nil, ""},
		"a logout":    {[]string{send, "say 1 7.7.7.7 POST /logout"}, "0 session 1 logout 25\n"},
		"idle":        {append([]string{"tick", send}, repeated("tick", 10)...), "11 session 1 idle 25\n"},
		"not idle":    {append([]string{"tick", send}, repeated("tick", 9)...), ""},
		"time":        {append(lively, repeated("tick", 4)...), "40 session 1 time 100\n"},
		"not time":    {append(lively, repeated("tick", 3)...), ""},
		"quota":       {repeated(most, 4), "0 session 1 quota 360\n"},
		"not quota":   {repeated(most, 3), ""},
		"by answers":  {append([]string{send}, repeated("answer 5.5.5.5 1 443 "+strings.Repeat("x", 100), 4)...), "0 session 1 quota 385\n"},
		"a kick":      {[]string{send, "tick", "kick 1"}, "1 session 1 kick 25\n"},
		"a kick more": {[]string{send, "tick", "kick 1", "tick", "kick 1"}, "1 session 1 kick 25\n"},
	} {
		lines := append([]string{"syn 1 7.7.7.7 80"}, loginLines(1, "ann", "apple")...)
		lines = append(append(lines, row.lines...), "records")
		said, code := impl.Console(strings.Join(lines, "\n"))
		if want := "\n0 session 1\n" + row.want + "end\n"; code != impl.OK || !strings.HasSuffix(said, want) || said != spokenByHand(lines) {
			t.Errorf("%s: %d\n%s", name, code, said)
		}
	}
}

// Who logs in again has another Id; records keep their order.
func TestRecordsOfManySessions(t *testing.T) {
	var lines []string
	for guest, name := range []string{"ann&word=apple", "bob&word=berry", "ticket&word=12345"} {
		lines = append(lines, "isn 100", fmt.Sprintf("syn %d 10.0.0.1 80", guest+1), fmt.Sprintf("say %d 10.0.0.1 POST /login name=%s", guest+1, name), "tick")
	}
	lines = append(lines, "send 2 5.5.6.7 22 hello", "send 3 5.5.5.5 443 hello", "send 3 5.5.5.5 443 hello", "send 3 5.5.5.5 443 hello", "kick 2", "records", "kick 1", "records")
	want := "0 session 1\n1 session 2\n2 session 3\n3 session 3 quota 50\n3 session 2 kick 25\nend\nok\n" +
		"0 session 1\n1 session 2\n2 session 3\n3 session 3 quota 50\n3 session 2 kick 25\n3 session 1 kick 0\nend\n"
	said, code := impl.Console(strings.Join(lines, "\n"))
	if code != impl.OK || !strings.HasSuffix(said, "error spent\nok\n"+want) || said != spokenByHand(lines) {
		t.Errorf("%d\n%s", code, said)
	}
}

// Texts that say nothing have nothing said to them.
func TestTextsThatSayNothing(t *testing.T) {
	for _, text := range []string{"", "\n", "\n\n", " ", " \n", "\n ", "   \n\n  \n", "#", "#\n", "# tick", "  # tick\n", "#tick\n#\n # records", "##", "#\x00\xff", "# go\n\n",
		strings.Repeat("\n", 60), strings.Repeat(" \n", 60), strings.Repeat("#\n", 60), strings.Repeat("\n", 59) + " ", strings.Repeat(" ", impl.MaxText), "#" + strings.Repeat("x", impl.MaxText-1)} {
		holdSaid(t, fmt.Sprintf("%.30q", text), text, "", impl.OK)
	}
}

// A `#` that does not begin the first word is a byte as others are.
func TestRemarksWithinWords(t *testing.T) {
	for line, want := range map[string]string{
		"tick#": "error form\n", "tick #": "error form\n", "tick # now": "error form\n", "\t# tick": "error form\n", "\xa0#": "error form\n", "x#": "error form\n",
		"arp #": "error form\n", "isn #1": "error form\n", "records #": "error form\n", "records#": "error form\n",
		"send 1 9.9.9.9 443 #": "ok\nwan 10.0.0.2 9.9.9.9 6 1000 443 A 1\n", "send 1 9.9.9.9 443 a#b": "ok\nwan 10.0.0.2 9.9.9.9 6 1000 443 A 3\n",
		" #send 1 9.9.9.9 443 a#b": "", "#\ttick": "",
	} {
		holdSaid(t, fmt.Sprintf("%q", line), line, want, impl.OK)
		holdSaid(t, fmt.Sprintf("%q, and a tick", line), line+"\ntick", want+"ok\n", impl.OK)
	}
}

// Bytes 10 alone end lines; what stands behind the last one is a line if it
// has a byte.
func TestEndsOfLines(t *testing.T) {
	for text, want := range map[string]string{
		"tick": "ok\n", "tick\n": "ok\n", "tick\n\n": "ok\n", "\ntick": "ok\n", "\n\ntick\n\n": "ok\n", "tick\ntick": "ok\nok\n", "tick\n\ntick\n": "ok\nok\n", "tick\n ": "ok\n",
		"tick\nx": "ok\nerror form\n", "tick\n\t": "ok\nerror form\n", "tick\n\x00": "ok\nerror form\n",
		"tick\r\ntick\r\n": "error form\nerror form\n", "tick\rtick": "error form\n", "tick\x85tick": "error form\n", "tick\u2028tick": "error form\n", "tick\vtick\ntick": "error form\nok\n",
		"records": "end\n", "records\nrecords\n": "end\nend\n", " records ": "end\n", "records now\nrecords": "error form\nend\n", "end": "error form\n",
		"  arp   2  ": "ok\nlan arp 02:00:00:00:00:02\n", "arp\t2": "error form\n", "arp\xa02": "error form\n", "arp\u00a02": "error form\n", "arp \u00a02": "error form\n",
		"arp 0\narp 1\narp 2\narp 3\narp 4": "error form\nok\nlan arp 02:00:00:00:00:01\nok\nlan arp 02:00:00:00:00:02\nok\nlan arp 02:00:00:00:00:03\nerror form\n",
	} {
		holdSaid(t, fmt.Sprintf("%q", text), text, want, impl.OK)
	}
}

// Each line counts, be it one of nothing or a wrong one.
func TestLinesTooMany(t *testing.T) {
	for _, line := range []string{"tick", "", " ", "#", "x", "records", "kick 1", "isn 5", "arp 1", "send 1 9.9.9.9 443 x"} {
		for _, size := range []int{1, 2, 58, 59, 60, 61, 62, 100, 1000} {
			lines := repeated(line, size)
			text := strings.Join(lines, "\n") + "\n"
			want, code := "", impl.ErrMany
			if size <= 60 {
				want, code = spokenByHand(lines), impl.OK
			}
			holdSaid(t, fmt.Sprintf("%d of %q", size, line), text, want, code)
			if line != "" {
				holdSaid(t, fmt.Sprintf("%d of %q, without its end", size, line), strings.TrimSuffix(text, "\n"), want, code)
			}
			// One byte more behind the last byte 10 is a line more.
			want, code = "", impl.ErrMany
			if size < 60 {
				want, code = spokenByHand(lines), impl.OK
			}
			holdSaid(t, fmt.Sprintf("%d of %q and a blank", size, line), text+" ", want, code)
			holdSaid(t, fmt.Sprintf("%d of %q and an empty line", size, line), text+"\n", want, code)
		}
	}
}

// ErrLong comes ahead of ErrMany, and ErrMany of what any line says.
func TestFaultsOfTextsInTheirOrder(t *testing.T) {
	for _, line := range []string{"\n", "tick\n", "x\n", "#\n", " \n", "records\n", "kick 1\n"} {
		long := strings.Repeat(line, impl.MaxText+1)
		holdSaid(t, fmt.Sprintf("many of %q", line), long[:impl.MaxText], "", impl.ErrMany)
		holdSaid(t, fmt.Sprintf("many of %q, too long", line), long[:impl.MaxText+1], "", impl.ErrLong)
		holdSaid(t, fmt.Sprintf("too long, %q first", line), line+strings.Repeat(" ", impl.MaxText), "", impl.ErrLong)
		for _, lines := range []int{1, 59, 60, 61} {
			text := strings.Repeat(line, lines-1)
			text += strings.Repeat(" ", impl.MaxText-len(text))
			want, code := spokenByHand(linesByHand(text)), impl.OK
			if lines > 60 {
				want, code = "", impl.ErrMany
			}
			holdSaid(t, fmt.Sprintf("%d lines of %q, as long as may be", lines, line), text, want, code)
			holdSaid(t, fmt.Sprintf("%d lines of %q, a byte more", lines, line), text+" ", "", impl.ErrLong)
			holdSaid(t, fmt.Sprintf("%d lines of %q, a byte 10 more", lines, line), text+"\n", "", impl.ErrLong)
		}
	}
	for _, size := range []int{impl.MaxText - 1, impl.MaxText} {
		holdSaid(t, "a long line that is none", strings.Repeat("x", size), "error form\n", impl.OK)
		holdSaid(t, "a tick with blanks ahead", strings.Repeat(" ", size-4)+"tick", "ok\n", impl.OK)
		holdSaid(t, "a tick with blanks behind", "tick"+strings.Repeat(" ", size-5)+"\n", "ok\n", impl.OK)
	}
	holdSaid(t, "twice too long", strings.Repeat("x", 2*impl.MaxText), "", impl.ErrLong)
}
