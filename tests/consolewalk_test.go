package tests

import (
	"fmt"
	"math/rand"
	"slices"
	"strings"
	"testing"

	"loop.example/g00356/impl"
)

// randomLines are some lines that belong together, mostly right ones that meet
// what is there.
func randomLines(chance *rand.Rand) []string {
	guest := choice(chance, 1, 1, 2, 3)
	address := choice(chance, "5.5.5.5", "5.5.5.5", "5.5.5.5", "5.5.6.7", "9.9.9.9", "10.0.0.1", "10.0.0.3", "1.1.1.1")
	port := choice(chance, 443, 443, 443, 80, 22)
	text := strings.Repeat("x", choice(chance, 1, 5, 50, 100))
	name := choice(chance, "ann&word=apple", "ann&word=apple", "bob&word=berry", "ticket&word=12345", "ann&word=wrong", "eve&word=elder")
	dst := choice(chance, "10.0.0.1", "10.0.0.1", "7.7.7.7", "8.8.8.8")
	switch n := chance.Intn(20); {
	case n < 3:
		return []string{"isn 100", fmt.Sprintf("syn %d %s 80", guest, dst), fmt.Sprintf("say %d %s POST /login name=%s", guest, dst, name)}
	case n == 3:
		// Who is to log out needs another connection, opened ahead of the login.
		login := []string{"isn 100", fmt.Sprintf("syn %d 7.7.7.7 80", guest)}
		login = append(login, loginLines(guest, "bob", "berry")...)
		return append(login, fmt.Sprintf("send %d 5.5.6.7 22 %s", guest, text), fmt.Sprintf("say %d 7.7.7.7 POST /logout", guest))
	case n == 4:
		return []string{fmt.Sprintf("say %d %s %s", guest, dst, choice(chance, "GET /status", "POST /logout", "POST /logout", "GET /", "POST /status", "POST /login x", "PUT /"))}
	case n < 8:
		return []string{fmt.Sprintf("syn %d %s %d", guest, address, port)}
	case n < 11:
		return []string{fmt.Sprintf("send %d %s %d %s", guest, address, port, text)}
	case n < 13:
		return []string{fmt.Sprintf("answer %s %d %d %s", address, guest, port, text)}
	case n == 13:
		return repeated("tick", choice(chance, 1, 1, 2, 5, 10))
	case n == 14:
		return []string{fmt.Sprintf("kick %d", chance.Intn(4)), fmt.Sprintf("isn %d", choice(chance, -1, 0, 100, impl.MaxAddress, impl.MaxAddress+1))}
	case n == 15:
		return []string{"records"}
	case n == 16:
		return []string{fmt.Sprintf("arp %d", guest), fmt.Sprintf("dns %d %s", guest, choice(chance, "a.b", "www.example.com", ".."))}
	case n == 17:
		return []string{choice(chance, "", "  ", "#", "# tick", "  #kick 1")}
	}
	return []string{oddLine(chance)}
}

// randomText is as many lines as a console takes, at most.
func randomText(chance *rand.Rand, size int) []string {
	var lines []string
	for len(lines) < size {
		lines = append(lines, randomLines(chance)...)
	}
	return lines[:size]
}

// textOf ends each line by a byte 10.
func textOf(lines []string) string {
	text := ""
	for _, line := range lines {
		text += line + "\n"
	}
	return text
}

// Promise 17: what is said to the first lines of a text is what is said to
// them alone, whatever stands behind them; and what is said to all of them is
// what the words say.
func TestLaterLinesChangeNothingSaid(t *testing.T) {
	met := map[string]int{}
	for seed := range 150 {
		chance := rand.New(rand.NewSource(int64(7000 + seed)))
		lines := randomText(chance, 60)
		whole, code := impl.Console(textOf(lines))
		if want := spokenByHand(lines); whole != want || code != impl.OK {
			t.Fatalf("seed %d: %d\n%s; not\n%s; of\n%s", seed, code, whole, want, textOf(lines))
		}
		for _, said := range strings.Split(whole, "\n") {
			words := strings.Fields(said + " .")
			met[strings.Join(words[:min(2, len(words)-1)], " ")]++
		}
		before := ""
		for size := range 61 {
			said, code := impl.Console(textOf(lines[:size]))
			if code != impl.OK || !strings.HasPrefix(said, before) || !strings.HasPrefix(whole, said) {
				t.Fatalf("seed %d: to %d lines %d\n%s; to one less\n%s; to all\n%s", seed, size, code, said, before, whole)
			}
			before = said
		}
		for range 10 {
			size := chance.Intn(60)
			holdHead(t, lines[:size], randomText(chance, 1+chance.Intn(60-size)))
		}
		if t.Failed() {
			t.Fatalf("seed %d", seed)
		}
	}
	holdWordsMet(t, met)
}

// holdHead holds what is said to lines with others behind them.
func holdHead(t *testing.T, head, behind []string) {
	t.Helper()
	alone, _ := impl.Console(textOf(head))
	for _, text := range []string{textOf(head) + textOf(behind), textOf(head) + strings.Join(behind, "\n")} {
		said, code := impl.Console(text)
		if code != impl.OK || !strings.HasPrefix(said, alone) {
			t.Errorf("to %d lines\n%s; with %d behind them %d\n%s; of\n%s", len(head), alone, len(behind), code, said, text)
		}
	}
	// More than it takes are no console's: nothing is said then.
	if size := 61 - len(head); size > len(behind) {
		holdSaid(t, "too many behind", textOf(head)+strings.Repeat("tick\n", size), "", impl.ErrMany)
	}
}

func holdWordsMet(t *testing.T, met map[string]int) {
	t.Helper()
	for _, words := range []string{"ok", "end", "lan 10.0.0.1", "lan 7.7.7.7", "lan 5.5.5.5", "lan 9.9.9.9", "lan arp", "wan 10.0.0.2", "wan 10.0.0.3", "wan 10.0.0.4", "0 session",
		"error form", "error user", "error refused", "error none", "error range", "error state", "error full", "error spent"} {
		if met[words] == 0 {
			t.Errorf("no text met %q: %v", words, met)
		}
	}
}

// Lines that are none say `error form` alone, and those of nothing or a remark
// say nothing: what is said to the others does not hang on them.
func TestLinesOfNothingBetweenOthers(t *testing.T) {
	for seed := range 100 {
		chance := rand.New(rand.NewSource(int64(7500 + seed)))
		lines := slices.DeleteFunc(randomText(chance, 30), func(line string) bool {
			_, code := actByHand(line)
			return code != impl.OK && strings.Trim(line, " ") != "records"
		})
		want := make([]string, len(lines))
		before := ""
		for k := range lines {
			said, _ := impl.Console(textOf(lines[:k+1]))
			want[k], before = strings.TrimPrefix(said, before), said
		}
		var mixed []string
		said := ""
		for k, line := range lines {
			for len(mixed)+len(lines)-k < 60 && chance.Intn(2) == 0 {
				if chance.Intn(2) == 0 {
					mixed = append(mixed, choice(chance, "", " ", "    ", "#", "# tick", " #tick", "#\xff"))
					continue
				}
				mixed, said = append(mixed, choice(chance, "x", "tick now", "records now", "tick\t", "\xa0", "arp 4", "kick 01", "isn -0", "syn 1 5.5.5.5 65536", "say 1 10.0.0.1 PUT /")), said+"error form\n"
			}
			mixed, said = append(mixed, line), said+want[k]
		}
		holdSaid(t, fmt.Sprintf("seed %d", seed), textOf(mixed), said, impl.OK)
	}
}

// What is kept from line to line is the console's own.
func TestConsolesHangOnNothingAhead(t *testing.T) {
	login := textOf(loginLines(1, "ann", "apple"))
	records := "records\nsend 1 5.5.5.5 443 x\n"
	for range 3 {
		holdSaid(t, "nobody", records, "end\nerror user\n", impl.OK)
		said, code := impl.Console(login + records)
		if want := "0 session 1\nend\nok\nwan 10.0.0.2 5.5.5.5 6 1000 443 A 1\n"; code != impl.OK || !strings.HasSuffix(said, want) {
			t.Errorf("a login: %d\n%s", code, said)
		}
		impl.ReadLine("send 1 5.5.5.5 443 x")
		impl.Console(strings.Repeat("tick\n", 61))
		impl.Console(strings.Repeat("x", impl.MaxText+1))
	}
}
