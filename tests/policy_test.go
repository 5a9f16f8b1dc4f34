package tests

import (
	"fmt"
	"math"
	"reflect"
	"slices"
	"strings"
	"testing"

	"loop.example/g00356/impl"
)

const quadOne, quadNine = 0x01010101, 0x09090909

func TestPolicyConstants(t *testing.T) {
	if impl.MaxRules != 8 || impl.MaxRoles != 4 {
		t.Errorf("MaxRules is %d, MaxRoles is %d", impl.MaxRules, impl.MaxRoles)
	}
}

func TestPlainConfiguration(t *testing.T) {
	c := plainConfig()
	if !impl.ConfigOK(c) {
		t.Fatal("the plain configuration is none")
	}
	guest, staff := c.Roles[0], c.Roles[1]
	for _, row := range []struct {
		role            impl.Role
		proto, ip, port int
		place, code     int
		allow           bool
	}{
		{guest, 6, 0x05050600, 80, 0, impl.OK, false},
		{guest, 6, 0x050506ff, 443, 0, impl.OK, false},
		{guest, 6, 0x05050601, 0, 0, impl.OK, false},
		{guest, 6, 0x05050601, 65535, 0, impl.OK, false},
		{guest, 6, 0x050505ff, 80, 1, impl.OK, true},
		{guest, 6, 0x05050700, 443, 1, impl.OK, true},
		{guest, 17, 0x05050601, 80, 1, impl.OK, true},
		{guest, 1, 0x05050601, 443, 1, impl.OK, true},
		{guest, 0, 0x05050601, 443, 1, impl.OK, true},
		{guest, 255, 0x05050601, 200, 1, impl.OK, true},
		{guest, 17, 0x05050601, 79, 0, impl.ErrNone, false},
		{guest, 6, quadOne, 444, 0, impl.ErrNone, false},
		{guest, 1, quadOne, 0, 0, impl.ErrNone, false},
		{staff, 6, 0x05050601, 80, 0, impl.OK, true},
		{staff, 0, 0, 0, 0, impl.OK, true},
		{staff, 255, impl.MaxAddress, 65535, 0, impl.OK, true},
	} {
		holdRule(t, row.role, row.proto, row.ip, row.port, row.place, row.code, row.allow)
	}
	for _, row := range []struct {
		ip, port int
		want     bool
	}{{quadNine, 443, true}, {quadNine, 442, false}, {quadNine, 444, false}, {quadNine - 1, 443, false}, {quadNine + 1, 443, false}, {0, 0, false}, {impl.MaxAddress, 65535, false}} {
		if in, code := impl.InGarden(c, row.ip, row.port); in != row.want || code != impl.OK {
			t.Errorf("InGarden(%#x, %d) = %v, %d", row.ip, row.port, in, code)
		}
	}
}

func TestTheFirstRuleThatFitsDecides(t *testing.T) {
	for _, row := range []struct {
		texts           []string
		proto, ip, port int
		place           int
		allow           bool
	}{
		{[]string{"deny tcp 0.0.0.0/0 0 65535", "allow tcp 0.0.0.0/0 0 65535"}, 6, quadOne, 80, 0, false},
		{[]string{"allow tcp 0.0.0.0/0 0 65535", "deny tcp 0.0.0.0/0 0 65535"}, 6, quadOne, 80, 0, true},
		{[]string{"deny any 0.0.0.0/0 0 65535", "allow tcp 1.1.1.1/32 80 80"}, 6, quadOne, 80, 0, false},
		{[]string{"allow any 0.0.0.0/0 0 65535", "deny tcp 1.1.1.1/32 80 80"}, 6, quadOne, 80, 0, true},
		{[]string{"allow tcp 1.1.1.1/32 80 80", "deny any 0.0.0.0/0 0 65535"}, 6, quadOne, 80, 0, true},
		{[]string{"deny tcp 1.1.1.1/32 80 80", "allow any 0.0.0.0/0 0 65535"}, 6, quadOne, 80, 0, false},
		{[]string{"deny udp 1.1.1.1/32 80 80", "allow any 0.0.0.0/0 0 65535"}, 6, quadOne, 80, 1, true},
		{[]string{"deny tcp 1.1.1.0/32 80 80", "allow any 0.0.0.0/0 0 65535"}, 6, quadOne, 80, 1, true},
		{[]string{"deny tcp 1.1.1.1/32 81 90", "allow any 0.0.0.0/0 0 65535"}, 6, quadOne, 80, 1, true},
		{[]string{"deny tcp 1.1.1.1/32 70 79", "allow any 0.0.0.0/0 0 65535"}, 6, quadOne, 80, 1, true},
		{[]string{"allow udp 0.0.0.0/0 80 80", "deny tcp 1.0.0.0/8 80 80", "allow tcp 1.1.1.1/32 80 80", "deny any 0.0.0.0/0 0 65535"}, 6, quadOne, 80, 1, false},
		{[]string{"allow udp 0.0.0.0/0 80 80", "allow tcp 1.0.0.0/8 80 80", "deny tcp 1.1.1.1/32 80 80", "deny any 0.0.0.0/0 0 65535"}, 6, quadOne, 80, 1, true},
		{[]string{"deny icmp 0.0.0.0/0 0 65535", "deny tcp 0.0.0.0/0 0 65535", "allow any 0.0.0.0/0 0 65535"}, 0, quadOne, 80, 2, true},
		{[]string{"deny icmp 0.0.0.0/0 0 65535", "allow icmp 0.0.0.0/0 0 0", "allow any 0.0.0.0/0 0 0"}, 1, quadOne, 0, 0, false},
	} {
		holdRule(t, roleOf(t, row.texts...), row.proto, row.ip, row.port, row.place, impl.OK, row.allow)
	}
}

// The rule that fits stands at each place of a full list, between others that do not.
func TestTheRuleThatFitsStandsAnywhere(t *testing.T) {
	for place := range impl.MaxRules {
		for _, does := range []string{"allow", "deny"} {
			texts := slices.Repeat([]string{"allow udp 1.1.1.1/32 80 80", "deny udp 1.1.1.1/32 80 80"}, impl.MaxRules/2)
			texts[place] = does + " tcp 1.1.1.0/24 80 80"
			holdRule(t, roleOf(t, texts...), 6, quadOne, 80, place, impl.OK, does == "allow")
		}
	}
}

func TestWithoutARuleNothingIsAllowed(t *testing.T) {
	lists := [][]impl.Rule{nil, {}, ruleList(t, "allow tcp 1.1.1.1/32 80 80"), ruleList(t, "allow udp 0.0.0.0/0 0 65535", "allow icmp 0.0.0.0/0 0 65535"),
		ruleList(t, slices.Repeat([]string{"allow any 128.0.0.0/1 0 65535"}, impl.MaxRules)...)}
	for _, rules := range lists {
		r := impl.Role{Name: "guest", Rules: rules, Quota: 1, Minutes: 1, Idle: 1}
		holdRule(t, r, 6, quadOne, 81, 0, impl.ErrNone, false)
	}
}

// Each list of up to three rules of a small stock is held against what the
// nets' signs and the bounds of ports say, for many ends.
func TestListsOfFewRules(t *testing.T) {
	stock := ruleList(t, "deny any 0.0.0.0/0 0 65535", "allow any 0.0.0.0/0 80 443", "allow tcp 10.0.0.0/8 0 80", "deny tcp 10.1.0.0/16 80 65535",
		"allow udp 10.1.0.1/32 443 443", "deny icmp 128.0.0.0/1 0 0")
	lists := [][]impl.Rule{nil}
	// The lists stand by their sizes, so that the first of three ends it.
	for i := 0; len(lists[i]) < 3; i++ {
		for _, r := range stock {
			lists = append(lists, append(slices.Clone(lists[i]), r))
		}
	}
	for _, rules := range lists {
		role := impl.Role{Name: "guest", Rules: rules, Quota: 1, Minutes: 1, Idle: 1}
		for _, proto := range []int{0, 1, 6, 17, 255} {
			for _, ip := range []int{0x0a010001, 0x0a010000, 0x0a020000, 0x80000000, 0x7fffffff} {
				for _, port := range []int{0, 79, 80, 443, 444, 65535} {
					place, code, allow := firstByHand(rules, proto, ip, port)
					holdRule(t, role, proto, ip, port, place, code, allow)
				}
			}
		}
	}
}

func TestRulesByTheirProtos(t *testing.T) {
	for proto := -2; proto <= 260; proto++ {
		want := proto == 0 || proto == 1 || proto == 6 || proto == 17
		holdRuleOK(t, impl.Rule{Proto: proto, Ports: impl.Range{High: 65535}}, want)
	}
	for _, proto := range []int{math.MinInt, 1 << 32, 1<<32 + 6, math.MaxInt} {
		holdRuleOK(t, impl.Rule{Proto: proto}, false)
	}
}

func TestRulesByTheirPorts(t *testing.T) {
	edges := []int{math.MinInt, -65536, -1, 0, 1, 80, 65534, 65535, 65536, 1 << 32, math.MaxInt}
	for _, low := range edges {
		for _, high := range edges {
			want := low >= 0 && low <= high && high <= 65535
			holdRuleOK(t, impl.Rule{Proto: 6, Ports: impl.Range{Low: low, High: high}}, want)
			c := plainConfig()
			c.Garden[0].Ports = impl.Range{Low: low, High: high}
			if impl.ConfigOK(c) != want {
				t.Errorf("ConfigOK with a place of ports %d to %d: %v", low, high, !want)
			}
		}
	}
}

func TestRulesByTheirNets(t *testing.T) {
	for bits := range 33 {
		for _, ip := range []int{0, impl.MaxAddress, 0xa5a5a5a5} {
			holdRuleOK(t, impl.Rule{Net: netOf(ip, bits), Allow: true}, true)
		}
	}
	for _, wrong := range wrongNets() {
		holdRuleOK(t, impl.Rule{Net: wrong}, false)
	}
}

// Nets of 0 and of 32 bits, at their edges and behind them.
func TestRulesFitByTheirNets(t *testing.T) {
	all, one := roleOf(t, "allow any 0.0.0.0/0 0 65535"), roleOf(t, "allow any 1.1.1.1/32 0 65535")
	for _, ip := range []int{0, 1, quadOne - 1, quadOne, quadOne + 1, 0x81010101, impl.MaxAddress} {
		holdRule(t, all, 6, ip, 80, 0, impl.OK, true)
		if ip == quadOne {
			holdRule(t, one, 6, ip, 80, 0, impl.OK, true)
		} else {
			holdRule(t, one, 6, ip, 80, 0, impl.ErrNone, false)
		}
	}
}

func TestRulesFitByTheirPorts(t *testing.T) {
	for _, ports := range []impl.Range{{}, {High: 65535}, {Low: 65535, High: 65535}, {Low: 80, High: 80}, {Low: 80, High: 443}, {Low: 1, High: 65534}} {
		r := sampleRole()
		r.Rules = []impl.Rule{{Ports: ports, Allow: true}}
		for _, port := range []int{0, 1, 79, 80, 81, 442, 443, 444, 65534, 65535} {
			if port >= ports.Low && port <= ports.High {
				holdRule(t, r, 17, 5, port, 0, impl.OK, true)
			} else {
				holdRule(t, r, 17, 5, port, 0, impl.ErrNone, false)
			}
		}
	}
}

func TestRolesByTheirNames(t *testing.T) {
	for _, name := range []string{"a", "_", "Z", "guest", "a1234567", "________"} {
		r := sampleRole()
		r.Name = name
		holdRoleOK(t, r, true)
	}
	for _, name := range []string{"", "1", "1a", "a-b", "a b", " a", "a ", "a.b", "\xffa", "ä", "ninechars", "a12345678", strings.Repeat("a", impl.MaxName), strings.Repeat("a", impl.MaxText+1)} {
		r := sampleRole()
		r.Name = name
		holdRoleOK(t, r, false)
	}
}

func TestRolesByTheirNumbers(t *testing.T) {
	for _, row := range []struct {
		most int
		set  func(r *impl.Role, n int)
	}{
		{1000000, func(r *impl.Role, n int) { r.Quota = n }},
		{1000, func(r *impl.Role, n int) { r.Minutes = n }},
		{1000, func(r *impl.Role, n int) { r.Idle = n }},
	} {
		for _, n := range []int{math.MinInt, -1000, -1, 0, 1, 2, 999, 1000, 1001, 999999, 1000000, 1000001, 1 << 32, math.MaxInt} {
			r := sampleRole()
			row.set(&r, n)
			holdRoleOK(t, r, n >= 1 && n <= row.most)
		}
	}
}

func TestRolesByTheirRules(t *testing.T) {
	for _, size := range []int{0, 1, 7, 8, 9, 10, impl.MaxList, impl.MaxList + 1} {
		r := sampleRole()
		r.Rules = make([]impl.Rule, size)
		holdRoleOK(t, r, size <= 8)
	}
	for place := range impl.MaxRules {
		for _, wrong := range wrongRules() {
			r := sampleRole()
			r.Rules = make([]impl.Rule, impl.MaxRules)
			r.Rules[place] = wrong
			holdRoleOK(t, r, false)
		}
	}
}

func TestConfigurationsByTheirAddresses(t *testing.T) {
	lan := impl.Net{Ip: 0x0a000000, Bits: 24}
	for _, row := range []struct {
		lan            impl.Net
		gate, resolver int
		want           bool
	}{
		{lan, 0x0a000001, quadOne, true},
		{lan, 0x0a000000, 0x09ffffff, true},
		{lan, 0x0a0000ff, 0x0a000100, true},
		{lan, 0x0a000001, 0, true},
		{lan, 0x0a000001, impl.MaxAddress, true},
		{lan, 0x09ffffff, quadOne, false},
		{lan, 0x0a000100, quadOne, false},
		{lan, 0x0a000001, 0x0a000000, false},
		{lan, 0x0a000001, 0x0a0000ff, false},
		{lan, 0x0a000001, 0x0a000001, false},
		{lan, quadOne, 0x0a000001, false},
		{lan, quadOne, quadOne, false},
		{impl.Net{}, 0x0a000001, quadOne, false},
		{impl.Net{Bits: 1}, 0x0a000001, 0x80000000, true},
		{impl.Net{Ip: 0x0a000001, Bits: 32}, 0x0a000001, quadOne, true},
		{impl.Net{Ip: 0x0a000001, Bits: 32}, 0x0a000002, quadOne, false},
		{impl.Net{Ip: 0x0a000001, Bits: 24}, 0x0a000001, quadOne, false},
	} {
		c := plainConfig()
		c.Lan, c.Gate, c.Resolver = row.lan, row.gate, row.resolver
		holdConfigOK(t, c, row.want)
	}
	for _, wrong := range wrongNets() {
		c := plainConfig()
		c.Lan = wrong
		c.Gate = wrong.Ip
		holdConfigOK(t, c, false)
	}
	for _, wrong := range outside(4) {
		c := plainConfig()
		c.Gate = wrong
		holdConfigOK(t, c, false)
		c = plainConfig()
		c.Resolver = wrong
		holdConfigOK(t, c, false)
	}
}

func TestConfigurationsByTheirMacs(t *testing.T) {
	for _, right := range []string{macA, macB, "sixsix"} {
		c := plainConfig()
		c.GateMac, c.WanMac = right, right
		holdConfigOK(t, c, true)
	}
	for _, wrong := range wrongMacs() {
		c := plainConfig()
		c.GateMac = wrong
		holdConfigOK(t, c, false)
		c = plainConfig()
		c.WanMac = wrong
		holdConfigOK(t, c, false)
	}
}

func TestConfigurationsByTheirGardens(t *testing.T) {
	for _, size := range []int{0, 1, 7, 8, 9, impl.MaxList, impl.MaxList + 1} {
		c := plainConfig()
		c.Garden = make([]impl.Place, size)
		holdConfigOK(t, c, size <= 8)
	}
	for place := range impl.MaxRules {
		for _, wrong := range wrongPlaces() {
			c := plainConfig()
			c.Garden = make([]impl.Place, impl.MaxRules)
			c.Garden[place] = wrong
			holdConfigOK(t, c, false)
		}
	}
}

func TestConfigurationsByTheirRoles(t *testing.T) {
	for _, row := range []struct {
		names string
		want  bool
	}{
		{"", false}, {"a", true}, {"a b", true}, {"a b c", true}, {"a b c d", true}, {"a b c d e", false},
		{"b a", false}, {"a a", false}, {"a b b", false}, {"a c b", false}, {"b a c", false}, {"a b c c", false}, {"a b d c", false},
		{"a ab", true}, {"ab a", false}, {"a aa ab b", true}, {"Z _ a", true}, {"a Z", false}, {"_ Z", false}, {"a1 a_", true}, {"a_ a1", false},
		{"a ninechars", false}, {"a b c 1", false}, {"1 a", false},
	} {
		c := plainConfig()
		c.Roles = nil
		for _, name := range strings.Fields(row.names) {
			r := sampleRole()
			r.Name = name
			c.Roles = append(c.Roles, r)
		}
		holdConfigOK(t, c, row.want)
	}
	for place := range impl.MaxRoles {
		for _, wrong := range wrongRoles() {
			c := plainConfig()
			c.Roles = namedRoles(impl.MaxRoles)
			// Its name is kept where it may be, so that the order does not bar it.
			if wrong.Name == "guest" {
				wrong.Name = c.Roles[place].Name
			}
			c.Roles[place] = wrong
			holdConfigOK(t, c, false)
		}
	}
	for _, size := range []int{5, impl.MaxList, impl.MaxList + 1} {
		c := plainConfig()
		c.Roles = namedRoles(size)
		holdConfigOK(t, c, false)
	}
}

func TestEmptyListsOfPoliciesAreAlike(t *testing.T) {
	c := plainConfig()
	for _, garden := range [][]impl.Place{nil, {}} {
		c.Garden = garden
		if in, code := impl.InGarden(c, quadNine, 443); in || code != impl.OK {
			t.Errorf("InGarden of an empty garden = %v, %d", in, code)
		}
	}
	for _, rules := range [][]impl.Rule{nil, {}} {
		c.Roles[0].Rules = rules
		holdConfigOK(t, c, true)
	}
	for _, roles := range [][]impl.Role{nil, {}} {
		c.Roles = roles
		holdConfigOK(t, c, false)
	}
}

func TestFirstRuleFaults(t *testing.T) {
	guest := plainConfig().Roles[0]
	for _, wrong := range wrongRoles() {
		holdRuleFault(t, wrong, 6, quadOne, 80, impl.ErrBad)
		holdRuleFault(t, wrong, 256, -1, 65536, impl.ErrBad)
	}
	for _, n := range outside(1) {
		holdRuleFault(t, guest, n, quadOne, 80, impl.ErrRange)
		holdRuleFault(t, roleOf(t), n, quadOne, 80, impl.ErrRange)
	}
	for _, n := range outside(4) {
		holdRuleFault(t, guest, 6, n, 80, impl.ErrRange)
		holdRuleFault(t, roleOf(t), 6, n, 80, impl.ErrRange)
	}
	for _, n := range outside(2) {
		holdRuleFault(t, guest, 6, quadOne, n, impl.ErrRange)
		holdRuleFault(t, roleOf(t), 6, quadOne, n, impl.ErrRange)
	}
}

func TestInGardenFaults(t *testing.T) {
	hold := func(c impl.Config, ip, port, want int) {
		t.Helper()
		if in, code := impl.InGarden(c, ip, port); in || code != want {
			t.Errorf("InGarden(%v, %d, %d) = %v, %d, not %d", c, ip, port, in, code, want)
		}
	}
	for _, wrong := range wrongConfigs() {
		hold(wrong, quadNine, 443, impl.ErrBad)
		hold(wrong, -1, 65536, impl.ErrBad)
	}
	c := plainConfig()
	c.Garden = []impl.Place{{Ports: impl.Range{High: 65535}}}
	for _, n := range outside(4) {
		hold(c, n, 443, impl.ErrRange)
	}
	for _, n := range outside(2) {
		hold(c, quadNine, n, impl.ErrRange)
	}
}

func TestGardensOfSeveralPlaces(t *testing.T) {
	c := plainConfig()
	c.Garden = []impl.Place{
		{Net: netOf(quadNine, 32), Ports: impl.Range{Low: 443, High: 443}},
		{Net: netOf(0x08000000, 8), Ports: impl.Range{Low: 80, High: 90}},
		{Net: netOf(quadNine, 24), Ports: impl.Range{}},
	}
	for _, row := range []struct {
		ip, port int
		want     bool
	}{
		{quadNine, 443, true}, {quadNine, 0, true}, {quadNine - 1, 0, true}, {quadNine, 85, false}, {quadNine - 1, 443, false},
		{0x08000000, 80, true}, {0x08ffffff, 90, true}, {0x08ffffff, 91, false}, {0x08000000, 79, false}, {0x08000000, 0, false}, {0x09000000, 85, false}, {0x07ffffff, 85, false},
	} {
		if in, code := impl.InGarden(c, row.ip, row.port); in != row.want || code != impl.OK {
			t.Errorf("InGarden(%#x, %d) = %v, %d", row.ip, row.port, in, code)
		}
	}
}

func TestRulesWrittenOut(t *testing.T) {
	for _, row := range []struct {
		text string
		rule impl.Rule
	}{
		{"deny tcp 5.5.6.0/24 0 65535", impl.Rule{Proto: impl.ProTcp, Net: impl.Net{Ip: 0x05050600, Bits: 24}, Ports: impl.Range{High: 65535}}},
		{"allow any 0.0.0.0/0 80 443", impl.Rule{Ports: impl.Range{Low: 80, High: 443}, Allow: true}},
		{"allow icmp 1.1.1.1/32 0 0", impl.Rule{Proto: impl.ProIcmp, Net: impl.Net{Ip: quadOne, Bits: 32}, Allow: true}},
		{"deny udp 255.255.255.255/32 65535 65535", impl.Rule{Proto: impl.ProUdp, Net: impl.Net{Ip: impl.MaxAddress, Bits: 32}, Ports: impl.Range{Low: 65535, High: 65535}}},
	} {
		if r, code := impl.ReadRule(row.text); r != row.rule || code != impl.OK {
			t.Errorf("ReadRule(%q) = %v, %d", row.text, r, code)
		}
		if text, code := impl.RuleText(row.rule); text != row.text || code != impl.OK {
			t.Errorf("RuleText(%v) = %q, %d", row.rule, text, code)
		}
	}
}

func TestRulesReadBack(t *testing.T) {
	for _, r := range sampleRules() {
		text, code := impl.RuleText(r)
		if text != ruleByHand(r) || code != impl.OK {
			t.Errorf("RuleText(%v) = %q, %d", r, text, code)
		}
		if again, code := impl.ReadRule(text); again != r || code != impl.OK {
			t.Errorf("%v is told as %q and read as %v, %d", r, text, again, code)
		}
	}
}

func TestMoreBlanksDoNotMatter(t *testing.T) {
	want := impl.Rule{Proto: impl.ProTcp, Net: impl.Net{Ip: 0x05050600, Bits: 24}, Ports: impl.Range{Low: 1, High: 2}}
	words := []string{"deny", "tcp", "5.5.6.0/24", "1", "2"}
	for _, ahead := range []string{"", " ", "   "} {
		for _, between := range []string{" ", "  ", "     "} {
			for _, behind := range []string{"", " ", "   "} {
				text := ahead + strings.Join(words, between) + behind
				if r, code := impl.ReadRule(text); r != want || code != impl.OK {
					t.Errorf("ReadRule(%q) = %v, %d", text, r, code)
				}
			}
		}
	}
	whole := strings.Join(words, " ")
	filled := strings.Repeat(" ", impl.MaxText-len(whole))
	for _, text := range []string{filled + whole, whole + filled, strings.Replace(whole, " ", " "+filled, 1)} {
		if r, code := impl.ReadRule(text); r != want || code != impl.OK {
			t.Errorf("ReadRule of %d bytes = %v, %d", len(text), r, code)
		}
	}
}

func TestTextsThatAreNoRules(t *testing.T) {
	for _, text := range []string{
		"", " ", "     ", "allow", "allow tcp", "allow tcp 0.0.0.0/0", "allow tcp 0.0.0.0/0 1", "tcp 0.0.0.0/0 1 2", "allow 0.0.0.0/0 1 2", "allow tcp 1 2",
		"allow tcp 0.0.0.0/0 1 2 3", "allow tcp 0.0.0.0/0 1 2 allow", "allow allow tcp 0.0.0.0/0 1 2", "allow tcp tcp 0.0.0.0/0 1 2", "allow tcp 0.0.0.0 /0 1 2",
		"permit tcp 0.0.0.0/0 1 2", "Allow tcp 0.0.0.0/0 1 2", "DENY tcp 0.0.0.0/0 1 2", "allowed tcp 0.0.0.0/0 1 2", "allo tcp 0.0.0.0/0 1 2", "1 tcp 0.0.0.0/0 1 2", "tcp allow 0.0.0.0/0 1 2",
		"allow sctp 0.0.0.0/0 1 2", "allow TCP 0.0.0.0/0 1 2", "allow Any 0.0.0.0/0 1 2", "allow 6 0.0.0.0/0 1 2", "allow 0 0.0.0.0/0 1 2", "allow tcpp 0.0.0.0/0 1 2", "allow ic 0.0.0.0/0 1 2", "allow deny 0.0.0.0/0 1 2",
		"allow tcp 0.0.0.1/0 1 2", "allow tcp 0.0.0.0/33 1 2", "allow tcp 0.0.0.0/-1 1 2", "allow tcp 0.0.0.0 1 2", "allow tcp 0.0.0.0/ 1 2", "allow tcp /0 1 2", "allow tcp 0.0.0/0 1 2", "allow tcp 0.0.0.256/32 1 2", "allow tcp 00.0.0.0/0 1 2", "allow tcp 0.0.0.0/00 1 2", "allow tcp any 1 2",
		"allow tcp 0.0.0.0/0 2 1", "allow tcp 0.0.0.0/0 1 0", "allow tcp 0.0.0.0/0 65535 0", "allow tcp 0.0.0.0/0 1 65536", "allow tcp 0.0.0.0/0 65536 65536", "allow tcp 0.0.0.0/0 65536 65535", "allow tcp 0.0.0.0/0 -1 2", "allow tcp 0.0.0.0/0 -2 -1", "allow tcp 0.0.0.0/0 0 -1",
		"allow tcp 0.0.0.0/0 a 2", "allow tcp 0.0.0.0/0 1 b", "allow tcp 0.0.0.0/0 0 b", "allow tcp 0.0.0.0/0 0 00", "allow tcp 0.0.0.0/0 0 -0", "allow tcp 0.0.0.0/0 01 2", "allow tcp 0.0.0.0/0 1 02", "allow tcp 0.0.0.0/0 +1 2", "allow tcp 0.0.0.0/0 1 +2", "allow tcp 0.0.0.0/0 -0 2", "allow tcp 0.0.0.0/0 - 2", "allow tcp 0.0.0.0/0 1 0x2", "allow tcp 0.0.0.0/0 1 2.0", "allow tcp 0.0.0.0/0 1_0 20", "allow tcp 0.0.0.0/0 1-2",
		"allow tcp 0.0.0.0/0 1 1000000000000000000", "allow tcp 0.0.0.0/0 1 18446744073709551618", "allow tcp 0.0.0.0/0 18446744073709551617 2", "allow tcp 0.0.0.0/0 1 " + strings.Repeat("9", 400),
		"allow\ttcp 0.0.0.0/0 1 2", "allow\ttcp\t0.0.0.0/0\t1\t2", "\tallow tcp 0.0.0.0/0 1 2", "allow tcp 0.0.0.0/0 1 2\n", "allow tcp 0.0.0.0/0 1\n2", "allow tcp 0.0.0.0/0 1 2\r", "allow\u00a0tcp 0.0.0.0/0 1 2", "allow tcp 0.0.0.0/0 1 2\u00a0", "allow tcp 0.0.0.0/0 1 2 \t", "allow tcp 0.0.0.0/0 1 2\x00",
		"allow,tcp,0.0.0.0/0,1,2", "allow tcp 0.0.0.0/0 1 2 #", "\xff\xfe",
		strings.Repeat(" ", impl.MaxText), strings.Repeat("a ", impl.MaxText/2), strings.Repeat("a", impl.MaxText),
	} {
		if r, code := impl.ReadRule(text); r != (impl.Rule{}) || code != impl.ErrForm {
			t.Errorf("ReadRule(%.60q) = %v, %d", text, r, code)
		}
	}
}

// A right text with any one byte left out, or with any one byte in the place
// of another, is read just as its words say.
func TestTextsOfRulesWithAByteChanged(t *testing.T) {
	whole := "allow udp 1.1.1.0/24 80 443"
	for at := range len(whole) {
		holdRuleRead(t, whole[:at]+whole[at+1:])
		for sign := range 256 {
			holdRuleRead(t, whole[:at]+string([]byte{byte(sign)})+whole[at+1:])
		}
	}
}

func TestLongTextsOfRules(t *testing.T) {
	for _, text := range []string{strings.Repeat(" ", impl.MaxText+1), strings.Repeat("a", impl.MaxText+1), "allow any 0.0.0.0/0 80 443" + strings.Repeat(" ", impl.MaxText)} {
		if r, code := impl.ReadRule(text); r != (impl.Rule{}) || code != impl.ErrLong {
			t.Errorf("ReadRule of %d bytes = %v, %d", len(text), r, code)
		}
	}
}

func TestRuleTextFaults(t *testing.T) {
	for _, wrong := range wrongRules() {
		if text, code := impl.RuleText(wrong); text != "" || code != impl.ErrBad {
			t.Errorf("RuleText(%v) = %q, %d", wrong, text, code)
		}
	}
}

func TestConfigurationsStayAsTheyWere(t *testing.T) {
	c := crowdedConfig()
	before := crowdedConfig()
	impl.ConfigOK(c)
	impl.InGarden(c, quadNine, 443)
	for _, r := range c.Roles {
		impl.RoleOK(r)
		impl.FirstRule(r, 6, quadOne, 80)
		impl.RoleAllows(r, 6, quadOne, 80)
	}
	// What stands behind the ends of the lists must stay, too.
	same := reflect.DeepEqual(c.Garden[:cap(c.Garden)], before.Garden[:cap(before.Garden)]) && reflect.DeepEqual(c.Roles[:cap(c.Roles)], before.Roles[:cap(before.Roles)]) &&
		reflect.DeepEqual(c.Roles[0].Rules[:cap(c.Roles[0].Rules)], before.Roles[0].Rules[:cap(before.Roles[0].Rules)])
	if !same || !reflect.DeepEqual(c, before) {
		t.Errorf("%v became %v", before, c)
	}
}

// What stands behind the end of a list is not of it.
func TestListsOfPoliciesEndAtTheirEnd(t *testing.T) {
	c := crowdedConfig()
	holdConfigOK(t, c, true)
	holdRule(t, c.Roles[0], 6, quadOne, 80, 0, impl.ErrNone, false)
	if in, code := impl.InGarden(c, quadNine, 443); in || code != impl.OK {
		t.Errorf("InGarden sees a place behind the end: %v, %d", in, code)
	}
}

// crowdedConfig has lists with more behind their ends: a rule and a place that
// would fit, and roles that are none.
func crowdedConfig() impl.Config {
	c := plainConfig()
	rules := []impl.Rule{{Proto: 17}, {Ports: impl.Range{High: 65535}, Allow: true}, {Proto: 9}}
	c.Garden = append([]impl.Place{{Net: netOf(quadOne, 32)}}, c.Garden...)[:1]
	r := sampleRole()
	r.Rules = rules[:1]
	c.Roles = []impl.Role{r, {}, {Name: "a"}}[:1]
	return c
}

func plainConfig() impl.Config {
	return impl.Config{
		Lan:      impl.Net{Ip: 0x0a000000, Bits: 24},
		Gate:     0x0a000001,
		GateMac:  "\x02\x00\x00\x00\x00\x00",
		WanMac:   "\x02\x00\x00\x00\x00\xff",
		Resolver: quadOne,
		Garden:   []impl.Place{{Net: impl.Net{Ip: quadNine, Bits: 32}, Ports: impl.Range{Low: 443, High: 443}}},
		Roles: []impl.Role{
			{Name: "guest", Quota: 400, Minutes: 40, Idle: 10, Rules: []impl.Rule{
				{Proto: impl.ProTcp, Net: impl.Net{Ip: 0x05050600, Bits: 24}, Ports: impl.Range{High: 65535}},
				{Ports: impl.Range{Low: 80, High: 443}, Allow: true},
			}},
			{Name: "staff", Quota: 100000, Minutes: 1000, Idle: 100, Rules: []impl.Rule{{Ports: impl.Range{High: 65535}, Allow: true}}},
		},
	}
}

func sampleRole() impl.Role {
	return impl.Role{Name: "guest", Quota: 400, Minutes: 40, Idle: 10}
}

func roleOf(t *testing.T, texts ...string) impl.Role {
	t.Helper()
	r := sampleRole()
	r.Rules = ruleList(t, texts...)
	return r
}

func ruleList(t *testing.T, texts ...string) []impl.Rule {
	t.Helper()
	var list []impl.Rule
	for _, text := range texts {
		r, ok := readByHand(text)
		if !ok {
			t.Fatalf("%q is no rule", text)
		}
		list = append(list, r)
	}
	return list
}

// namedRoles has so many roles that rise by their names.
func namedRoles(size int) []impl.Role {
	var list []impl.Role
	for i := range size {
		r := sampleRole()
		r.Name = fmt.Sprintf("r%05d", i)
		list = append(list, r)
	}
	return list
}

func sampleRules() []impl.Rule {
	var list []impl.Rule
	for _, proto := range []int{0, 1, 6, 17} {
		for bits := range 33 {
			for _, ports := range []impl.Range{{}, {High: 65535}, {Low: 65535, High: 65535}, {Low: 80, High: 443}, {Low: 9, High: 10}} {
				for _, allow := range []bool{false, true} {
					list = append(list, impl.Rule{Proto: proto, Net: netOf(0xc0a87fff, bits), Ports: ports, Allow: allow})
				}
			}
		}
	}
	return list
}

func wrongPlaces() []impl.Place {
	var list []impl.Place
	for _, n := range wrongNets() {
		list = append(list, impl.Place{Net: n, Ports: impl.Range{High: 65535}})
	}
	for _, n := range outside(2) {
		list = append(list, impl.Place{Ports: impl.Range{Low: n, High: 65535}}, impl.Place{Ports: impl.Range{High: n}}, impl.Place{Ports: impl.Range{Low: n, High: n}})
	}
	return append(list, impl.Place{Ports: impl.Range{Low: 2, High: 1}}, impl.Place{Ports: impl.Range{Low: 65535, High: 65534}}, impl.Place{Ports: impl.Range{Low: 1}})
}

func wrongRules() []impl.Rule {
	var list []impl.Rule
	for _, p := range wrongPlaces() {
		list = append(list, impl.Rule{Net: p.Net, Ports: p.Ports, Allow: true})
	}
	for _, proto := range []int{math.MinInt, -1, 2, 5, 7, 16, 18, 255, 256, 262, 1<<32 + 6, math.MaxInt} {
		list = append(list, impl.Rule{Proto: proto, Ports: impl.Range{High: 65535}, Allow: true})
	}
	return list
}

func wrongRoles() []impl.Role {
	list := []impl.Role{{}, {Name: "guest"}, {Name: "ninechars", Quota: 1, Minutes: 1, Idle: 1}, {Name: "1", Quota: 1, Minutes: 1, Idle: 1}, {Quota: 1, Minutes: 1, Idle: 1}}
	for _, n := range []int{math.MinInt, -1, 0, 1000001, math.MaxInt} {
		list = append(list, impl.Role{Name: "guest", Quota: n, Minutes: 1, Idle: 1}, impl.Role{Name: "guest", Quota: 1, Minutes: n, Idle: 1}, impl.Role{Name: "guest", Quota: 1, Minutes: 1, Idle: n})
	}
	for _, size := range []int{9, impl.MaxList, impl.MaxList + 1} {
		list = append(list, impl.Role{Name: "guest", Quota: 1, Minutes: 1, Idle: 1, Rules: make([]impl.Rule, size)})
	}
	for _, wrong := range wrongRules() {
		// The rule that fits stands ahead: a wrong one behind it counts all the same.
		rules := []impl.Rule{{Ports: impl.Range{High: 65535}, Allow: true}, wrong}
		list = append(list, impl.Role{Name: "guest", Quota: 1, Minutes: 1, Idle: 1, Rules: rules})
	}
	return list
}

func wrongConfigs() []impl.Config {
	list := []impl.Config{{}}
	change := func(set func(c *impl.Config)) {
		c := plainConfig()
		set(&c)
		list = append(list, c)
	}
	change(func(c *impl.Config) { c.Lan.Bits = 33 })
	change(func(c *impl.Config) { c.Gate = quadOne })
	change(func(c *impl.Config) { c.Gate = -1 })
	change(func(c *impl.Config) { c.Resolver = c.Gate })
	change(func(c *impl.Config) { c.Resolver = impl.MaxAddress + 1 })
	change(func(c *impl.Config) { c.GateMac = macA[:5] })
	change(func(c *impl.Config) { c.WanMac = macA + "\x00" })
	change(func(c *impl.Config) { c.Garden = slices.Repeat(c.Garden, 9) })
	change(func(c *impl.Config) { c.Garden = slices.Repeat(c.Garden, impl.MaxList+1) })
	change(func(c *impl.Config) { c.Garden = append(c.Garden, impl.Place{Ports: impl.Range{Low: 1}}) })
	change(func(c *impl.Config) { c.Roles = nil })
	change(func(c *impl.Config) { c.Roles = namedRoles(5) })
	change(func(c *impl.Config) { c.Roles = namedRoles(impl.MaxList + 1) })
	change(func(c *impl.Config) { slices.Reverse(c.Roles) })
	change(func(c *impl.Config) { c.Roles[1].Quota = 0 })
	return list
}

// firstByHand goes through the list from its end, so that what it keeps last is the first that fits.
func firstByHand(rules []impl.Rule, proto, ip, port int) (int, int, bool) {
	place, code, allow := 0, impl.ErrNone, false
	for i, r := range slices.Backward(rules) {
		rightProto := r.Proto == 0 || r.Proto == proto
		if rightProto && netOf(ip, r.Net.Bits) == r.Net && r.Ports.Low <= port && port <= r.Ports.High {
			place, code, allow = i, impl.OK, r.Allow
		}
	}
	return place, code, allow
}

func ruleByHand(r impl.Rule) string {
	does := map[bool]string{true: "allow", false: "deny"}[r.Allow]
	proto := map[int]string{0: "any", 1: "icmp", 6: "tcp", 17: "udp"}[r.Proto]
	b := []byte(fourBytes(r.Net.Ip))
	return fmt.Sprintf("%s %s %d.%d.%d.%d/%d %d %d", does, proto, b[0], b[1], b[2], b[3], r.Net.Bits, r.Ports.Low, r.Ports.High)
}

// readByHand reads numbers as fmt does, and takes a text only if what was read is told as its words again.
func readByHand(text string) (impl.Rule, bool) {
	words := strings.FieldsFunc(text, func(sign rune) bool { return sign == ' ' })
	if len(words) != 5 {
		return impl.Rule{}, false
	}
	r := impl.Rule{Proto: map[string]int{"icmp": 1, "tcp": 6, "udp": 17}[words[1]], Allow: words[0] == "allow"}
	var b [4]int
	fmt.Sscanf(words[2], "%d.%d.%d.%d/%d", &b[0], &b[1], &b[2], &b[3], &r.Net.Bits)
	fmt.Sscanf(words[3]+" "+words[4], "%d %d", &r.Ports.Low, &r.Ports.High)
	for _, n := range b {
		r.Net.Ip = r.Net.Ip*256 + n
	}
	inBounds := r.Net.Bits >= 0 && r.Net.Bits <= 32 && r.Ports.Low >= 0 && r.Ports.Low <= r.Ports.High && r.Ports.High <= 65535
	if !inBounds || ruleByHand(r) != strings.Join(words, " ") || netOf(r.Net.Ip, r.Net.Bits) != r.Net {
		return impl.Rule{}, false
	}
	return r, true
}

func holdRuleRead(t *testing.T, text string) {
	t.Helper()
	want, right := readByHand(text)
	wantCode := impl.OK
	if !right {
		wantCode = impl.ErrForm
	}
	if r, code := impl.ReadRule(text); r != want || code != wantCode {
		t.Errorf("ReadRule(%q) = %v, %d, not %v, %d", text, r, code, want, wantCode)
	}
}

// holdRule holds both calls of a role against what is wanted.
func holdRule(t *testing.T, r impl.Role, proto, ip, port, place, code int, allow bool) {
	t.Helper()
	if k, got := impl.FirstRule(r, proto, ip, port); k != place || got != code {
		t.Errorf("FirstRule(%v, %d, %#x, %d) = %d, %d, not %d, %d", r.Rules, proto, ip, port, k, got, place, code)
	}
	if allowed, got := impl.RoleAllows(r, proto, ip, port); allowed != allow || got != impl.OK {
		t.Errorf("RoleAllows(%v, %d, %#x, %d) = %v, %d, not %v", r.Rules, proto, ip, port, allowed, got, allow)
	}
}

func holdRuleFault(t *testing.T, r impl.Role, proto, ip, port, want int) {
	t.Helper()
	if k, code := impl.FirstRule(r, proto, ip, port); k != 0 || code != want {
		t.Errorf("FirstRule(%.60v, %d, %d, %d) = %d, %d, not %d", r, proto, ip, port, k, code, want)
	}
	if allowed, code := impl.RoleAllows(r, proto, ip, port); allowed || code != want {
		t.Errorf("RoleAllows(%.60v, %d, %d, %d) = %v, %d, not %d", r, proto, ip, port, allowed, code, want)
	}
}

func holdRuleOK(t *testing.T, r impl.Rule, want bool) {
	t.Helper()
	if impl.RuleOK(r) != want {
		t.Errorf("RuleOK(%v) is not %v", r, want)
	}
}

func holdRoleOK(t *testing.T, r impl.Role, want bool) {
	t.Helper()
	if impl.RoleOK(r) != want {
		t.Errorf("RoleOK(%.60v) with %d rules is not %v", r, len(r.Rules), want)
	}
}

func holdConfigOK(t *testing.T, c impl.Config, want bool) {
	t.Helper()
	if impl.ConfigOK(c) != want {
		t.Errorf("ConfigOK(%.60v) with %d places and %d roles is not %v", c, len(c.Garden), len(c.Roles), want)
	}
}
