package tests

import (
	"fmt"
	"math/rand"
	"regexp"
	"slices"
	"strconv"
	"strings"
	"testing"

	"loop.example/g00356/impl"
)

// readsAs holds what ReadRequest answers; with a code all else must be zero.
func readsAs(t *testing.T, text string, want impl.Request, size, code int) {
	t.Helper()
	r, n, got := impl.ReadRequest(text)
	if r != want || n != size || got != code {
		t.Errorf("ReadRequest(%.400q) = %.400q, %d, %d, not %.400q, %d, %d", text, r, n, got, want, size, code)
	}
}

func refused(t *testing.T, text string, code int) {
	t.Helper()
	readsAs(t, text, impl.Request{}, 0, code)
}

// headWith is a right first line, some lines and the empty line.
func headWith(lines ...string) string {
	return "POST /login HTTP/1.1\r\n" + strings.Join(append(lines, "", ""), "\r\n")
}

// headOfSize is a right head of so many bytes, the empty line with them.
func headOfSize(size int, lines ...string) string {
	filler := size - len(headWith(append(lines, "X: ")...))
	return headWith(append(lines, "X: "+strings.Repeat("x", filler))...)
}

func samplePaths() []string {
	return []string{"/", "/login", "/status", "/a/b.c-d?e=f_G9", "//..--??==__", "/" + strings.Repeat("p", 38), "/" + strings.Repeat("P", 39)}
}

func wrongPaths() []string {
	return []string{"", "a", "login", "?", ".", "_", "*", "//a b", "/a%20", "/a+b", "/a&b", "/a:b", "/a#b", "/~a", "/\x00", "/\xff", "/é", "/a\r", "/a\n", "/\t",
		"a/", "http://a/", "/" + strings.Repeat("p", 40), strings.Repeat("/", 41), strings.Repeat("/", 100), strings.Repeat("p", 40)}
}

func sampleRequests() []impl.Request {
	var list []impl.Request
	for _, method := range []string{"GET", "POST"} {
		for _, path := range samplePaths() {
			for _, body := range []string{"", "a", "abc", "name=ann&word=apple", "\r\n\r\n", "GET / HTTP/1.1\r\n\r\n", string(sampleBytes(79, 1)), string(sampleBytes(80, 2))} {
				list = append(list, impl.Request{Method: method, Path: path, Body: body})
			}
		}
	}
	return list
}

// requestByHand is a request's text, written out.
func requestByHand(r impl.Request) string {
	return r.Method + " " + r.Path + " HTTP/1.1\r\nHost: portal\r\nContent-Length: " + fmt.Sprint(len(r.Body)) + "\r\n\r\n" + r.Body
}

func TestHttpConstants(t *testing.T) {
	if impl.MaxHead != 200 || impl.MaxForm != 80 {
		t.Error(impl.MaxHead, impl.MaxForm)
	}
}

func TestRequestsAreReadBack(t *testing.T) {
	for _, r := range sampleRequests() {
		text, code := impl.RequestText(r)
		if text != requestByHand(r) || code != impl.OK {
			t.Errorf("RequestText(%q) = %q, %d", r, text, code)
		}
		for _, behind := range []string{"", "x", "\r\n", "\r\n\r\n", text, requestByHand(impl.Request{Method: "GET", Path: "/"}), string(sampleBytes(300, 3)), strings.Repeat("y", impl.MaxText-len(text))} {
			readsAs(t, text+behind, r, len(text), impl.OK)
		}
		refused(t, text+strings.Repeat("y", impl.MaxText+1-len(text)), impl.ErrLong)
	}
}

func TestRequestsThatAreCutAreWaitedFor(t *testing.T) {
	for _, r := range sampleRequests() {
		text := requestByHand(r)
		for size := range len(text) {
			refused(t, text[:size], impl.ErrMore)
		}
	}
}

// What came is read as soon as it is whole, and not ahead of that; what is
// left is the next request.
func TestRequestsOneBehindAnother(t *testing.T) {
	list := sampleRequests()
	var text string
	for _, r := range list[:20] {
		text += requestByHand(r)
	}
	for _, want := range list[:20] {
		r, size, code := impl.ReadRequest(text)
		if r != want || code != impl.OK || size != len(requestByHand(want)) {
			t.Fatalf("%q, %d, %d, not %q", r, size, code, want)
		}
		text = text[size:]
	}
	refused(t, text, impl.ErrMore)
}

func TestRequestsWrittenOut(t *testing.T) {
	for _, row := range []struct {
		text string
		want impl.Request
		size int
	}{
		{"GET / HTTP/1.1\r\n\r\n", impl.Request{Method: "GET", Path: "/"}, 18},
		{"POST / HTTP/1.1\r\n\r\n", impl.Request{Method: "POST", Path: "/"}, 19},
		{"GET /login HTTP/1.1\r\nHost: portal\r\n\r\nbehind", impl.Request{Method: "GET", Path: "/login"}, 37},
		{"POST /login HTTP/1.1\r\nContent-Length:3\r\n\r\nabcd", impl.Request{Method: "POST", Path: "/login", Body: "abc"}, 45},
		{"GET /x HTTP/1.1\r\nA:\r\nB: :\r\n C:c\r\nContent-Length: 2\r\n\r\n\r\n", impl.Request{Method: "GET", Path: "/x", Body: "\r\n"}, 56},
		{"POST /a HTTP/1.1\r\nContent-Length: 4\r\n\r\n\r\n\r\n", impl.Request{Method: "POST", Path: "/a", Body: "\r\n\r\n"}, 43},
	} {
		readsAs(t, row.text, row.want, row.size, impl.OK)
	}
}

func TestHeadsAtTheirEdge(t *testing.T) {
	for _, row := range []struct{ size, code int }{{198, impl.OK}, {199, impl.OK}, {200, impl.OK}, {201, impl.ErrLong}, {202, impl.ErrLong}, {300, impl.ErrLong}, {impl.MaxText, impl.ErrLong}} {
		head := headOfSize(row.size)
		if len(head) != row.size {
			t.Fatalf("the head has %d bytes, not %d", len(head), row.size)
		}
		if row.code != impl.OK {
			refused(t, head, row.code)
			continue
		}
		readsAs(t, head, impl.Request{Method: "POST", Path: "/login"}, row.size, impl.OK)
		readsAs(t, head+"behind\r\n\r\n", impl.Request{Method: "POST", Path: "/login"}, row.size, impl.OK)
	}
}

// The body stands behind the head, and does not count for its length.
func TestHeadsAtTheirEdgeWithABody(t *testing.T) {
	body := string(sampleBytes(80, 4))
	for _, size := range []int{199, 200} {
		head := headOfSize(size, "Content-Length: 80")
		readsAs(t, head+body, impl.Request{Method: "POST", Path: "/login", Body: body}, size+80, impl.OK)
		readsAs(t, head+body+"x", impl.Request{Method: "POST", Path: "/login", Body: body}, size+80, impl.OK)
		for cut := range size + 80 {
			refused(t, (head + body)[:cut], impl.ErrMore)
		}
	}
	refused(t, headOfSize(201, "Content-Length: 80")+body, impl.ErrLong)
}

func TestHeadsCutAtEveryByte(t *testing.T) {
	for _, size := range []int{199, 200, 201, 202, 203, 204, 205, 230} {
		head := headOfSize(size)
		for cut := range size {
			code := impl.ErrMore
			if cut > 200 {
				code = impl.ErrLong
			}
			refused(t, head[:cut], code)
		}
	}
}

// Ahead of the empty line nothing is looked at but the length, however wrong it is.
func TestWhatIsWrongIsWaitedForAheadOfTheEmptyLine(t *testing.T) {
	for _, text := range []string{"", "\r", "\n", "\n\n", "\n\r\n\r", "\r\r\n\n", "x", "PUT", "PUT x HTTP/9\r\n", "GET / HTTP/1.0\r\nno colon\r\n", "GET / HTTP/1.1\r\nContent-Length: 81\r\n", "GET / HTTP/1.1\r\nContent-Length: x\r\n\r",
		"GET / HTTP/1.1\r\nContent-Length: 0\r\nContent-Length: 0\r\n", ": x\r\n", "GET / HTTP/1.1\n\n", "GET / HTTP/1.1\n\r\n", "GET / HTTP/1.1\r\r\r\r", "GET / HTTP/1.1\r\n\n", "GET / HTTP/1.1\r\n\r\r", "GET / HTTP/1.1\r\n\n\r", "GET / HTTP/1.1\r\n\r", "GET / HTTP/1.1\r\n \r\n"} {
		for _, filler := range []string{"x", "\n", "\r", "\x00"} {
			for _, size := range []int{len(text), 199, 200, 201, 202, impl.MaxText, impl.MaxText + 1} {
				whole := text + strings.Repeat(filler, size-len(text))
				if strings.Contains(whole, "\r\n\r\n") {
					continue
				}
				code := impl.ErrMore
				if size > 200 {
					code = impl.ErrLong
				}
				refused(t, whole, code)
			}
		}
	}
}

// An end of a line at the beginning ends a first line that is empty; behind it the empty line is waited for.
func TestAnEmptyFirstLine(t *testing.T) {
	refused(t, "\r\n", impl.ErrMore)
	refused(t, "\r\nGET / HTTP/1.1", impl.ErrMore)
	refused(t, "\r\n\r\n", impl.ErrForm)
	refused(t, "\r\nGET / HTTP/1.1\r\n\r\n", impl.ErrForm)
}

func TestBodiesAtTheirEdge(t *testing.T) {
	for _, size := range []int{0, 1, 2, 9, 10, 79, 80} {
		head := headWith("Content-Length: " + strconv.Itoa(size))
		body := string(sampleBytes(size, 5))
		readsAs(t, head+body, impl.Request{Method: "POST", Path: "/login", Body: body}, len(head)+size, impl.OK)
		readsAs(t, head+body+"behind", impl.Request{Method: "POST", Path: "/login", Body: body}, len(head)+size, impl.OK)
		for there := range size {
			refused(t, head+body[:there], impl.ErrMore)
		}
	}
	for _, size := range []string{"81", "82", "100", "800", "65536", "65537", "4294967296", "999999999999999999"} {
		for _, there := range []int{0, 1, 80, 81, 82, 300} {
			refused(t, headWith("Content-Length: "+size)+strings.Repeat("b", there), impl.ErrLong)
		}
	}
}

func TestLinesOfTheLength(t *testing.T) {
	for _, name := range []string{"Content-Length", "content-length", "CONTENT-LENGTH", "cONTENT-lENGTH", "content-LENGTH"} {
		for _, number := range []string{"3", " 3", "3 ", "   3   ", "  3", strings.Repeat(" ", 60) + "3" + strings.Repeat(" ", 60)} {
			head := headWith("Host: portal", name+":"+number)
			readsAs(t, head+"abcd", impl.Request{Method: "POST", Path: "/login", Body: "abc"}, len(head)+3, impl.OK)
			refused(t, head+"ab", impl.ErrMore)
		}
		for _, number := range []string{"", " ", "    ", "x", "3x", "x3", "-", "-0", "-1", "-3", "- 3", "+3", "+0", "00", "03", "003", "000", "3.0", "3,", "0x3", "3 3", "1 0", "3\t", "\t3", "\r3", "3\r", "\n3", "3\n", "3\x00", "\xff", "٣", ":3", "3:", "three", "1e1",
			"1000000000000000000", "9223372036854775807", "9223372036854775808", "18446744073709551619", "-999999999999999999", strings.Repeat("9", 100), "0000000000000000003"} {
			refused(t, headWith("Host: portal", name+":"+number)+"abc", impl.ErrForm)
			refused(t, headWith(name+": "+number+" ")+"abc", impl.ErrForm)
		}
	}
}

// One such line at most, though both tell the same, wherever they stand.
func TestTheLengthToldTwice(t *testing.T) {
	for _, lines := range [][]string{
		{"Content-Length: 0", "Content-Length: 0"},
		{"Content-Length: 3", "content-length: 3"},
		{"Content-Length: 3", "CONTENT-LENGTH: 0"},
		{"Content-Length: 0", "Host: portal", "Content-Length: 3"},
		{"Content-Length: 3", "Content-Length: 3", "Content-Length: 3"},
		{"Content-Length: 81", "Content-Length: 81"},
	} {
		refused(t, headWith(lines...)+"abcdef", impl.ErrForm)
		refused(t, headWith(lines...), impl.ErrForm)
	}
}

// Names that are near to it are other lines: they tell no length, and what they tell is any.
func TestLinesThatAreNotOfTheLength(t *testing.T) {
	for _, name := range []string{"Content-Length ", " Content-Length", "Content_Length", "ContentLength", "Content-Lengths", "XContent-Length", "Content-Lengt", "Content-Length\t", "Content\r-Length", "Ｃontent-Length", "Content-Length\x00", "Host"} {
		for _, value := range []string{"", "3", " 81", "x", "-1", "Content-Length: 3"} {
			head := headWith(name+":"+value, "Content-Length:2", name+":"+value)
			readsAs(t, head+"abcd", impl.Request{Method: "POST", Path: "/login", Body: "ab"}, len(head)+2, impl.OK)
			head = headWith(name + ":" + value)
			readsAs(t, head+"abcd", impl.Request{Method: "POST", Path: "/login"}, len(head), impl.OK)
		}
	}
}

func TestLinesWithAndWithoutAColon(t *testing.T) {
	for _, line := range []string{"a:", "a:b", "a: b", "a b:c", "a::", "a:b:c", " :", " : ", "\r:", "\n:", "\x00:\xff", "a:\r", "a:\n\n", "\n\n:", "GET / HTTP/1.1:"} {
		for _, lines := range [][]string{{line}, {line, line}, {"Host: portal", line}, {line, "Host: portal"}} {
			head := headWith(lines...)
			readsAs(t, head, impl.Request{Method: "POST", Path: "/login"}, len(head), impl.OK)
		}
	}
	for _, line := range []string{":", "::", ": b", ":a:b", ":Content-Length: 3", "a", " ", "no colon", "Content-Length", "Content-Length 3", "Content-Length=3", "Content-Length; 3", "\r", "\n", "\n\n", "a：b"} {
		for _, lines := range [][]string{{line}, {line, line}, {"Host: portal", line}, {line, "Host: portal"}, {"Content-Length: 81", line}, {line, "Content-Length: 5"}} {
			refused(t, headWith(lines...), impl.ErrForm)
		}
	}
}

func TestPathsOfRequests(t *testing.T) {
	for _, path := range samplePaths() {
		text := "GET " + path + " HTTP/1.1\r\n\r\n"
		readsAs(t, text, impl.Request{Method: "GET", Path: path}, len(text), impl.OK)
	}
	for _, path := range wrongPaths() {
		refused(t, "GET "+path+" HTTP/1.1\r\n\r\n", impl.ErrForm)
		if text, code := impl.RequestText(impl.Request{Method: "GET", Path: path}); text != "" || code != impl.ErrBad {
			t.Errorf("RequestText of path %q: %q, %d", path, text, code)
		}
	}
}

const pathBytes = "abcdefghijklmnopqrstuvwxyzABCDEFGHIJKLMNOPQRSTUVWXYZ0123456789/.-?=_"

func TestEachByteOfAPath(t *testing.T) {
	for c := range 256 {
		sign := string([]byte{byte(c)})
		may := strings.Contains(pathBytes, sign)
		for _, path := range []string{"/" + sign, "/a" + sign, "/" + sign + "a", "/" + strings.Repeat("a", 38) + sign} {
			text := "POST " + path + " HTTP/1.1\r\n\r\n"
			if may {
				readsAs(t, text, impl.Request{Method: "POST", Path: path}, len(text), impl.OK)
			} else {
				refused(t, text, impl.ErrForm)
			}
			told, code := impl.RequestText(impl.Request{Method: "POST", Path: path})
			if (code == impl.OK) != may || !may && (told != "" || code != impl.ErrBad) {
				t.Errorf("RequestText of path %q: %q, %d", path, told, code)
			}
			page, code := impl.PageText(302, path, "")
			if (code == impl.OK) != may || !may && (page != "" || code != impl.ErrRange) {
				t.Errorf("PageText to %q: %q, %d", path, page, code)
			}
		}
		if first := sign + "a"; sign != "/" {
			refused(t, "POST "+first+" HTTP/1.1\r\n\r\n", impl.ErrForm)
		}
	}
}

func TestMethods(t *testing.T) {
	for _, method := range []string{"PUT", "HEAD", "get", "post", "Get", "POSt", "GE", "GETT", "POS", "POSTS", "GET/", "\x00", "\xff", "\r", "\n", "GET\r", "\nGET", ":", "GET:", "DELETE", "GET,POST", "OK", ""} {
		refused(t, method+" / HTTP/1.1\r\n\r\n", impl.ErrMethod)
		if text, code := impl.RequestText(impl.Request{Method: method, Path: "/"}); text != "" || code != impl.ErrBad {
			t.Errorf("RequestText of method %q: %q, %d", method, text, code)
		}
	}
}

func TestFirstLinesThatAreOthers(t *testing.T) {
	for _, line := range []string{"", " ", "  ", "GET", "GET /", "GET / ", "GET HTTP/1.1", "/ HTTP/1.1", "GET / HTTP/1.0", "GET / HTTP/1.10", "GET / http/1.1", "GET / HTTP/1.1 ", " GET / HTTP/1.1", "GET  / HTTP/1.1", "GET /  HTTP/1.1", "GET   /   HTTP/1.1",
		"GET /a /b HTTP/1.1", "GET / HTTP/1.1 x", "GET\t/\tHTTP/1.1", "GET /\tHTTP/1.1", "GET\t/ HTTP/1.1", "GET/ HTTP/1.1", "GET /HTTP/1.1", "GET / HTTP/1.1\r", "GET / HTTP/1.1\n", "GET / \nHTTP/1.1", "GET / \rHTTP/1.1", "GET /\r HTTP/1.1", "GET /\n HTTP/1.1", "GET / HTTP/1.", "GET / HTTP/1.11", "GET / HTTP/2", "HTTP/1.1 / GET", "HTTP/1.1 200 OK", "Host: portal", "no colon", "PUT", "PUT x HTTP/1.1", "PUT / HTTP/1.0", "get  / HTTP/1.1", "  / HTTP/1.1", " / HTTP/1.0", " x HTTP/1.1"} {
		refused(t, line+"\r\n\r\n", impl.ErrForm)
		refused(t, line+"\r\nHost: portal\r\n\r\n", impl.ErrForm)
		refused(t, line+"\r\nno colon\r\nContent-Length: 81\r\n\r\n", impl.ErrForm)
	}
}

// Only both bytes, in their order, end a line.
func TestBytes13And10Alone(t *testing.T) {
	for _, end := range []string{"\r", "\n", "\n\r", "\r\r", "\n\n"} {
		refused(t, "GET / HTTP/1.1"+end+end, impl.ErrMore)
		refused(t, "GET / HTTP/1.1"+end+"Host: portal"+end+end, impl.ErrMore)
		refused(t, "GET / HTTP/1.1"+end+"Host: portal\r\n\r\n", impl.ErrForm)
		head := headWith("A: a" + end + "Content-Length: 5")
		readsAs(t, head+"abcde", impl.Request{Method: "POST", Path: "/login"}, len(head), impl.OK)
	}
}

// messageParts is a request by its parts, each of which may be wrong.
type messageParts struct {
	method, path, version string
	lines                 []string
	body, behind          string
	ended                 bool
}

func (p messageParts) text() string {
	head := strings.Join(append([]string{p.method + " " + p.path + " " + p.version}, p.lines...), "\r\n") + "\r\n"
	if !p.ended {
		return head + p.behind
	}
	return head + "\r\n" + p.body + p.behind
}

func TestFaultsOfARequestInTheirOrder(t *testing.T) {
	faults := []struct {
		code int
		set  func(p *messageParts)
	}{
		{impl.ErrLong, func(p *messageParts) { p.behind = strings.Repeat("x", impl.MaxText) }},
		{impl.ErrLong, func(p *messageParts) { p.lines = append(p.lines, "X: "+strings.Repeat("x", 200)) }},
		{impl.ErrMore, func(p *messageParts) { p.ended = false }},
		{impl.ErrForm, func(p *messageParts) { p.version = "HTTP/1.0" }},
		{impl.ErrForm, func(p *messageParts) { p.path = "login" }},
		{impl.ErrMethod, func(p *messageParts) { p.method = "PUT" }},
		{impl.ErrForm, func(p *messageParts) { p.lines = append(p.lines, "no colon") }},
		{impl.ErrForm, func(p *messageParts) { p.lines = append([]string{": x"}, p.lines...) }},
		{impl.ErrForm, func(p *messageParts) { p.lines = append(p.lines, "content-length: 03") }},
		{impl.ErrLong, func(p *messageParts) { p.lines[len(p.lines)-1] = "Content-Length: 81" }},
		{impl.ErrMore, func(p *messageParts) { p.body = "ab" }},
	}
	for set := range 1 << len(faults) {
		p := messageParts{method: "POST", path: "/", version: "HTTP/1.1", lines: []string{"Content-Length: 3"}, body: "abc", ended: true}
		want := impl.OK
		for k := len(faults) - 1; k >= 0; k-- {
			if set>>k&1 == 1 {
				faults[k].set(&p)
				want = faults[k].code
			}
		}
		if want != impl.OK {
			refused(t, p.text(), want)
		} else {
			readsAs(t, p.text(), impl.Request{Method: "POST", Path: "/", Body: "abc"}, len(p.text()), impl.OK)
		}
	}
}

var (
	openByHand   = regexp.MustCompile(`^([^ ]*) (/[A-Za-z0-9/.?=_-]{0,39}) HTTP/1\.1$`)
	lineByHand   = regexp.MustCompile(`(?s)^[^:]+:`)
	lengthByHand = regexp.MustCompile(`(?is)^content-length: *(.*?) *$`)
	digitsByHand = regexp.MustCompile(`^(0|[1-9][0-9]{0,17})$`)
)

// requestReadByHand reads a request another way, as the document's words go.
func requestReadByHand(text string) (impl.Request, int, int) {
	end := strings.Index(text, "\r\n\r\n")
	switch {
	case end < 0 && len(text) <= 200:
		return impl.Request{}, 0, impl.ErrMore
	case end < 0 || end > 196:
		return impl.Request{}, 0, impl.ErrLong
	}
	lines := strings.Split(text[:end], "\r\n")
	first := openByHand.FindStringSubmatch(lines[0])
	if first == nil {
		return impl.Request{}, 0, impl.ErrForm
	}
	if !slices.Contains([]string{"GET", "POST"}, first[1]) {
		return impl.Request{}, 0, impl.ErrMethod
	}
	var told []string
	for _, line := range lines[1:] {
		if !lineByHand.MatchString(line) {
			return impl.Request{}, 0, impl.ErrForm
		}
		if found := lengthByHand.FindStringSubmatch(line); found != nil {
			told = append(told, found[1])
		}
	}
	size := 0
	if len(told) > 1 || len(told) == 1 && !digitsByHand.MatchString(told[0]) {
		return impl.Request{}, 0, impl.ErrForm
	}
	if len(told) == 1 {
		size, _ = strconv.Atoi(told[0])
	}
	if size > 80 {
		return impl.Request{}, 0, impl.ErrLong
	}
	if len(text) < end+4+size {
		return impl.Request{}, 0, impl.ErrMore
	}
	return impl.Request{Method: first[1], Path: first[2], Body: text[end+4 : end+4+size]}, end + 4 + size, impl.OK
}

func TestTextsOfAllKindsAreReadAsByHand(t *testing.T) {
	pieces := []string{"GET", "POST", "PUT", " ", " ", "/", "/login", "HTTP/1.1", "HTTP/1.1\r\n", "\r\n", "\r\n", "\r\n\r\n", "\r", "\n", ":", "Content-Length", "content-length:", "Content-Length: ", "0", "3", "80", "81", "-", "a", "Host: portal\r\n", "\x00", "\xff", strings.Repeat("x", 90)}
	chance := rand.New(rand.NewSource(12))
	seen := map[int]int{}
	for range 60000 {
		var text string
		if chance.Intn(3) > 0 {
			text = []string{"GET / HTTP/1.1\r\n", "POST /login HTTP/1.1\r\nHost: portal\r\n", "GET / HTTP/1.1\r\nContent-Length: ", "PUT / HTTP/1.1\r\n"}[chance.Intn(4)]
		}
		for range chance.Intn(9) {
			text += pieces[chance.Intn(len(pieces))]
		}
		r, size, code := requestReadByHand(text)
		readsAs(t, text, r, size, code)
		seen[code]++
	}
	for _, code := range []int{impl.OK, impl.ErrMore, impl.ErrLong, impl.ErrForm, impl.ErrMethod} {
		if seen[code] < 100 {
			t.Errorf("code %d was seen %d times", code, seen[code])
		}
	}
}

// A right request with one byte put in, taken out or turned.
func TestRequestsWithOneByteChanged(t *testing.T) {
	chance := rand.New(rand.NewSource(13))
	for _, right := range sampleRequests() {
		text := requestByHand(right)
		for at := range len(text) {
			c := "\r\n: 0x9/-G"[chance.Intn(10)]
			for _, changed := range []string{text[:at] + text[at+1:], text[:at] + string(c) + text[at+1:], text[:at] + string(c) + text[at:]} {
				r, size, code := requestReadByHand(changed)
				readsAs(t, changed, r, size, code)
			}
		}
	}
}

func TestRequestsThatAreNone(t *testing.T) {
	right := impl.Request{Method: "POST", Path: "/login", Body: strings.Repeat("b", 80)}
	if text, code := impl.RequestText(right); text != requestByHand(right) || code != impl.OK {
		t.Errorf("RequestText: %q, %d", text, code)
	}
	long := strings.Repeat("l", impl.MaxText+1)
	for _, set := range []func(r *impl.Request){
		func(r *impl.Request) { r.Body += "b" },
		func(r *impl.Request) { r.Body = strings.Repeat("b", 100) },
		func(r *impl.Request) { r.Body = long },
		func(r *impl.Request) { r.Method = "" },
		func(r *impl.Request) { r.Method = long },
		func(r *impl.Request) { r.Path = "" },
		func(r *impl.Request) { r.Path = "/" + long },
		func(r *impl.Request) { *r = impl.Request{} },
		func(r *impl.Request) { *r = impl.Request{Method: long, Path: long, Body: long} },
	} {
		r := right
		set(&r)
		if text, code := impl.RequestText(r); text != "" || code != impl.ErrBad {
			t.Errorf("RequestText(%.100q) = %.100q, %d", r, text, code)
		}
	}
}
