package tests

import (
	"encoding/hex"
	"fmt"
	"math"
	"math/rand"
	"slices"
	"strings"
	"testing"

	"loop.example/g00356/impl"
)

const plainBytes = "abcdefghijklmnopqrstuvwxyzABCDEFGHIJKLMNOPQRSTUVWXYZ0123456789-._"

// escapedByHand tells a byte as it is escaped.
func escapedByHand(c byte) string {
	switch {
	case strings.IndexByte(plainBytes, c) >= 0:
		return string([]byte{c})
	case c == 32:
		return "+"
	}
	return fmt.Sprintf("%%%02X", c)
}

func TestEachByteIsEscapedAndReadBack(t *testing.T) {
	var all, told string
	for c := range 256 {
		text, want := string([]byte{byte(c)}), escapedByHand(byte(c))
		if got, code := impl.EscapeText(text); got != want || code != impl.OK {
			t.Errorf("EscapeText(%q) = %q, %d", text, got, code)
		}
		for _, escape := range []string{want, strings.ToLower(fmt.Sprintf("%%%02X", c)), fmt.Sprintf("%%%02X", c)} {
			if got, code := impl.UnescapeText(escape); got != text || code != impl.OK {
				t.Errorf("UnescapeText(%q) = %q, %d", escape, got, code)
			}
		}
		all, told = all+text, told+want
	}
	if got, code := impl.EscapeText(all); got != told || code != impl.OK {
		t.Errorf("EscapeText of all bytes: %q, %d", got, code)
	}
	if got, code := impl.UnescapeText(told); got != all || code != impl.OK {
		t.Errorf("UnescapeText of all bytes: %q, %d", got, code)
	}
}

func TestEscapesWrittenOut(t *testing.T) {
	for _, row := range []struct{ text, escape string }{
		{"", ""}, {" ", "+"}, {"+", "%2B"}, {"%", "%25"}, {"%41", "%2541"}, {"a b", "a+b"}, {"  ", "++"}, {"a=b&c", "a%3Db%26c"}, {"~", "%7E"}, {"*", "%2A"}, {"/", "%2F"},
		{"\x00\n\r\t", "%00%0A%0D%09"}, {"\xff\xfe", "%FF%FE"}, {"é", "%C3%A9"}, {"A-._z09", "A-._z09"},
	} {
		if got, code := impl.EscapeText(row.text); got != row.escape || code != impl.OK {
			t.Errorf("EscapeText(%q) = %q, %d", row.text, got, code)
		}
		if got, code := impl.UnescapeText(row.escape); got != row.text || code != impl.OK {
			t.Errorf("UnescapeText(%q) = %q, %d", row.escape, got, code)
		}
	}
}

// Bytes that need be escaped are read as they are, all but the two signs.
func TestOtherBytesAreReadAsTheyAre(t *testing.T) {
	for c := range 256 {
		if c == '+' || c == '%' {
			continue
		}
		text := string([]byte{'a', byte(c), 'b', byte(c)})
		if got, code := impl.UnescapeText(text); got != text || code != impl.OK {
			t.Errorf("UnescapeText(%q) = %q, %d", text, got, code)
		}
	}
	if got, code := impl.UnescapeText("%25%34%31%2b+"); got != "%41+ " || code != impl.OK {
		t.Errorf("what was unescaped is unescaped again: %q, %d", got, code)
	}
}

// Each two bytes behind a %, held against the library's digits.
func TestEachTwoDigits(t *testing.T) {
	for pair := range 1 << 16 {
		digits := string([]byte{byte(pair >> 8), byte(pair)})
		want, code := "", impl.ErrForm
		if b, err := hex.DecodeString(digits); err == nil {
			want, code = "<"+string(b)+">", impl.OK
		}
		if got, is := impl.UnescapeText("<%" + digits + ">"); got != want || is != code {
			t.Fatalf("UnescapeText(<%%%q>) = %q, %d", digits, got, is)
		}
	}
}

func TestEscapesThatAreNone(t *testing.T) {
	for _, text := range []string{"%", "%4", "a%", "a%4", "%%", "%%41", "%4%41", "%41%", "%41%4", "%g0", "%0g", "%0G", "%G0", "% 4", "%4 ", "%+4", "%4+", "%-1", "%0x", "%zz", "%\x10\x11", "%\x1a\x1b", "%\x00\x00", "%٣", "a+b%", strings.Repeat("%41", 1000) + "%"} {
		if got, code := impl.UnescapeText(text); got != "" || code != impl.ErrForm {
			t.Errorf("UnescapeText(%.100q) = %q, %d", text, got, code)
		}
	}
}

func TestTextsToEscapeAtTheirEdge(t *testing.T) {
	for _, row := range []struct{ size, code int }{{0, impl.OK}, {1, impl.OK}, {999, impl.OK}, {1000, impl.OK}, {1001, impl.ErrRange}, {1002, impl.ErrRange}, {3000, impl.ErrRange}, {impl.MaxText, impl.ErrRange}, {impl.MaxText + 1, impl.ErrLong}, {2 * impl.MaxText, impl.ErrLong}} {
		for _, sign := range []string{"a", " ", "%", "\xff"} {
			want := strings.Repeat(escapedByHand(sign[0]), row.size)
			if row.code != impl.OK {
				want = ""
			}
			if got, code := impl.EscapeText(strings.Repeat(sign, row.size)); got != want || code != row.code {
				t.Errorf("EscapeText of %d times %q: %.50q, %d", row.size, sign, got, code)
			}
		}
	}
}

// What is read has no lesser bound than MaxText, and a wrong escape in what is too long is too long.
func TestTextsToUnescapeAtTheirEdge(t *testing.T) {
	for _, size := range []int{1000, 1001, 3003, impl.MaxText - 1, impl.MaxText} {
		text := strings.Repeat("a", size)
		if got, code := impl.UnescapeText(text); got != text || code != impl.OK {
			t.Errorf("UnescapeText of %d bytes: %d", size, code)
		}
		if got, code := impl.UnescapeText(text[:size-3] + "%2b"); got != text[:size-3]+"+" || code != impl.OK {
			t.Errorf("UnescapeText of %d bytes with an escape: %d", size, code)
		}
		if got, code := impl.UnescapeText(text[:size-1] + "%"); got != "" || code != impl.ErrForm {
			t.Errorf("UnescapeText of %d bytes with a %% behind: %d", size, code)
		}
	}
	for _, text := range []string{strings.Repeat("a", impl.MaxText+1), strings.Repeat("%", impl.MaxText+1), strings.Repeat("%41", impl.MaxText)} {
		if got, code := impl.UnescapeText(text); got != "" || code != impl.ErrLong {
			t.Errorf("UnescapeText of %d bytes: %d", len(text), code)
		}
	}
}

func TestTextsOfAllKindsAreEscapedAndReadBack(t *testing.T) {
	for seed := range 500 {
		text := string(sampleBytes(seed*2+1, seed))
		escape, code := impl.EscapeText(text)
		back, other := impl.UnescapeText(escape)
		if back != text || code != impl.OK || other != impl.OK {
			t.Errorf("%q became %q, then %q: %d, %d", text, escape, back, code, other)
		}
	}
}

// formByHand is the text of pairs, byte by byte.
func formByHand(list []impl.Pair) string {
	var text string
	for i, p := range list {
		if i > 0 {
			text += "&"
		}
		for _, c := range []byte(p.Key) {
			text += escapedByHand(c)
		}
		text += "="
		for _, c := range []byte(p.Value) {
			text += escapedByHand(c)
		}
	}
	return text
}

func sampleForms() [][]impl.Pair {
	forty := string(sampleBytes(40, 1))
	lists := [][]impl.Pair{nil, {{Key: "a"}}, {{Key: "a", Value: "b"}}, {{Key: "name", Value: "ann"}, {Key: "word", Value: "apple"}}, {{Key: "a"}, {Key: "a"}, {Key: "a", Value: "1"}},
		{{Key: "=", Value: "="}, {Key: "&", Value: "&"}, {Key: "%", Value: "%41"}, {Key: " ", Value: "+"}}, {{Key: forty, Value: forty}}, {{Key: forty}}, {{Key: "k", Value: forty}}, {{Key: "\x00", Value: "\xff\r\n"}}}
	for size := 1; size <= 8; size++ {
		list := make([]impl.Pair, size)
		for i := range list {
			list[i] = impl.Pair{Key: string(sampleBytes(1+(i*13+size)%40, i)), Value: string(sampleBytes((i*7+size)%41, size))}
		}
		lists = append(lists, list, slices.Repeat([]impl.Pair{{Key: "k"}}, size), slices.Repeat([]impl.Pair{{Key: forty, Value: forty}}, size))
	}
	return lists
}

func TestFormsAreReadBack(t *testing.T) {
	for _, list := range sampleForms() {
		text, code := impl.FormText(list)
		if text != formByHand(list) || code != impl.OK {
			t.Errorf("FormText(%q) = %q, %d", list, text, code)
		}
		back, code := impl.ReadForm(text)
		if !slices.Equal(back, list) || code != impl.OK {
			t.Errorf("ReadForm(%q) = %q, %d", text, back, code)
		}
	}
}

func TestFormsWrittenOut(t *testing.T) {
	for _, row := range []struct {
		text string
		want []impl.Pair
	}{
		{"", nil},
		{"a=", []impl.Pair{{Key: "a"}}},
		{"a=b", []impl.Pair{{Key: "a", Value: "b"}}},
		{"+=+", []impl.Pair{{Key: " ", Value: " "}}},
		{"%3d=%3D", []impl.Pair{{Key: "=", Value: "="}}},
		{"%26=a%26b&c=d", []impl.Pair{{Key: "&", Value: "a&b"}, {Key: "c", Value: "d"}}},
		{"a=%00", []impl.Pair{{Key: "a", Value: "\x00"}}},
		{"a b=c d", []impl.Pair{{Key: "a b", Value: "c d"}}},
		{"a\r\n=\xff;", []impl.Pair{{Key: "a\r\n", Value: "\xff;"}}},
		{"a=1&a=1&b=&a=2", []impl.Pair{{Key: "a", Value: "1"}, {Key: "a", Value: "1"}, {Key: "b"}, {Key: "a", Value: "2"}}},
	} {
		if list, code := impl.ReadForm(row.text); !slices.Equal(list, row.want) || code != impl.OK {
			t.Errorf("ReadForm(%q) = %q, %d", row.text, list, code)
		}
	}
}

func TestFormsThatAreNone(t *testing.T) {
	for _, text := range []string{"&", "&&", "=", "==", "=&=", "a", "a&", "&a", "a=b=c", "a==", "==a", "a==b", "=x", "=x=", "a=b&", "&a=b", "a=b&&c=d", "a=b&c", "a&c=d", "a=b&=d", "=b&c=d", "a=b&c=d=e", "a=b=c&d", "a=b;c=d",
		"x=%", "x=%4", "x=%zz", "%=x", "%4=1", "%zz=x", "a=b&x=%4g", "%=", "a=%&b=c", "a%3Db", "a%26=b&", " ", "+", "\x00", "a=b&%", "%3D%3D"} {
		if list, code := impl.ReadForm(text); len(list) != 0 || code != impl.ErrForm {
			t.Errorf("ReadForm(%q) = %q, %d", text, list, code)
		}
	}
}

func TestFormsOfEightAndMorePairs(t *testing.T) {
	for size := range 30 {
		text := strings.Join(slices.Repeat([]string{"k=v"}, size), "&")
		list, code := impl.ReadForm(text)
		if size <= 8 && (!slices.Equal(list, slices.Repeat([]impl.Pair{{Key: "k", Value: "v"}}, size)) || code != impl.OK) {
			t.Errorf("ReadForm of %d pairs: %q, %d", size, list, code)
		}
		if size > 8 && (len(list) != 0 || code != impl.ErrForm) {
			t.Errorf("ReadForm of %d pairs: %q, %d", size, list, code)
		}
	}
}

// A form that is read has Keys and Values of any length.
func TestLongFormsAreRead(t *testing.T) {
	for _, size := range []int{40, 41, 1000, 1001, 30000} {
		want := []impl.Pair{{Key: strings.Repeat("k", size), Value: strings.Repeat(" ", size)}}
		if list, code := impl.ReadForm(want[0].Key + "=" + strings.Repeat("+", size)); !slices.Equal(list, want) || code != impl.OK {
			t.Errorf("ReadForm of %d bytes: %d", size, code)
		}
	}
	for _, row := range []struct {
		text string
		code int
	}{
		{"k=" + strings.Repeat("v", impl.MaxText-2), impl.OK},
		{"k=" + strings.Repeat("v", impl.MaxText-1), impl.ErrLong},
		{strings.Repeat("&", impl.MaxText), impl.ErrForm},
		{strings.Repeat("&", impl.MaxText+1), impl.ErrLong},
		{strings.Repeat("=", impl.MaxText), impl.ErrForm},
		{strings.Repeat("%", impl.MaxText+1), impl.ErrLong},
	} {
		if list, code := impl.ReadForm(row.text); code != row.code || code != impl.OK && len(list) != 0 {
			t.Errorf("ReadForm of %d bytes, %.5q: %d", len(row.text), row.text, code)
		}
	}
}

// formReadByHand reads a form byte by byte; false if it is none.
func formReadByHand(text string) ([]impl.Pair, bool) {
	if text == "" {
		return nil, true
	}
	var list []impl.Pair
	var p impl.Pair
	behind := false
	for i := 0; i <= len(text); i++ {
		if i == len(text) || text[i] == '&' {
			if !behind || p.Key == "" {
				return nil, false
			}
			list, p, behind = append(list, p), impl.Pair{}, false
			continue
		}
		c := text[i : i+1]
		switch c {
		case "=":
			if behind {
				return nil, false
			}
			behind = true
			continue
		case "+":
			c = " "
		case "%":
			if i+3 > len(text) {
				return nil, false
			}
			b, err := hex.DecodeString(text[i+1 : i+3])
			if err != nil {
				return nil, false
			}
			c, i = string(b), i+2
		}
		if behind {
			p.Value += c
		} else {
			p.Key += c
		}
	}
	return list, len(list) <= 8
}

func TestFormsOfAllKindsAreReadAsByHand(t *testing.T) {
	pieces := []string{"a", "b", "=", "=", "a=b", "&", "&", "&a=", "%", "%41", "%3d", "%26", "4", "+", " ", "\xff"}
	chance := rand.New(rand.NewSource(14))
	right := 0
	for range 40000 {
		var text string
		for range chance.Intn(14) {
			text += pieces[chance.Intn(len(pieces))]
		}
		want, ok := formReadByHand(text)
		code := impl.ErrForm
		if ok {
			code = impl.OK
			right++
		} else {
			want = nil
		}
		if list, got := impl.ReadForm(text); !slices.Equal(list, want) || got != code {
			t.Fatalf("ReadForm(%q) = %q, %d, not %q, %d", text, list, got, want, code)
		}
	}
	if right < 1000 {
		t.Errorf("only %d right forms", right)
	}
}

func TestFaultsOfPairs(t *testing.T) {
	long := strings.Repeat("l", impl.MaxText+1)
	for _, wrong := range []impl.Pair{{}, {Value: "v"}, {Key: strings.Repeat("k", 41)}, {Key: "k", Value: strings.Repeat("v", 41)}, {Key: strings.Repeat("k", 41), Value: strings.Repeat("v", 41)}, {Key: long}, {Key: "k", Value: long}, {Value: long}} {
		for size := 1; size <= 8; size++ {
			for at := range size {
				list := slices.Repeat([]impl.Pair{{Key: "k", Value: "v"}}, size)
				list[at] = wrong
				if text, code := impl.FormText(list); text != "" || code != impl.ErrRange {
					t.Errorf("FormText with a wrong pair at %d of %d: %.50q, %d", at, size, text, code)
				}
			}
		}
		for _, row := range []struct{ size, code int }{{9, impl.ErrMany}, {10, impl.ErrMany}, {impl.MaxList, impl.ErrMany}, {impl.MaxList + 1, impl.ErrLong}, {2 * impl.MaxList, impl.ErrLong}} {
			for _, p := range []impl.Pair{wrong, {Key: "k", Value: "v"}} {
				if text, code := impl.FormText(slices.Repeat([]impl.Pair{p}, row.size)); text != "" || code != row.code {
					t.Errorf("FormText of %d pairs: %.50q, %d", row.size, text, code)
				}
			}
		}
	}
}

func TestNoPairs(t *testing.T) {
	for _, list := range [][]impl.Pair{nil, {}, make([]impl.Pair, 0, 20)} {
		if text, code := impl.FormText(list); text != "" || code != impl.OK {
			t.Errorf("FormText of none: %q, %d", text, code)
		}
	}
}

func TestPairsHandedInStayAsTheyWere(t *testing.T) {
	for _, list := range append(sampleForms(), make([]impl.Pair, 9), []impl.Pair{{Key: "a"}, {}}) {
		room := append(slices.Clone(list), impl.Pair{Key: "behind", Value: "it"}, impl.Pair{})
		before := slices.Clone(room)
		impl.FormText(room[:len(list)])
		if !slices.Equal(room, before) {
			t.Errorf("%q became %q", before, room)
		}
	}
}

func TestPairsReadAreNewMemory(t *testing.T) {
	want := []impl.Pair{{Key: "a", Value: "b"}, {Key: "c", Value: "d"}}
	for range 2 {
		list, code := impl.ReadForm("a=b&c=d")
		if !slices.Equal(list, want) || code != impl.OK {
			t.Fatalf("ReadForm: %q, %d", list, code)
		}
		clear(list[:cap(list)])
	}
}

func pageStatuses() map[int]string {
	return map[int]string{200: "OK", 302: "Found", 400: "Bad Request", 403: "Forbidden", 404: "Not Found", 429: "Too Many Requests", 503: "Service Unavailable"}
}

// pageByHand is a page's text, written out.
func pageByHand(status int, where, body string) string {
	page := fmt.Sprintf("HTTP/1.1 %d %s\r\n", status, pageStatuses()[status])
	if where != "" {
		page += "Location: " + where + "\r\n"
	}
	return page + fmt.Sprintf("Content-Length: %d\r\nConnection: close\r\n\r\n%s", len(body), body)
}

func TestStatusWords(t *testing.T) {
	words := pageStatuses()
	for status := -1000; status <= 2000; status++ {
		if word := impl.StatusWord(status); word != words[status] {
			t.Errorf("StatusWord(%d) = %q", status, word)
		}
	}
	for _, status := range []int{math.MinInt, -200, 1<<32 + 200, 1<<16 + 404, math.MaxInt} {
		if word := impl.StatusWord(status); word != "" {
			t.Errorf("StatusWord(%d) = %q", status, word)
		}
	}
}

func TestPages(t *testing.T) {
	for status := range pageStatuses() {
		for _, where := range append(samplePaths(), "") {
			for _, size := range []int{0, 1, 9, 10, 99, 100} {
				body := string(sampleBytes(size, status))
				if page, code := impl.PageText(status, where, body); page != pageByHand(status, where, body) || code != impl.OK {
					t.Errorf("PageText(%d, %q, %q) = %q, %d", status, where, body, page, code)
				}
			}
		}
	}
}

func TestPagesThatAreNone(t *testing.T) {
	hold := func(status int, where, body string, want int) {
		t.Helper()
		if page, code := impl.PageText(status, where, body); page != "" || code != want {
			t.Errorf("PageText(%d, %.50q, %d bytes) = %.50q, %d, not %d", status, where, len(body), page, code, want)
		}
	}
	for _, status := range []int{math.MinInt, -200, -1, 0, 1, 100, 199, 201, 301, 303, 401, 402, 405, 500, 502, 504, 1<<32 + 200, math.MaxInt} {
		hold(status, "", "", impl.ErrRange)
		hold(status, "/", "body", impl.ErrRange)
	}
	for _, where := range wrongPaths() {
		if where != "" {
			hold(200, where, "", impl.ErrRange)
		}
	}
	for _, size := range []int{101, 102, 1000, impl.MaxText} {
		hold(200, "", strings.Repeat("b", size), impl.ErrRange)
		hold(302, "/login", strings.Repeat("b", size), impl.ErrRange)
	}
	hold(200, "/"+strings.Repeat("w", impl.MaxText-1), "", impl.ErrRange)
	long := strings.Repeat("/", impl.MaxText+1)
	for _, status := range []int{200, 201} {
		for _, other := range []string{"", "x", strings.Repeat("y", 101), long} {
			hold(status, long, other, impl.ErrLong)
			hold(status, other, long, impl.ErrLong)
		}
	}
}
