package tests

import (
	"math"
	"strings"
	"testing"

	"loop.example/g00356/impl"
)

func TestNames(t *testing.T) {
	good := []string{"a", "z", "A", "Z", "_", "a1", "_9", "Guest_7", strings.Repeat("n", impl.MaxName)}
	for _, s := range good {
		if !impl.NameOK(s) {
			t.Errorf("NameOK(%q) is false", s)
		}
	}
	bad := []string{"", "1", "9a", " a", "a ", "a-b", "a.b", "a\x00", "\xe9", "ä", "a\n",
		strings.Repeat("n", impl.MaxName+1), strings.Repeat("n", impl.MaxText+1)}
	for _, s := range bad {
		if impl.NameOK(s) {
			t.Errorf("NameOK(%.50q) is true", s)
		}
	}
}

func TestNamesByEachByte(t *testing.T) {
	const letters = "abcdefghijklmnopqrstuvwxyzABCDEFGHIJKLMNOPQRSTUVWXYZ_"
	const digits = "0123456789"
	for c := range 256 {
		s := string([]byte{byte(c)})
		letter := strings.Contains(letters, s)
		if impl.NameOK(s) != letter {
			t.Errorf("NameOK(%q) is not %v", s, letter)
		}
		if behind := letter || strings.Contains(digits, s); impl.NameOK("a"+s) != behind {
			t.Errorf("NameOK(%q) is not %v", "a"+s, behind)
		}
	}
}

func TestCodes(t *testing.T) {
	for code, row := range codeRows() {
		if row.code != code {
			t.Errorf("the constant of %q is %d, not %d", row.word, row.code, code)
		}
		if w := impl.CodeWord(code); w != row.word {
			t.Errorf("CodeWord(%d) = %q", code, w)
		}
		if n := impl.CodeOf(row.word); n != code {
			t.Errorf("CodeOf(%q) = %d", row.word, n)
		}
	}
}

func TestOtherCodes(t *testing.T) {
	for _, code := range []int{-1, 20, 256, 1 << 32, math.MaxInt, math.MinInt} {
		if w := impl.CodeWord(code); w != "" {
			t.Errorf("CodeWord(%d) = %q", code, w)
		}
	}
	long := strings.Repeat("o", impl.MaxText+1)
	for _, w := range []string{"", "OK", "Bad", "ok ", " ok", "o", "okk", "ranges", "0", "\x00", long} {
		if n := impl.CodeOf(w); n != -1 {
			t.Errorf("CodeOf(%.50q) = %d", w, n)
		}
	}
}

func TestLimits(t *testing.T) {
	if impl.MaxText != 65536 || impl.MaxList != 4096 || impl.MaxName != 40 || impl.MaxAddress != 4294967295 {
		t.Error("a limit is not the document's")
	}
}

type codeRow struct {
	code int
	word string
}

// codeRows is the document's table, in the order of its numbers.
func codeRows() []codeRow {
	return []codeRow{
		{impl.OK, "ok"}, {impl.ErrBad, "bad"}, {impl.ErrLong, "long"}, {impl.ErrForm, "form"},
		{impl.ErrRange, "range"}, {impl.ErrNone, "none"}, {impl.ErrMany, "many"}, {impl.ErrFull, "full"},
		{impl.ErrSum, "sum"}, {impl.ErrTwice, "twice"}, {impl.ErrProto, "proto"}, {impl.ErrPart, "part"},
		{impl.ErrState, "state"}, {impl.ErrUser, "user"}, {impl.ErrBusy, "busy"}, {impl.ErrSpent, "spent"},
		{impl.ErrRefused, "refused"}, {impl.ErrOrder, "order"}, {impl.ErrMethod, "method"}, {impl.ErrMore, "more"},
	}
}
