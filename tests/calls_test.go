package tests

import (
	"bytes"
	"math"
	"reflect"
	"slices"
	"strings"
	"testing"

	"loop.example/g00356/impl"
)

// call is one call with its arguments fixed: it tells all that was answered.
type call struct {
	name string
	do   func() []any
}

func TestCallsHangOnNothingAhead(t *testing.T) {
	calls := sampleCalls()
	first := make([][]any, len(calls))
	for i, c := range calls {
		first[i] = c.do()
	}
	for i, c := range slices.Backward(calls) {
		if again := c.do(); !reflect.DeepEqual(again, first[i]) {
			t.Errorf("%s answered %v, then %v", c.name, first[i], again)
		}
	}
}

func TestArgumentsStayAsTheyWere(t *testing.T) {
	for size := range 20 {
		// What stands behind the end of the argument must stay, too.
		room := sampleBytes(size+8, size)
		before := bytes.Clone(room)
		impl.Check16(room[:size])
		impl.NumberOf(room[:size])
		if !bytes.Equal(room, before) {
			t.Errorf("with %d bytes handed in, %v became %v", size, before, room)
		}
	}
}

func TestAnswersAreNewMemory(t *testing.T) {
	a, _ := impl.NumberBytes(0x010203, 3)
	b, _ := impl.NumberBytes(0x010203, 3)
	for i := range a {
		a[i] = 0xff
	}
	_ = append(a, 0xff)
	if c, _ := impl.NumberBytes(0x010203, 3); string(b) != "\x01\x02\x03" || string(c) != "\x01\x02\x03" {
		t.Errorf("an answer was changed through another one: %v, %v", b, c)
	}
}

func TestEmptyAndNilAreAlike(t *testing.T) {
	if impl.Check16(nil) != impl.Check16([]byte{}) {
		t.Error("Check16 tells nil from an empty list")
	}
	n, code := impl.NumberOf(nil)
	if m, other := impl.NumberOf([]byte{}); n != m || code != other {
		t.Error("NumberOf tells nil from an empty list")
	}
}

// sampleCalls has the calls of chapters 1 and 2 with right arguments, edges and
// wrong ones: a panic in any of them fails the test.
func sampleCalls() []call {
	var calls []call
	add := func(name string, do func() []any) { calls = append(calls, call{name, do}) }
	for _, s := range []string{"", "a", "ok", "more", "1.2.3.4", "1.2.3", "02:00:00:00:00:ff", "02:00:00:00:00:zz", "123456", "\xff\x00",
		strings.Repeat(".", impl.MaxText), strings.Repeat(":", impl.MaxText+1)} {
		add("NameOK", func() []any { return []any{impl.NameOK(s)} })
		add("CodeOf", func() []any { return []any{impl.CodeOf(s)} })
		add("ReadAddress", func() []any { n, code := impl.ReadAddress(s); return []any{n, code} })
		add("MacText", func() []any { text, code := impl.MacText(s); return []any{text, code} })
		add("ReadMac", func() []any { mac, code := impl.ReadMac(s); return []any{mac, code} })
		add("Check16", func() []any { return []any{impl.Check16([]byte(s))} })
		add("NumberOf", func() []any { n, code := impl.NumberOf([]byte(s)); return []any{n, code} })
	}
	for _, n := range []int{math.MinInt, -1, 0, 1, 6, 7, 19, 20, 255, 256, impl.MaxAddress, impl.MaxAddress + 1, math.MaxInt} {
		add("CodeWord", func() []any { return []any{impl.CodeWord(n)} })
		add("AddressText", func() []any { text, code := impl.AddressText(n); return []any{text, code} })
		for _, size := range []int{math.MinInt, -1, 0, 1, 2, 4, 6, 7, math.MaxInt} {
			add("NumberBytes", func() []any { b, code := impl.NumberBytes(n, size); return []any{string(b), code} })
		}
	}
	return calls
}
