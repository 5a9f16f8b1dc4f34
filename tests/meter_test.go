package tests

import (
	"cmp"
	"math"
	"slices"
	"testing"

	"loop.example/g00356/impl"
)

func TestClassesAreNumbered(t *testing.T) {
	classes := []int{impl.ClNan, impl.ClMinusInf, impl.ClMinus, impl.ClMinusNil, impl.ClNil, impl.ClPlus, impl.ClPlusInf}
	for want, class := range classes {
		if class != want {
			t.Errorf("the class %d is %d", want, class)
		}
	}
	if impl.MaxValue != 1000000000 {
		t.Errorf("MaxValue is %d", impl.MaxValue)
	}
}

// The words stand in their order: those of one row are alike.
func TestClassesAndRates(t *testing.T) {
	for i, row := range rowsOfWords() {
		for _, w := range row.words {
			if class, code := impl.ClassOf(w); class != row.class || code != impl.OK {
				t.Errorf("ClassOf(%#x) in row %d = %d, %d", w, i, class, code)
			}
			if rate := impl.RateWord(w); rate != row.rate {
				t.Errorf("RateWord(%#x) in row %d = %q", w, i, rate)
			}
		}
	}
}

// Each exponent is tried with either sign and fractions at their ends.
func TestClassesByTheirBits(t *testing.T) {
	for _, sign := range []int{0, 1} {
		for exponent := range 2048 {
			for _, fraction := range []int{0, 1, 1 << 31, 1<<32 - 1, 1 << 32, 1 << 51, 1<<52 - 1} {
				w := wordOf(uint64(sign<<63 | exponent<<52 | fraction))
				want := classByBits(sign, exponent, fraction)
				if class, code := impl.ClassOf(w); class != want || code != impl.OK {
					t.Errorf("ClassOf(%#x) = %d, %d, not %d", w, class, code, want)
				}
			}
		}
	}
}

func TestRatesAroundAThousand(t *testing.T) {
	for _, c := range []struct {
		f    float64
		want string
	}{{-1000, "wrong"}, {1, "slow"}, {999, "slow"}, {math.Nextafter(1000, 0), "slow"}, {1000, "fast"}, {math.Nextafter(1000, 2000), "fast"}, {1001, "fast"}} {
		if rate := impl.RateWord(wordOf(math.Float64bits(c.f))); rate != c.want {
			t.Errorf("RateWord of %v = %q", c.f, rate)
		}
	}
}

func TestWordsHaveOneOrder(t *testing.T) {
	rows := rowsOfWords()
	for i, a := range rows {
		for k, b := range rows {
			for _, x := range a.words {
				for _, y := range b.words {
					if n, code := impl.OrderOf(x, y); n != cmp.Compare(i, k) || code != impl.OK {
						t.Errorf("OrderOf(%#x, %#x) = %d, %d", x, y, n, code)
					}
				}
			}
		}
	}
}

// Those that are no number come first with either sign, and turn nothing.
func TestOrderTurnsWithTheSigns(t *testing.T) {
	rows := rowsOfWords()
	for _, a := range rows[1:] {
		for _, b := range rows[1:] {
			x, y := a.words[0], b.words[0]
			n, _ := impl.OrderOf(x, y)
			m, code := impl.OrderOf(negOf(t, x), negOf(t, y))
			if n != -m || code != impl.OK {
				t.Errorf("the order of %#x and %#x is %d, that of their turned ones %d, %d", x, y, n, m, code)
			}
		}
		for _, nan := range rows[0].words {
			n, _ := impl.OrderOf(nan, a.words[0])
			m, _ := impl.OrderOf(negOf(t, nan), negOf(t, a.words[0]))
			if n != -1 || m != -1 {
				t.Errorf("%#x is not ahead of %#x with each sign: %d, %d", nan, a.words[0], n, m)
			}
		}
	}
}

func TestSignsAreTurnedAlone(t *testing.T) {
	for _, row := range rowsOfWords() {
		for _, w := range row.words {
			want := impl.Word{High: (w.High + 1<<31) % (1 << 32), Low: w.Low}
			turned := negOf(t, w)
			if turned != want || negOf(t, turned) != w {
				t.Errorf("NegOf(%#x) = %#x", w, turned)
			}
			class, _ := impl.ClassOf(turned)
			if row.class == impl.ClNan && class != impl.ClNan || row.class != impl.ClNan && class != 7-row.class {
				t.Errorf("of the class %d, %#x turned is of %d", row.class, w, class)
			}
		}
	}
}

func TestWordsAreSorted(t *testing.T) {
	var all []impl.Word
	for _, row := range rowsOfWords() {
		all = append(all, row.words...)
	}
	nans := len(rowsOfWords()[0].words)
	for step := 1; step < 40; step++ {
		var mixed, first []impl.Word
		for i := range all {
			mixed = append(mixed, all[(i*41+step*7)%len(all)])
		}
		for _, w := range mixed {
			if slices.Contains(all[:nans], w) {
				first = append(first, w)
			}
		}
		want := append(first, all[nans:]...)
		if sorted, code := impl.SortWords(mixed); !slices.Equal(sorted, want) || code != impl.OK {
			t.Fatalf("SortWords(%#x) = %#x, %d", mixed, sorted, code)
		}
	}
}

// Many that are no number, with bits of their own, stay as they stood.
func TestAlikeWordsKeepTheirOrder(t *testing.T) {
	one, less := impl.Word{High: 0x3ff00000}, impl.Word{High: 0xbff00000}
	var list, want []impl.Word
	for i := range 50 {
		nan := impl.Word{High: 0x7ff00000 + i%2<<31, Low: i*37%50 + 1}
		list, want = append(list, []impl.Word{one, less}[i%2], nan), append(want, nan)
	}
	want = slices.Concat(want, slices.Repeat([]impl.Word{less}, 25), slices.Repeat([]impl.Word{one}, 25))
	if sorted, code := impl.SortWords(list); !slices.Equal(sorted, want) || code != impl.OK {
		t.Errorf("SortWords(%#x) = %#x, %d", list, sorted, code)
	}
}

func TestListsOfWordsBySize(t *testing.T) {
	for size, want := range map[int]int{0: impl.OK, 1: impl.OK, 2: impl.OK, 100: impl.OK, 101: impl.ErrMany, 4096: impl.ErrMany, 4097: impl.ErrLong} {
		list := fallingWords(size)
		sorted, code := impl.SortWords(list)
		if code != want || want != impl.OK && len(sorted) != 0 {
			t.Errorf("SortWords of %d words = %v, %d", size, sorted, code)
		}
		slices.Reverse(list)
		if want == impl.OK && !slices.Equal(sorted, list) {
			t.Errorf("SortWords of %d words = %v", size, sorted)
		}
	}
	if sorted, code := impl.SortWords(nil); len(sorted) != 0 || code != impl.OK {
		t.Errorf("SortWords(nil) = %v, %d", sorted, code)
	}
}

// A wrong word counts ahead of there being too many, and behind too long a list.
func TestListsWithAWrongWord(t *testing.T) {
	for size, want := range map[int]int{1: impl.ErrBad, 2: impl.ErrBad, 100: impl.ErrBad, 101: impl.ErrBad, 4096: impl.ErrBad, 4097: impl.ErrLong} {
		for _, at := range []int{0, size / 2, size - 1} {
			for _, wrong := range wrongWords() {
				list := fallingWords(size)
				list[at] = wrong
				if sorted, code := impl.SortWords(list); len(sorted) != 0 || code != want {
					t.Errorf("SortWords of %d with %v at %d = %v, %d", size, wrong, at, sorted, code)
				}
			}
		}
	}
}

func TestWrongWords(t *testing.T) {
	for _, w := range wrongWords() {
		if class, code := impl.ClassOf(w); class != 0 || code != impl.ErrBad {
			t.Errorf("ClassOf(%v) = %d, %d", w, class, code)
		}
		if turned, code := impl.NegOf(w); turned != (impl.Word{}) || code != impl.ErrBad {
			t.Errorf("NegOf(%v) = %v, %d", w, turned, code)
		}
		if rate := impl.RateWord(w); rate != "" {
			t.Errorf("RateWord(%v) = %q", w, rate)
		}
		for _, pair := range [][2]impl.Word{{w, {}}, {{}, w}, {w, w}, {w, {High: 0x7ff80000}}, {{High: 0x3ff00000}, w}} {
			if n, code := impl.OrderOf(pair[0], pair[1]); n != 0 || code != impl.ErrBad {
				t.Errorf("OrderOf(%v, %v) = %d, %d", pair[0], pair[1], n, code)
			}
		}
	}
	for _, w := range []impl.Word{{}, {High: 1<<32 - 1}, {Low: 1<<32 - 1}, {High: 1<<32 - 1, Low: 1<<32 - 1}} {
		if _, code := impl.ClassOf(w); code != impl.OK || impl.RateWord(w) == "" {
			t.Errorf("ClassOf(%v): %d", w, code)
		}
	}
}

func TestListsOfWordsStayAsTheyWere(t *testing.T) {
	for _, size := range []int{0, 1, 5, 100, 101} {
		// What stands behind the end of the argument must stay, too.
		room := fallingWords(size + 5)
		before := slices.Clone(room)
		sorted, _ := impl.SortWords(room[:size])
		if !slices.Equal(room, before) {
			t.Errorf("with %d words handed in, %v became %v", size, before, room)
		}
		sorted = sorted[:cap(sorted)]
		clear(sorted)
		if !slices.Equal(room, before) {
			t.Errorf("of %d words the answer shares memory", size)
		}
	}
}

func TestMeansAreRoundedDown(t *testing.T) {
	const most = impl.MaxValue
	for _, c := range []struct {
		list []int
		want int
	}{
		{[]int{0}, 0}, {[]int{7}, 7}, {[]int{-7}, -7}, {[]int{most}, most}, {[]int{-most}, -most},
		{[]int{1, 2}, 1}, {[]int{-1, -2}, -2}, {[]int{0, -1}, -1}, {[]int{0, 1}, 0}, {[]int{-1, 1}, 0},
		{[]int{1, 1, -3}, -1}, {[]int{0, 0, -1}, -1}, {[]int{0, 0, 0, -3}, -1}, {[]int{0, 0, 0, -4}, -1}, {[]int{0, 0, 0, -5}, -2},
		{[]int{0, 0, 0, 3}, 0}, {[]int{0, 0, 0, 4}, 1}, {[]int{most, most - 1}, most - 1}, {[]int{-most, 1 - most}, -most},
		{[]int{most, -most}, 0}, {[]int{most, -most, -1}, -1},
		{slices.Repeat([]int{most}, 4096), most}, {slices.Repeat([]int{-most}, 4096), -most},
		{append(slices.Repeat([]int{-most}, 4095), 1-most), -most}, {append(slices.Repeat([]int{most}, 4095), most-1), most - 1},
	} {
		if n, code := impl.MeanOf(c.list); n != c.want || code != impl.OK {
			t.Errorf("MeanOf of %d from %d on = %d, %d", len(c.list), c.list[0], n, code)
		}
	}
}

// A mean times the count is not above the sum, and the next one's is.
func TestMeansOfMany(t *testing.T) {
	for size := 1; size < 60; size++ {
		for seed := range 5 {
			var list []int
			sum := 0
			for _, b := range sampleBytes(size, seed) {
				list, sum = append(list, int(b)-128), sum+int(b)-128
			}
			n, code := impl.MeanOf(list)
			if n*size > sum || (n+1)*size <= sum || code != impl.OK {
				t.Errorf("MeanOf(%v) = %d, %d", list, n, code)
			}
			if n < slices.Min(list) || n > slices.Max(list) {
				t.Errorf("MeanOf(%v) = %d is not between the least and the most", list, n)
			}
		}
	}
}

func TestMeanFaults(t *testing.T) {
	for _, list := range [][]int{nil, {}} {
		if n, code := impl.MeanOf(list); n != 0 || code != impl.ErrNone {
			t.Errorf("MeanOf(%v) = %d, %d", list, n, code)
		}
	}
	for _, x := range wrongAmounts() {
		for _, list := range [][]int{{x}, {x, 1}, {1, x}, {x, -x}, append(make([]int, 4095), x)} {
			if n, code := impl.MeanOf(list); n != 0 || code != impl.ErrBad {
				t.Errorf("MeanOf of %d with %d = %d, %d", len(list), x, n, code)
			}
		}
		for _, list := range [][]int{make([]int, 4097), slices.Repeat([]int{x}, 4097)} {
			if n, code := impl.MeanOf(list); n != 0 || code != impl.ErrLong {
				t.Errorf("MeanOf of %d with %d = %d, %d", len(list), x, n, code)
			}
		}
	}
}

func TestListsOfAmountsStayAsTheyWere(t *testing.T) {
	room := []int{5, -3, 8, 1, 99}
	before := slices.Clone(room)
	for size := range room {
		impl.MeanOf(room[:size])
	}
	if !slices.Equal(room, before) {
		t.Errorf("%v became %v", before, room)
	}
}

func TestTheFirstAmountOfAMeter(t *testing.T) {
	for _, x := range []int{0, 1, -1, 7, -7, impl.MaxValue, -impl.MaxValue} {
		want := impl.Meter{Mean: x, Least: x, Most: x, Count: 1}
		if m, code := impl.MeterAdd(impl.Meter{}, x); m != want || code != impl.OK {
			t.Errorf("the first one, %d, makes %v, %d", x, m, code)
		}
	}
}

func TestMeansGoAQuarterOfTheWay(t *testing.T) {
	const most = impl.MaxValue
	for _, c := range []struct{ mean, x, want int }{
		{0, 0, 0}, {0, 1, 0}, {0, 3, 0}, {0, 4, 1}, {0, 5, 1}, {0, 8, 2},
		{0, -1, -1}, {0, -3, -1}, {0, -4, -1}, {0, -5, -2}, {0, -8, -2},
		{10, 9, 9}, {10, 6, 9}, {10, 5, 8}, {10, 13, 10}, {10, 14, 11}, {10, 10, 10},
		{-10, -11, -11}, {-10, -14, -11}, {-10, -15, -12}, {-10, -7, -10}, {-10, -6, -9}, {-1, 1, -1}, {-1, 3, 0},
		{most, -most, most / 2}, {-most, most, -most / 2}, {most, most, most}, {-most, -most, -most}, {most, most - 1, most - 1}, {-most, 1 - most, -most},
	} {
		m := impl.Meter{Mean: c.mean, Least: -most, Most: most, Count: 5}
		want := impl.Meter{Mean: c.want, Least: -most, Most: most, Count: 6}
		if next, code := impl.MeterAdd(m, c.x); next != want || code != impl.OK {
			t.Errorf("MeterAdd(%v, %d) = %v, %d", m, c.x, next, code)
		}
	}
}

func TestMetersTakeInLeastAndMost(t *testing.T) {
	m := impl.Meter{Mean: 5, Least: 2, Most: 9, Count: 3}
	for _, c := range []struct{ x, least, most int }{{5, 2, 9}, {2, 2, 9}, {9, 2, 9}, {1, 1, 9}, {10, 2, 10}, {-7, -7, 9},
		{impl.MaxValue, 2, impl.MaxValue}, {-impl.MaxValue, -impl.MaxValue, 9}} {
		next, code := impl.MeterAdd(m, c.x)
		if next.Least != c.least || next.Most != c.most || next.Count != 4 || code != impl.OK {
			t.Errorf("MeterAdd(%v, %d) = %v, %d", m, c.x, next, code)
		}
	}
}

func TestMetersCountToTheirEnd(t *testing.T) {
	for count, want := range map[int]int{1: 2, 2: 3, 999998: 999999, 999999: 1000000, 1000000: 1000000} {
		m := impl.Meter{Mean: 4, Least: 3, Most: 5, Count: count}
		if next, code := impl.MeterAdd(m, 8); next != (impl.Meter{Mean: 5, Least: 3, Most: 8, Count: want}) || code != impl.OK {
			t.Errorf("MeterAdd(%v, 8) = %v, %d", m, next, code)
		}
	}
}

// Whatever comes, the mean lies between the least and the most of what came.
func TestMeansLieBetween(t *testing.T) {
	for seed := range 20 {
		m, least, most := impl.Meter{}, math.MaxInt, math.MinInt
		for i, b := range sampleBytes(300, seed) {
			x := (int(b) - 128) * []int{1, 1000, impl.MaxValue / 128}[seed%3]
			least, most = min(least, x), max(most, x)
			next, code := impl.MeterAdd(m, x)
			if code != impl.OK || next.Count != i+1 || next.Least != least || next.Most != most || next.Mean < least || next.Mean > most {
				t.Fatalf("MeterAdd(%v, %d) = %v, %d", m, x, next, code)
			}
			m = next
		}
	}
}

func TestMetersThatAreNone(t *testing.T) {
	for _, m := range wrongMeters() {
		for _, x := range append(wrongAmounts(), 0, 1, impl.MaxValue, -impl.MaxValue) {
			if next, code := impl.MeterAdd(m, x); next != (impl.Meter{}) || code != impl.ErrBad {
				t.Errorf("MeterAdd(%v, %d) = %v, %d", m, x, next, code)
			}
		}
	}
}

func TestMetersAtTheirEdges(t *testing.T) {
	const most = impl.MaxValue
	right := []impl.Meter{{}, {Count: 1}, {Count: 1000000}, {Mean: 3, Least: 3, Most: 4, Count: 2}, {Mean: 4, Least: 3, Most: 4, Count: 1},
		{Mean: most, Least: -most, Most: most, Count: 1}, {Mean: -most, Least: -most, Most: most, Count: 1000000}, {Mean: -5, Least: -5, Most: -5, Count: 7}}
	for _, m := range right {
		if _, code := impl.MeterAdd(m, 1); code != impl.OK {
			t.Errorf("MeterAdd(%v, 1): %d", m, code)
		}
		for _, x := range wrongAmounts() {
			if next, code := impl.MeterAdd(m, x); next != (impl.Meter{}) || code != impl.ErrRange {
				t.Errorf("MeterAdd(%v, %d) = %v, %d", m, x, next, code)
			}
		}
	}
}

func TestShares(t *testing.T) {
	const most = impl.MaxValue
	for _, c := range []struct{ a, b, want int }{
		{0, 1, 0}, {1, 1, 1000}, {1, 2, 500}, {1, 3, 333}, {2, 3, 666}, {999, 1000, 999}, {1, 1000, 1}, {1, 1001, 0}, {1000, 1001, 999},
		{2, 1, 1000}, {7, 5, 1000}, {1001, 1000, 1000}, {-1, 5, 0}, {-1, 1000, 0}, {-1, 1001, 0}, {-7, 5, 0}, {1, -3, 0}, {1, -1001, 0}, {7, -5, 0},
		{-1, -3, 333}, {-2, -3, 666}, {-7, -5, 1000}, {0, -5, 0}, {0, 0, 1000}, {1, 0, 1000}, {-1, 0, 1000}, {most, 0, 1000}, {-most, 0, 1000},
		{most, most, 1000}, {most - 1, most, 999}, {1, most, 0}, {most, 1, 1000}, {most, -1, 0}, {-most, most, 0}, {-most, -most, 1000},
		{most / 1000, most, 1}, {most/1000 - 1, most, 0}, {1 - most, -most, 999},
	} {
		if n, code := impl.ShareOf(c.a, c.b); n != c.want || code != impl.OK {
			t.Errorf("ShareOf(%d, %d) = %d, %d", c.a, c.b, n, code)
		}
	}
}

func TestShareFaults(t *testing.T) {
	for _, wrong := range wrongAmounts() {
		for _, x := range append(wrongAmounts(), -1, 0, 1, impl.MaxValue) {
			if n, code := impl.ShareOf(wrong, x); n != 0 || code != impl.ErrRange {
				t.Errorf("ShareOf(%d, %d) = %d, %d", wrong, x, n, code)
			}
			if n, code := impl.ShareOf(x, wrong); n != 0 || code != impl.ErrRange {
				t.Errorf("ShareOf(%d, %d) = %d, %d", x, wrong, n, code)
			}
		}
	}
}

// rowOfWords has words that are alike.
type rowOfWords struct {
	class int
	rate  string
	words []impl.Word
}

// rowsOfWords has rows in the order of words.
func rowsOfWords() []rowOfWords {
	rows := []rowOfWords{
		{impl.ClNan, "unknown", []impl.Word{{High: 0x7ff80000}, {High: 0xfff00000, Low: 1}, {High: 0x7ff00000, Low: 1}, {High: 0xffffffff, Low: 0xffffffff},
			{High: 0x7ff00001}, {High: 0x7fffffff, Low: 0xffffffff}, {High: 0xfff80000}, {High: 0x7ff00000, Low: 0x80000000}}},
		{impl.ClMinusInf, "wrong", []impl.Word{{High: 0xfff00000}}},
	}
	for _, high := range []int{0x7fefffff, 0x408f4000, 0x408f3fff, 0x40000000, 0x3ff00000, 0x00100000, 0x000fffff, 1, 0} {
		for _, low := range []int{0xffffffff, 0x80000000, 2, 1, 0} {
			if high|low != 0 {
				rows = append(rows, rowOfWords{impl.ClMinus, "wrong", []impl.Word{{High: 1<<31 + high, Low: low}}})
			}
		}
	}
	below := len(rows)
	rows = append(rows, rowOfWords{impl.ClMinusNil, "idle", []impl.Word{{High: 0x80000000}}}, rowOfWords{impl.ClNil, "idle", []impl.Word{{}}})
	for _, row := range slices.Backward(rows[2:below]) {
		w := impl.Word{High: row.words[0].High - 1<<31, Low: row.words[0].Low}
		rate := "slow"
		if w.High >= 0x408f4000 {
			rate = "fast"
		}
		rows = append(rows, rowOfWords{impl.ClPlus, rate, []impl.Word{w}})
	}
	return append(rows, rowOfWords{impl.ClPlusInf, "endless", []impl.Word{{High: 0x7ff00000}}})
}

func classByBits(sign, exponent, fraction int) int {
	switch {
	case exponent == 2047 && fraction != 0:
		return impl.ClNan
	case exponent == 2047:
		return []int{impl.ClPlusInf, impl.ClMinusInf}[sign]
	case exponent == 0 && fraction == 0:
		return []int{impl.ClNil, impl.ClMinusNil}[sign]
	}
	return []int{impl.ClPlus, impl.ClMinus}[sign]
}

func wordOf(bits uint64) impl.Word {
	return impl.Word{High: int(bits >> 32), Low: int(bits & 0xffffffff)}
}

func negOf(t *testing.T, w impl.Word) impl.Word {
	t.Helper()
	turned, code := impl.NegOf(w)
	if code != impl.OK {
		t.Errorf("NegOf(%#x): %d", w, code)
	}
	return turned
}

// fallingWords has so many words, the greatest first.
func fallingWords(size int) []impl.Word {
	var list []impl.Word
	for i := range size {
		list = append(list, impl.Word{High: 0x40000000, Low: size - i})
	}
	return list
}

func wrongWords() []impl.Word {
	var list []impl.Word
	for _, n := range outside(4) {
		list = append(list, impl.Word{High: n}, impl.Word{Low: n}, impl.Word{High: n, Low: n}, impl.Word{High: 0x3ff00000, Low: n}, impl.Word{High: n, Low: 1})
	}
	return list
}

func wrongAmounts() []int {
	return []int{math.MinInt, -impl.MaxValue - 1, impl.MaxValue + 1, math.MaxInt}
}

func wrongMeters() []impl.Meter {
	list := []impl.Meter{{Mean: 1}, {Least: -1}, {Most: 1}, {Mean: 1, Least: 1, Most: 1}, {Mean: 5, Count: 1}, {Mean: -5, Count: 1},
		{Mean: 2, Least: 3, Most: 4, Count: 2}, {Mean: 5, Least: 3, Most: 4, Count: 2}, {Mean: 3, Least: 4, Most: 3, Count: 2},
		{Mean: 4, Least: 4, Most: 3, Count: 2}, {Mean: 3, Least: 4, Most: 2, Count: 2}}
	for _, n := range []int{math.MinInt, -1, 1000001, math.MaxInt} {
		list = append(list, impl.Meter{Count: n}, impl.Meter{Mean: 3, Least: 2, Most: 4, Count: n})
	}
	for _, n := range wrongAmounts() {
		list = append(list, impl.Meter{Mean: n, Least: n, Most: n, Count: 1}, impl.Meter{Mean: n, Count: 1},
			impl.Meter{Least: min(n, 0), Most: max(n, 0), Count: 1}, impl.Meter{Least: n, Most: n, Mean: 0, Count: 1})
	}
	return list
}
