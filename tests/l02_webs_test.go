package tests

import (
	"math"
	"math/big"
	"slices"
	"testing"

	"loop.example/g01384/impl"
)

func fullWeb(stripes int) []int64 {
	w := make([]int64, stripes)
	for i := range w {
		w[i] = impl.MaxThick
	}
	return w
}

// webPool has the webs at the edges, and others.
func webPool() [][]int64 {
	pool := [][]int64{{9, 1, 0, 2}, {0, 10000}, {10000, 0}, {1, 0}, {0, 1}, {10000, 10000, 9999, 0}, {10, 0, 0, 10}, {6, 0, 6, 0}}
	r := newRandom()
	for stripes := 2; stripes <= impl.MaxStripes; stripes += 2 {
		first, last := make([]int64, stripes), fullWeb(stripes)
		first[0], last[stripes-1] = 10000, 0
		pool = append(pool, make([]int64, stripes), fullWeb(stripes), first, last)
		for _, most := range []int64{1, 2, 9, 100, 10000} {
			for range 3 {
				w := make([]int64, stripes)
				for i := range w {
					w[i] = r.Int63n(most + 1)
				}
				pool = append(pool, w)
			}
		}
		// Thick stripes with little room above them are those that parting may make too thick.
		for range 4 {
			w := make([]int64, stripes)
			for i := range w {
				w[i] = []int64{0, 9000, 9990, 10000}[r.Intn(4)]
			}
			pool = append(pool, w)
		}
	}
	return pool
}

// mustWeb looks whether a result is a valid web.
func mustWeb(t *testing.T, w []int64, code int64) []int64 {
	t.Helper()
	if code != impl.OK || !impl.ValidWeb(w) {
		t.Fatalf("%v with the code %d is no web", w, code)
	}
	return w
}

func totalByHand(w []int64) int64 {
	total := int64(0)
	for _, thick := range w {
		total += thick
	}
	return total
}

func spreadByHand(w []int64) int64 { return slices.Max(w) - slices.Min(w) }

func TestP4ValidWebs(t *testing.T) {
	for stripes := range 30 {
		want := stripes >= 2 && stripes <= 12 && stripes%2 == 0
		if impl.ValidWeb(make([]int64, stripes)) != want || impl.ValidWeb(fullWeb(stripes)) != want {
			t.Errorf("%d stripes are not told right", stripes)
		}
	}
	for _, thick := range []int64{-1, 10001, math.MinInt64, math.MaxInt64} {
		for at := range 4 {
			w := []int64{9, 1, 0, 2}
			w[at] = thick
			if impl.ValidWeb(w) || impl.WebText(w) != "" {
				t.Errorf("%v is told to be valid", w)
			}
		}
	}
}

func TestP4Webs(t *testing.T) {
	example, none, wrong := []int64{9, 1, 0, 2}, make([]int64, 12), []int64{9, 1, 0, -2}
	checkRows(t, []row{
		{"total", "12 0", all(impl.TotalOf(example))},
		{"no total", "0 0", all(impl.TotalOf(none))},
		{"greatest total", "120000 0", all(impl.TotalOf(fullWeb(12)))},
		{"total not valid", "0 1", all(impl.TotalOf(wrong))},
		{"spread", "9 0", all(impl.SpreadOf(example))},
		{"no spread", "0 0", all(impl.SpreadOf(fullWeb(12)))},
		{"spread of two", "10000 0", all(impl.SpreadOf([]int64{0, 10000}))},
		{"spread of thick ones", "2 0", all(impl.SpreadOf([]int64{7, 9, 8, 9}))},
		{"spread not valid", "0 1", all(impl.SpreadOf([]int64{1, 2, 3}))},
		{"unevenness", "{1 1} 0", all(impl.Unevenness(example))},
		{"even", "{0 1} 0", all(impl.Unevenness(fullWeb(12)))},
		{"with a mean that is not whole", "{1 5} 0", all(impl.Unevenness([]int64{2, 3}))},
		{"as uneven as can be", "{11 6} 0", all(impl.Unevenness([]int64{0, 0, 0, 0, 0, 10000, 0, 0, 0, 0, 0, 0}))},
		{"a total of 0", "{0 0} 6", all(impl.Unevenness(none))},
		{"a total of 0 of two", "{0 0} 6", all(impl.Unevenness(none[:2]))},
		{"invalid ahead of not found", "{0 0} 1", all(impl.Unevenness(none[:3]))},
	})
}

func TestP4Unevenness(t *testing.T) {
	for _, w := range webPool() {
		total := totalByHand(w)
		if total == 0 {
			continue
		}
		want := new(big.Rat)
		for _, thick := range w {
			off := new(big.Rat).Sub(big.NewRat(thick, 1), big.NewRat(total, int64(len(w))))
			want.Add(want, off.Abs(off))
		}
		want.Quo(want, big.NewRat(total, 1))
		if got, code := impl.Unevenness(w); code != impl.OK || !isTold(got) || rat(got).Cmp(want) != 0 {
			t.Fatalf("%v is uneven by %v, %d, not %v", w, got, code, want)
		}
	}
}

func TestP1WebTexts(t *testing.T) {
	for _, w := range webPool() {
		back, code := impl.ReadWeb(impl.WebText(w))
		if code != impl.OK || !slices.Equal(back, w) {
			t.Fatalf("%v is read as %v, %d", w, back, code)
		}
	}
	checkRows(t, []row{
		{"text", "9 1 0 2", all(impl.WebText([]int64{9, 1, 0, 2}))},
		{"text of the greatest", "10000 0", all(impl.WebText([]int64{10000, 0}))},
		{"read", "[10000 0] 0", all(impl.ReadWeb("10000 0"))},
		{"twelve", "[1 2 3 4 5 6 7 8 9 10 11 12] 0", all(impl.ReadWeb("1 2 3 4 5 6 7 8 9 10 11 12"))},
	})
}

func TestP1WebTextsThatAreNone(t *testing.T) {
	for _, text := range []string{
		"", " ", "\n", "9", "9 1 0", "9 1 0 2 5", "1 2 3 4 5 6 7 8 9 10 11 12 13 14", " 9 1", "9 1 ", "9  1", "9\t1", "9\n1", "9 1\n",
		"9,1", "9 -1", "-0 1", "+9 1", "09 1", "9 00", "9 10001", "9 1.0", "9 0x1", "9 1_0", "9 a", "a 9", "9 1\x00", "9 \u0661", "9\u00a01",
		"9 9223372036854775808", "9 99999999999999999999999", "9 18446744073709551617", "9 1 0 2 ", "9 1  0 2",
	} {
		if w, code := impl.ReadWeb(text); code != impl.ErrSyntax || len(w) != 0 {
			t.Errorf("%q is read as %v, %d", text, w, code)
		}
	}
}
