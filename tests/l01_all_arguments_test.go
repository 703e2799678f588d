package tests

import (
	"math"
	"strings"
	"testing"

	"loop.example/g01384/impl"
)

func chapter1() []call {
	return []call{
		{"CodeName", impl.CodeName, false},
		{"MakeFraction", impl.MakeFraction, true},
		{"CompareFractions", impl.CompareFractions, true},
		{"ValidHeap", impl.ValidHeap, false},
		{"ValidFleece", impl.ValidFleece, false},
		{"GramsOf", impl.GramsOf, true},
		{"MeanLength", impl.MeanLength, true},
		{"MedianLength", impl.MedianLength, true},
		{"SortOut", impl.SortOut, true},
		{"TakeLongest", impl.TakeLongest, true},
		{"JoinHeaps", impl.JoinHeaps, true},
		{"PartHeap", impl.PartHeap, true},
		{"WashedHeap", impl.WashedHeap, true},
		{"GradesOf", impl.GradesOf, true},
		{"GradeHeaps", impl.GradeHeaps, true},
		{"SharesOf", impl.SharesOf, true},
		{"OffBy", impl.OffBy, true},
		{"BlendOf", impl.BlendOf, true},
		{"NearestBlend", impl.NearestBlend, true},
		{"FleecesText", impl.FleecesText, false},
		{"ReadFleeces", impl.ReadFleeces, true},
	}
}

func hostileNumbers() []int64 {
	return []int64{math.MinInt64, math.MinInt64 + 1, -1000000001, -6, -1, 0, 1, 2, 3, 7, 8, 9, 20, 21, 100, 101, 1000000000, 1000000001, math.MaxInt64}
}

func hostileHeaps() []impl.Heap {
	return []impl.Heap{
		{}, {2: 30, 3: 50, 4: 20}, {100}, {7: 101}, {0: 1000, 7: 1000}, {1000, 1000, 1000, 1000, 1000, 1000, 1000, 1000},
		{-1}, {7: 1001}, {3: math.MinInt32}, {math.MaxInt32, math.MaxInt32}, {-1, 1}, {1, 2, 3, 4, 5, 6, 7, 8},
	}
}

func hostileFractions() []impl.Fraction {
	list := []impl.Fraction{{Num: 2, Den: 4}, {Num: 1, Den: -2}, {Num: 0, Den: 2}, {Num: 1, Den: 3}, {Num: -2, Den: 3}}
	for _, num := range []int64{math.MinInt64, -1000000001, -1000000000, 0, 1000000000, math.MaxInt64} {
		for _, den := range []int64{math.MinInt64, -1, 0, 1, 999999999, 1000000001, math.MaxInt64} {
			list = append(list, impl.Fraction{Num: num, Den: den})
		}
	}
	return list
}

func hostileFleeces() []impl.Fleece {
	list := []impl.Fleece{{Fine: -1}, {Fine: 10}, {Fine: math.MinInt8}, {Fine: math.MaxInt8}, {Fine: 9}}
	for _, h := range hostileHeaps() {
		list = append(list, impl.Fleece{Fine: 5, Grams: h})
	}
	return list
}

func hostileLists() [][]impl.Fleece {
	light := impl.Fleece{Fine: 3, Grams: impl.Heap{2: 5, 4: 7}}
	other := impl.Fleece{Fine: 9, Grams: impl.Heap{0: 1, 7: 99}}
	heavy := impl.Fleece{Fine: 0, Grams: impl.Heap{0: 1000}}
	bare := impl.Fleece{Fine: 1}
	wrong := impl.Fleece{Fine: 10}
	room := append(make([]impl.Fleece, 0, 9), light, other, heavy, bare, wrong)
	return [][]impl.Fleece{
		nil, {}, {light}, {bare}, {wrong}, {heavy}, room[:2], room[:3], room[:4], room,
		{light, other, light, other, other, light}, {light, other, light, other, other, light, light},
		{heavy, heavy}, {{Grams: impl.Heap{-5}}},
	}
}

func hostileSlices() [][]int64 {
	room := append(make([]int64, 0, 12), 1, 2, 8, 9)
	return [][]int64{
		nil, {}, {0}, {1}, {-1}, {10}, room[:2], room[:3], room, {2, 1}, {3, 3}, {0, 0}, {0, 8}, {math.MinInt64, math.MaxInt64},
		{1, 2, 3, 4, 5, 6, 7, 8, 9}, {8, 8, 8, 8, 8, 8}, {0, 0, 0, 0, 0, 0, 1},
	}
}

func hostileTexts() []string {
	line := "3: 0 0 5 0 0 0 0 0\n"
	return []string{"", "\n", "x", ":", line, line + line, strings.Repeat(line, 6), strings.Repeat(line, 7), "3: 0", "\x00\xff", strings.Repeat("9", 99) + ":"}
}

func chapter1Pool() argumentPool {
	pool := argumentPool{}
	addPool(pool, hostileNumbers())
	addPool(pool, hostileHeaps())
	addPool(pool, hostileFractions())
	addPool(pool, hostileFleeces())
	addPool(pool, hostileLists())
	addPool(pool, hostileSlices())
	addPool(pool, hostileTexts())
	return pool
}

// TestP1AllArguments: every function of chapter 1 returns for all arguments, modifies none, and returns equal results
// for equal ones; beside a code other than OK all results are zero.
func TestP1AllArguments(t *testing.T) {
	checkCalls(t, chapter1(), chapter1Pool())
}

// TestP1LargeArguments: arguments of a million elements are told off, too.
func TestP1LargeArguments(t *testing.T) {
	const many = 1000000
	fleeces := make([]impl.Fleece, many)
	numbers := make([]int64, many)
	rising := make([]int64, many)
	for i := range rising {
		rising[i] = int64(i + 1)
	}
	one := []impl.Fleece{{Grams: impl.Heap{1}}}
	_, c0 := impl.GradesOf(fleeces, nil)
	_, c1 := impl.GradeHeaps(fleeces, nil)
	_, c2 := impl.GradesOf(one, rising)
	_, c3 := impl.BlendOf(fleeces, numbers)
	_, c4 := impl.BlendOf(one, numbers)
	_, _, c5 := impl.NearestBlend(fleeces, impl.Heap{1}, 1)
	_, c6 := impl.ReadFleeces(strings.Repeat("\n", many))
	_, c7 := impl.ReadFleeces(strings.Repeat("7", many))
	_, c8 := impl.ReadFleeces("3:" + strings.Repeat(" 1", many/2))
	_, c9 := impl.ReadFleeces(strings.Repeat("3: 0 0 5 0 0 0 0 0\n", many/20))
	text := impl.FleecesText(fleeces)
	fleeces[many-1].Fine = 10
	_, d0 := impl.GradesOf(fleeces, rising)
	_, d1 := impl.BlendOf(fleeces, nil)
	_, _, d2 := impl.NearestBlend(fleeces, impl.Heap{1}, 0)
	checkRows(t, []row{
		{"many", "3 3 2 2 2 3 5 5 5 5", all(c0, c1, c2, c3, c4, c5, c6, c7, c8, c9)},
		{"text", "", all(text)},
		{"the last one is not valid", "1 1 1", all(d0, d1, d2)},
	})
}

// TestP1NilAndEmpty: a nil slice and an empty one are equivalent.
func TestP1NilAndEmpty(t *testing.T) {
	none, noBounds := []impl.Fleece{}, []int64{}
	checkRows(t, []row{
		{"grades of nil", "[] 0", all(impl.GradesOf(nil, nil))},
		{"grades of none", "[] 0", all(impl.GradesOf(none, noBounds))},
		{"heaps of nil", "[[0 0 0 0 0 0 0 0]] 0", all(impl.GradeHeaps(nil, nil))},
		{"heaps of none", "[[0 0 0 0 0 0 0 0]] 0", all(impl.GradeHeaps(none, noBounds))},
		{"blend of nil", "[] 2", all(impl.BlendOf(nil, nil))},
		{"blend of none", "[] 2", all(impl.BlendOf(none, noBounds))},
		{"text", " ", all(impl.FleecesText(nil), impl.FleecesText(none))},
	})
	_, off, code := impl.NearestBlend(nil, impl.Heap{1}, 1)
	_, off2, code2 := impl.NearestBlend(none, impl.Heap{1}, 1)
	checkRows(t, []row{{"nearest", "{0 0} 6 {0 0} 6", all(off, code, off2, code2)}})
}
