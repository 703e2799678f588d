package tests

import (
	"math"
	"strings"
	"testing"

	"loop.example/g01384/impl"
)

func chapter2() []call {
	return []call{
		{"ValidWeb", impl.ValidWeb, false},
		{"TotalOf", impl.TotalOf, true},
		{"SpreadOf", impl.SpreadOf, true},
		{"Unevenness", impl.Unevenness, true},
		{"FoldWeb", impl.FoldWeb, true},
		{"CrossWeb", impl.CrossWeb, true},
		{"RollWeb", impl.RollWeb, true},
		{"DrawOut", impl.DrawOut, true},
		{"CardOnce", impl.CardOnce, true},
		{"CardAll", impl.CardAll, true},
		{"FewestPasses", impl.FewestPasses, true},
		{"EvenestPasses", impl.EvenestPasses, true},
		{"LumpsIn", impl.LumpsIn, true},
		{"PartLump", impl.PartLump, true},
		{"PartAll", impl.PartAll, true},
		{"MirrorWeb", impl.MirrorWeb, true},
		{"WebText", impl.WebText, false},
		{"ReadWeb", impl.ReadWeb, true},
	}
}

func hostileWebs() [][]int64 {
	room := append(make([]int64, 0, 16), 9, 1, 0, 2, 5, 7)
	list := [][]int64{
		nil, {}, {1}, {1, 2, 3}, room[:2], room[:4], room, room[:3], {0, 0}, {10000, 10000}, {10000, 0}, {0, 10001}, {-1, 1},
		{math.MinInt64, math.MaxInt64}, {math.MaxInt64, math.MaxInt64}, {10000, 10000, 9999, 0}, {0, 9999, 10000, 10000},
		{20000}, {20001}, {20000, 0, 7}, {0, 0, 0, 20000, 1, 3},
	}
	for _, stripes := range []int{12, 13, 14} {
		list = append(list, make([]int64, stripes))
	}
	return append(list, fullWeb(12), []int64{10000, 0, 0, 0, 0, 0, 0, 0, 0, 0, 0, 0}, []int64{3, 1, 4, 1, 5, 9, 2, 6, 5, 3, 5, 8})
}

func chapter2Pool() argumentPool {
	pool := argumentPool{}
	addPool(pool, hostileWebs())
	addPool(pool, []int64{math.MinInt64, math.MinInt64 + 1, -13, -1, 0, 1, 2, 3, 4, 5, 6, 7, 8, 12, 13, 20, 100, 101, math.MaxInt64 - 1, math.MaxInt64})
	addPool(pool, []byte{0, ' ', 'F', 'b', 'c', 'd', 'f', 'q', 'r', 's', 0xc3, 0xff})
	addPool(pool, []string{
		"", "c", "f", "r", "cfr", "x", "cx", "C", "c\x00", "\xff\xfe", "9 1 0 2", "0 0", " ", "1 2 3", "10000 10001",
		strings.Repeat("fcr", 6) + "ff", strings.Repeat("c", 21), strings.Repeat("x", 21), strings.Repeat("9", 99),
	})
	return pool
}

// TestP1CardingAllArguments: every function of chapter 2 returns for all arguments, modifies none, and returns equal
// results for equal ones; beside a code other than OK all results are zero.
func TestP1CardingAllArguments(t *testing.T) {
	checkCalls(t, chapter2(), chapter2Pool())
}

// TestP1CardingLargeArguments: arguments of a million elements are told off, too.
func TestP1CardingLargeArguments(t *testing.T) {
	const many = 1000000
	long, text := make([]int64, many), strings.Repeat("c", many)
	two := []int64{9, 1}
	numbers := strings.Repeat("1 ", many/2) + "1"
	checkRows(t, []row{
		{"valid", "false ", all(impl.ValidWeb(long), impl.WebText(long))},
		{"total", "0 1", all(impl.TotalOf(long))},
		{"drawn out", "[] 2", all(impl.DrawOut(long, 2*many))},
		{"passes", "[] 0 3", all(impl.CardAll(two, text, 0))},
		{"passes of no web", "[] 0 1", all(impl.CardAll(long, text, 0))},
		{"fewest", " 1", all(impl.FewestPasses(long, 0, 6))},
		{"evenest", " 0 1", all(impl.EvenestPasses(long, 6))},
		{"parted", "[] 0 1", all(impl.PartAll(long, 1, 100))},
		{"numbers", "[] 5", all(impl.ReadWeb(numbers))},
		{"digits", "[] 5", all(impl.ReadWeb("1 " + strings.Repeat("7", many)))},
		{"zeros", "[] 5", all(impl.ReadWeb("1 " + strings.Repeat("0", many)))},
		{"blanks", "[] 5", all(impl.ReadWeb(strings.Repeat(" ", many)))},
	})
}

// TestP1CardingNilAndEmpty: a nil slice and an empty one are equivalent, and neither is a web.
func TestP1CardingNilAndEmpty(t *testing.T) {
	for _, w := range [][]int64{nil, {}} {
		checkRows(t, []row{
			{"valid", "false ", all(impl.ValidWeb(w), impl.WebText(w))},
			{"total", "0 1", all(impl.TotalOf(w))},
			{"spread", "0 1", all(impl.SpreadOf(w))},
			{"unevenness", "{0 0} 1", all(impl.Unevenness(w))},
			{"folded", "[] 1", all(impl.FoldWeb(w))},
			{"crossed", "[] 1", all(impl.CrossWeb(w))},
			{"rolled", "[] 1", all(impl.RollWeb(w, 0))},
			{"drawn out", "[] 2", all(impl.DrawOut(w, 0))},
			{"carded", "[] 0 1", all(impl.CardOnce(w, 'c', 0))},
			{"carded all", "[] 0 1", all(impl.CardAll(w, "", 0))},
			{"mirrored", "[] 1", all(impl.MirrorWeb(w))},
		})
	}
}
