package tests

import (
	"math"
	"slices"
	"strings"
	"testing"

	"loop.example/g01384/impl"
)

func chapter3() []call {
	return []call{
		{"ValidYarn", impl.ValidYarn, false},
		{"SameYarns", impl.SameYarns, false},
		{"CountOf", impl.CountOf, true},
		{"TwistRate", impl.TwistRate, true},
		{"SpinHeap", impl.SpinHeap, true},
		{"CutYarn", impl.CutYarn, true},
		{"JoinYarns", impl.JoinYarns, true},
		{"FewestPieces", impl.FewestPieces, true},
		{"PlyLong", impl.PlyLong, true},
		{"RestOf", impl.RestOf, true},
		{"BalanceTurns", impl.BalanceTurns, true},
		{"PlyYarns", impl.PlyYarns, true},
		{"MatchSingles", impl.MatchSingles, true},
		{"WeakestOf", impl.WeakestOf, true},
		{"EvenPlies", impl.EvenPlies, true},
		{"CutsFrom", impl.CutsFrom, true},
		{"FewestOpened", impl.FewestOpened, true},
		{"YarnsText", impl.YarnsText, false},
		{"ReadYarns", impl.ReadYarns, true},
	}
}

func hostileYarns() []impl.Yarn {
	return []impl.Yarn{
		{}, {Long: 100, Twist: 300, Grams: 40}, {Long: 1, Grams: 1}, {Long: 5000, Twist: 2000, Grams: 2000},
		{Long: 5000, Twist: -2000, Grams: 2000}, {Long: 2, Twist: -1, Grams: 1}, {Long: 7, Twist: -10, Grams: 7},
		{Long: 5001, Grams: 1}, {Long: 1, Twist: 2001, Grams: 1}, {Long: 1, Twist: -2001, Grams: 1}, {Long: 1, Grams: 2001},
		{Long: 0, Grams: 1}, {Long: 1, Grams: 0}, {Long: -1, Grams: 1}, {Long: 1, Grams: -1},
		{Long: math.MinInt16, Twist: math.MinInt16, Grams: math.MinInt16}, {Long: math.MaxInt16, Twist: math.MaxInt16, Grams: math.MaxInt16},
		{Long: 1, Twist: math.MinInt16, Grams: 1},
	}
}

func hostileYarnLists() [][]impl.Yarn {
	y, short := impl.Yarn{Long: 100, Twist: 300, Grams: 40}, impl.Yarn{Long: 1, Twist: -2000, Grams: 1}
	long := impl.Yarn{Long: 5000, Twist: 2000, Grams: 2000}
	other, wrong := impl.Yarn{Long: 80, Twist: 100, Grams: 20}, impl.Yarn{Long: 1, Grams: 2001}
	room := append(make([]impl.Yarn, 0, 20), y, other, y, short, long, other, wrong)
	list := [][]impl.Yarn{
		nil, {}, {y}, {short}, {long}, {wrong}, room[:2], room[:3], room[:4], room[:5], room[:6], room,
		{short, short}, {long, long}, {short, long}, {wrong, wrong, wrong}, {y, other, y, other},
	}
	for _, count := range []int{7, 9, 10, 11, 12} {
		list = append(list, slices.Repeat([]impl.Yarn{other}, count))
	}
	return append(list, slices.Repeat([]impl.Yarn{wrong}, 11), slices.Repeat([]impl.Yarn{short, long}, 5))
}

func chapter3Pool() argumentPool {
	room := append(make([]int64, 0, 9), 60, 50, 30, 5000, 0)
	pool := argumentPool{}
	addPool(pool, hostileYarns())
	addPool(pool, hostileYarnLists())
	addPool(pool, hostileHeaps())
	addPool(pool, []int64{
		math.MinInt64, math.MinInt64 + 1, -2001, -2000, -200, -101, -100, -1, 0, 1, 2, 6, 7, 20, 21, 49, 50, 100, 101, 190,
		2000, 2001, 4999, 5000, 50000, 50001, math.MaxInt64 - 1, math.MaxInt64,
	})
	addPool(pool, [][]int64{
		nil, {}, room[:2], room[:3], room[:4], room, {1}, {0}, {-1}, {5001}, {math.MinInt64, math.MaxInt64}, {1, 1, 1, 1, 1, 1},
		{80, 80, 80, 80, 80, 81}, {1, 1, 1, 1, 1, 1, 1}, {0, 1, 1, 1, 1, 1, 1},
	})
	addPool(pool, []string{
		"", " ", "x", "/", "//", "40/-80/10", "40/-80/10 1/0/1", "40/-80", "40/-80/10/", "0/0/0", "1/-0/1", "\xff/1/1", "1/1/1\x00",
		strings.Repeat("9", 99), strings.Repeat("1/1/1 ", 9) + "1/1/1", strings.Repeat("1/1/1 ", 10) + "1/1/1",
	})
	return pool
}

// TestP1SpinningAllArguments: every function of chapter 3 returns for all arguments, modifies none, and returns equal
// results for equal ones; beside a code other than OK all results are zero.
func TestP1SpinningAllArguments(t *testing.T) {
	checkCalls(t, chapter3(), chapter3Pool())
}

// TestP1SpinningLargeArguments: arguments of a million elements are told off, too, and compared.
func TestP1SpinningLargeArguments(t *testing.T) {
	const many = 1000000
	one := []impl.Yarn{{Long: 1, Grams: 1}}
	list, needs := slices.Repeat(one, many), slices.Repeat([]int64{1}, many)
	wrong := slices.Clone(list)
	wrong[many-1].Grams = 0
	far := slices.Clone(needs)
	far[many-1] = 0
	checkRows(t, []row{
		{"same", "true false", all(impl.SameYarns(list, slices.Clone(list)), impl.SameYarns(list, wrong))},
		{"joined", "{0 0 0} 3", all(impl.JoinYarns(list, 0))},
		{"pieces", "[] 3", all(impl.FewestPieces(list, 0, 1))},
		{"plies", "{0 0 0} 3", all(impl.PlyYarns(list, 0))},
		{"balanced", "0 0 3", all(impl.BalanceTurns(list))},
		{"pairs", "[] 0 3", all(impl.MatchSingles(list))},
		{"weakest", "0 {0 0} 3", all(impl.WeakestOf(list))},
		{"even", "[] 0 3", all(impl.EvenPlies(list, 6))},
		{"cuts from many", "[] 3", all(impl.CutsFrom(list, nil))},
		{"many cuts", "[] 3", all(impl.CutsFrom(one, needs))},
		{"many opened", "[] 0 3", all(impl.FewestOpened(list, needs))},
		{"the last need out of range", "[] 2", all(impl.CutsFrom(list, far))},
		{"the last yarn not valid", "[] 0 1", all(impl.FewestOpened(wrong, far))},
		{"text", "", all(impl.YarnsText(list))},
		{"many yarns", "[] 5", all(impl.ReadYarns(strings.Repeat("1/1/1 ", many/6)))},
		{"slashes", "[] 5", all(impl.ReadYarns(strings.Repeat("/", many)))},
		{"digits", "[] 5", all(impl.ReadYarns("1/1/" + strings.Repeat("7", many)))},
		{"zeros", "[] 5", all(impl.ReadYarns("1/1/" + strings.Repeat("0", many) + "1"))},
		{"blanks", "[] 5", all(impl.ReadYarns(strings.Repeat(" ", many)))},
	})
}

// TestP1SpinningNilAndEmpty: a nil slice and an empty one are equivalent.
func TestP1SpinningNilAndEmpty(t *testing.T) {
	none := []impl.Yarn{}
	checkRows(t, []row{{"same", "true true true", all(impl.SameYarns(nil, none), impl.SameYarns(none, nil), impl.SameYarns(nil, nil))}})
	for _, list := range [][]impl.Yarn{nil, none} {
		for _, needs := range [][]int64{nil, {}} {
			checkRows(t, []row{
				{"joined", "{0 0 0} 6", all(impl.JoinYarns(list, 0))},
				{"pieces", "[] 6", all(impl.FewestPieces(list, 0, 1))},
				{"plies", "0 4", all(impl.PlyLong(list, 0))},
				{"balanced", "0 0 4", all(impl.BalanceTurns(list))},
				{"pairs", "[] 0 0", all(impl.MatchSingles(list))},
				{"weakest", "0 {0 0} 6", all(impl.WeakestOf(list))},
				{"even", "[] 0 6", all(impl.EvenPlies(list, 1))},
				{"cuts", "[] 0", all(impl.CutsFrom(list, needs))},
				{"opened", "[] 0 0", all(impl.FewestOpened(list, needs))},
				{"text", "", all(impl.YarnsText(list))},
			})
		}
	}
}
