package tests

import (
	"math"
	"slices"
	"strings"
	"testing"

	"loop.example/g01384/impl"
)

func chapter6() []call {
	return []call{
		{"ValidCloth", impl.ValidCloth, false},
		{"ValidProgram", impl.ValidProgram, false},
		{"FeltsBy", impl.FeltsBy, true},
		{"WashOnce", impl.WashOnce, true},
		{"WashAll", impl.WashAll, true},
		{"ShrunkBy", impl.ShrunkBy, true},
		{"GentleOnes", impl.GentleOnes, true},
		{"LeastFelt", impl.LeastFelt, true},
		{"FewestWashes", impl.FewestWashes, true},
		{"LargestClean", impl.LargestClean, true},
		{"CountHoles", impl.CountHoles, false},
		{"WeekLater", impl.WeekLater, true},
		{"WeeksLater", impl.WeeksLater, true},
		{"WeeksUntil", impl.WeeksUntil, true},
		{"SpotsIn", impl.SpotsIn, true},
		{"MendSpot", impl.MendSpot, true},
		{"BestMend", impl.BestMend, true},
		{"StaysFor", impl.StaysFor, true},
		{"HolesText", impl.HolesText, false},
		{"ReadHoles", impl.ReadHoles, true},
	}
}

// hostileCloths have sides and numbers at the edges, and beyond them; with 16 or 8 bits they must not turn round.
func hostileCloths() []impl.Cloth {
	return []impl.Cloth{
		{}, cloth(100, 50, 5, 0, 4), cloth(1, 1, 0, 0, 0), cloth(1000, 1000, 9, 9, 9), cloth(1000, 1, 9, 0, 0), cloth(1, 1000, 1, 8, 9),
		cloth(0, 1, 0, 0, 0), cloth(1, 0, 0, 0, 0), cloth(1001, 1, 0, 0, 0), cloth(1, 1001, 0, 0, 0), cloth(-1, -1, 0, 0, 0),
		cloth(1, 1, -1, 0, 0), cloth(1, 1, 10, 0, 0), cloth(1, 1, 0, -1, 0), cloth(1, 1, 0, 10, 0), cloth(1, 1, 0, 0, -1), cloth(1, 1, 0, 0, 10),
		cloth(math.MinInt16, math.MinInt16, math.MinInt8, math.MinInt8, math.MinInt8),
		cloth(math.MaxInt16, math.MaxInt16, math.MaxInt8, math.MaxInt8, math.MaxInt8),
	}
}

func hostilePrograms() []impl.Program {
	return []impl.Program{
		{}, {Heat: 6, Rub: 1, Clean: 6}, {Heat: 4, Rub: 3, Clean: 3}, {Heat: 9, Rub: 9, Clean: 9}, {Rub: 2, Clean: 1},
		{Heat: -1}, {Heat: 10}, {Rub: -1}, {Rub: 10}, {Clean: -1}, {Clean: 10},
		{Heat: math.MinInt8, Rub: math.MinInt8, Clean: math.MinInt8}, {Heat: math.MaxInt8, Rub: math.MaxInt8, Clean: math.MaxInt8},
	}
}

// hostileProgramLists share memory: each one has room behind its end, in which others lie.
func hostileProgramLists() [][]impl.Program {
	some := hostilePrograms()
	room := append(make([]impl.Program, 0, 9), some[1], some[2], some[4], some[3], some[0], some[1], some[2])
	return [][]impl.Program{
		nil, {}, room[:1], room[:2], room[:3], room[:5], room[:6], room, {some[5]}, {some[1], some[6]}, some,
		slices.Repeat([]impl.Program{{Clean: 1}}, 6), slices.Repeat([]impl.Program{{Rub: 10}}, 7),
	}
}

func chapter6Pool() argumentPool {
	room := append(make([]int64, 0, 9), 0, 1, 1, 2, -1)
	pool := argumentPool{}
	addPool(pool, hostileCloths())
	addPool(pool, hostilePrograms())
	addPool(pool, hostileProgramLists())
	addPool(pool, []int64{math.MinInt64, math.MinInt64 + 1, -1, 0, 1, 2, 3, 4, 5, 7, 8, 64, 65, 100, 101, 1 << 32, math.MaxInt64})
	addPool(pool, [][]int64{
		nil, {}, room[:1], room[:3], room[:4], room, {5}, {6}, {-1}, {math.MinInt64}, {math.MaxInt64}, {1 << 32}, make([]int64, 20), make([]int64, 21),
	})
	addPool(pool, []impl.Holes{
		{}, fullHoles(), chessHoles(), snakeHoles(), hole(0, 0), hole(7, 7), hole(4, 3), holesOf("o.......", ".o......"), holesOf("o......o"),
		{128, 64, 32, 16, 8, 4, 2, 1},
	})
	good := impl.HolesText(chessHoles())
	addPool(pool, []string{
		"", "o", "o\n", "\n", good, good[1:], good[:71], good + "\n", strings.ReplaceAll(good, "o", "\xff"), strings.ReplaceAll(good, ".", "\x00"),
		strings.ReplaceAll(good, "\n", "o"), strings.Repeat("o", 72), strings.Repeat("\u016b", 36),
	})
	return pool
}

// TestP1WashingAllArguments: every function of chapter 6 returns for all arguments, modifies none, and returns equal
// results for equal ones; beside a code other than OK all results are zero.
func TestP1WashingAllArguments(t *testing.T) {
	checkCalls(t, chapter6(), chapter6Pool())
}

// TestP1WashingLargeArguments: arguments of a million elements are told off, too.
func TestP1WashingLargeArguments(t *testing.T) {
	const many = 1000000
	c := cloth(100, 50, 5, 0, 4)
	list := slices.Repeat(programs([3]int8{4, 3, 3}), many)
	wrong := slices.Clone(list)
	wrong[many-1].Rub = 10
	order := make([]int64, many)
	order[many-1] = -1
	checkRows(t, []row{
		{"washed", "{0 0 0 0 0} 3", all(impl.WashAll(c, list, nil))},
		{"washed often", "{0 0 0 0 0} 3", all(impl.WashAll(c, list[:1], order))},
		{"washed often, by a program that is none", "{0 0 0 0 0} 1", all(impl.WashAll(c, wrong, order[:0]))},
		{"gentle", "[] 3", all(impl.GentleOnes(c, list))},
		{"gentle, of one that is none", "[] 1", all(impl.GentleOnes(c, wrong))},
		{"least felt", "[] {0 0 0 0 0} 3", all(impl.LeastFelt(c, list, 4))},
		{"least felt, of one that is none", "[] {0 0 0 0 0} 1", all(impl.LeastFelt(c, wrong, 4))},
		{"fewest", "[] 3", all(impl.FewestWashes(c, list, 4))},
		{"fewest, of one that is none", "[] 1", all(impl.FewestWashes(c, wrong, 4))},
		{"largest", "[] 0 3", all(impl.LargestClean(c, list, 4))},
		{"largest, of one that is none", "[] 0 1", all(impl.LargestClean(c, wrong, 4))},
		{"a long text", "[0 0 0 0 0 0 0 0] 5", all(impl.ReadHoles(strings.Repeat("o", many)))},
		{"many lines", "[0 0 0 0 0 0 0 0] 5", all(impl.ReadHoles(strings.Repeat("........\n", many/9)))},
	})
}

// TestP1WashingNilAndEmpty: a nil slice and an empty one are equivalent.
func TestP1WashingNilAndEmpty(t *testing.T) {
	c := cloth(100, 50, 0, 0, 4)
	for _, list := range [][]impl.Program{nil, {}} {
		checkRows(t, []row{
			{"gentle", "[] 0", all(impl.GentleOnes(c, list))},
			{"least felt", "[] {100 50 0 0 4} 0", all(impl.LeastFelt(c, list, 4))},
			{"fewest", "[] 0", all(impl.FewestWashes(c, list, 4))},
			{"largest", "[] 5000 0", all(impl.LargestClean(c, list, 4))},
		})
		for _, order := range [][]int64{nil, {}} {
			checkRows(t, []row{{"washed", "{100 50 0 0 4} 0", all(impl.WashAll(c, list, order))}})
		}
	}
}
