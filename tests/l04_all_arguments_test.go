package tests

import (
	"math"
	"runtime"
	"slices"
	"strings"
	"sync"
	"testing"
	"time"

	"loop.example/g01384/impl"
)

func chapter4() []call {
	return []call{
		{"TurnsFor", impl.TurnsFor, true},
		{"TiesFor", impl.TiesFor, true},
		{"BallTurns", impl.BallTurns, true},
		{"BallLength", impl.BallLength, true},
		{"ValidStrands", impl.ValidStrands, false},
		{"ValidMeets", impl.ValidMeets, false},
		{"MayWind", impl.MayWind, true},
		{"OnReel", impl.OnReel, true},
		{"FirstReels", impl.FirstReels, true},
		{"FewestReels", impl.FewestReels, true},
		{"CheckReels", impl.CheckReels, true},
		{"UnwindOrder", impl.UnwindOrder, true},
		{"CanUnwind", impl.CanUnwind, true},
		{"FewestForOrder", impl.FewestForOrder, true},
		{"LotsApart", impl.LotsApart, true},
		{"LeftOn", impl.LeftOn, true},
		{"StrandsText", impl.StrandsText, false},
		{"ReadStrands", impl.ReadStrands, true},
	}
}

func hostileStrandLists() [][]impl.Strand {
	a, b, c, wrong := strand(50, 0), strand(60, 1), strand(40, 0), strand(1, 6)
	room := append(make([]impl.Strand, 0, 12), a, b, c, a, b, c, a, b, c, wrong)
	return [][]impl.Strand{
		nil, {}, {a}, {wrong}, {strand(2001, 0)}, {strand(0, 0)}, room[:2], room[:3], room[:8], room[:9], room,
		{strand(2000, 5), strand(1, 4), strand(2000, 3)}, {strand(math.MinInt16, 255), strand(math.MaxInt16, 255)},
		{strand(3, 0), strand(4, 1), strand(6, 0), strand(7, 1)}, slices.Repeat([]impl.Strand{wrong}, 9),
	}
}

func chapter4Pool() argumentPool {
	room := append(make([]int64, 0, 12), 0, 1, 0, 1, 2, 3, 4, 5, 6)
	pool := argumentPool{}
	addPool(pool, []impl.Strand{
		{}, strand(1, 0), strand(2000, 5), strand(2001, 0), strand(1, 6), strand(-1, 0), strand(math.MinInt16, 255), strand(math.MaxInt16, 7),
	})
	addPool(pool, hostileStrandLists())
	addPool(pool, []impl.Meets{
		{}, apart(), together(), chain(), {3, 2, 4, 8, 16, 32}, {1, 2, 4, 8, 16, 0}, {65, 2, 4, 8, 16, 32}, {255, 255, 255, 255, 255, 255},
	})
	addPool(pool, []int64{
		math.MinInt64, math.MinInt64 + 1, -1, 0, 1, 2, 7, 10, 100, 101, 150, 500, 501, 1000, 1001, 2000, 2001, 20000, 20001,
		100000, 100001, math.MaxInt64,
	})
	addPool(pool, [][]int64{
		nil, {}, {0}, {7}, {8}, {-1}, {math.MinInt64}, {math.MaxInt64}, room[:2], room[:3], room[:4], room[:8], room, {1, 0}, {1, 0, 2},
		{2, 0, 1}, {2, 0, 1, 3}, {0, 0, 0}, {7, 6, 5, 4, 3, 2, 1, 0}, {0, 1, 2, 3, 4, 5, 6, 7}, {8, 7, 6, 5, 4, 3, 2, 1, 0},
	})
	addPool(pool, []string{
		"", " ", "x", "@", "@@", "50@0", "50@0 60@1 40@0", "50@6", "2001@0", "0@0", "50@0 ", "050@0", "50@-0", "\xff@1", "1@1\x00",
		strings.Repeat("9", 99), strings.Repeat("1@1 ", 7) + "1@1", strings.Repeat("1@1 ", 8) + "1@1",
	})
	return pool
}

// TestP1SkeinsAllArguments: every function of chapter 4 returns for all arguments, modifies none, and returns equal
// results for equal ones; beside a code other than OK all results are zero.
func TestP1SkeinsAllArguments(t *testing.T) {
	checkCalls(t, chapter4(), chapter4Pool())
}

// TestP1SkeinsLargeArguments: arguments of a million elements are told off, too.
func TestP1SkeinsLargeArguments(t *testing.T) {
	const many = 1000000
	list, numbers := slices.Repeat(strandsOf(1), many), make([]int64, many)
	wrong, far := slices.Clone(list), slices.Clone(numbers)
	wrong[many-1].Dye, far[many-1] = 6, 8
	m := apart()
	checkRows(t, []row{
		{"valid", "true false", all(impl.ValidStrands(list), impl.ValidStrands(wrong))},
		{"on a reel", "false 3", all(impl.OnReel(m, 1, list))},
		{"the last one not valid", "false 1", all(impl.OnReel(m, 1, wrong))},
		{"first reels", "[] 0 3", all(impl.FirstReels(m, 1, list))},
		{"fewest reels", "[] 0 3", all(impl.FewestReels(m, 1, list, 9))},
		{"strands to check", "false 3", all(impl.CheckReels(m, 1, list, numbers))},
		{"numbers to check", "false 0", all(impl.CheckReels(m, 1, list[:2], numbers))},
		{"unwound", "[] 3", all(impl.UnwindOrder(far))},
		{"reels to unwind", "false 3", all(impl.CanUnwind(far, numbers))},
		{"an order to unwind", "false 4", all(impl.CanUnwind(numbers[:2], numbers))},
		{"an order", "[] 0 3", all(impl.FewestForOrder(numbers))},
		{"lots", "[] 3", all(impl.LotsApart(m, list))},
		{"strands of which is left", "[] 3", all(impl.LeftOn(1, list, numbers))},
		{"numbers of which is left", "[] 4", all(impl.LeftOn(1, list[:2], numbers))},
		{"text", "", all(impl.StrandsText(list))},
		{"many strands", "[] 5", all(impl.ReadStrands(strings.Repeat("1@1 ", many/4)))},
		{"signs", "[] 5", all(impl.ReadStrands(strings.Repeat("@", many)))},
		{"digits", "[] 5", all(impl.ReadStrands("1@" + strings.Repeat("7", many)))},
		{"zeros", "[] 5", all(impl.ReadStrands(strings.Repeat("0", many) + "1@1"))},
		{"blanks", "[] 5", all(impl.ReadStrands(strings.Repeat(" ", many)))},
	})
}

// TestP1SkeinsNilAndEmpty: a nil slice and an empty one are equivalent.
func TestP1SkeinsNilAndEmpty(t *testing.T) {
	m := apart()
	for _, list := range [][]impl.Strand{nil, {}} {
		for _, numbers := range [][]int64{nil, {}} {
			checkRows(t, []row{
				{"valid", "true", all(impl.ValidStrands(list))},
				{"on a reel", "true 0", all(impl.OnReel(m, 1, list))},
				{"first reels", "[] 0 0", all(impl.FirstReels(m, 1, list))},
				{"fewest reels", "[] 0 0", all(impl.FewestReels(m, 1, list, 0))},
				{"right", "true 0", all(impl.CheckReels(m, 1, list, numbers))},
				{"unwound", "[] 0", all(impl.UnwindOrder(numbers))},
				{"can be unwound", "true 0", all(impl.CanUnwind(numbers, nil))},
				{"can be unwound as none", "true 0", all(impl.CanUnwind(nil, numbers))},
				{"for an order", "[] 0 0", all(impl.FewestForOrder(numbers))},
				{"lots", "[] 0", all(impl.LotsApart(m, list))},
				{"left", "[] 0", all(impl.LeftOn(1, list, numbers))},
				{"text", "", all(impl.StrandsText(list))},
			})
		}
	}
}

// TestP1UnwindingLeavesNothingRunning: nobody sends orders any more when a call has returned, and calls at the same time
// do not disturb each other.
func TestP1UnwindingLeavesNothingRunning(t *testing.T) {
	before := runtime.NumGoroutine()
	reels := []int64{0, 1, 0, 1, 7, 7, 0, 1}
	var calls sync.WaitGroup
	wrong := make([]bool, 50)
	for i := range wrong {
		calls.Go(func() {
			for range 200 {
				order, code := impl.UnwindOrder(reels)
				can, code2 := impl.CanUnwind(reels, order)
				cannot, code3 := impl.CanUnwind(reels, []int64{0, 1, 2, 3, 4, 5, 6, 7})
				if !slices.Equal(order, []int64{6, 2, 0, 7, 3, 1, 5, 4}) || !can || cannot || code+code2+code3 != impl.OK {
					wrong[i] = true
				}
			}
		})
	}
	calls.Wait()
	if slices.Contains(wrong, true) {
		t.Error("calls at the same time return something else")
	}
	// One that has sent all may need a moment to end.
	for range 100 {
		if runtime.NumGoroutine() <= before {
			return
		}
		time.Sleep(10 * time.Millisecond)
	}
	t.Errorf("%d goroutines ahead of the calls, %d behind them", before, runtime.NumGoroutine())
}
