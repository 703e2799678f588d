package tests

import (
	"math"
	"slices"
	"strings"
	"sync"
	"testing"

	"loop.example/g01384/impl"
)

func chapter7() []call {
	return []call{
		{"ValidLots", impl.ValidLots, false},
		{"ValidOrders", impl.ValidOrders, false},
		{"ServedBy", impl.ServedBy, true},
		{"LeftIn", impl.LeftIn, true},
		{"FirstFit", impl.FirstFit, true},
		{"BestFit", impl.BestFit, true},
		{"MostOrders", impl.MostOrders, true},
		{"FewestLots", impl.FewestLots, true},
		{"LeastWaste", impl.LeastWaste, true},
		{"ShadeSums", impl.ShadeSums, true},
		{"ValidMoves", impl.ValidMoves, false},
		{"MayMove", impl.MayMove, false},
		{"MakeMoves", impl.MakeMoves, true},
		{"PlacesAt", impl.PlacesAt, true},
		{"FirstWrong", impl.FirstWrong, true},
		{"LeastStart", impl.LeastStart, true},
		{"NetMoves", impl.NetMoves, true},
		{"UndoMove", impl.UndoMove, true},
		{"MergeMoves", impl.MergeMoves, true},
		{"ShareCents", impl.ShareCents, true},
		{"MovesText", impl.MovesText, false},
		{"ReadMoves", impl.ReadMoves, true},
	}
}

// hostileLotLists share memory: each one has room behind its end, in which others lie.
func hostileLotLists() [][]impl.Lot {
	room := append(make([]impl.Lot, 0, 9), lotsOf(100, 60, 5000, 0, 60, 60, 7)...)
	return [][]impl.Lot{
		nil, {}, room[:1], room[:2], room[:6], room, {{}}, {{Shade: 9, Grams: 50}, {Shade: 1, Grams: 50}}, {{Shade: -1}}, {{Shade: 10}},
		lotsOf(-1), lotsOf(5001), lotsOf(100, 60, math.MinInt16), {{Shade: math.MinInt8, Grams: math.MinInt16}}, {{Shade: math.MaxInt8, Grams: math.MaxInt16}},
	}
}

func hostileOrderLists() [][]impl.Order {
	room := append(make([]impl.Order, 0, 9), ordersOf(50, 60, 40, 1, 1, 7, 5000, 1)...)
	return [][]impl.Order{
		nil, {}, room[:1], room[:3], room[:6], room[:7], room, {{}}, {{Shade: 9, Grams: 50}, {Shade: 1, Grams: 50}}, {{Shade: -1, Grams: 1}},
		{{Shade: 10, Grams: 1}}, ordersOf(0), ordersOf(-1), ordersOf(50, 5001), {{Shade: math.MinInt8, Grams: math.MinInt16}},
		{{Shade: math.MaxInt8, Grams: math.MaxInt16}},
	}
}

func hostileMoveLists() [][]impl.Move {
	room := append(make([]impl.Move, 0, 9), move(0, 1, 80), move(0, 3, 10), move(1, 4, 60), move(1, 4, 5000), move(3, 0, 1))
	return [][]impl.Move{
		nil, {}, room[:1], room[:2], room[:3], room[:4], room, {{}}, {move(0, 1, 0)}, {move(0, 1, 5001)}, {move(0, 0, 1)}, {move(-1, 1, 1)},
		{move(0, 5, 1)}, {move(math.MinInt8, math.MinInt8, math.MinInt16)}, {move(math.MaxInt8, math.MaxInt8, math.MaxInt16)},
		slices.Repeat(room[:1], 60), slices.Repeat(room[:1], 61),
	}
}

func chapter7Pool() argumentPool {
	room := append(make([]int64, 0, 9), 0, 1, 0, -1, 1, -1, 2)
	pool := argumentPool{}
	addPool(pool, hostileLotLists())
	addPool(pool, hostileOrderLists())
	addPool(pool, hostileMoveLists())
	addPool(pool, []impl.Places{
		{}, {100}, {90, 0, 0, 0, 0}, {1000000, 1000000, 1000000, 1000000, 1000000}, {0, 999960, 0, 0, 0}, {-1}, {0, 0, 0, 0, 1000001},
		{math.MinInt32, math.MinInt32, math.MinInt32, math.MinInt32, math.MinInt32}, {math.MaxInt32, math.MaxInt32, math.MaxInt32, math.MaxInt32, math.MaxInt32},
	})
	addPool(pool, []int64{math.MinInt64, math.MinInt64 + 1, -1, 0, 1, 2, 3, 4, 5, 10, 20, 60, 5000, 5001, 1000000, 1000001, 1 << 32, math.MaxInt64})
	addPool(pool, [][]int64{
		nil, {}, room[:1], room[:2], room[:3], room[:6], room, {-1}, {-2}, {6}, {-1, -1, -1}, {5000}, {5001}, {math.MinInt64}, {math.MaxInt64},
		{1 << 32, 0, 0}, make([]int64, 60), make([]int64, 61), slices.Repeat([]int64{5000}, 60), {1, 1, 1},
	})
	addPool(pool, []string{
		"", " ", "x", ">", ":", "0>1:80", "0>1:80 0>3:10", "0>1:80  0>3:10", "0>1:80 ", "+0>1:80", "0>1:080", "0>1:0", "3>0:1", "\xff>1:80", "0>1:80\x00",
		strings.Repeat("9", 99), "0>1:" + strings.Repeat("9", 99), strings.Repeat("0>1:80 ", 59) + "0>1:80", strings.Repeat("0>1:80 ", 60) + "0>1:80",
	})
	return pool
}

// TestP1MillAllArguments: every function of chapter 7 returns for all arguments, modifies none, and returns equal
// results for equal ones; beside a code other than OK all results are zero.
func TestP1MillAllArguments(t *testing.T) {
	checkCalls(t, chapter7(), chapter7Pool())
}

// TestP1MillLargeArguments: arguments of a million elements are told off, too.
func TestP1MillLargeArguments(t *testing.T) {
	const many = 1000000
	lots, orders, moves := slices.Repeat(lotsOf(1), many), slices.Repeat(ordersOf(1), many), slices.Repeat([]impl.Move{move(0, 1, 1)}, many)
	numbers := make([]int64, many)
	wrong := slices.Clone(numbers)
	wrong[many-1] = -1
	checkRows(t, []row{
		{"valid", "false false false", all(impl.ValidLots(lots), impl.ValidOrders(orders), impl.ValidMoves(moves))},
		{"served", "false 1", all(impl.ServedBy(lots, orders, numbers))},
		{"served by many numbers", "false 0", all(impl.ServedBy(lots[:1], orders[:1], numbers))},
		{"left", "[] 1", all(impl.LeftIn(lots, orders, numbers))},
		{"left by many numbers", "[] 4", all(impl.LeftIn(lots[:1], orders[:1], numbers))},
		{"first fit", "[] 1", all(impl.FirstFit(lots, orders))},
		{"best fit", "[] 1", all(impl.BestFit(lots[:1], orders))},
		{"most", "[] 0 1", all(impl.MostOrders(lots, orders[:1]))},
		{"fewest", "[] 0 1", all(impl.FewestLots(lots[:1], orders))},
		{"least waste", "[] 0 1", all(impl.LeastWaste(lots, orders, 1))},
		{"sums", "[] 1", all(impl.ShadeSums(lots, orders))},
		{"moved", "[0 0 0 0 0] 1", all(impl.MakeMoves(impl.Places{many}, moves))},
		{"places", "[] 1", all(impl.PlacesAt(impl.Places{many}, moves))},
		{"wrong", "0 1", all(impl.FirstWrong(impl.Places{}, moves))},
		{"start", "[0 0 0 0 0] 1", all(impl.LeastStart(moves))},
		{"net", "[0 0 0 0 0] 1", all(impl.NetMoves(moves))},
		{"undone", "[] 1", all(impl.UndoMove(moves, many-1))},
		{"merged", "[] 1", all(impl.MergeMoves(moves))},
		{"shared", "[] 3", all(impl.ShareCents(1, numbers))},
		{"shared by numbers of which the last one is none", "[] 2", all(impl.ShareCents(1, wrong))},
		{"text", "", all(impl.MovesText(moves))},
		{"many moves", "[] 5", all(impl.ReadMoves(strings.Repeat("0>1:1 ", many/6)))},
		{"signs", "[] 5", all(impl.ReadMoves(strings.Repeat(">", many)))},
		{"digits", "[] 5", all(impl.ReadMoves("0>1:" + strings.Repeat("7", many)))},
		{"zeros", "[] 5", all(impl.ReadMoves(strings.Repeat("0", many) + ">1:1"))},
		{"blanks", "[] 5", all(impl.ReadMoves(strings.Repeat(" ", many)))},
	})
}

// TestP1MillNilAndEmpty: a nil slice and an empty one are equivalent.
func TestP1MillNilAndEmpty(t *testing.T) {
	for _, lots := range [][]impl.Lot{nil, {}} {
		for _, orders := range [][]impl.Order{nil, {}} {
			checkRows(t, []row{
				{"valid", "true true", all(impl.ValidLots(lots), impl.ValidOrders(orders))},
				{"served", "true 0", all(impl.ServedBy(lots, orders, nil))},
				{"served by none", "true 0", all(impl.ServedBy(lots, orders, []int64{}))},
				{"left", "[] 0", all(impl.LeftIn(lots, orders, nil))},
				{"left by none", "[] 0", all(impl.LeftIn(lots, orders, []int64{}))},
				{"first fit", "[] 0", all(impl.FirstFit(lots, orders))},
				{"best fit", "[] 0", all(impl.BestFit(lots, orders))},
				{"most", "[] 0 0", all(impl.MostOrders(lots, orders))},
				{"fewest", "[] 0 0", all(impl.FewestLots(lots, orders))},
				{"least waste", "[] 0 0", all(impl.LeastWaste(lots, orders, 9))},
			})
		}
	}
	start := impl.Places{1, 2, 3, 4, 5}
	for _, moves := range [][]impl.Move{nil, {}} {
		checkRows(t, []row{
			{"valid", "true", all(impl.ValidMoves(moves))},
			{"moved", "[1 2 3 4 5] 0", all(impl.MakeMoves(start, moves))},
			{"places", "[] 0", all(impl.PlacesAt(start, moves))},
			{"wrong", "0 6", all(impl.FirstWrong(start, moves))},
			{"start", "[0 0 0 0 0] 0", all(impl.LeastStart(moves))},
			{"net", "[0 0 0 0 0] 0", all(impl.NetMoves(moves))},
			{"undone", "[] 2", all(impl.UndoMove(moves, 0))},
			{"merged", "[] 0", all(impl.MergeMoves(moves))},
			{"text", "", all(impl.MovesText(moves))},
		})
	}
	checkRows(t, []row{
		{"shared by nil", "[] 6", all(impl.ShareCents(1, nil))},
		{"shared by none", "[] 6", all(impl.ShareCents(1, []int64{}))},
	})
}

// TestP1MillAtTheSameTime: calls at the same time with the same lots, orders and moves do not disturb each other.
func TestP1MillAtTheSameTime(t *testing.T) {
	lots, orders := lotsOf(100, 60, 40), ordersOf(50, 60, 40, 30)
	moves := []impl.Move{move(0, 1, 80), move(0, 3, 10), move(1, 4, 70)}
	var calls sync.WaitGroup
	wrong := make([]bool, 50)
	for i := range wrong {
		calls.Go(func() {
			for range 200 {
				most, _, _ := impl.MostOrders(lots, orders)
				best, _ := impl.BestFit(lots, orders)
				least, _, _ := impl.LeastWaste(lots, orders, 20)
				end, _ := impl.MakeMoves(impl.Places{90}, moves)
				index, _ := impl.FirstWrong(impl.Places{80}, moves)
				plans := slices.Concat(most, best, least)
				if !slices.Equal(plans, []int64{0, 1, 0, 2, 1, 0, 0, 2, 0, 1, 2, 0}) || end != (impl.Places{0, 10, 0, 10, 70}) || index != 1 {
					wrong[i] = true
				}
			}
		})
	}
	calls.Wait()
	if slices.Contains(wrong, true) {
		t.Error("calls at the same time return something else")
	}
}
