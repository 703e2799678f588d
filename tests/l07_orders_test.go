package tests

import (
	"math"
	"math/rand"
	"slices"
	"testing"

	"loop.example/g01384/impl"
)

// lotsOf returns lots of the shade 1.
func lotsOf(grams ...int16) []impl.Lot {
	var list []impl.Lot
	for _, n := range grams {
		list = append(list, impl.Lot{Shade: 1, Grams: n})
	}
	return list
}

// ordersOf returns orders of the shade 1.
func ordersOf(grams ...int16) []impl.Order {
	var list []impl.Order
	for _, n := range grams {
		list = append(list, impl.Order{Shade: 1, Grams: n})
	}
	return list
}

func randomLots(r *rand.Rand, count, shades int, most int64) []impl.Lot {
	var list []impl.Lot
	for range count {
		list = append(list, impl.Lot{Shade: int8(r.Intn(shades)), Grams: int16(r.Int63n(most + 1))})
	}
	return list
}

func randomOrders(r *rand.Rand, count, shades int, most int64) []impl.Order {
	var list []impl.Order
	for range count {
		list = append(list, impl.Order{Shade: int8(r.Intn(shades)), Grams: int16(1 + r.Int63n(most))})
	}
	return list
}

// leftByHand adds what a plan takes from each lot, and returns what is left, or false if the plan is not right.
func leftByHand(lots []impl.Lot, orders []impl.Order, plan []int64) ([]int64, bool) {
	if len(plan) != len(orders) {
		return nil, false
	}
	taken := make([]int64, len(lots))
	for i, index := range plan {
		if index == -1 {
			continue
		}
		if index < 0 || index >= int64(len(lots)) || lots[index].Shade != orders[i].Shade {
			return nil, false
		}
		taken[index] += int64(orders[i].Grams)
	}
	left := make([]int64, len(lots))
	for i, l := range lots {
		left[i] = int64(l.Grams) - taken[i]
		if left[i] < 0 {
			return nil, false
		}
	}
	return left, true
}

// eachPlan visits all lists of -1 and indices of lots, one for each order, from the last one to the first one, with -1
// behind all indices.
func eachPlan(lots, orders int, visit func([]int64)) {
	plan := slices.Repeat([]int64{-1}, orders)
	for {
		visit(plan)
		at := orders - 1
		for at >= 0 && (plan[at] == 0 || lots == 0) {
			plan[at] = -1
			at--
		}
		if at < 0 {
			return
		}
		if plan[at] == -1 {
			plan[at] = int64(lots)
		}
		plan[at]--
	}
}

// bestByAllPlans returns the first one of all right plans that cost least; a cost less than 0 tells that one will not do.
func bestByAllPlans(lots []impl.Lot, orders []impl.Order, cost func(plan, left []int64) int64) ([]int64, int64) {
	var best []int64
	least := int64(-1)
	eachPlan(len(lots), len(orders), func(plan []int64) {
		left, right := leftByHand(lots, orders, plan)
		if !right {
			return
		}
		if c := cost(plan, left); c >= 0 && (least < 0 || c <= least) {
			best, least = slices.Clone(plan), c
		}
	})
	return best, least
}

func missedByHand(plan, _ []int64) int64 {
	count := int64(0)
	for _, index := range plan {
		if index == -1 {
			count++
		}
	}
	return count
}

func lotsByHandOf(plan, left []int64) int64 {
	if missedByHand(plan, left) > 0 {
		return -1
	}
	return int64(different(plan))
}

func wasteByHand(keep int64) func(plan, left []int64) int64 {
	return func(plan, left []int64) int64 {
		if missedByHand(plan, left) > 0 {
			return -1
		}
		waste := int64(0)
		for index, grams := range left {
			if grams < keep && slices.Contains(plan, int64(index)) {
				waste += grams
			}
		}
		return waste
	}
}

func TestP16ValidLots(t *testing.T) {
	for _, l := range []impl.Lot{{}, {Shade: 9}, {Grams: 1}, {Grams: 5000}, {Shade: 9, Grams: 5000}, {Shade: 4, Grams: 17}} {
		if !impl.ValidLots([]impl.Lot{{}, l}) {
			t.Errorf("%v is not valid", l)
		}
	}
	wrong := []impl.Lot{
		{Shade: -1, Grams: 1}, {Shade: 10, Grams: 1}, {Grams: -1}, {Grams: 5001}, {Shade: math.MinInt8}, {Shade: math.MaxInt8},
		{Grams: math.MinInt16}, {Grams: math.MaxInt16},
	}
	for _, l := range wrong {
		if impl.ValidLots([]impl.Lot{l}) || impl.ValidLots([]impl.Lot{{}, l}) || impl.ValidLots([]impl.Lot{l, {}}) {
			t.Errorf("%v is valid", l)
		}
	}
	checkRows(t, []row{
		{"none", "true true", all(impl.ValidLots(nil), impl.ValidLots([]impl.Lot{}))},
		{"the most", "true", all(impl.ValidLots(make([]impl.Lot, 6)))},
		{"one more", "false", all(impl.ValidLots(make([]impl.Lot, 7)))},
	})
}

func TestP16ValidOrders(t *testing.T) {
	for _, o := range []impl.Order{{Grams: 1}, {Shade: 9, Grams: 1}, {Grams: 5000}, {Shade: 9, Grams: 5000}, {Shade: 4, Grams: 17}} {
		if !impl.ValidOrders([]impl.Order{{Grams: 1}, o}) {
			t.Errorf("%v is not valid", o)
		}
	}
	wrong := []impl.Order{
		{}, {Shade: 9}, {Shade: -1, Grams: 1}, {Shade: 10, Grams: 1}, {Grams: -1}, {Grams: 5001}, {Shade: math.MinInt8, Grams: 1},
		{Shade: math.MaxInt8, Grams: 1}, {Grams: math.MinInt16}, {Grams: math.MaxInt16},
	}
	for _, o := range wrong {
		if impl.ValidOrders([]impl.Order{o}) || impl.ValidOrders([]impl.Order{{Grams: 1}, o}) || impl.ValidOrders([]impl.Order{o, {Grams: 1}}) {
			t.Errorf("%v is valid", o)
		}
	}
	seven := ordersOf(1, 1, 1, 1, 1, 1, 1)
	checkRows(t, []row{
		{"none", "true true", all(impl.ValidOrders(nil), impl.ValidOrders([]impl.Order{}))},
		{"the most", "true", all(impl.ValidOrders(seven))},
		{"one more", "false", all(impl.ValidOrders(append(seven, seven[0])))},
	})
}

// TestP16RightPlans: a right plan takes from no lot more than it has.
func TestP16RightPlans(t *testing.T) {
	r := newRandom()
	rights := 0
	for range 20000 {
		lots := randomLots(r, r.Intn(7), 2, 30)
		orders := randomOrders(r, r.Intn(5), 2, 12)
		plan := make([]int64, len(orders))
		for i := range plan {
			plan[i] = r.Int63n(int64(len(lots))+1) - 1
		}
		if r.Intn(20) == 0 && len(plan) > 0 {
			plan[r.Intn(len(plan))] = []int64{-2, int64(len(lots)), math.MinInt64, math.MaxInt64, 1 << 32}[r.Intn(5)]
		}
		if r.Intn(20) == 0 {
			plan = append(plan, -1)
		}
		want, wantRight := leftByHand(lots, orders, plan)
		right, code := impl.ServedBy(lots, orders, plan)
		if right != wantRight || code != impl.OK {
			t.Fatalf("%v of %v by %v: %v, %d", orders, lots, plan, right, code)
		}
		left, code := impl.LeftIn(lots, orders, plan)
		if !wantRight {
			if code != impl.ErrState || len(left) != 0 {
				t.Fatalf("%v of %v by %v leaves %v, %d", orders, lots, plan, left, code)
			}
			continue
		}
		rights++
		if code != impl.OK || !slices.Equal(left, want) {
			t.Fatalf("%v of %v by %v leaves %v, not %v, %d", orders, lots, plan, left, want, code)
		}
	}
	if rights < 3000 || rights > 17000 {
		t.Errorf("%d plans are right: the inputs say little", rights)
	}
}

func TestP16RightPlansCodes(t *testing.T) {
	lots := []impl.Lot{{Shade: 1, Grams: 100}, {Shade: 1, Grams: 60}, {Shade: 2, Grams: 60}}
	orders := ordersOf(50, 60, 50)
	plans := []struct {
		name string
		plan []int64
		want string
		left string
	}{
		{"right", []int64{0, 1, -1}, "true 0", "[50 0 60] 0"},
		{"all that a lot has", []int64{0, 1, 0}, "true 0", "[0 0 60] 0"},
		{"none is served", []int64{-1, -1, -1}, "true 0", "[100 60 60] 0"},
		{"more than a lot has", []int64{0, 0, -1}, "false 0", "[] 4"},
		{"more than a lot has, by the last order", []int64{1, -1, 1}, "false 0", "[] 4"},
		{"another shade", []int64{0, 2, -1}, "false 0", "[] 4"},
		{"another shade that the order could be", []int64{0, -1, 2}, "false 0", "[] 4"},
		{"the number of lots", []int64{0, 3, -1}, "false 0", "[] 4"},
		{"-2", []int64{0, -2, -1}, "false 0", "[] 4"},
		{"fewer numbers", []int64{0, 1}, "false 0", "[] 4"},
		{"more numbers", []int64{0, 1, 0, -1}, "false 0", "[] 4"},
		{"no numbers", nil, "false 0", "[] 4"},
		{"a number that is 0 in its last 32 bits", []int64{1 << 32, 1, -1}, "false 0", "[] 4"},
		{"a number that is -1 in its last 8 bits", []int64{0, 1, 255}, "false 0", "[] 4"},
		{"the least number", []int64{math.MinInt64, 1, -1}, "false 0", "[] 4"},
	}
	for _, p := range plans {
		checkRows(t, []row{
			{p.name, p.want, all(impl.ServedBy(lots, orders, p.plan))},
			{p.name, p.left, all(impl.LeftIn(lots, orders, p.plan))},
		})
	}
	wrongLots, wrongOrders := lotsOf(100, -1), ordersOf(50, 0)
	checkRows(t, []row{
		{"no orders", "true 0", all(impl.ServedBy(lots, nil, nil))},
		{"no orders leave all", "[100 60 60] 0", all(impl.LeftIn(lots, nil, nil))},
		{"no orders, but a number", "false 0", all(impl.ServedBy(lots, nil, []int64{-1}))},
		{"no lots", "true 0", all(impl.ServedBy(nil, orders, []int64{-1, -1, -1}))},
		{"no lots leave nothing", "[] 0", all(impl.LeftIn(nil, orders, []int64{-1, -1, -1}))},
		{"no lots, but an index", "false 0", all(impl.ServedBy(nil, orders, []int64{0, -1, -1}))},
		{"one gram more than there is", "[] 4", all(impl.LeftIn(lotsOf(49), ordersOf(50), []int64{0}))},
		{"a lot without grams", "[] 4", all(impl.LeftIn(lotsOf(0), ordersOf(1), []int64{0}))},
		{"the most grams", "[0] 0", all(impl.LeftIn(lotsOf(5000), ordersOf(5000), []int64{0}))},
		{"more than 16 bits of grams", "[] 4", all(impl.LeftIn(lotsOf(5000), ordersOf(5000, 5000, 5000, 5000, 5000, 5000, 5000), make([]int64, 7)))},
		{"lots that are none", "false 1", all(impl.ServedBy(wrongLots, orders, []int64{0, -1, -1}))},
		{"orders that are none", "false 1", all(impl.ServedBy(lots, wrongOrders, []int64{0, -1}))},
		{"invalid ahead of a plan that is not right", "false 1", all(impl.ServedBy(wrongLots, orders, nil))},
		{"nothing left in lots that are none", "[] 1", all(impl.LeftIn(wrongLots, orders, []int64{0, -1, -1}))},
		{"nothing left by orders that are none", "[] 1", all(impl.LeftIn(lots, wrongOrders, []int64{0, -1}))},
		{"invalid ahead of state", "[] 1", all(impl.LeftIn(lots, wrongOrders, []int64{7}))},
		{"too many lots", "[] 1", all(impl.LeftIn(make([]impl.Lot, 7), nil, nil))},
		{"too many orders", "false 1", all(impl.ServedBy(lots, slices.Repeat(orders, 3), make([]int64, 9)))},
	})
}

// fitsByHand serves orders one by one; from goes through the lots that have enough, and tells which one is better.
func fitsByHand(lots []impl.Lot, orders []impl.Order, better func(left []int64, a, b int) bool) []int64 {
	left := make([]int64, len(lots))
	for i, l := range lots {
		left[i] = int64(l.Grams)
	}
	var plan []int64
	for _, o := range orders {
		from := -1
		for i, l := range lots {
			if l.Shade == o.Shade && left[i] >= int64(o.Grams) && (from < 0 || better(left, i, from)) {
				from = i
			}
		}
		if from >= 0 {
			left[from] -= int64(o.Grams)
		}
		plan = append(plan, int64(from))
	}
	return plan
}

func TestP16Fits(t *testing.T) {
	r := newRandom()
	for range 20000 {
		most := []int64{3, 20, 5000}[r.Intn(3)]
		lots := randomLots(r, r.Intn(7), 1+r.Intn(3), most)
		orders := randomOrders(r, r.Intn(8), 1+r.Intn(3), 1+r.Int63n(most))
		first, code1 := impl.FirstFit(lots, orders)
		best, code2 := impl.BestFit(lots, orders)
		wantFirst := fitsByHand(lots, orders, func(_ []int64, _, _ int) bool { return false })
		wantBest := fitsByHand(lots, orders, func(left []int64, a, b int) bool { return left[a] < left[b] })
		if code1 != impl.OK || code2 != impl.OK || !slices.Equal(first, wantFirst) || !slices.Equal(best, wantBest) {
			t.Fatalf("%v of %v: %v and %v, not %v and %v", orders, lots, first, best, wantFirst, wantBest)
		}
		for _, plan := range [][]int64{first, best} {
			if right, _ := impl.ServedBy(lots, orders, plan); !right {
				t.Fatalf("%v of %v: %v is not right", orders, lots, plan)
			}
		}
	}
}

func TestP16FitCodes(t *testing.T) {
	lots := lotsOf(100, 60)
	shades := []impl.Lot{{Shade: 0, Grams: 9}, {Shade: 9, Grams: 9}, {Shade: 0, Grams: 5}}
	both := []impl.Order{{Shade: 9, Grams: 5}, {Shade: 0, Grams: 5}, {Shade: 9, Grams: 5}, {Shade: 5, Grams: 1}}
	checkRows(t, []row{
		{"the example, first", "[0 1 0] 0", all(impl.FirstFit(lots, ordersOf(50, 60, 40)))},
		{"the example, best", "[1 0 0] 0", all(impl.BestFit(lots, ordersOf(50, 60, 40)))},
		{"one that is not served, first", "[0 -1 0] 0", all(impl.FirstFit(lots, ordersOf(50, 61, 50)))},
		{"one that is not served, best", "[1 0 -1] 0", all(impl.BestFit(lots, ordersOf(50, 61, 50)))},
		{"all that there is, first", "[0 1] 0", all(impl.FirstFit(lots, ordersOf(100, 60)))},
		{"all that there is, best", "[1 0] 0", all(impl.BestFit(lots, ordersOf(60, 100)))},
		{"one gram more, first", "[-1] 0", all(impl.FirstFit(lots, ordersOf(101)))},
		{"one gram more, best", "[-1] 0", all(impl.BestFit(lots, ordersOf(101)))},
		{"several that are as good, first", "[0 0 1] 0", all(impl.FirstFit(lotsOf(20, 20), ordersOf(10, 10, 10)))},
		{"several that are as good, best", "[0 0 1] 0", all(impl.BestFit(lotsOf(20, 20), ordersOf(10, 10, 10)))},
		{"what is left counts, not what was there", "[0 0 1] 0", all(impl.BestFit(lotsOf(20, 15), ordersOf(16, 4, 4)))},
		{"shades, first", "[1 0 -1 -1] 0", all(impl.FirstFit(shades, both))},
		{"shades, best", "[1 2 -1 -1] 0", all(impl.BestFit(shades, both))},
		{"a lot without grams, first", "[1] 0", all(impl.FirstFit(lotsOf(0, 1), ordersOf(1)))},
		{"a lot without grams, best", "[1] 0", all(impl.BestFit(lotsOf(0, 1), ordersOf(1)))},
		{"no orders, first", "[] 0", all(impl.FirstFit(lots, nil))},
		{"no orders, best", "[] 0", all(impl.BestFit(lots, nil))},
		{"no lots, first", "[-1 -1] 0", all(impl.FirstFit(nil, ordersOf(1, 5000)))},
		{"no lots, best", "[-1 -1] 0", all(impl.BestFit(nil, ordersOf(1, 5000)))},
		{"lots that are none, first", "[] 1", all(impl.FirstFit(lotsOf(5001), ordersOf(1)))},
		{"lots that are none, best", "[] 1", all(impl.BestFit(lotsOf(5001), ordersOf(1)))},
		{"orders that are none, first", "[] 1", all(impl.FirstFit(lots, ordersOf(0)))},
		{"orders that are none, best", "[] 1", all(impl.BestFit(lots, ordersOf(0)))},
	})
}

// checkBestPlans compares with all plans.
func checkBestPlans(t *testing.T, lots []impl.Lot, orders []impl.Order, keep int64) (served bool) {
	t.Helper()
	want, missed := bestByAllPlans(lots, orders, missedByHand)
	most, count, code := impl.MostOrders(lots, orders)
	if code != impl.OK || !slices.Equal(most, want) || count != int64(len(orders))-missed {
		t.Fatalf("%v of %v: most are %v %d %d, not %v without %d", orders, lots, most, count, code, want, missed)
	}
	want, fewest := bestByAllPlans(lots, orders, lotsByHandOf)
	few, count, code := impl.FewestLots(lots, orders)
	checkServing(t, "fewest lots", lots, orders, want, fewest, few, count, code)
	want, least := bestByAllPlans(lots, orders, wasteByHand(keep))
	plan, waste, code := impl.LeastWaste(lots, orders, keep)
	checkServing(t, "least waste", lots, orders, want, least, plan, waste, code)
	return fewest >= 0
}

func checkServing(t *testing.T, name string, lots []impl.Lot, orders []impl.Order, want []int64, least int64, plan []int64, cost, code int64) {
	t.Helper()
	if least < 0 {
		if code != impl.ErrNotFound || len(plan) != 0 || cost != 0 {
			t.Fatalf("%s: %v of %v: %v %d %d, but there is none", name, orders, lots, plan, cost, code)
		}
		return
	}
	if code != impl.OK || !slices.Equal(plan, want) || cost != least {
		t.Fatalf("%s: %v of %v: %v %d %d, not %v %d", name, orders, lots, plan, cost, code, want, least)
	}
}

// TestP16NoPlanIsBetter: no plan serves more orders than told, nor all with fewer lots, or with less waste, and none of
// as good ones comes first.
func TestP16NoPlanIsBetter(t *testing.T) {
	r := newRandom()
	served := 0
	for range 4000 {
		most := []int64{4, 12, 40}[r.Intn(3)]
		lots := randomLots(r, r.Intn(5), 1+r.Intn(2), most)
		orders := randomOrders(r, r.Intn(6), 1+r.Intn(2), 1+r.Int63n(1+most/2))
		if checkBestPlans(t, lots, orders, r.Int63n(most+2)) {
			served++
		}
	}
	if served < 800 || served > 3200 {
		t.Errorf("all orders are served %d times: the inputs say little", served)
	}
}

// TestP16NoPlanIsBetterThanMany has as many lots and orders as there may be, or one less.
func TestP16NoPlanIsBetterThanMany(t *testing.T) {
	r := newRandom()
	for _, shades := range []int{1, 1, 1, 2} {
		for _, each := range []int64{6, 10, 40} {
			lots := randomLots(r, 6, shades, 60)
			checkBestPlans(t, lots, randomOrders(r, 7-r.Intn(2), shades, each), r.Int63n(40))
		}
	}
	checkBestPlans(t, lotsOf(5000, 5000, 5000, 5000, 5000, 5000), ordersOf(5000, 5000, 5000, 5000, 5000, 5000, 5000), 5000)
	checkBestPlans(t, lotsOf(9, 9, 9, 9, 9, 9), ordersOf(3, 3, 3, 3, 3, 3, 3), 9)
}

// TestP16OrdersThatWantTheSame has orders and lots that can change places with each other.
func TestP16OrdersThatWantTheSame(t *testing.T) {
	for n := range 4 * 4 * 4 * 3 * 3 * 3 * 3 {
		lots := lotsOf(int16(2*(n%4)), int16(2*(n/4%4)), int16(2*(n/16%4)))
		orders := ordersOf(int16(1+n/64%3), int16(1+n/192%3), int16(1+n/576%3), int16(1+n/1728%3))
		checkBestPlans(t, lots, orders, int64(n%7))
	}
}

func TestP16MostOrdersCodes(t *testing.T) {
	lots := lotsOf(100, 60)
	shades := []impl.Lot{{Shade: 3, Grams: 9}, {Shade: 4, Grams: 9}}
	many := []impl.Order{{Shade: 4, Grams: 9}, {Shade: 3, Grams: 9}, {Shade: 5, Grams: 1}, {Shade: 4, Grams: 1}}
	checkRows(t, []row{
		{"the example", "[0 1 0] 3 0", all(impl.MostOrders(lots, ordersOf(50, 60, 40)))},
		{"not as they fit first", "[1 0 0 0] 4 0", all(impl.MostOrders(lots, ordersOf(60, 50, 25, 25)))},
		{"-1 behind all indices", "[0 -1] 1 0", all(impl.MostOrders(lotsOf(10), ordersOf(10, 10)))},
		{"-1 behind all indices, of several lots", "[0 1 -1] 2 0", all(impl.MostOrders(lotsOf(10, 10), ordersOf(10, 10, 10)))},
		{"-1 behind the last lot", "[1 -1] 1 0", all(impl.MostOrders(lotsOf(9, 10), ordersOf(10, 10)))},
		{"a great one is left out for two", "[-1 0 0] 2 0", all(impl.MostOrders(lotsOf(10), ordersOf(10, 5, 5)))},
		{"a great one is not left out for one", "[0 -1] 1 0", all(impl.MostOrders(lotsOf(10), ordersOf(10, 1)))},
		{"all that there is", "[0 1] 2 0", all(impl.MostOrders(lots, ordersOf(100, 60)))},
		{"one gram more", "[-1 0] 1 0", all(impl.MostOrders(lots, ordersOf(101, 60)))},
		{"no lot can serve", "[-1 -1] 0 0", all(impl.MostOrders(lots, ordersOf(101, 5000)))},
		{"shades", "[1 0 -1 -1] 2 0", all(impl.MostOrders(shades, many))},
		{"no orders", "[] 0 0", all(impl.MostOrders(lots, nil))},
		{"no lots", "[-1 -1] 0 0", all(impl.MostOrders(nil, ordersOf(1, 1)))},
		{"neither", "[] 0 0", all(impl.MostOrders(nil, nil))},
		{"the most of both", "[0 0 0 0 0 0 0] 7 0", all(impl.MostOrders(lotsOf(7, 7, 7, 7, 7, 7), ordersOf(1, 1, 1, 1, 1, 1, 1)))},
		{"one order for each lot", "[0 1 2 3 4 5 -1] 6 0", all(impl.MostOrders(lotsOf(7, 7, 7, 7, 7, 7), ordersOf(4, 4, 4, 4, 4, 4, 4)))},
		{"too many lots", "[] 0 1", all(impl.MostOrders(make([]impl.Lot, 7), nil))},
		{"too many orders", "[] 0 1", all(impl.MostOrders(lots, ordersOf(1, 1, 1, 1, 1, 1, 1, 1)))},
		{"lots that are none", "[] 0 1", all(impl.MostOrders([]impl.Lot{{Shade: 10}}, nil))},
		{"orders that are none", "[] 0 1", all(impl.MostOrders(lots, []impl.Order{{Shade: -1, Grams: 1}}))},
	})
}

func TestP16FewestLotsCodes(t *testing.T) {
	lots := lotsOf(100, 60)
	shades := []impl.Lot{{Shade: 3, Grams: 9}, {Shade: 4, Grams: 9}}
	checkRows(t, []row{
		{"the example", "[0 1 0] 2 0", all(impl.FewestLots(lots, ordersOf(50, 60, 40)))},
		{"from one alone", "[0 0] 1 0", all(impl.FewestLots(lots, ordersOf(50, 50)))},
		{"from the last one alone", "[2 2] 1 0", all(impl.FewestLots(lotsOf(50, 50, 100), ordersOf(50, 50)))},
		{"of several ones the first one", "[1 1] 1 0", all(impl.FewestLots(lotsOf(10, 20, 20), ordersOf(10, 10)))},
		{"of several ones of two the first one", "[0 0 1 1] 2 0", all(impl.FewestLots(lotsOf(20, 20, 20), ordersOf(10, 10, 10, 10)))},
		{"all that there is", "[0 1] 2 0", all(impl.FewestLots(lots, ordersOf(100, 60)))},
		{"one gram more", "[] 0 6", all(impl.FewestLots(lots, ordersOf(100, 61)))},
		{"one cannot be served", "[] 0 6", all(impl.FewestLots(lots, ordersOf(1, 101)))},
		{"all but the last one", "[] 0 6", all(impl.FewestLots(lots, ordersOf(60, 50, 50, 1)))},
		{"shades", "[0 1] 2 0", all(impl.FewestLots(shades, []impl.Order{{Shade: 3, Grams: 1}, {Shade: 4, Grams: 1}}))},
		{"a shade that no lot has", "[] 0 6", all(impl.FewestLots(shades, ordersOf(1)))},
		{"no orders", "[] 0 0", all(impl.FewestLots(lots, nil))},
		{"no lots", "[] 0 6", all(impl.FewestLots(nil, ordersOf(1)))},
		{"neither", "[] 0 0", all(impl.FewestLots(nil, nil))},
		{"the most of both", "[0 0 0 0 0 0 0] 1 0", all(impl.FewestLots(lotsOf(7, 7, 7, 7, 7, 7), ordersOf(1, 1, 1, 1, 1, 1, 1)))},
		{"all lots", "[0 1 2 3 4 5 5] 6 0", all(impl.FewestLots(lotsOf(7, 7, 7, 7, 7, 8), ordersOf(4, 4, 4, 4, 4, 4, 4)))},
		{"lots that are none", "[] 0 1", all(impl.FewestLots(lotsOf(-1), nil))},
		{"orders that are none", "[] 0 1", all(impl.FewestLots(lots, ordersOf(5001)))},
		{"invalid ahead of not found", "[] 0 1", all(impl.FewestLots(make([]impl.Lot, 7), ordersOf(1)))},
	})
}

func TestP16LeastWasteCodes(t *testing.T) {
	lots := lotsOf(100, 60)
	checkRows(t, []row{
		{"the example", "[0 1 0] 10 0", all(impl.LeastWaste(lots, ordersOf(50, 60, 40), 20))},
		{"a keep of 0", "[0 1 0] 0 0", all(impl.LeastWaste(lots, ordersOf(50, 60, 40), 0))},
		{"a keep of what is left", "[0] 0 0", all(impl.LeastWaste(lotsOf(10), ordersOf(7), 3))},
		{"a keep of one more", "[0] 3 0", all(impl.LeastWaste(lotsOf(10), ordersOf(7), 4))},
		{"a keep of what is left, of several lots", "[0] 0 0", all(impl.LeastWaste(lots, ordersOf(60), 40))},
		{"a keep of one more, of several lots", "[1] 0 0", all(impl.LeastWaste(lots, ordersOf(60), 41))},
		{"the greatest keep", "[0] 4999 0", all(impl.LeastWaste(lotsOf(5000), ordersOf(1), 5000))},
		{"the greatest keep, nothing taken", "[1] 0 0", all(impl.LeastWaste(lotsOf(4999, 1), ordersOf(1), 5000))},
		{"lots that do not serve are no waste", "[2] 0 0", all(impl.LeastWaste(lotsOf(3, 2, 1), ordersOf(1), 5000))},
		{"later orders use up what would be waste", "[0 0 0] 0 0", all(impl.LeastWaste(lotsOf(10, 10), ordersOf(2, 3, 5), 10))},
		{"of several ones the first one", "[0 0] 1 0", all(impl.LeastWaste(lotsOf(3, 3), ordersOf(1, 1), 3))},
		{"of several ones the first one, of more lots", "[0 1 0] 2 0", all(impl.LeastWaste(lotsOf(5, 5), ordersOf(2, 4, 2), 5))},
		{"more lots, but less waste", "[1 2] 0 0", all(impl.LeastWaste(lotsOf(3, 1, 1), ordersOf(1, 1), 3))},
		{"another one that has enough to keep", "[1] 0 0", all(impl.LeastWaste(lotsOf(5, 9), ordersOf(4), 5))},
		{"one gram more", "[] 0 6", all(impl.LeastWaste(lots, ordersOf(100, 61), 20))},
		{"no lots", "[] 0 6", all(impl.LeastWaste(nil, ordersOf(1), 0))},
		{"no orders", "[] 0 0", all(impl.LeastWaste(lots, nil, 5000))},
		{"neither", "[] 0 0", all(impl.LeastWaste(nil, nil, 0))},
		{"a keep of -1", "[] 0 2", all(impl.LeastWaste(lots, ordersOf(1), -1))},
		{"a keep of one more than the most", "[] 0 2", all(impl.LeastWaste(lots, ordersOf(1), 5001))},
		{"the least keep", "[] 0 2", all(impl.LeastWaste(lots, nil, math.MinInt64))},
		{"range ahead of not found", "[] 0 2", all(impl.LeastWaste(nil, ordersOf(1), math.MaxInt64))},
		{"lots that are none", "[] 0 1", all(impl.LeastWaste(lotsOf(5001), nil, 0))},
		{"orders that are none", "[] 0 1", all(impl.LeastWaste(lots, ordersOf(0), 0))},
		{"invalid ahead of range", "[] 0 1", all(impl.LeastWaste(lots, ordersOf(0), -1))},
	})
}

func TestP16ShadeSums(t *testing.T) {
	r := newRandom()
	for range 2000 {
		lots, orders := randomLots(r, r.Intn(7), 1+r.Intn(10), 5000), randomOrders(r, r.Intn(8), 1+r.Intn(10), 5000)
		want := make([][2]int64, 10)
		for shade := range int8(10) {
			for _, l := range lots {
				if l.Shade == shade {
					want[shade][0] += int64(l.Grams)
				}
			}
			for _, o := range orders {
				if o.Shade == shade {
					want[shade][1] += int64(o.Grams)
				}
			}
		}
		if sums, code := impl.ShadeSums(lots, orders); code != impl.OK || !slices.Equal(sums, want) {
			t.Fatalf("%v and %v sum up to %v, not %v, %d", lots, orders, sums, want, code)
		}
	}
	none := "[[0 0] [0 0] [0 0] [0 0] [0 0] [0 0] [0 0] [0 0] [0 0] [0 0]] 0"
	edges := []impl.Lot{{Shade: 9, Grams: 5000}, {Shade: 9, Grams: 5000}, {Shade: 0, Grams: 1}}
	checkRows(t, []row{
		{"neither lots nor orders", none, all(impl.ShadeSums(nil, nil))},
		{"the first shade and the last one", "[[1 0] [0 1] [0 0] [0 0] [0 0] [0 0] [0 0] [0 0] [0 0] [10000 0]] 0", all(impl.ShadeSums(edges, ordersOf(1)))},
		{"the most", "[[0 0] [30000 35000] [0 0] [0 0] [0 0] [0 0] [0 0] [0 0] [0 0] [0 0]] 0", all(impl.ShadeSums(
			lotsOf(5000, 5000, 5000, 5000, 5000, 5000), ordersOf(5000, 5000, 5000, 5000, 5000, 5000, 5000)))},
		{"lots that are none", "[] 1", all(impl.ShadeSums([]impl.Lot{{Shade: 10}}, nil))},
		{"lots of a shade of -1", "[] 1", all(impl.ShadeSums([]impl.Lot{{Shade: -1}}, nil))},
		{"orders that are none", "[] 1", all(impl.ShadeSums(nil, []impl.Order{{Shade: 10, Grams: 1}}))},
		{"orders of a shade of -1", "[] 1", all(impl.ShadeSums(nil, []impl.Order{{Shade: -1, Grams: 1}}))},
	})
}
