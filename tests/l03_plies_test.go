package tests

import (
	"math"
	"math/rand"
	"slices"
	"testing"

	"loop.example/g01384/impl"
)

// twisted returns yarns with these twists that have nothing else in common with them.
func twisted(twists ...int16) []impl.Yarn {
	list := make([]impl.Yarn, len(twists))
	for i, twist := range twists {
		list[i] = yarn(int16(100+i), twist, int16(i+1))
	}
	return list
}

func restByHand(list []impl.Yarn, turns int64) int64 {
	rest := 0.0
	for _, y := range list {
		rest += math.Abs(float64(int64(y.Twist) + turns))
	}
	return int64(rest)
}

// balanceByHand looks at all turns, from the least to the greatest ones, and at some beyond.
func balanceByHand(list []impl.Yarn) (int64, int64) {
	best, least := int64(0), int64(math.MaxInt64)
	for turns := int64(-2100); turns <= 2100; turns++ {
		rest := restByHand(list, turns)
		nearer := max(turns, -turns) < max(best, -best) || max(turns, -turns) == max(best, -best) && turns > best
		if rest < least || rest == least && nearer {
			best, least = turns, rest
		}
	}
	return best, least
}

func randomTwists(r *rand.Rand, count int) []impl.Yarn {
	most := []int{1, 3, 20, 2000}[r.Intn(4)]
	shift := []int{0, 0, most, -most}[r.Intn(4)]
	twists := make([]int16, count)
	for i := range twists {
		twists[i] = int16(max(-2000, min(2000, r.Intn(2*most+1)-most+shift)))
	}
	return twisted(twists...)
}

// TestP8NoTurnsBalanceBetter: of all turns those are told that have the least rest, and are the nearest to 0.
func TestP8NoTurnsBalanceBetter(t *testing.T) {
	r := newRandom()
	for range 1200 {
		list := randomTwists(r, 2+r.Intn(5))
		want, least := balanceByHand(list)
		turns, rest, code := impl.BalanceTurns(list)
		if code != impl.OK || turns != want || rest != least {
			t.Fatalf("%v: %d %d %d, not %d %d", list, turns, rest, code, want, least)
		}
		if told, code := impl.RestOf(list, turns); code != impl.OK || told != rest {
			t.Fatalf("%v by %d: the rest is %d, %d, not %d", list, turns, told, code, rest)
		}
	}
}

// TestP8WhichTurnsAreTold has several turns that balance equally well.
func TestP8WhichTurnsAreTold(t *testing.T) {
	eleven := slices.Repeat(twisted(5), 11)
	wrong := slices.Repeat([]impl.Yarn{yarn(0, 5, 1)}, 11)
	checkRows(t, []row{
		{"the example", "-100 200 0", all(impl.BalanceTurns(twisted(300, 100)))},
		{"to the left", "100 200 0", all(impl.BalanceTurns(twisted(-300, -100)))},
		{"two of the same size, and 0 between them", "0 200 0", all(impl.BalanceTurns(twisted(100, -100)))},
		{"two of the same size of four", "0 600 0", all(impl.BalanceTurns(twisted(200, 100, -100, -200)))},
		{"the greatest twists of either sign", "0 4000 0", all(impl.BalanceTurns(twisted(-2000, 2000)))},
		{"0 at an end", "0 7 0", all(impl.BalanceTurns(twisted(0, 7)))},
		{"0 at the other end", "0 7 0", all(impl.BalanceTurns(twisted(-7, 0)))},
		{"only one turn", "-1 1 0", all(impl.BalanceTurns(twisted(1, 2)))},
		{"the middle one of three", "-5 9 0", all(impl.BalanceTurns(twisted(10, 1, 5)))},
		{"the middle one of three to the left", "5 20 0", all(impl.BalanceTurns(twisted(10, -10, -5)))},
		{"between the middle ones of six", "-5 27 0", all(impl.BalanceTurns(twisted(1, 20, 3, 6, 10, 5)))},
		{"twists of 0", "0 0 0", all(impl.BalanceTurns(twisted(0, 0, 0, 0, 0, 0)))},
		{"all of the greatest twist", "-2000 0 0", all(impl.BalanceTurns(twisted(2000, 2000, 2000)))},
		{"all of the least twist", "2000 0 0", all(impl.BalanceTurns(twisted(-2000, -2000)))},
		{"of less than one metre when they are plied", "-2000 0 0", all(impl.BalanceTurns([]impl.Yarn{yarn(1, 2000, 1), yarn(1, 2000, 1)}))},
		{"too heavy to be plied", "0 0 0", all(impl.BalanceTurns([]impl.Yarn{yarn(1, 0, 2000), yarn(1, 0, 2000)}))},
		{"no yarns", "0 0 4", all(impl.BalanceTurns(nil))},
		{"one", "0 0 4", all(impl.BalanceTurns(twisted(5)))},
		{"seven", "0 0 4", all(impl.BalanceTurns(eleven[:7]))},
		{"ten", "0 0 4", all(impl.BalanceTurns(eleven[:10]))},
		{"limit ahead of state", "0 0 3", all(impl.BalanceTurns(eleven))},
		{"invalid ahead of limit", "0 0 1", all(impl.BalanceTurns(wrong))},
	})
}

func TestP8Plied(t *testing.T) {
	a, b := yarn(100, 300, 40), yarn(80, 100, 20)
	two := []impl.Yarn{a, b}
	short := []impl.Yarn{yarn(41, 0, 1), yarn(5000, 0, 1)}
	checkRows(t, []row{
		{"the example", "{76 -200 60} 0", all(impl.PlyYarns(two, -200))},
		{"its length", "76 0", all(impl.PlyLong(two, -200))},
		{"its rest", "200 0", all(impl.RestOf(two, -200))},
		{"149 turns take two metres", "78 0", all(impl.PlyLong(two, 149))},
		{"150 turns take three", "77 0", all(impl.PlyLong(two, 150))},
		{"-149 turns take two", "78 0", all(impl.PlyLong(two, -149))},
		{"-150 turns take three", "77 0", all(impl.PlyLong(two, -150))},
		{"49 turns take none", "80 0", all(impl.PlyLong(two, 49))},
		{"the shortest one is not the last one", "80 0", all(impl.PlyLong([]impl.Yarn{a, b, a}, 0))},
		{"no turns", "{80 0 60} 0", all(impl.PlyYarns(two, 0))},
		{"the greatest turns leave one metre", "{1 2000 2} 0", all(impl.PlyYarns(short, 2000))},
		{"the least turns leave one metre", "{1 -2000 2} 0", all(impl.PlyYarns(short, -2000))},
		{"the rest of the least turns", "4000 0", all(impl.RestOf(short, -2000))},
		{"the rest of the greatest turns", "4000 0", all(impl.RestOf(twisted(2000, -2000), 2000))},
		{"the greatest rest", "24000 0", all(impl.RestOf(slices.Repeat(twisted(-2000), 6), -2000))},
		{"of the greatest length", "{5000 0 2000} 0", all(impl.PlyYarns([]impl.Yarn{yarn(5000, 1, 1000), yarn(5000, -1, 1000)}, 0))},
		{"six", "{100 1 21} 0", all(impl.PlyYarns(twisted(0, 0, 0, 0, 0, 0), 1))},
	})
}

// TestP8PliedRests goes over plies and turns.
func TestP8PliedRests(t *testing.T) {
	r := newRandom()
	for range 2000 {
		list := randomYarns(r, 2+r.Intn(5), []int64{30, 5000}[r.Intn(2)])
		turns := int64(r.Intn(4001) - 2000)
		rest, code := impl.RestOf(list, turns)
		if code != impl.OK || rest != restByHand(list, turns) {
			t.Fatalf("the rest of %v by %d is %d, %d", list, turns, rest, code)
		}
		long, grams := int64(5000), int64(0)
		for _, y := range list {
			long, grams = min(long, int64(y.Long)), grams+int64(y.Grams)
		}
		long -= int64(math.Abs(float64(turns)) / 50)
		wantCode, wantCode2 := int64(impl.OK), int64(impl.OK)
		if grams > 2000 {
			wantCode2 = impl.ErrState
		}
		if long < 1 {
			long, wantCode, wantCode2 = 0, impl.ErrNotFound, impl.ErrNotFound
		}
		want := impl.Yarn{}
		if wantCode2 == impl.OK {
			want = yarn(int16(long), int16(turns), int16(grams))
		}
		told, code := impl.PlyLong(list, turns)
		plied, code2 := impl.PlyYarns(list, turns)
		if told != long || code != wantCode || plied != want || code2 != wantCode2 {
			t.Fatalf("%v plied by %d: %d %d, %v %d", list, turns, told, code, plied, code2)
		}
	}
}

func TestP8PliesCodes(t *testing.T) {
	short := []impl.Yarn{yarn(40, 0, 1), yarn(5000, 0, 1)}
	heavy := []impl.Yarn{yarn(40, 0, 2000), yarn(5000, 0, 1)}
	eleven := slices.Repeat(twisted(5), 11)
	wrong := slices.Repeat([]impl.Yarn{yarn(1, 5, 2001)}, 11)
	none := "{0 0 0} "
	list := []struct {
		name              string
		yarns             []impl.Yarn
		turns             int64
		long, rest, plied string
	}{
		{"no metre left", short, 2000, "0 6", "4000 0", none + "6"},
		{"no metre left to the left", short, -2000, "0 6", "4000 0", none + "6"},
		{"less than no metre left", []impl.Yarn{yarn(1, 0, 1), yarn(1, 0, 1)}, 100, "0 6", "200 0", none + "6"},
		{"not found ahead of the weight", heavy, 2000, "0 6", "4000 0", none + "6"},
		{"too heavy", heavy, 0, "40 0", "0 0", none + "4"},
		{"turns too great", short, 2001, "0 2", "0 2", none + "2"},
		{"turns too small", short, -2001, "0 2", "0 2", none + "2"},
		{"the greatest number", short, math.MaxInt64, "0 2", "0 2", none + "2"},
		{"the least number", short, math.MinInt64, "0 2", "0 2", none + "2"},
		{"no yarns", nil, 0, "0 4", "0 4", none + "4"},
		{"one", eleven[:1], 0, "0 4", "0 4", none + "4"},
		{"one of less than one metre", short[:1], 2000, "0 4", "0 4", none + "4"},
		{"seven", eleven[:7], 0, "0 4", "0 4", none + "4"},
		{"ten", eleven[:10], 0, "0 4", "0 4", none + "4"},
		{"limit ahead of state", eleven, 0, "0 3", "0 3", none + "3"},
		{"range ahead of limit", eleven, 2001, "0 2", "0 2", none + "2"},
		{"invalid ahead of range", wrong, 2001, "0 1", "0 1", none + "1"},
	}
	for _, c := range list {
		checkRows(t, []row{
			{c.name + ": length", c.long, all(impl.PlyLong(c.yarns, c.turns))},
			{c.name + ": rest", c.rest, all(impl.RestOf(c.yarns, c.turns))},
			{c.name + ": plied", c.plied, all(impl.PlyYarns(c.yarns, c.turns))},
		})
	}
}

// pairsByHand takes the last yarn with each other one, and so on with those that are left.
func pairsByHand(list []impl.Yarn, left []int64) ([][2]int64, int64) {
	if len(left) == 0 {
		return nil, 0
	}
	var best [][2]int64
	least := int64(math.MaxInt64)
	last := len(left) - 1
	for i := range last {
		others := slices.Concat(left[:i], left[i+1:last])
		pairs, sum := pairsByHand(list, others)
		sum += int64(math.Abs(float64(list[left[i]].Twist) - float64(list[left[last]].Twist)))
		pairs = append(pairs, [2]int64{left[i], left[last]})
		slices.SortFunc(pairs, comparePairs)
		if sum < least || sum == least && slices.CompareFunc(pairs, best, comparePairs) < 0 {
			best, least = pairs, sum
		}
	}
	return best, least
}

func comparePairs(a, b [2]int64) int { return slices.Compare(a[:], b[:]) }

// TestP8MatchedSingles: no other pairs have less rests in all, and none of as few come first.
func TestP8MatchedSingles(t *testing.T) {
	r := newRandom()
	for range 300 {
		list := randomTwists(r, 2*r.Intn(6))
		indices := make([]int64, len(list))
		for i := range indices {
			indices[i] = int64(i)
		}
		want, least := pairsByHand(list, indices)
		pairs, sum, code := impl.MatchSingles(list)
		if code != impl.OK || !slices.Equal(pairs, want) || sum != least {
			t.Fatalf("%v: %v %d %d, not %v %d", list, pairs, sum, code, want, least)
		}
		told := int64(0)
		for _, p := range pairs {
			_, rest, _ := impl.BalanceTurns([]impl.Yarn{list[p[0]], list[p[1]]})
			told += rest
		}
		if told != sum {
			t.Fatalf("%v: the rests of %v sum up to %d, not %d", list, pairs, told, sum)
		}
	}
}

func TestP8MatchedSinglesCodes(t *testing.T) {
	eleven := slices.Repeat(twisted(5), 11)
	wrong := slices.Repeat([]impl.Yarn{yarn(1, 5, 0)}, 11)
	checkRows(t, []row{
		{"equal ones", "[[0 2] [1 3]] 0 0", all(impl.MatchSingles(twisted(300, 100, 300, 100)))},
		{"two", "[[0 1]] 4000 0", all(impl.MatchSingles(twisted(2000, -2000)))},
		{"of equally good pairs the first ones", "[[0 1] [2 3]] 0 0", all(impl.MatchSingles(twisted(5, 5, 5, 5)))},
		{"of equally good pairs with other rests the first ones", "[[0 1] [2 3]] 40 0", all(impl.MatchSingles(twisted(0, 20, 20, 40)))},
		{"side by side", "[[0 2] [1 3]] 20 0", all(impl.MatchSingles(twisted(0, 20, 10, 30)))},
		{"the nearest one is not for the first one", "[[0 3] [1 2]] 11 0", all(impl.MatchSingles(twisted(0, 11, 12, 10)))},
		{"ten equal ones", "[[0 1] [2 3] [4 5] [6 7] [8 9]] 0 0", all(impl.MatchSingles(eleven[:10]))},
		{"none", "[] 0 0", all(impl.MatchSingles(nil))},
		{"one", "[] 0 4", all(impl.MatchSingles(eleven[:1]))},
		{"nine", "[] 0 4", all(impl.MatchSingles(eleven[:9]))},
		{"limit ahead of state", "[] 0 3", all(impl.MatchSingles(eleven))},
		{"invalid ahead of limit", "[] 0 1", all(impl.MatchSingles(wrong))},
	})
}

func TestP8Weakest(t *testing.T) {
	r := newRandom()
	for range 2000 {
		list := randomYarns(r, 1+r.Intn(10), []int64{3, 5000}[r.Intn(2)])
		index, count, code := impl.WeakestOf(list)
		want, _ := impl.CountOf(list[index])
		if code != impl.OK || count != want {
			t.Fatalf("the weakest of %v is %d with %v, %d", list, index, count, code)
		}
		for i, y := range list {
			other, _ := impl.CountOf(y)
			if by := rat(other).Cmp(rat(count)); by > 0 || by == 0 && int64(i) < index {
				t.Fatalf("the weakest of %v is not %d", list, index)
			}
		}
	}
	eleven := slices.Repeat(twisted(5), 11)
	wrong := append(slices.Clone(eleven), yarn(5001, 0, 1))
	checkRows(t, []row{
		{"the shorter one", "1 {4 1} 0", all(impl.WeakestOf([]impl.Yarn{yarn(100, 300, 40), yarn(80, 100, 20)}))},
		{"the first one of several", "1 {3 2} 0", all(impl.WeakestOf([]impl.Yarn{yarn(1, 0, 1), yarn(3, 0, 2), yarn(6, 0, 4)}))},
		{"by a little", "1 {5000 1999} 0", all(impl.WeakestOf([]impl.Yarn{yarn(4999, 0, 1999), yarn(5000, 0, 1999)}))},
		{"the greatest count", "2 {5000 1} 0", all(impl.WeakestOf([]impl.Yarn{yarn(4999, 0, 1), yarn(1, 0, 2000), yarn(5000, 0, 1)}))},
		{"one", "0 {1 2000} 0", all(impl.WeakestOf([]impl.Yarn{yarn(1, 0, 2000)}))},
		{"none", "0 {0 0} 6", all(impl.WeakestOf(nil))},
		{"too many", "0 {0 0} 3", all(impl.WeakestOf(eleven))},
		{"invalid ahead of limit", "0 {0 0} 1", all(impl.WeakestOf(wrong))},
	})
}

// evenByHand goes through all lists of plies from the last one to the first one.
func evenByHand(list []impl.Yarn, plies int64) ([]int64, int64) {
	put := slices.Repeat([]int64{plies - 1}, len(list))
	best, least := []int64(nil), int64(math.MaxInt64)
	for {
		sums := make([]int64, plies)
		for i, ply := range put {
			sums[ply] += int64(list[i].Long)
		}
		if longest := slices.Max(sums); longest <= least {
			best, least = slices.Clone(put), longest
		}
		at := len(put) - 1
		for at >= 0 && put[at] == 0 {
			put[at] = plies - 1
			at--
		}
		if at < 0 {
			return best, least
		}
		put[at]--
	}
}

// TestP8EvenPlies: no other plies have a lesser longest one, and none of as good ones come first.
func TestP8EvenPlies(t *testing.T) {
	r := newRandom()
	check := func(count int, plies int64) {
		list := randomYarns(r, count, []int64{3, 20, 5000}[r.Intn(3)])
		want, least := evenByHand(list, plies)
		put, longest, code := impl.EvenPlies(list, plies)
		if code != impl.OK || !slices.Equal(put, want) || longest != least {
			t.Fatalf("%v in %d plies: %v %d %d, not %v %d", list, plies, put, longest, code, want, least)
		}
	}
	for range 40 {
		for plies := int64(1); plies <= impl.MaxPlies; plies++ {
			check(int(plies)+r.Intn(7-int(plies)), plies)
		}
	}
	for range 5 {
		check(10, 2)
		check(10, 3)
		check(9, 4)
	}
}

func TestP8EvenPliesCodes(t *testing.T) {
	eleven := slices.Repeat(yarnsOf(5000), 11)
	wrong := append(slices.Clone(eleven), impl.Yarn{})
	checkRows(t, []row{
		{"of equally good ones the first one", "[0 0 1] 180 0", all(impl.EvenPlies(yarnsOf(100, 80, 100), 2))},
		{"a ply without a yarn", "[0 0 0 1] 100 0", all(impl.EvenPlies(yarnsOf(1, 1, 1, 100), 4))},
		{"the last ones even", "[0 1 1 0] 5 0", all(impl.EvenPlies(yarnsOf(3, 1, 4, 2), 2))},
		{"one ply", "[0 0 0 0 0 0 0 0 0 0] 50000 0", all(impl.EvenPlies(eleven[:10], 1))},
		{"six plies of ten", "[0 0 1 1 2 2 3 3 4 4] 10000 0", all(impl.EvenPlies(eleven[:10], 6))},
		{"as many plies as yarns", "[0 1 2 3 4 5] 5000 0", all(impl.EvenPlies(eleven[:6], 6))},
		{"one in one", "[0] 1 0", all(impl.EvenPlies(yarnsOf(1), 1))},
		{"more plies than yarns", "[] 0 6", all(impl.EvenPlies(eleven[:5], 6))},
		{"no yarns", "[] 0 6", all(impl.EvenPlies(nil, 1))},
		{"plies 0", "[] 0 2", all(impl.EvenPlies(eleven[:5], 0))},
		{"plies too many", "[] 0 2", all(impl.EvenPlies(eleven[:10], 7))},
		{"the least number", "[] 0 2", all(impl.EvenPlies(eleven[:10], math.MinInt64))},
		{"range ahead of not found", "[] 0 2", all(impl.EvenPlies(nil, 0))},
		{"too many", "[] 0 3", all(impl.EvenPlies(eleven, 2))},
		{"range ahead of limit", "[] 0 2", all(impl.EvenPlies(eleven, 7))},
		{"invalid ahead of range", "[] 0 1", all(impl.EvenPlies(wrong, 7))},
	})
}
