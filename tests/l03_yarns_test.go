package tests

import (
	"math"
	"math/big"
	"math/rand"
	"slices"
	"strings"
	"testing"

	"loop.example/g01384/impl"
)

func yarn(long, twist, grams int16) impl.Yarn {
	return impl.Yarn{Long: long, Twist: twist, Grams: grams}
}

// yarnsOf returns yarns of these lengths that have nothing else in common with them.
func yarnsOf(longs ...int16) []impl.Yarn {
	list := make([]impl.Yarn, len(longs))
	for i, long := range longs {
		list[i] = yarn(long, int16(7*i-20), int16(i+1))
	}
	return list
}

func randomYarns(r *rand.Rand, count int, most int64) []impl.Yarn {
	list := make([]impl.Yarn, count)
	for i := range list {
		list[i] = yarn(int16(1+r.Int63n(most)), int16(r.Intn(4001)-2000), int16(1+r.Intn(2000)))
	}
	return list
}

// yarnPool has the yarns at the edges, and others.
func yarnPool() []impl.Yarn {
	pool := []impl.Yarn{
		yarn(100, 300, 40), yarn(80, 100, 20), yarn(7, -10, 7), yarn(7, 10, 7), yarn(2, -1, 2), yarn(3, -2000, 2), yarn(12, 0, 12),
	}
	for _, long := range []int16{1, 2, 4999, 5000} {
		for _, twist := range []int16{-2000, -1999, -1, 0, 1, 2000} {
			for _, grams := range []int16{1, 2, 1999, 2000} {
				pool = append(pool, yarn(long, twist, grams))
			}
		}
	}
	r := newRandom()
	for _, most := range []int64{3, 30, 300, 5000} {
		pool = append(pool, randomYarns(r, 20, most)...)
	}
	return pool
}

func TestP7ValidYarns(t *testing.T) {
	right := yarn(100, 300, 40)
	for n := math.MinInt16; n <= math.MaxInt16; n++ {
		long, twist, grams := right, right, right
		long.Long, twist.Twist, grams.Grams = int16(n), int16(n), int16(n)
		if impl.ValidYarn(long) != (n >= 1 && n <= 5000) {
			t.Errorf("%d metres are not told right", n)
		}
		if impl.ValidYarn(twist) != (n >= -2000 && n <= 2000) {
			t.Errorf("%d turns are not told right", n)
		}
		if impl.ValidYarn(grams) != (n >= 1 && n <= 2000) {
			t.Errorf("%d grams are not told right", n)
		}
	}
	for _, y := range yarnPool() {
		if !impl.ValidYarn(y) {
			t.Errorf("%v is told not to be valid", y)
		}
	}
}

func TestP7SameYarns(t *testing.T) {
	a := []impl.Yarn{yarn(1, 2, 3), yarn(4, 5, 6)}
	wrong := []impl.Yarn{{}, yarn(-1, 9999, math.MinInt16)}
	checkRows(t, []row{
		{"the same", "true", all(impl.SameYarns(a, slices.Clone(a)))},
		{"not valid, but the same", "true", all(impl.SameYarns(wrong, slices.Clone(wrong)))},
		{"another length", "false", all(impl.SameYarns(a, []impl.Yarn{yarn(1, 2, 3), yarn(7, 5, 6)}))},
		{"another twist", "false", all(impl.SameYarns(a, []impl.Yarn{yarn(1, -2, 3), yarn(4, 5, 6)}))},
		{"other grams", "false", all(impl.SameYarns(a, []impl.Yarn{yarn(1, 2, 3), yarn(4, 5, 7)}))},
		{"another order", "false", all(impl.SameYarns(a, []impl.Yarn{yarn(4, 5, 6), yarn(1, 2, 3)}))},
		{"fewer", "false", all(impl.SameYarns(a, a[:1]))},
		{"more", "false", all(impl.SameYarns(a[:1], a))},
		{"none and one that is zero", "false", all(impl.SameYarns(nil, wrong[:1]))},
		{"not valid in one", "false", all(impl.SameYarns(wrong, a))},
	})
}

func TestP7CountAndRate(t *testing.T) {
	for _, y := range yarnPool() {
		count, code := impl.CountOf(y)
		if code != impl.OK || !isTold(count) || rat(count).Cmp(big.NewRat(int64(y.Long), int64(y.Grams))) != 0 {
			t.Fatalf("the count of %v is %v, %d", y, count, code)
		}
		rate, code := impl.TwistRate(y)
		if code != impl.OK || !isTold(rate) || rat(rate).Cmp(big.NewRat(int64(y.Twist), int64(y.Long))) != 0 {
			t.Fatalf("the rate of %v is %v, %d", y, rate, code)
		}
	}
	checkRows(t, []row{
		{"the count of the example", "{5 2} 0", all(impl.CountOf(yarn(100, 300, 40)))},
		{"the rate of the example", "{3 1} 0", all(impl.TwistRate(yarn(100, 300, 40)))},
		{"to the left", "{-2 5} 0", all(impl.TwistRate(yarn(5000, -2000, 1)))},
		{"not turned", "{0 1} 0", all(impl.TwistRate(yarn(5000, 0, 1)))},
		{"the count of none", "{0 0} 1", all(impl.CountOf(yarn(1, 0, 0)))},
		{"the rate of none", "{0 0} 1", all(impl.TwistRate(yarn(0, 0, 1)))},
		{"the rate of one not valid", "{0 0} 1", all(impl.TwistRate(yarn(1, -2001, 1)))},
	})
}

func TestP7Spun(t *testing.T) {
	h, full := impl.Heap{3: 10}, impl.Heap{1000, 1000}
	more := impl.Heap{1000, 1000, 1}
	wrong := impl.Heap{7: 1001}
	checkRows(t, []row{
		{"ten grams", "{40 -80 10} 0", all(impl.SpinHeap(h, 4, -2))},
		{"of several lengths", "{10 30 10} 0", all(impl.SpinHeap(impl.Heap{1, 2, 0, 0, 0, 3, 0, 4}, 1, 3))},
		{"the least", "{1 0 1} 0", all(impl.SpinHeap(impl.Heap{7: 1}, 1, 0))},
		{"the greatest count", "{5000 0 50} 0", all(impl.SpinHeap(impl.Heap{50}, 100, 0))},
		{"a metre too long", "{0 0 0} 3", all(impl.SpinHeap(impl.Heap{51}, 100, 0))},
		{"one length by one gram", "{0 0 0} 3", all(impl.SpinHeap(impl.Heap{1000, 667}, 3, 0))},
		{"the greatest rate", "{20 2000 20} 0", all(impl.SpinHeap(impl.Heap{20}, 1, 100))},
		{"the least rate", "{20 -2000 20} 0", all(impl.SpinHeap(impl.Heap{20}, 1, -100))},
		{"turned too often", "{0 0 0} 3", all(impl.SpinHeap(impl.Heap{21}, 1, 100))},
		{"turned too often to the left", "{0 0 0} 3", all(impl.SpinHeap(impl.Heap{21}, 1, -100))},
		{"as many turns as fit again into 16 bits", "{0 0 0} 3", all(impl.SpinHeap(impl.Heap{1000, 639}, 1, 40))},
		{"the greatest weight", "{2000 2000 2000} 0", all(impl.SpinHeap(full, 1, 1))},
		{"too heavy", "{0 0 0} 3", all(impl.SpinHeap(more, 1, 0))},
		{"no wool", "{0 0 0} 3", all(impl.SpinHeap(impl.Heap{}, 1, 1))},
		{"count 0", "{0 0 0} 2", all(impl.SpinHeap(h, 0, 0))},
		{"count too great", "{0 0 0} 2", all(impl.SpinHeap(h, 101, 0))},
		{"rate too great", "{0 0 0} 2", all(impl.SpinHeap(h, 1, 101))},
		{"rate too small", "{0 0 0} 2", all(impl.SpinHeap(h, 1, -101))},
		{"the least number", "{0 0 0} 2", all(impl.SpinHeap(h, 1, math.MinInt64))},
		{"range ahead of limit", "{0 0 0} 2", all(impl.SpinHeap(impl.Heap{}, 0, 0))},
		{"invalid ahead of range", "{0 0 0} 1", all(impl.SpinHeap(wrong, 0, 0))},
	})
}

// isPartDown reports whether part is whole * long / all, rounded toward less.
func isPartDown(part, whole, long, all int64) bool {
	return part*all <= whole*long && whole*long < (part+1)*all
}

// TestP7CutsSumUp cuts all yarns, at all lengths near the ends and at others.
func TestP7CutsSumUp(t *testing.T) {
	for _, y := range yarnPool() {
		all := int64(y.Long)
		for long := int64(1); long < all; long++ {
			if long > 40 && long < all-40 && long%97 != 0 {
				continue
			}
			a, b, code := impl.CutYarn(y, long)
			grams := int64(y.Grams) * long / all
			if grams == 0 {
				if code != impl.ErrState || a != (impl.Yarn{}) || b != (impl.Yarn{}) {
					t.Fatalf("%v cut at %d: %v %v %d", y, long, a, b, code)
				}
				continue
			}
			if code != impl.OK || !impl.ValidYarn(a) || !impl.ValidYarn(b) || int64(a.Long) != long {
				t.Fatalf("%v cut at %d: %v %v %d", y, long, a, b, code)
			}
			if a.Long+b.Long != y.Long || a.Twist+b.Twist != y.Twist || a.Grams+b.Grams != y.Grams {
				t.Fatalf("%v cut at %d: %v and %v do not sum up", y, long, a, b)
			}
			if !isPartDown(int64(a.Twist), int64(y.Twist), long, all) || int64(a.Grams) != grams {
				t.Fatalf("%v cut at %d: %v is not its part", y, long, a)
			}
		}
	}
}

func TestP7CutCodes(t *testing.T) {
	y := yarn(100, 300, 40)
	checkRows(t, []row{
		{"the example", "{30 90 12} {70 210 28} 0", all(impl.CutYarn(y, 30))},
		{"turns toward less", "{3 -5 3} {4 -5 4} 0", all(impl.CutYarn(yarn(7, -10, 7), 3))},
		{"turns to the right", "{3 4 3} {4 6 4} 0", all(impl.CutYarn(yarn(7, 10, 7), 3))},
		{"turns that divide evenly", "{3 -3 3} {4 -4 4} 0", all(impl.CutYarn(yarn(7, -7, 7), 3))},
		{"a single turn", "{2500 -1 1000} {2500 0 1000} 0", all(impl.CutYarn(yarn(5000, -1, 2000), 2500))},
		{"the shortest one", "{1 -1 1} {1 0 1} 0", all(impl.CutYarn(yarn(2, -1, 2), 1))},
		{"the first one too light", "{0 0 0} {0 0 0} 4", all(impl.CutYarn(yarn(2, 0, 1), 1))},
		{"less than a gram", "{0 0 0} {0 0 0} 4", all(impl.CutYarn(yarn(5000, 0, 2000), 2))},
		{"just a gram", "{3 0 1} {4997 0 1999} 0", all(impl.CutYarn(yarn(5000, 0, 2000), 3))},
		{"of one metre", "{0 0 0} {0 0 0} 2", all(impl.CutYarn(yarn(1, 0, 2), 1))},
		{"at 0", "{0 0 0} {0 0 0} 2", all(impl.CutYarn(y, 0))},
		{"at its end", "{0 0 0} {0 0 0} 2", all(impl.CutYarn(y, 100))},
		{"almost at its end", "{99 297 39} {1 3 1} 0", all(impl.CutYarn(y, 99))},
		{"beyond it", "{0 0 0} {0 0 0} 2", all(impl.CutYarn(y, math.MaxInt64))},
		{"at the least number", "{0 0 0} {0 0 0} 2", all(impl.CutYarn(y, math.MinInt64))},
		{"range ahead of state", "{0 0 0} {0 0 0} 2", all(impl.CutYarn(yarn(2, 0, 1), 2))},
		{"invalid ahead of range", "{0 0 0} {0 0 0} 1", all(impl.CutYarn(yarn(100, 2001, 40), 0))},
	})
}

// TestP7JoinedAgain: pieces joined without knots are the yarn that was cut.
func TestP7JoinedAgain(t *testing.T) {
	for _, y := range yarnPool() {
		a, b, code := impl.CutYarn(y, int64(y.Long+1)/2)
		if code != impl.OK {
			continue
		}
		if back, code := impl.JoinYarns([]impl.Yarn{a, b}, 0); code != impl.OK || back != y {
			t.Fatalf("%v is cut to %v and %v, which are joined to %v, %d", y, a, b, back, code)
		}
	}
}

func TestP7Joined(t *testing.T) {
	y, other := yarn(100, 300, 40), yarn(80, 100, 20)
	ten := slices.Repeat([]impl.Yarn{yarn(500, -200, 200)}, 10)
	eleven := slices.Repeat([]impl.Yarn{yarn(1, 0, 1)}, 11)
	wrong := slices.Repeat([]impl.Yarn{yarn(1, 0, 0)}, 11)
	short := yarn(10, 0, 1)
	checkRows(t, []row{
		{"the example", "{178 400 60} 0", all(impl.JoinYarns([]impl.Yarn{y, other}, 2))},
		{"three have two knots", "{240 700 100} 0", all(impl.JoinYarns([]impl.Yarn{y, other, y}, 20))},
		{"one has none", "{100 300 40} 0", all(impl.JoinYarns([]impl.Yarn{y}, 20))},
		{"knots of 0", "{5000 -2000 2000} 0", all(impl.JoinYarns(ten, 0))},
		{"nine knots", "{4991 -2000 2000} 0", all(impl.JoinYarns(ten, 1))},
		{"one metre left", "{1 0 2} 0", all(impl.JoinYarns([]impl.Yarn{short, yarn(11, 0, 1)}, 20))},
		{"no metre left", "{0 0 0} 4", all(impl.JoinYarns([]impl.Yarn{short, short}, 20))},
		{"less than no metre left", "{0 0 0} 4", all(impl.JoinYarns([]impl.Yarn{short, short, short}, 20))},
		{"by knots as long as allowed", "{5000 0 2} 0", all(impl.JoinYarns([]impl.Yarn{yarn(5000, 0, 1), yarn(1, 0, 1)}, 1))},
		{"too long", "{0 0 0} 4", all(impl.JoinYarns([]impl.Yarn{yarn(5000, 0, 1), yarn(1, 0, 1)}, 0))},
		{"turned too often", "{0 0 0} 4", all(impl.JoinYarns([]impl.Yarn{yarn(1, 2000, 1), yarn(1, 1, 1)}, 0))},
		{"turned too often to the left", "{0 0 0} 4", all(impl.JoinYarns([]impl.Yarn{yarn(1, -2000, 1), yarn(1, -1, 1)}, 0))},
		{"turned to both sides", "{2 0 2} 0", all(impl.JoinYarns([]impl.Yarn{yarn(1, -2000, 1), yarn(1, 2000, 1)}, 0))},
		{"too heavy", "{0 0 0} 4", all(impl.JoinYarns([]impl.Yarn{yarn(1, 0, 2000), yarn(1, 0, 1)}, 0))},
		{"no yarns", "{0 0 0} 6", all(impl.JoinYarns(nil, 0))},
		{"knot less than 0", "{0 0 0} 2", all(impl.JoinYarns(nil, -1))},
		{"knot too great", "{0 0 0} 2", all(impl.JoinYarns([]impl.Yarn{y}, 21))},
		{"too many", "{0 0 0} 3", all(impl.JoinYarns(eleven, 0))},
		{"range ahead of limit", "{0 0 0} 2", all(impl.JoinYarns(eleven, 21))},
		{"limit ahead of state", "{0 0 0} 3", all(impl.JoinYarns(eleven, 20))},
		{"invalid ahead of range", "{0 0 0} 1", all(impl.JoinYarns(wrong, 21))},
	})
}

// piecesByHand looks at all choices of yarns by their bits, the order of which is not that of lists.
func piecesByHand(list []impl.Yarn, knot, need int64) []int64 {
	var best []int64
	for bits := 1; bits < 1<<len(list); bits++ {
		var picked []int64
		long := knot
		for i, y := range list {
			if bits>>i&1 > 0 {
				picked = append(picked, int64(i))
				long += int64(y.Long) - knot
			}
		}
		fewer := best == nil || len(picked) < len(best) || len(picked) == len(best) && slices.Compare(picked, best) < 0
		if long >= need && fewer {
			best = picked
		}
	}
	return best
}

// TestP7FewestPieces: no fewer pieces are long enough, and none of as many come first.
func TestP7FewestPieces(t *testing.T) {
	r := newRandom()
	for range 1500 {
		list := randomYarns(r, r.Intn(11), []int64{2, 15, 25, 100, 5000}[r.Intn(5)])
		sum := int64(1)
		for _, y := range list {
			sum += int64(y.Long)
		}
		knot, need := int64(r.Intn(21)), 1+r.Int63n(sum+3)
		want := piecesByHand(list, knot, need)
		got, code := impl.FewestPieces(list, knot, need)
		if want == nil && code != impl.ErrNotFound || want != nil && code != impl.OK || !slices.Equal(got, want) {
			t.Fatalf("%v by knots of %d for %d: %v %d, not %v", list, knot, need, got, code, want)
		}
	}
}

func TestP7FewestPiecesCodes(t *testing.T) {
	list := yarnsOf(80, 100, 100)
	ten := slices.Repeat(yarnsOf(5000), 10)
	eleven := slices.Repeat(yarnsOf(5000), 11)
	wrong := append(slices.Clone(eleven), impl.Yarn{})
	checkRows(t, []row{
		{"two", "[1 2] 0", all(impl.FewestPieces(list, 2, 190))},
		{"of equally good ones the first one", "[0 1] 0", all(impl.FewestPieces(list, 2, 178))},
		{"of equally good single ones the first one", "[1] 0", all(impl.FewestPieces(list, 2, 100))},
		{"not the longest one", "[0] 0", all(impl.FewestPieces(list, 20, 80))},
		{"three", "[0 1 2] 0", all(impl.FewestPieces(list, 2, 276))},
		{"a metre too long", "[] 6", all(impl.FewestPieces(list, 2, 277))},
		{"knots of 0", "[0 1 2] 0", all(impl.FewestPieces(list, 0, 280))},
		{"the shorter ones first", "[0 3] 0", all(impl.FewestPieces(yarnsOf(1, 2, 3, 9), 0, 10))},
		{"one shorter than its knot does not help", "[] 6", all(impl.FewestPieces(yarnsOf(100, 5), 6, 101))},
		{"nor is it in the way", "[0 2] 0", all(impl.FewestPieces(yarnsOf(100, 5, 50), 6, 144))},
		{"all of ten", "[0 1 2 3 4 5 6 7 8 9] 0", all(impl.FewestPieces(ten, 0, 50000))},
		{"all of ten less a knot", "[] 6", all(impl.FewestPieces(ten, 1, 50000))},
		{"the joined one need not be valid", "[0 1] 0", all(impl.FewestPieces(ten, 20, 5001))},
		{"of one metre", "[0] 0", all(impl.FewestPieces(yarnsOf(1), 20, 1))},
		{"no yarns and a knot", "[] 6", all(impl.FewestPieces(nil, 20, 1))},
		{"need 0", "[] 2", all(impl.FewestPieces(list, 0, 0))},
		{"need too great", "[] 2", all(impl.FewestPieces(ten, 0, 50001))},
		{"knot less than 0", "[] 2", all(impl.FewestPieces(list, -1, 1))},
		{"knot too great", "[] 2", all(impl.FewestPieces(list, 21, 1))},
		{"too many", "[] 3", all(impl.FewestPieces(eleven, 0, 1))},
		{"range ahead of limit", "[] 2", all(impl.FewestPieces(eleven, 0, 0))},
		{"invalid ahead of range", "[] 1", all(impl.FewestPieces(wrong, 21, 0))},
	})
}

func TestP7Texts(t *testing.T) {
	list := []impl.Yarn{yarn(100, 300, 40), yarn(5000, -2000, 2000), yarn(1, 0, 1)}
	text := "100/300/40 5000/-2000/2000 1/0/1"
	ten := slices.Repeat(list[2:], 10)
	checkRows(t, []row{
		{"text", text, all(impl.YarnsText(list))},
		{"read", "[{100 300 40} {5000 -2000 2000} {1 0 1}] 0", all(impl.ReadYarns(text))},
		{"of none", "[] 0", all(impl.ReadYarns(""))},
		{"as many as may be", strings.Repeat("1/0/1 ", 9) + "1/0/1", all(impl.YarnsText(ten))},
		{"too many", "", all(impl.YarnsText(append(slices.Clone(ten), list[0])))},
		{"not valid", "", all(impl.YarnsText([]impl.Yarn{list[0], {}}))},
	})
	r := newRandom()
	for count := range 11 {
		for range 20 {
			list := randomYarns(r, count, 5000)
			back, code := impl.ReadYarns(impl.YarnsText(list))
			if code != impl.OK || !impl.SameYarns(back, list) || len(back) != count {
				t.Fatalf("%v is read as %v, %d", list, back, code)
			}
		}
	}
}

func TestP7TextsThatAreNone(t *testing.T) {
	list := []string{
		" ", "x", "1", "1/0", "1/0/", "/0/1", "1//1", "1/0/1/", "1/0/1/1", " 1/0/1", "1/0/1 ", "1/0/1  1/0/1", "1/0/1\n", "1/0/1\t1/0/1",
		"1/0/1,1/0/1", "1/0 /1", "01/0/1", "1/00/1", "1/-0/1", "1/+0/1", "+1/0/1", "1/0/+1", "1/0/01", "1/-01/1", "1/--1/1", "1/ 1/1",
		"0/0/1", "1/0/0", "5001/0/1", "1/2001/1", "1/-2001/1", "1/0/2001", "-1/0/1", "1/0/-1", "65537/0/1", "1/65536/1", "1/0/65537",
		"1/0x1/1", "1/1_0/1", "1/1e1/1", "1/1.0/1", "1/0/1 0/0/1", "1/0/1 x", "\x001/0/1", "1/0/1\x00", "\xff",
		strings.Repeat("1/0/1 ", 10) + "1/0/1", "99999999999999999999/0/1",
	}
	for _, text := range list {
		if got, code := impl.ReadYarns(text); code != impl.ErrSyntax || len(got) != 0 {
			t.Errorf("%q is read as %v, %d", text, got, code)
		}
	}
}
