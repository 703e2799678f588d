package tests

import (
	"math"
	"math/big"
	"math/rand"
	"testing"

	"loop.example/g01384/impl"
)

type rats [impl.Lengths]*big.Rat

// sharesByHand returns the shares of a heap that has wool.
func sharesByHand(h impl.Heap) rats {
	var list rats
	for length, grams := range h {
		list[length] = big.NewRat(int64(grams), gramsIn(h))
	}
	return list
}

func blendByHand(list []impl.Fleece, parts []int64) rats {
	total := int64(0)
	for _, n := range parts {
		total += n
	}
	var sum rats
	for length := range sum {
		sum[length] = new(big.Rat)
		for i, f := range list {
			sum[length].Add(sum[length], new(big.Rat).Mul(big.NewRat(parts[i], total), sharesByHand(f.Grams)[length]))
		}
	}
	return sum
}

func offByHand(a, b rats) *big.Rat {
	sum := new(big.Rat)
	for length := range a {
		off := new(big.Rat).Sub(a[length], b[length])
		sum.Add(sum, off.Abs(off))
	}
	return sum
}

// checkShares looks whether shares are told, are those that are wanted, and sum up to 1.
func checkShares(t *testing.T, got []impl.Fraction, code int64, want rats) {
	t.Helper()
	if code != impl.OK || len(got) != impl.Lengths {
		t.Fatalf("shares %v, code %d", got, code)
	}
	sum := new(big.Rat)
	for length, f := range got {
		if !isTold(f) || rat(f).Cmp(want[length]) != 0 {
			t.Fatalf("the share of %d is %v, not %v", length, f, want[length])
		}
		sum.Add(sum, rat(f))
	}
	if sum.Cmp(big.NewRat(1, 1)) != 0 {
		t.Fatalf("%v sum up to %v", got, sum)
	}
}

// randomFleeces have wool, and at most 100 grams each.
func randomFleeces(r *rand.Rand, count int) []impl.Fleece {
	list := make([]impl.Fleece, count)
	for i := range list {
		list[i] = impl.Fleece{Fine: int8(r.Intn(10)), Grams: lightHeap(r)}
	}
	return list
}

func lightHeap(r *rand.Rand) impl.Heap {
	h := randomHeap(r, []int32{1, 3, 12}[r.Intn(3)])
	if h == (impl.Heap{}) {
		h[r.Intn(impl.Lengths)] = 1
	}
	return h
}

// largeFleeces have grams without common factors, so that the numbers of their blends are as large as they get.
func largeFleeces() []impl.Fleece {
	var list []impl.Fleece
	for i, grams := range []int32{99, 97, 95, 91, 89, 83} {
		h := impl.Heap{}
		h[i] = grams - 3
		h[i+1], h[i+2] = 1, 2
		list = append(list, impl.Fleece{Grams: h})
	}
	return list
}

// roundFleeces have 100 grams each, so that their least common denominator is far less than the product of all grams.
func roundFleeces() []impl.Fleece {
	var list []impl.Fleece
	for i := range int32(6) {
		list = append(list, impl.Fleece{Grams: impl.Heap{10 * i, 100 - 17*i, 7 * i}})
	}
	return list
}

func TestP3SharesSumUp(t *testing.T) {
	for _, h := range heapPool() {
		got, code := impl.SharesOf(h)
		if h == (impl.Heap{}) {
			if code != impl.ErrNotFound || len(got) != 0 {
				t.Fatalf("the shares of no wool are %v, %d", got, code)
			}
			continue
		}
		checkShares(t, got, code, sharesByHand(h))
	}
}

func TestP3SharesCodes(t *testing.T) {
	checkRows(t, []row{
		{"the example", "[{0 1} {0 1} {3 10} {1 2} {1 5} {0 1} {0 1} {0 1}] 0", all(impl.SharesOf(impl.Heap{2: 30, 3: 50, 4: 20}))},
		{"one length", "[{0 1} {0 1} {0 1} {0 1} {0 1} {0 1} {0 1} {1 1}] 0", all(impl.SharesOf(impl.Heap{7: 1000}))},
		{"no wool", "[] 6", all(impl.SharesOf(impl.Heap{}))},
		{"not valid", "[] 1", all(impl.SharesOf(impl.Heap{1, -1}))},
	})
}

func TestP3OffBy(t *testing.T) {
	pool := heapPool()
	for i, a := range pool[1:] {
		for _, b := range pool[1 : 1+i%9] {
			if gramsIn(a) == 0 || gramsIn(b) == 0 {
				continue
			}
			off, code := impl.OffBy(a, b)
			back, _ := impl.OffBy(b, a)
			if code != impl.OK || !isTold(off) || rat(off).Cmp(offByHand(sharesByHand(a), sharesByHand(b))) != 0 || back != off {
				t.Fatalf("%v is off %v by %v or %v, %d", a, b, off, back, code)
			}
		}
	}
	checkRows(t, []row{
		{"not at all", "{0 1} 0", all(impl.OffBy(impl.Heap{1, 2}, impl.Heap{2, 4}))},
		{"as far as can be", "{2 1} 0", all(impl.OffBy(impl.Heap{1000}, impl.Heap{7: 3}))},
		{"the first one without wool", "{0 0} 6", all(impl.OffBy(impl.Heap{}, impl.Heap{1}))},
		{"the second one without wool", "{0 0} 6", all(impl.OffBy(impl.Heap{1}, impl.Heap{}))},
		{"the first one not valid", "{0 0} 1", all(impl.OffBy(impl.Heap{-1}, impl.Heap{}))},
		{"the second one not valid", "{0 0} 1", all(impl.OffBy(impl.Heap{}, impl.Heap{1001}))},
	})
}

func TestP3BlendsSumUp(t *testing.T) {
	r := newRandom()
	for range 1000 {
		list := randomFleeces(r, 1+r.Intn(6))
		parts := make([]int64, len(list))
		for i := range parts {
			parts[i] = r.Int63n(9)
		}
		parts[r.Intn(len(parts))] = 1 + r.Int63n(8)
		got, code := impl.BlendOf(list, parts)
		checkShares(t, got, code, blendByHand(list, parts))
	}
	most := []int64{8, 7, 8, 7, 8, 7}
	got, code := impl.BlendOf(largeFleeces(), most)
	checkShares(t, got, code, blendByHand(largeFleeces(), most))
}

func TestP3BlendCodes(t *testing.T) {
	wool := impl.Fleece{Grams: impl.Heap{2: 5}}
	other := impl.Fleece{Grams: impl.Heap{2: 1, 4: 1}}
	most := impl.Fleece{Grams: impl.Heap{0: 60, 7: 40}}
	heavy := impl.Fleece{Grams: impl.Heap{0: 60, 7: 41}}
	wrong := impl.Fleece{Fine: 10}
	two := []impl.Fleece{wool, other}
	seven := []impl.Fleece{wool, wool, wool, wool, wool, wool, wool}
	ones := []int64{1, 1, 1, 1, 1, 1, 1}
	checkRows(t, []row{
		{"two", "[{0 1} {0 1} {5 8} {0 1} {3 8} {0 1} {0 1} {0 1}] 0", all(impl.BlendOf(two, []int64{2, 6}))},
		{"one of two", "[{0 1} {0 1} {1 1} {0 1} {0 1} {0 1} {0 1} {0 1}] 0", all(impl.BlendOf(two, []int64{8, 0}))},
		{"100 grams", "[{3 5} {0 1} {0 1} {0 1} {0 1} {0 1} {0 1} {2 5}] 0", all(impl.BlendOf([]impl.Fleece{most}, []int64{1}))},
		{"six", "[{0 1} {0 1} {1 1} {0 1} {0 1} {0 1} {0 1} {0 1}] 0", all(impl.BlendOf(seven[:6], ones[:6]))},
		{"fewer parts", "[] 2", all(impl.BlendOf(two, []int64{1}))},
		{"more parts", "[] 2", all(impl.BlendOf(two, []int64{1, 1, 1}))},
		{"a part less than 0", "[] 2", all(impl.BlendOf(two, []int64{-1, 2}))},
		{"a part too great", "[] 2", all(impl.BlendOf(two, []int64{1, 9}))},
		{"all parts 0", "[] 2", all(impl.BlendOf(two, []int64{0, 0}))},
		{"parts beyond all sums", "[] 2", all(impl.BlendOf(two, []int64{math.MaxInt64, math.MaxInt64}))},
		{"no fleeces", "[] 2", all(impl.BlendOf(nil, nil))},
		{"invalid ahead of range", "[] 1", all(impl.BlendOf([]impl.Fleece{wool, wrong}, nil))},
		{"range ahead of limit", "[] 2", all(impl.BlendOf(seven, ones[:6]))},
		{"too many", "[] 3", all(impl.BlendOf(seven, ones))},
		{"too heavy", "[] 3", all(impl.BlendOf([]impl.Fleece{wool, heavy}, []int64{1, 0}))},
		{"limit ahead of not found", "[] 3", all(impl.BlendOf([]impl.Fleece{{}, heavy}, []int64{1, 1}))},
		{"no wool", "[] 6", all(impl.BlendOf([]impl.Fleece{wool, {}}, []int64{1, 1}))},
		{"no wool of no part", "[] 6", all(impl.BlendOf([]impl.Fleece{{}, wool}, []int64{0, 1}))},
	})
}

// allParts calls visit with every list of so many parts in all, in the order of lists.
func allParts(count int, total int64, visit func([]int64)) {
	parts := make([]int64, count)
	var choose func(i int, left int64)
	choose = func(i int, left int64) {
		if i == count {
			if left == 0 {
				visit(parts)
			}
			return
		}
		for n := int64(0); n <= left; n++ {
			parts[i] = n
			choose(i+1, left-n)
		}
	}
	choose(0, total)
}

func checkNearest(t *testing.T, list []impl.Fleece, wanted impl.Heap, total int64) {
	t.Helper()
	got, off, code := impl.NearestBlend(list, wanted, total)
	var best []int64
	var least *big.Rat
	allParts(len(list), total, func(parts []int64) {
		by := offByHand(blendByHand(list, parts), sharesByHand(wanted))
		if least == nil || by.Cmp(least) < 0 {
			best, least = append([]int64(nil), parts...), by
		}
	})
	same := len(got) == len(best)
	for i := range best {
		same = same && got[i] == best[i]
	}
	if code != impl.OK || !same || !isTold(off) || rat(off).Cmp(least) != 0 {
		t.Fatalf("%v to %v by %d: %v %v %d, not %v %v", list, wanted, total, got, off, code, best, least)
	}
}

// TestP3NoBlendIsNearer compares with all blends of as many parts, by big numbers.
func TestP3NoBlendIsNearer(t *testing.T) {
	r := newRandom()
	for range 60 {
		checkNearest(t, randomFleeces(r, 1+r.Intn(3)), lightHeap(r), 1+r.Int63n(8))
		checkNearest(t, randomFleeces(r, 4+r.Intn(3)), lightHeap(r), 1+r.Int63n(3))
	}
	for range 60 {
		list := randomFleeces(r, 2+r.Intn(3))
		list = append(list, list[r.Intn(len(list))], list[0])
		checkNearest(t, list, lightHeap(r), 1+r.Int63n(4))
	}
	checkNearest(t, largeFleeces(), impl.Heap{12, 13, 11, 14, 10, 15, 9, 16}, 8)
	checkNearest(t, roundFleeces(), impl.Heap{31, 42, 27}, 4)
}

func TestP3SeveralBestBlends(t *testing.T) {
	a, b := impl.Fleece{Grams: impl.Heap{1}}, impl.Fleece{Grams: impl.Heap{1: 1}}
	half := impl.Fleece{Grams: impl.Heap{3, 3}}
	double := impl.Fleece{Fine: 9, Grams: impl.Heap{2}}
	even := impl.Heap{5, 5}
	checkRows(t, []row{
		{"the last one of the same", "[0 0 3] {0 1} 0", all(impl.NearestBlend([]impl.Fleece{a, a, a}, impl.Heap{9}, 3))},
		{"the last one of the same shares", "[0 3] {0 1} 0", all(impl.NearestBlend([]impl.Fleece{a, double}, impl.Heap{9}, 3))},
		{"the last one of the same behind another one", "[0 1 1] {0 1} 0", all(impl.NearestBlend([]impl.Fleece{a, b, a}, even, 2))},
		{"of the same fineness or not", "[0 2] {0 1} 0", all(impl.NearestBlend([]impl.Fleece{half, {Fine: 3, Grams: half.Grams}}, even, 2))},
		{"halves or wholes", "[0 0 4] {0 1} 0", all(impl.NearestBlend([]impl.Fleece{a, b, half}, even, 4))},
		{"halves first", "[0 2 2] {0 1} 0", all(impl.NearestBlend([]impl.Fleece{half, a, b}, even, 4))},
		{"above and below", "[1 2] {1 3} 0", all(impl.NearestBlend([]impl.Fleece{a, b}, even, 3))},
		{"all as far", "[0 1] {2 1} 0", all(impl.NearestBlend([]impl.Fleece{a, b}, impl.Heap{7: 1}, 1))},
	})
}

func TestP3NearestCodes(t *testing.T) {
	wool := impl.Fleece{Grams: impl.Heap{2: 5}}
	heavy := impl.Fleece{Grams: impl.Heap{0: 60, 7: 41}}
	wrong := impl.Fleece{Grams: impl.Heap{-1}}
	one := []impl.Fleece{wool}
	seven := []impl.Fleece{wool, wool, wool, wool, wool, wool, wool}
	wanted, most := impl.Heap{1}, impl.Heap{0: 60, 7: 40}
	checkRows(t, []row{
		{"one fleece", "[8] {2 1} 0", all(impl.NearestBlend(one, most, 8))},
		{"six fleeces", "[0 0 0 0 0 1] {2 1} 0", all(impl.NearestBlend(seven[:6], wanted, 1))},
		{"no parts", "[] {0 0} 2", all(impl.NearestBlend(one, wanted, 0))},
		{"too many parts", "[] {0 0} 2", all(impl.NearestBlend(one, wanted, 9))},
		{"parts less than 0", "[] {0 0} 2", all(impl.NearestBlend(one, wanted, math.MinInt64))},
		{"a fleece not valid", "[] {0 0} 1", all(impl.NearestBlend([]impl.Fleece{wool, wrong}, wanted, 0))},
		{"wanted not valid", "[] {0 0} 1", all(impl.NearestBlend(nil, impl.Heap{1001}, 0))},
		{"range ahead of limit", "[] {0 0} 2", all(impl.NearestBlend(seven, wanted, 0))},
		{"too many fleeces", "[] {0 0} 3", all(impl.NearestBlend(seven, wanted, 1))},
		{"a fleece too heavy", "[] {0 0} 3", all(impl.NearestBlend([]impl.Fleece{wool, heavy}, wanted, 1))},
		{"wanted too heavy", "[] {0 0} 3", all(impl.NearestBlend(one, heavy.Grams, 1))},
		{"limit ahead of not found", "[] {0 0} 3", all(impl.NearestBlend(nil, heavy.Grams, 1))},
		{"no fleeces", "[] {0 0} 6", all(impl.NearestBlend(nil, wanted, 1))},
		{"a fleece without wool", "[] {0 0} 6", all(impl.NearestBlend([]impl.Fleece{wool, {}}, wanted, 1))},
		{"no wool wanted", "[] {0 0} 6", all(impl.NearestBlend(one, impl.Heap{}, 1))},
	})
}
