package tests

import (
	"math"
	"testing"

	"loop.example/g01384/impl"
)

// TestP2SortedOut: what is sorted out and all others sum up to the heap, and each length is where it belongs.
func TestP2SortedOut(t *testing.T) {
	for _, h := range heapPool() {
		for low := int64(0); low < impl.Lengths; low++ {
			for high := low; high < impl.Lengths; high++ {
				in, out, code := impl.SortOut(h, low, high)
				if code != impl.OK || sumOfHeaps(in, out) != h {
					t.Fatalf("%v, %d to %d: %v %v %d", h, low, high, in, out, code)
				}
				for length := range h {
					sorted := int64(length) >= low && int64(length) <= high
					if sorted && out[length] != 0 || !sorted && in[length] != 0 {
						t.Fatalf("%v, %d to %d: %v %v", h, low, high, in, out)
					}
				}
			}
		}
	}
}

func TestP2SortOutCodes(t *testing.T) {
	h := impl.Heap{1, 2, 3}
	checkRows(t, []row{
		{"all", "[1 2 3 0 0 0 0 0] [0 0 0 0 0 0 0 0] 0", all(impl.SortOut(h, 0, 7))},
		{"one", "[0 2 0 0 0 0 0 0] [1 0 3 0 0 0 0 0] 0", all(impl.SortOut(h, 1, 1))},
		{"of none", "[0 0 0 0 0 0 0 0] [0 0 0 0 0 0 0 0] 0", all(impl.SortOut(impl.Heap{}, 3, 4))},
		{"low less than 0", "[0 0 0 0 0 0 0 0] [0 0 0 0 0 0 0 0] 2", all(impl.SortOut(h, -1, 3))},
		{"high too great", "[0 0 0 0 0 0 0 0] [0 0 0 0 0 0 0 0] 2", all(impl.SortOut(h, 1, 8))},
		{"low greater than high", "[0 0 0 0 0 0 0 0] [0 0 0 0 0 0 0 0] 2", all(impl.SortOut(h, 4, 3))},
		{"both too great", "[0 0 0 0 0 0 0 0] [0 0 0 0 0 0 0 0] 2", all(impl.SortOut(h, math.MaxInt64, math.MaxInt64))},
		{"both too small", "[0 0 0 0 0 0 0 0] [0 0 0 0 0 0 0 0] 2", all(impl.SortOut(h, math.MinInt64, math.MinInt64))},
		{"invalid ahead of range", "[0 0 0 0 0 0 0 0] [0 0 0 0 0 0 0 0] 1", all(impl.SortOut(impl.Heap{-1}, 4, 3))},
	})
}

// TestP2Taken: what is taken and what is left sum up to the heap; no length that is left is greater than one taken.
func TestP2Taken(t *testing.T) {
	for _, h := range heapPool() {
		total := gramsIn(h)
		for _, grams := range []int64{0, 1, total / 3, total / 2, total - 1, total} {
			if grams < 0 || grams > total {
				continue
			}
			taken, left, code := impl.TakeLongest(h, grams)
			if code != impl.OK || sumOfHeaps(taken, left) != h || gramsIn(taken) != grams {
				t.Fatalf("%v, %d: %v %v %d", h, grams, taken, left, code)
			}
			if !impl.ValidHeap(taken) || !impl.ValidHeap(left) || shortestIn(taken) < longestIn(left) {
				t.Fatalf("%v, %d: %v is taken, and %v is left", h, grams, taken, left)
			}
		}
	}
}

func shortestIn(h impl.Heap) int {
	for length, grams := range h {
		if grams > 0 {
			return length
		}
	}
	return len(h)
}

func longestIn(h impl.Heap) int {
	for length := len(h) - 1; length >= 0; length-- {
		if h[length] > 0 {
			return length
		}
	}
	return -1
}

func TestP2TakeLongestCodes(t *testing.T) {
	h := impl.Heap{2: 30, 3: 50, 4: 20}
	checkRows(t, []row{
		{"the example", "[0 0 0 10 20 0 0 0] [0 0 30 40 0 0 0 0] 0", all(impl.TakeLongest(h, 30))},
		{"all", "[0 0 30 50 20 0 0 0] [0 0 0 0 0 0 0 0] 0", all(impl.TakeLongest(h, 100))},
		{"none", "[0 0 0 0 0 0 0 0] [0 0 30 50 20 0 0 0] 0", all(impl.TakeLongest(h, 0))},
		{"none of none", "[0 0 0 0 0 0 0 0] [0 0 0 0 0 0 0 0] 0", all(impl.TakeLongest(impl.Heap{}, 0))},
		{"less than 0", "[0 0 0 0 0 0 0 0] [0 0 0 0 0 0 0 0] 2", all(impl.TakeLongest(h, -1))},
		{"least", "[0 0 0 0 0 0 0 0] [0 0 0 0 0 0 0 0] 2", all(impl.TakeLongest(h, math.MinInt64))},
		{"too many", "[0 0 0 0 0 0 0 0] [0 0 0 0 0 0 0 0] 6", all(impl.TakeLongest(h, 101))},
		{"one of none", "[0 0 0 0 0 0 0 0] [0 0 0 0 0 0 0 0] 6", all(impl.TakeLongest(impl.Heap{}, 1))},
		{"greatest", "[0 0 0 0 0 0 0 0] [0 0 0 0 0 0 0 0] 6", all(impl.TakeLongest(h, math.MaxInt64))},
		{"invalid ahead of range", "[0 0 0 0 0 0 0 0] [0 0 0 0 0 0 0 0] 1", all(impl.TakeLongest(impl.Heap{-1}, -1))},
	})
}

// TestP2Parted: all parts sum up to the heap; of each length they differ by at most 1, the first ones having more.
func TestP2Parted(t *testing.T) {
	for _, h := range heapPool() {
		for heaps := int64(1); heaps <= impl.MaxHeaps; heaps++ {
			parts, code := impl.PartHeap(h, heaps)
			if code != impl.OK || int64(len(parts)) != heaps || sumOfHeaps(parts...) != h {
				t.Fatalf("%v by %d: %v %d", h, heaps, parts, code)
			}
			for i := range parts[1:] {
				for length := range h {
					if parts[i][length] < parts[i+1][length] || parts[0][length] > parts[i+1][length]+1 {
						t.Fatalf("%v by %d: %v", h, heaps, parts)
					}
				}
			}
		}
	}
}

func TestP2PartHeapCodes(t *testing.T) {
	h := impl.Heap{2: 30, 3: 50, 4: 20}
	checkRows(t, []row{
		{"the example", "[[0 0 10 17 7 0 0 0] [0 0 10 17 7 0 0 0] [0 0 10 16 6 0 0 0]] 0", all(impl.PartHeap(h, 3))},
		{"one", "[[0 0 30 50 20 0 0 0]] 0", all(impl.PartHeap(h, 1))},
		{"of none", "[[0 0 0 0 0 0 0 0] [0 0 0 0 0 0 0 0]] 0", all(impl.PartHeap(impl.Heap{}, 2))},
		{"no heaps", "[] 2", all(impl.PartHeap(h, 0))},
		{"too few", "[] 2", all(impl.PartHeap(h, math.MinInt64))},
		{"too many", "[] 2", all(impl.PartHeap(h, 21))},
		{"invalid ahead of range", "[] 1", all(impl.PartHeap(impl.Heap{7: 1001}, 0))},
	})
}

func TestP2Joined(t *testing.T) {
	for i, a := range heapPool() {
		for _, b := range heapPool()[:i%12] {
			sum := sumOfHeaps(a, b)
			both, code := impl.JoinHeaps(a, b)
			if impl.ValidHeap(sum) && (code != impl.OK || both != sum) || !impl.ValidHeap(sum) && code != impl.ErrLimit {
				t.Fatalf("%v and %v: %v %d", a, b, both, code)
			}
		}
	}
	checkRows(t, []row{
		{"to the limit", "[1000 0 0 0 0 0 0 0] 0", all(impl.JoinHeaps(impl.Heap{999}, impl.Heap{1}))},
		{"beyond it", "[0 0 0 0 0 0 0 0] 3", all(impl.JoinHeaps(impl.Heap{7: 1000}, impl.Heap{7: 1}))},
		{"the first one not valid", "[0 0 0 0 0 0 0 0] 1", all(impl.JoinHeaps(impl.Heap{-1}, impl.Heap{2}))},
		{"the second one not valid", "[0 0 0 0 0 0 0 0] 1", all(impl.JoinHeaps(impl.Heap{2}, impl.Heap{-1}))},
		{"far from valid", "[0 0 0 0 0 0 0 0] 1", all(impl.JoinHeaps(impl.Heap{math.MaxInt32}, impl.Heap{math.MaxInt32}))},
	})
}

func TestP2Washed(t *testing.T) {
	h := impl.Heap{0, 1, 30, 50, 20, 999, 1000, 7}
	checkRows(t, []row{
		{"by some", "[0 0 25 42 17 849 850 5] 0", all(impl.WashedHeap(h, 15))},
		{"by nothing", "[0 1 30 50 20 999 1000 7] 0", all(impl.WashedHeap(h, 0))},
		{"by almost all", "[0 0 0 0 0 9 10 0] 0", all(impl.WashedHeap(h, 99))},
		{"by all", "[0 0 0 0 0 0 0 0] 0", all(impl.WashedHeap(h, 100))},
		{"of none", "[0 0 0 0 0 0 0 0] 0", all(impl.WashedHeap(impl.Heap{}, 50))},
		{"less than 0", "[0 0 0 0 0 0 0 0] 2", all(impl.WashedHeap(h, -1))},
		{"more than all", "[0 0 0 0 0 0 0 0] 2", all(impl.WashedHeap(h, 101))},
		{"invalid ahead of range", "[0 0 0 0 0 0 0 0] 1", all(impl.WashedHeap(impl.Heap{-1}, 101))},
	})
}

// TestP2Graded: the heaps of all grades sum up to all fleeces, each being in the heap of its grade.
func TestP2Graded(t *testing.T) {
	r := newRandom()
	for range 500 {
		list := make([]impl.Fleece, r.Intn(7))
		for i := range list {
			list[i] = impl.Fleece{Fine: int8(r.Intn(10)), Grams: randomHeap(r, 160)}
		}
		var bounds []int64
		for b := int64(1); b <= impl.MaxFine; b++ {
			if r.Intn(2) > 0 {
				bounds = append(bounds, b)
			}
		}
		checkGraded(t, list, bounds)
	}
}

func checkGraded(t *testing.T, list []impl.Fleece, bounds []int64) {
	t.Helper()
	grades, code := impl.GradesOf(list, bounds)
	heaps, code2 := impl.GradeHeaps(list, bounds)
	if code != impl.OK || code2 != impl.OK || len(grades) != len(list) || len(heaps) != len(bounds)+1 {
		t.Fatalf("%v, %v: %v %d %v %d", list, bounds, grades, code, heaps, code2)
	}
	want := make([]impl.Heap, len(heaps))
	for i, f := range list {
		g := grades[i]
		if g > 0 && bounds[g-1] > int64(f.Fine) || g < int64(len(bounds)) && bounds[g] <= int64(f.Fine) {
			t.Fatalf("%v, %v: %v", list, bounds, grades)
		}
		want[g] = sumOfHeaps(want[g], f.Grams)
	}
	for g := range heaps {
		if heaps[g] != want[g] {
			t.Fatalf("%v, %v: %v", list, bounds, heaps)
		}
	}
}

func TestP2GradesAtTheBounds(t *testing.T) {
	full := impl.Fleece{Fine: 4, Grams: impl.Heap{3: 1000}}
	list := []impl.Fleece{{Fine: 0}, {Fine: 1}, {Fine: 8, Grams: impl.Heap{2: 3}}, {Fine: 9, Grams: impl.Heap{2: 4}}}
	wrong := []impl.Fleece{{}, {Fine: -1}}
	seven := make([]impl.Fleece, 7)
	checkRows(t, []row{
		{"the least and the greatest bound", "[0 1 1 2] 0", all(impl.GradesOf(list, []int64{1, 9}))},
		{"all bounds", "[0 1 8 9] 0", all(impl.GradesOf(list, []int64{1, 2, 3, 4, 5, 6, 7, 8, 9}))},
		{"no bounds", "[0 0 0 0] 0", all(impl.GradesOf(list, nil))},
		{"heaps", "[[0 0 0 0 0 0 0 0] [0 0 3 0 0 0 0 0] [0 0 4 0 0 0 0 0]] 0", all(impl.GradeHeaps(list, []int64{1, 9}))},
		{"bound 0", "[] 2", all(impl.GradesOf(list, []int64{0, 3}))},
		{"bound 10", "[] 2", all(impl.GradesOf(list, []int64{3, 10}))},
		{"equal bounds", "[] 2", all(impl.GradeHeaps(list, []int64{3, 3}))},
		{"falling bounds", "[] 2", all(impl.GradeHeaps(list, []int64{3, 2}))},
		{"invalid ahead of range", "[] 1", all(impl.GradesOf(wrong, []int64{0}))},
		{"invalid heaps", "[] 1", all(impl.GradeHeaps(wrong, []int64{0}))},
		{"range ahead of limit", "[] 2", all(impl.GradesOf(seven, []int64{0}))},
		{"too many", "[] 3", all(impl.GradesOf(seven, nil))},
		{"too many heaps", "[] 3", all(impl.GradeHeaps(seven, nil))},
		{"as many as may be", "[0 0 0 0 0 0] 0", all(impl.GradesOf(seven[:6], nil))},
		{"a full heap", "[[0 0 0 1000 0 0 0 0]] 0", all(impl.GradeHeaps([]impl.Fleece{full, {}}, nil))},
		{"a heap too large", "[] 3", all(impl.GradeHeaps([]impl.Fleece{full, {Fine: 4, Grams: impl.Heap{3: 1}}}, nil))},
		{"two full heaps", "[[0 0 0 1000 0 0 0 0] [0 0 0 1000 0 0 0 0]] 0", all(impl.GradeHeaps([]impl.Fleece{full, {Fine: 5, Grams: full.Grams}}, []int64{5}))},
		{"grades alone may be large", "[0 0] 0", all(impl.GradesOf([]impl.Fleece{full, full}, nil))},
	})
}
