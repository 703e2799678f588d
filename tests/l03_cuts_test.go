package tests

import (
	"math"
	"slices"
	"testing"

	"loop.example/g01384/impl"
)

// cutsByHand cuts need for need from the yarns of which it is told how much is left.
func cutsByHand(list []impl.Yarn, needs []int64) []int64 {
	left := make(map[int]int64)
	for i, y := range list {
		left[i] = int64(y.Long)
	}
	var cuts []int64
	for _, need := range needs {
		from := -1
		for i := len(list) - 1; i >= 0; i-- {
			if left[i] >= need {
				from = i
			}
		}
		left[from] -= need
		cuts = append(cuts, int64(from))
	}
	return cuts
}

// openedBy returns how many yarns are cut from, and whether each one has enough.
func openedBy(list []impl.Yarn, needs, cuts []int64) (int64, bool) {
	sums := make(map[int64]int64)
	for i, from := range cuts {
		sums[from] += needs[i]
	}
	for from, sum := range sums {
		if from < 0 || from >= int64(len(list)) || sum > int64(list[from].Long) {
			return 0, false
		}
	}
	return int64(len(sums)), true
}

// openedByHand goes through all lists of indices from the last one to the first one; -1 is for none.
func openedByHand(list []impl.Yarn, needs []int64) ([]int64, int64) {
	cuts := slices.Repeat([]int64{int64(len(list)) - 1}, len(needs))
	best, fewest := []int64(nil), int64(-1)
	for {
		if opened, enough := openedBy(list, needs, cuts); enough && (fewest < 0 || opened <= fewest) {
			best, fewest = slices.Clone(cuts), opened
		}
		at := len(cuts) - 1
		for at >= 0 && cuts[at] <= 0 {
			cuts[at] = int64(len(list)) - 1
			at--
		}
		if at < 0 {
			return best, fewest
		}
		cuts[at]--
	}
}

func TestP7CutsFrom(t *testing.T) {
	r := newRandom()
	for range 3000 {
		most := []int64{3, 30, 5000}[r.Intn(3)]
		list := randomYarns(r, r.Intn(11), most)
		needs := make([]int64, r.Intn(7))
		for i := range needs {
			needs[i] = 1 + r.Int63n(most)
		}
		got, code := impl.CutsFrom(list, needs)
		if code != impl.OK || !slices.Equal(got, cutsByHand(list, needs)) {
			t.Fatalf("%v for %v: %v %d", list, needs, got, code)
		}
	}
}

// TestP7FewestOpened: no fewer yarns have enough for all needs, and none of as many come first.
func TestP7FewestOpened(t *testing.T) {
	r := newRandom()
	for range 1500 {
		most := []int64{3, 10, 30}[r.Intn(3)]
		list := randomYarns(r, 1+r.Intn(5), most)
		needs := make([]int64, r.Intn(6))
		for i := range needs {
			needs[i] = 1 + r.Int63n(1+most/2)
		}
		want, fewest := openedByHand(list, needs)
		got, opened, code := impl.FewestOpened(list, needs)
		if fewest < 0 {
			if code != impl.ErrNotFound || len(got) != 0 || opened != 0 {
				t.Fatalf("%v for %v: %v %d %d", list, needs, got, opened, code)
			}
			continue
		}
		if code != impl.OK || !slices.Equal(got, want) || opened != fewest {
			t.Fatalf("%v for %v: %v %d %d, not %v %d", list, needs, got, opened, code, want, fewest)
		}
	}
}

func TestP7CutsFromCodes(t *testing.T) {
	list := yarnsOf(100, 80)
	ten, eleven := slices.Repeat(yarnsOf(1), 10), slices.Repeat(yarnsOf(1), 11)
	wrong := append(slices.Clone(eleven), impl.Yarn{})
	ones := []int64{1, 1, 1, 1, 1, 1, 1}
	checkRows(t, []row{
		{"the example", "[0 1 0] 0", all(impl.CutsFrom(list, []int64{60, 50, 30}))},
		{"up to the end", "[0 0 1 1] 0", all(impl.CutsFrom(list, []int64{60, 40, 79, 1}))},
		{"one that cannot be cut, and one behind it", "[0 -1 1 0] 0", all(impl.CutsFrom(list, []int64{60, 81, 80, 40}))},
		{"not from the best one", "[0 1 -1] 0", all(impl.CutsFrom(list, []int64{80, 80, 100}))},
		{"the longest", "[0] 0", all(impl.CutsFrom(yarnsOf(5000), []int64{5000}))},
		{"six needs from ten", "[0 1 2 3 4 5] 0", all(impl.CutsFrom(ten, ones[:6]))},
		{"from no yarns", "[-1 -1] 0", all(impl.CutsFrom(nil, []int64{1, 5000}))},
		{"no needs", "[] 0", all(impl.CutsFrom(list, nil))},
		{"a need of 0", "[] 2", all(impl.CutsFrom(list, []int64{1, 0}))},
		{"a need too great", "[] 2", all(impl.CutsFrom(list, []int64{5001, 1}))},
		{"the least need", "[] 2", all(impl.CutsFrom(list, []int64{math.MinInt64}))},
		{"too many needs", "[] 3", all(impl.CutsFrom(list, ones))},
		{"too many yarns", "[] 3", all(impl.CutsFrom(eleven, nil))},
		{"range ahead of limit of needs", "[] 2", all(impl.CutsFrom(list, append(slices.Clone(ones), 0)))},
		{"range ahead of limit of yarns", "[] 2", all(impl.CutsFrom(eleven, []int64{0}))},
		{"invalid ahead of range", "[] 1", all(impl.CutsFrom(wrong, []int64{0}))},
	})
}

func TestP7FewestOpenedCodes(t *testing.T) {
	list := yarnsOf(100, 80)
	ten, eleven := slices.Repeat(yarnsOf(1), 10), slices.Repeat(yarnsOf(1), 11)
	wrong := append(slices.Clone(eleven), impl.Yarn{})
	ones := []int64{1, 1, 1, 1, 1, 1, 1}
	tight := yarnsOf(10, 10, 10, 10, 10, 10, 10, 10, 10, 59)
	checkRows(t, []row{
		{"the example", "[0 1 0] 2 0", all(impl.FewestOpened(list, []int64{60, 50, 30}))},
		{"from one alone", "[1 1] 1 0", all(impl.FewestOpened(yarnsOf(50, 80), []int64{50, 30}))},
		{"of equally good ones the first one", "[0 0] 1 0", all(impl.FewestOpened(list, []int64{50, 30}))},
		{"of equally good ones of two the first one", "[0 0 1] 2 0", all(impl.FewestOpened(list, []int64{50, 30, 60}))},
		{"not from the first ones", "[0 1 1] 2 0", all(impl.FewestOpened(yarnsOf(60, 100), []int64{30, 40, 60}))},
		{"where cutting from the first ones fails", "[1 0] 2 0", all(impl.FewestOpened(list, []int64{80, 90}))},
		{"one need of the longest", "[1] 1 0", all(impl.FewestOpened(yarnsOf(4999, 5000), []int64{5000}))},
		{"each from another one", "[0 1 2 3 4 5] 6 0", all(impl.FewestOpened(ten, ones[:6]))},
		{"six tens from two", "[0 9 9 9 9 9] 2 0", all(impl.FewestOpened(tight, []int64{10, 10, 10, 10, 10, 10}))},
		{"six tens of which one is more", "[0 1 2 3 4 9] 6 0", all(impl.FewestOpened(tight, []int64{10, 10, 10, 10, 10, 59}))},
		{"not the last one", "[] 0 6", all(impl.FewestOpened(tight, []int64{10, 10, 10, 10, 10, 60}))},
		{"where cutting from the first one alone fails", "[1 0 0] 2 0", all(impl.FewestOpened(list, []int64{60, 50, 50}))},
		{"none, though all together are long enough", "[] 0 6", all(impl.FewestOpened(list, []int64{60, 50, 60}))},
		{"from no yarns", "[] 0 6", all(impl.FewestOpened(nil, []int64{1}))},
		{"no needs", "[] 0 0", all(impl.FewestOpened(list, nil))},
		{"a need of 0", "[] 0 2", all(impl.FewestOpened(list, []int64{1, 0}))},
		{"a need too great", "[] 0 2", all(impl.FewestOpened(list, []int64{5001, 1}))},
		{"too many needs", "[] 0 3", all(impl.FewestOpened(list, ones))},
		{"too many yarns", "[] 0 3", all(impl.FewestOpened(eleven, nil))},
		{"limit ahead of not found", "[] 0 3", all(impl.FewestOpened(eleven, []int64{2}))},
		{"range ahead of limit of needs", "[] 0 2", all(impl.FewestOpened(list, append(slices.Clone(ones), 0)))},
		{"range ahead of limit of yarns", "[] 0 2", all(impl.FewestOpened(eleven, []int64{0}))},
		{"invalid ahead of range", "[] 0 1", all(impl.FewestOpened(wrong, []int64{0}))},
	})
}
