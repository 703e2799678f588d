package tests

import (
	"math"
	"math/big"
	"slices"
	"testing"

	"loop.example/g01384/impl"
)

// lumpsByHand compares with the mean itself, by big numbers.
func lumpsByHand(w []int64, times int64) []int64 {
	var lumps []int64
	limit := big.NewRat(times*totalByHand(w), int64(len(w)))
	for i, thick := range w {
		if big.NewRat(thick, 1).Cmp(limit) > 0 {
			lumps = append(lumps, int64(i))
		}
	}
	return lumps
}

// partedByHand goes to both neighbours one after the other; it returns nothing if a stripe gets too thick.
func partedByHand(w []int64, index int) []int64 {
	out, mean := slices.Clone(w), totalByHand(w)/int64(len(w))
	if w[index] <= mean {
		return out
	}
	left, right := index-1, index+1
	if left < 0 {
		left = len(w) - 1
	}
	if right == len(w) {
		right = 0
	}
	more := w[index] - mean
	out[index] = mean
	out[left] += (more + 1) / 2
	out[right] += more - (more+1)/2
	if slices.Max(out) > impl.MaxThick {
		return nil
	}
	return out
}

func TestP6Lumps(t *testing.T) {
	for _, w := range webPool() {
		for times := int64(1); times <= impl.MaxStripes; times++ {
			got, code := impl.LumpsIn(w, times)
			if code != impl.OK || !slices.Equal(got, lumpsByHand(w, times)) {
				t.Fatalf("the lumps of %v for %d are %v, %d", w, times, got, code)
			}
		}
	}
}

func TestP6LumpsCodes(t *testing.T) {
	w, wrong := []int64{9, 1, 0, 2}, []int64{9, 1, 0}
	alone := []int64{0, 0, 0, 0, 0, 0, 0, 1, 0, 0, 0, 0}
	checkRows(t, []row{
		{"the example", "[0] 0", all(impl.LumpsIn(w, 2))},
		{"three times is not more", "[] 0", all(impl.LumpsIn(w, 3))},
		{"at both ends", "[0 3] 0", all(impl.LumpsIn([]int64{10, 0, 0, 10}, 1))},
		{"twice is not more", "[] 0", all(impl.LumpsIn([]int64{10, 0, 0, 10}, 2))},
		{"more than a mean that is not whole", "[1] 0", all(impl.LumpsIn([]int64{2, 3}, 1))},
		{"even", "[] 0", all(impl.LumpsIn(fullWeb(12), 1))},
		{"a total of 0", "[] 0", all(impl.LumpsIn(make([]int64, 12), 1))},
		{"one of twelve", "[7] 0", all(impl.LumpsIn(alone, 11))},
		{"never twelve times", "[] 0", all(impl.LumpsIn(alone, 12))},
		{"more times than stripes", "[] 0", all(impl.LumpsIn([]int64{10000, 0}, 12))},
		{"times 0", "[] 2", all(impl.LumpsIn(w, 0))},
		{"times too great", "[] 2", all(impl.LumpsIn(w, 13))},
		{"the greatest times", "[] 2", all(impl.LumpsIn(w, math.MaxInt64))},
		{"invalid ahead of range", "[] 1", all(impl.LumpsIn(wrong, 0))},
	})
}

// TestP6PartedKeepTheTotal parts each stripe of all webs.
func TestP6PartedKeepTheTotal(t *testing.T) {
	for _, w := range webPool() {
		for index := range w {
			got, code := impl.PartLump(w, int64(index))
			want := partedByHand(w, index)
			if want == nil {
				if code != impl.ErrLimit || len(got) != 0 {
					t.Fatalf("%v parted at %d: %v %d", w, index, got, code)
				}
				continue
			}
			mustWeb(t, got, code)
			if totalByHand(got) != totalByHand(w) || !slices.Equal(got, want) {
				t.Fatalf("%v parted at %d: %v, not %v", w, index, got, want)
			}
		}
	}
}

func TestP6PartLumpCodes(t *testing.T) {
	w, wrong := []int64{9, 1, 0, 2}, []int64{9, 1, 0}
	ends := []int64{10, 0, 0, 10}
	checkRows(t, []row{
		{"the example", "[3 4 0 5] 0", all(impl.PartLump(w, 0))},
		{"more to the left at the first end", "[5 2 0 13] 0", all(impl.PartLump(ends, 0))},
		{"more to the left at the last end", "[12 0 3 5] 0", all(impl.PartLump(ends, 3))},
		{"more to the left in the middle", "[2 1 1 0] 0", all(impl.PartLump([]int64{0, 4, 0, 0}, 1))},
		{"of two", "[5 6] 0", all(impl.PartLump([]int64{11, 0}, 0))},
		{"the second one of two", "[6 5] 0", all(impl.PartLump([]int64{0, 11}, 1))},
		{"with less than the mean", "[9 1 0 2] 0", all(impl.PartLump(w, 2))},
		{"with the mean", "[4 2 0 2] 0", all(impl.PartLump([]int64{4, 2, 0, 2}, 1))},
		{"with the mean rounded down", "[3 2] 0", all(impl.PartLump([]int64{3, 2}, 1))},
		{"a total of 0", "[0 0] 0", all(impl.PartLump([]int64{0, 0}, 1))},
		{"to the thickest", "[10000 5000 4998 2] 0", all(impl.PartLump([]int64{7500, 10000, 2498, 2}, 1))},
		{"too thick on the left", "[] 3", all(impl.PartLump([]int64{10000, 0, 0, 10000}, 0))},
		{"too thick on the right", "[] 3", all(impl.PartLump([]int64{10000, 10000, 9999, 0}, 0))},
		{"index less than 0", "[] 2", all(impl.PartLump(w, -1))},
		{"index too great", "[] 2", all(impl.PartLump(w, 4))},
		{"the greatest index", "[] 2", all(impl.PartLump(w, math.MaxInt64))},
		{"the least index", "[] 2", all(impl.PartLump(w, math.MinInt64))},
		{"invalid ahead of range", "[] 1", all(impl.PartLump(wrong, -1))},
	})
}

// partedAllByHand parts the first lump again and again.
func partedAllByHand(w []int64, times, most int64) ([]int64, int64) {
	count := int64(0)
	for count < most && w != nil {
		lumps := lumpsByHand(w, times)
		if len(lumps) == 0 {
			break
		}
		w = partedByHand(w, int(lumps[0]))
		count++
	}
	return w, count
}

// TestP6PartedAllKeepTheTotal: there is no lump left, or most have been parted.
func TestP6PartedAllKeepTheTotal(t *testing.T) {
	for _, w := range webPool() {
		for times := int64(1); times <= impl.MaxStripes; times++ {
			for _, most := range []int64{0, 1, 2, 7, 99, 100} {
				want, wantCount := partedAllByHand(w, times, most)
				got, count, code := impl.PartAll(w, times, most)
				if want == nil {
					if code != impl.ErrLimit || len(got) != 0 || count != 0 {
						t.Fatalf("%v for %d by %d: %v %d %d", w, times, most, got, count, code)
					}
					continue
				}
				mustWeb(t, got, code)
				if totalByHand(got) != totalByHand(w) || !slices.Equal(got, want) || count != wantCount {
					t.Fatalf("%v for %d by %d: %v %d, not %v %d", w, times, most, got, count, want, wantCount)
				}
			}
		}
	}
}

func TestP6PartAllCodes(t *testing.T) {
	w, wrong := []int64{9, 1, 0, 2}, []int64{9, 1, 0}
	thick := []int64{10000, 10000, 9999, 0}
	checkRows(t, []row{
		{"the example", "[3 4 0 5] 1 0", all(impl.PartAll(w, 2, 5))},
		{"of both ends the first one", "[5 2 0 13] 1 0", all(impl.PartAll([]int64{10, 0, 0, 10}, 1, 1))},
		{"a lump that goes to and fro", "[0 1] 99 0", all(impl.PartAll([]int64{1, 0}, 1, 99))},
		{"a hundred times", "[1 0] 100 0", all(impl.PartAll([]int64{1, 0}, 1, 100))},
		{"none may be parted", "[10000 10000 9999 0] 0 0", all(impl.PartAll(thick, 1, 0))},
		{"there is none", "[10000 10000 9999 0] 0 0", all(impl.PartAll(thick, 2, 100))},
		{"too thick", "[] 0 3", all(impl.PartAll(thick, 1, 1))},
		{"a total of 0", "[0 0] 0 0", all(impl.PartAll([]int64{0, 0}, 1, 100))},
		{"times 0", "[] 0 2", all(impl.PartAll(w, 0, 1))},
		{"times too great", "[] 0 2", all(impl.PartAll(w, 13, 1))},
		{"most less than 0", "[] 0 2", all(impl.PartAll(w, 1, -1))},
		{"most too great", "[] 0 2", all(impl.PartAll(w, 1, 101))},
		{"range ahead of limit", "[] 0 2", all(impl.PartAll(thick, 1, 101))},
		{"invalid ahead of range", "[] 0 1", all(impl.PartAll(wrong, 0, -1))},
	})
}

func TestP6Mirrored(t *testing.T) {
	for _, w := range webPool() {
		got, code := impl.MirrorWeb(w)
		mustWeb(t, got, code)
		for i, thick := range got {
			if thick != w[len(w)-1-i] {
				t.Fatalf("%v is mirrored as %v", w, got)
			}
		}
	}
	checkRows(t, []row{
		{"mirrored", "[2 0 1 9] 0", all(impl.MirrorWeb([]int64{9, 1, 0, 2}))},
		{"not valid", "[] 1", all(impl.MirrorWeb([]int64{9, 1, 0, 10001}))},
	})
}
