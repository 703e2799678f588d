package tests

import (
	"math"
	"slices"
	"strings"
	"testing"

	"loop.example/g01384/impl"
)

// knot is a stitch as it hangs in a fabric: the loops that it takes, and those that it has made.
type knot struct {
	takes, makes []impl.Loop
}

// knotsOf returns all stitches of a valid fabric.
func knotsOf(f impl.Fabric) []knot {
	var knots []knot
	for row, letters := range f.Rows {
		taken, made := int64(0), int64(0)
		for i := range len(letters) {
			takes, makes, _ := stitchByHand(letters[i])
			var one knot
			for range takes {
				one.takes = append(one.takes, loop(row, taken))
				taken++
			}
			for range makes {
				one.makes = append(one.makes, loop(row+1, made))
				made++
			}
			knots = append(knots, one)
		}
	}
	return knots
}

// ladderByHand lets one loop drop, and then again and again goes through all stitches, wherever they are, until no more
// loops drop: those that a stitch takes drop if it has made some, and none of these is left.
func ladderByHand(knots []knot, first impl.Loop) []impl.Loop {
	dropped := map[impl.Loop]bool{first: true}
	for more := true; more; {
		more = false
		for _, one := range knots {
			left := slices.ContainsFunc(one.makes, func(l impl.Loop) bool { return !dropped[l] })
			if left || len(one.makes) == 0 {
				continue
			}
			for _, l := range one.takes {
				more = more || !dropped[l]
				dropped[l] = true
			}
		}
	}
	var list []impl.Loop
	for l := range dropped {
		list = append(list, l)
	}
	slices.SortFunc(list, func(a, b impl.Loop) int {
		if a.Row != b.Row {
			return int(b.Row - a.Row)
		}
		return int(a.At - b.At)
	})
	return list
}

// above returns the loops of a ladder that lie above a row.
func above(ladder []impl.Loop, row int) []impl.Loop {
	var list []impl.Loop
	for _, l := range ladder {
		if int(l.Row) > row {
			list = append(list, l)
		}
	}
	return list
}

// TestP13WhatUnravels compares all ladders with those by hand, and where they are caught.
func TestP13WhatUnravels(t *testing.T) {
	for _, f := range fabricPool() {
		knots, last := knotsOf(f), len(f.Rows)
		worst, most := int64(0), int64(0)
		for at := range lastWidthByHand(f) {
			want := ladderByHand(knots, loop(last, at))
			got, code := impl.LadderOf(f, at)
			if code != impl.OK || !slices.Equal(got, want) {
				t.Fatalf("%v: with the loop %d drop %v, not %v, %d", f, at, got, want, code)
			}
			if int64(len(want)) > most {
				worst, most = at, int64(len(want))
			}
			for row := range last + 1 {
				caught, code := impl.CatchLoop(f, at, int64(row))
				if code != impl.OK || !slices.Equal(caught, above(want, row)) {
					t.Fatalf("%v: with the loop %d, caught at the row %d, drop %v, %d", f, at, row, caught, code)
				}
			}
		}
		place, loops, code := impl.WorstLoop(f)
		if most == 0 && code != impl.ErrNotFound || most > 0 && code != impl.OK || place != worst || loops != most {
			t.Fatalf("%v: the worst loop is %d with %d, not %d with %d, %d", f, place, loops, worst, most, code)
		}
	}
}

// TestP13AllShortFabrics looks at all ladders of fabrics of two rows that begin with up to 3 loops.
func TestP13AllShortFabrics(t *testing.T) {
	texts := textsOf(stitchLetters, 4)
	for cast := int64(1); cast <= 3; cast++ {
		for _, first := range texts {
			takes, makes := rowByHand(first)
			if int64(takes) != cast {
				continue
			}
			for _, second := range texts {
				takes, _ := rowByHand(second)
				if f := fabric(int16(cast), first, second); takes == makes && makes > 0 {
					checkLadders(t, f)
				}
			}
		}
	}
}

func checkLadders(t *testing.T, f impl.Fabric) {
	t.Helper()
	knots := knotsOf(f)
	for at := range lastWidthByHand(f) {
		want := ladderByHand(knots, loop(len(f.Rows), at))
		if got, code := impl.LadderOf(f, at); code != impl.OK || !slices.Equal(got, want) {
			t.Fatalf("%v: with the loop %d drop %v, not %v, %d", f, at, got, want, code)
		}
	}
}

// TestP13NothingElseHangs: a loop that drops is that of the place, or its stitch above has made only loops that drop; and
// all that such a stitch takes drops.
func TestP13NothingElseHangs(t *testing.T) {
	for _, f := range fabricPool() {
		for at := range lastWidthByHand(f) {
			ladder, _ := impl.LadderOf(f, at)
			dropped := map[impl.Loop]bool{}
			for _, l := range ladder {
				dropped[l] = true
			}
			if len(dropped) != len(ladder) || !dropped[loop(len(f.Rows), at)] {
				t.Fatalf("%v: with the loop %d drop %v", f, at, ladder)
			}
			for _, one := range knotsOf(f) {
				whole := len(one.makes) > 0 && !slices.ContainsFunc(one.makes, func(l impl.Loop) bool { return !dropped[l] })
				for _, l := range one.takes {
					if dropped[l] != whole {
						t.Fatalf("%v: with the loop %d drop %v, but %v hangs on %v", f, at, ladder, l, one.makes)
					}
				}
			}
		}
	}
}

// TestP13EachStitch drops loops made by each stitch.
func TestP13EachStitch(t *testing.T) {
	f := fabric(4, "kdio")
	checkRows(t, []row{
		{"k", "[{1 0} {0 0}] 0", all(impl.LadderOf(f, 0))},
		{"d", "[{1 1} {0 1} {0 2}] 0", all(impl.LadderOf(f, 1))},
		{"the first loop of i", "[{1 2}] 0", all(impl.LadderOf(f, 2))},
		{"the second loop of i", "[{1 3}] 0", all(impl.LadderOf(f, 3))},
		{"o", "[{1 4}] 0", all(impl.LadderOf(f, 4))},
		{"one that is cast", "[{0 3}] 0", all(impl.LadderOf(fabric(4), 3))},
		{"one with others bound off", "[{1 0} {0 1}] 0", all(impl.LadderOf(fabric(3, "bkb"), 0))},
		{"both loops of i by one d", "[{2 0} {1 0} {1 1} {0 0}] 0", all(impl.LadderOf(fabric(1, "i", "d"), 0))},
		{"one loop of i by k", "[{2 1} {1 1}] 0", all(impl.LadderOf(fabric(1, "i", "kk"), 1))},
		{"one loop of i, with the other one bound off", "[{2 0} {1 0}] 0", all(impl.LadderOf(fabric(1, "i", "kb"), 0))},
		{"one loop each of two i", "[{2 1} {1 1} {1 2}] 0", all(impl.LadderOf(fabric(2, "ii", "kdk"), 1))},
		{"two loops of one i, and one of another", "[{3 0} {2 0} {2 1} {1 0} {1 1} {1 2} {0 0}] 0", all(impl.LadderOf(fabric(2, "ii", "kdk", "dk"), 0))},
		{"all loops of i above i", "[{4 0} {3 0} {3 1} {2 0} {2 1} {2 2} {2 3} {1 0} {1 1} {0 0}] 0", all(impl.LadderOf(fabric(1, "i", "ii", "dd", "d"), 0))},
		{"o ends it", "[{3 0} {2 0} {2 1} {1 0} {0 0}] 0", all(impl.LadderOf(fabric(2, "kk", "kok", "dk"), 0))},
	})
}

func TestP13LadderCodes(t *testing.T) {
	f, wrong := fabric(4, "kikk", "dkd"), fabric(4, "kikk", "dk")
	most := fabric(60, slices.Repeat([]string{strings.Repeat("k", 60)}, 30)...)
	longest, code := impl.LadderOf(most, 59)
	checkRows(t, []row{
		{"the example, 0", "[{2 0} {1 0} {1 1} {0 0}] 0", all(impl.LadderOf(f, 0))},
		{"the example, 1", "[{2 1} {1 2}] 0", all(impl.LadderOf(f, 1))},
		{"the example, 2", "[{2 2} {1 3} {1 4} {0 2} {0 3}] 0", all(impl.LadderOf(f, 2))},
		{"the longest one of k", "31 {30 59} {0 59} 0", all(len(longest), longest[0], longest[30], code)},
		{"no such place", "[] 2", all(impl.LadderOf(f, 3))},
		{"a place less than 0", "[] 2", all(impl.LadderOf(f, -1))},
		// The last 16 bits of this number are 0.
		{"a place that is no int16", "[] 2", all(impl.LadderOf(f, 65536))},
		{"the greatest place", "[] 2", all(impl.LadderOf(f, math.MaxInt64))},
		{"no such place of the cast", "[] 2", all(impl.LadderOf(fabric(4), 4))},
		{"of no loops", "[] 2", all(impl.LadderOf(fabric(1, "b"), 0))},
		{"not valid", "[] 1", all(impl.LadderOf(wrong, 0))},
		{"invalid ahead of range", "[] 1", all(impl.LadderOf(wrong, -1))},
	})
}

func TestP13WorstCodes(t *testing.T) {
	checkRows(t, []row{
		{"the example", "2 5 0", all(impl.WorstLoop(fabric(4, "kikk", "dkd")))},
		{"the first one of several", "0 2 0", all(impl.WorstLoop(fabric(3, "kkk")))},
		{"the first one of several behind a better one", "1 3 0", all(impl.WorstLoop(fabric(5, "kdd")))},
		{"without rows", "0 1 0", all(impl.WorstLoop(fabric(4)))},
		{"the last place", "2 2 0", all(impl.WorstLoop(fabric(1, "ook")))},
		{"no loops", "0 0 6", all(impl.WorstLoop(fabric(1, "b")))},
		{"not valid", "0 0 1", all(impl.WorstLoop(fabric(4, "kikk", "dk")))},
		{"nothing", "0 0 1", all(impl.WorstLoop(impl.Fabric{}))},
	})
}

func TestP13CatchCodes(t *testing.T) {
	f, wrong := fabric(4, "kikk", "dkd"), fabric(4, "kikk", "dk")
	checkRows(t, []row{
		{"at the last row itself", "[] 0", all(impl.CatchLoop(f, 0, 2))},
		{"at the row below", "[{2 0}] 0", all(impl.CatchLoop(f, 0, 1))},
		{"at the row 0", "[{2 2} {1 3} {1 4}] 0", all(impl.CatchLoop(f, 2, 0))},
		{"above the last row", "[] 2", all(impl.CatchLoop(f, 0, 3))},
		{"at a row less than 0", "[] 2", all(impl.CatchLoop(f, 0, -1))},
		{"at the greatest row", "[] 2", all(impl.CatchLoop(f, 0, math.MaxInt64))},
		{"no such place", "[] 2", all(impl.CatchLoop(f, 3, 0))},
		{"a place less than 0", "[] 2", all(impl.CatchLoop(f, -1, 0))},
		{"a place that is no int16", "[] 2", all(impl.CatchLoop(f, 65536, 0))},
		{"without rows", "[] 0", all(impl.CatchLoop(fabric(4), 3, 0))},
		{"above the cast, without rows", "[] 2", all(impl.CatchLoop(fabric(4), 3, 1))},
		{"of no loops", "[] 2", all(impl.CatchLoop(fabric(1, "b"), 0, 0))},
		{"below where it ends", "[{2 1} {1 2}] 0", all(impl.CatchLoop(f, 1, 0))},
		{"not valid", "[] 1", all(impl.CatchLoop(wrong, 0, 0))},
		{"invalid ahead of range", "[] 1", all(impl.CatchLoop(wrong, -1, 9))},
	})
}
