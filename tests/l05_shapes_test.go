package tests

import (
	"math"
	"slices"
	"strings"
	"testing"

	"loop.example/g01384/impl"
)

// yarnByHand returns the yarn of the loops that are cast, and then that of each row.
func yarnByHand(f impl.Fabric, gauge int64) []int64 {
	list := []int64{int64(f.Cast) * 4 * gauge}
	for _, row := range f.Rows {
		sum := int64(0)
		for i := range len(row) {
			_, _, yarn := stitchByHand(row[i])
			sum += int64(yarn) * gauge
		}
		list = append(list, sum)
	}
	return list
}

// TestP12Yarn: the yarn is that of all stitches; with just enough for some rows these can be knitted, and with one less
// they cannot; what is got back by frogging is what the fabric needs less.
func TestP12Yarn(t *testing.T) {
	for _, f := range fabricPool() {
		for _, gauge := range []int64{1, 7, 100} {
			list := yarnByHand(f, gauge)
			needed, code := impl.YarnFor(f, gauge)
			if code != impl.OK || needed != totalByTurns(list) {
				t.Fatalf("%v by %d needs %d, not %d, %d", f, gauge, needed, totalByTurns(list), code)
			}
			for row := range list {
				enough := totalByTurns(list[:row+1])
				checkRowsWith(t, f, gauge, int64(row), enough)
				frogged, back, code := impl.FrogTo(f, int64(row), gauge)
				left, code2 := impl.YarnFor(frogged, gauge)
				if code+code2 != impl.OK || back != needed-enough || left != enough {
					t.Fatalf("%v by %d, frogged to %d: %d back, %d left, %d %d", f, gauge, row, back, left, code, code2)
				}
				if !impl.SameFabric(frogged, fabric(f.Cast, f.Rows[:row]...)) {
					t.Fatalf("%v frogged to %d is %v", f, row, frogged)
				}
			}
		}
	}
}

// checkRowsWith asks how many rows can be knitted with just enough yarn for some rows, and with one less.
func checkRowsWith(t *testing.T, f impl.Fabric, gauge, row, enough int64) {
	t.Helper()
	if enough > impl.MaxYarnLong {
		return
	}
	if rows, code := impl.RowsWith(f, gauge, enough); code != impl.OK || rows != row {
		t.Fatalf("%v by %d with %d: %d rows, not %d, %d", f, gauge, enough, rows, row, code)
	}
	rows, code := impl.RowsWith(f, gauge, enough-1)
	if row > 0 && (code != impl.OK || rows != row-1) || row == 0 && (code != impl.ErrNotFound || rows != 0) {
		t.Fatalf("%v by %d with %d, one less than for %d rows: %d %d", f, gauge, enough-1, row, rows, code)
	}
}

func TestP12YarnCodes(t *testing.T) {
	f, wrong := fabric(4, "kikk", "dkd"), fabric(4, "kikk", "dk")
	checkRows(t, []row{
		{"the example", "42 0", all(impl.YarnFor(f, 1))},
		{"each stitch", "42 0", all(impl.YarnFor(fabric(5, "kdiob"), 1))},
		{"the cast alone", "16 0", all(impl.YarnFor(fabric(4), 1))},
		{"the greatest gauge", "4200 0", all(impl.YarnFor(f, 100))},
		{"gauge 0", "0 2", all(impl.YarnFor(f, 0))},
		{"gauge too great", "0 2", all(impl.YarnFor(f, 101))},
		{"gauge less than 0", "0 2", all(impl.YarnFor(f, math.MinInt64))},
		{"invalid ahead of gauge", "0 1", all(impl.YarnFor(wrong, 0))},
		{"not valid", "0 1", all(impl.YarnFor(wrong, 1))},
	})
	most := fabric(60, slices.Repeat([]string{strings.Repeat("b", 60) + strings.Repeat("o", 60)}, 30)...)
	checkRows(t, []row{
		{"more than yarn may be", "1644000 0", all(impl.YarnFor(most, 100))},
		{"with the most yarn", "18 0", all(impl.RowsWith(most, 100, 1000000))},
		{"just enough", "2 0", all(impl.RowsWith(f, 1, 42))},
		{"one less", "1 0", all(impl.RowsWith(f, 1, 41))},
		{"more than enough", "2 0", all(impl.RowsWith(f, 1, 1000000))},
		{"just enough for one row", "1 0", all(impl.RowsWith(f, 1, 31))},
		{"one less than for one row", "0 0", all(impl.RowsWith(f, 1, 30))},
		{"just enough for the cast", "0 0", all(impl.RowsWith(f, 1, 16))},
		{"one less than for the cast", "0 6", all(impl.RowsWith(f, 1, 15))},
		{"no yarn", "0 6", all(impl.RowsWith(f, 1, 0))},
		{"the cast alone", "0 0", all(impl.RowsWith(fabric(4), 1, 16))},
		{"one less for the cast alone", "0 6", all(impl.RowsWith(fabric(4), 1, 15))},
		{"yarn less than 0", "0 2", all(impl.RowsWith(f, 1, -1))},
		{"too much yarn", "0 2", all(impl.RowsWith(f, 1, 1000001))},
		{"rows by gauge 0", "0 2", all(impl.RowsWith(f, 0, 42))},
		{"rows by a gauge too great", "0 2", all(impl.RowsWith(f, 101, 42))},
		{"range ahead of too little yarn", "0 2", all(impl.RowsWith(f, 101, 0))},
		{"rows of what is not valid", "0 1", all(impl.RowsWith(wrong, 0, -1))},
		// A later row that needs less must not be knitted ahead of one for which the yarn is not enough.
		{"a long row ahead of a short one", "0 0", all(impl.RowsWith(fabric(1, "ioo", "dd", "d"), 1, 17))},
	})
}

func TestP12FrogCodes(t *testing.T) {
	f, wrong := fabric(4, "kikk", "dkd"), fabric(4, "kikk", "dk")
	checkRows(t, []row{
		{"the example", "{4 [kikk]} 11 0", all(impl.FrogTo(f, 1, 1))},
		{"to the cast", "{4 []} 26 0", all(impl.FrogTo(f, 0, 1))},
		{"to the last row", "{4 [kikk dkd]} 0 0", all(impl.FrogTo(f, 2, 1))},
		{"by the greatest gauge", "{4 []} 2600 0", all(impl.FrogTo(f, 0, 100))},
		{"without rows", "{4 []} 0 0", all(impl.FrogTo(fabric(4), 0, 1))},
		{"a last row without loops", "{1 []} 5 0", all(impl.FrogTo(fabric(1, "b"), 0, 1))},
		{"to one row more", "{0 []} 0 2", all(impl.FrogTo(f, 3, 1))},
		{"to a row less than 0", "{0 []} 0 2", all(impl.FrogTo(f, -1, 1))},
		{"to the greatest row", "{0 []} 0 2", all(impl.FrogTo(f, math.MaxInt64, 1))},
		{"gauge 0", "{0 []} 0 2", all(impl.FrogTo(f, 1, 0))},
		{"gauge too great", "{0 []} 0 2", all(impl.FrogTo(f, 1, 101))},
		{"invalid ahead of range", "{0 []} 0 1", all(impl.FrogTo(wrong, 9, 0))},
		{"not valid, but for the row", "{0 []} 0 1", all(impl.FrogTo(wrong, 1, 1))},
	})
}

func TestP12Graft(t *testing.T) {
	f := fabric(4, "kikk", "dkd")
	checkRows(t, []row{
		{"the cast of another one", "18 0", all(impl.GraftLength(f, fabric(3), 2))},
		{"with itself", "900 0", all(impl.GraftLength(f, f, 100))},
		{"one loop", "3 0", all(impl.GraftLength(fabric(1), fabric(2, "d"), 1))},
		{"the most loops", "18000 0", all(impl.GraftLength(fabric(60), fabric(30, strings.Repeat("i", 30)), 100))},
		{"other numbers of loops", "0 4", all(impl.GraftLength(f, fabric(4), 1))},
		{"casts that are alike", "0 4", all(impl.GraftLength(f, fabric(4, "kkkk"), 1))},
		{"no loops", "0 4", all(impl.GraftLength(fabric(1, "b"), fabric(2, "bb"), 1))},
		{"no loops of one", "0 4", all(impl.GraftLength(fabric(1, "b"), fabric(1), 1))},
		{"range ahead of state", "0 2", all(impl.GraftLength(f, fabric(4), 0))},
		{"gauge too great", "0 2", all(impl.GraftLength(f, f, 101))},
		{"the first one not valid", "0 1", all(impl.GraftLength(fabric(0), f, 0))},
		{"the second one not valid", "0 1", all(impl.GraftLength(f, fabric(61), 0))},
		{"none valid", "0 1", all(impl.GraftLength(fabric(0), fabric(0), 1))},
	})
}

// checkShape checks that a row is one of ShapeRow: from so many loops to so many, as evenly as told.
func checkShape(t *testing.T, shape string, from, to int64) {
	t.Helper()
	takes, makes := rowByHand(shape)
	few, more, letter := min(from, to), max(from, to)-min(from, to), "d"
	if from < to {
		letter = "i"
	}
	if int64(takes) != from || int64(makes) != to || int64(len(shape)) != few || strings.Trim(shape, "k"+letter) != "" {
		t.Fatalf("from %d to %d: %q", from, to, shape)
	}
	for k := range shape {
		// Of the first stitches as many are no "k" as is their part of all that are none, rounded down.
		if got := int64(strings.Count(shape[:k+1], letter)); got != int64(k+1)*more/few {
			t.Fatalf("from %d to %d: %d of the first %d of %q", from, to, got, k+1, shape)
		}
	}
}

// TestP12ShapeRow looks at all numbers of loops.
func TestP12ShapeRow(t *testing.T) {
	for from := int64(-1); from <= 62; from++ {
		for to := int64(-1); to <= 62; to++ {
			shape, code := impl.ShapeRow(from, to)
			switch {
			case min(from, to) < 1 || max(from, to) > 60:
				if code != impl.ErrRange || shape != "" {
					t.Fatalf("from %d to %d: %q %d, but this is out of range", from, to, shape, code)
				}
			case max(from, to) > 2*min(from, to):
				if code != impl.ErrNotFound || shape != "" {
					t.Fatalf("from %d to %d: %q %d, but this is too much", from, to, shape, code)
				}
			default:
				if code != impl.OK {
					t.Fatalf("from %d to %d: %d", from, to, code)
				}
				checkShape(t, shape, from, to)
				if f := fabric(int16(from), shape); !impl.ValidFabric(f) || lastWidthByHand(f) != to {
					t.Fatalf("%v does not end with %d loops", f, to)
				}
			}
		}
	}
}

func TestP12ShapeRowCodes(t *testing.T) {
	checkRows(t, []row{
		{"the example", "kdkd 0", all(impl.ShapeRow(6, 4))},
		{"the other way", "kiki 0", all(impl.ShapeRow(4, 6))},
		{"to the same", "kkkk 0", all(impl.ShapeRow(4, 4))},
		{"to twice", "iii 0", all(impl.ShapeRow(3, 6))},
		{"to one more than twice", " 6", all(impl.ShapeRow(3, 7))},
		{"to one less than twice", "kii 0", all(impl.ShapeRow(3, 5))},
		{"to half", "ddd 0", all(impl.ShapeRow(6, 3))},
		{"to less than half", " 6", all(impl.ShapeRow(7, 3))},
		{"to a little more than half", "kdd 0", all(impl.ShapeRow(5, 3))},
		{"to one less", "kkkd 0", all(impl.ShapeRow(5, 4))},
		{"to one more", "kkki 0", all(impl.ShapeRow(4, 5))},
		{"one to one", "k 0", all(impl.ShapeRow(1, 1))},
		{"one to two", "i 0", all(impl.ShapeRow(1, 2))},
		{"one to three", " 6", all(impl.ShapeRow(1, 3))},
		{"the most", strings.Repeat("k", 60) + " 0", all(impl.ShapeRow(60, 60))},
		{"from 0", " 2", all(impl.ShapeRow(0, 1))},
		{"to 0", " 2", all(impl.ShapeRow(1, 0))},
		{"range ahead of too much", " 2", all(impl.ShapeRow(61, 1))},
		{"the greatest numbers", " 2", all(impl.ShapeRow(math.MaxInt64, math.MaxInt64))},
		{"the least numbers", " 2", all(impl.ShapeRow(math.MinInt64, 1))},
	})
}

// shapeWidths returns how many loops there are behind each row of a shape, counted by whole loops that come or go.
func shapeWidths(from, to, rows int64) []int64 {
	size, sign := to-from, int64(1)
	if size < 0 {
		size, sign = -size, -1
	}
	widths := []int64{from}
	for k := int64(1); k <= rows; k++ {
		loops := int64(0)
		for (loops+1)*rows <= size*k {
			loops++
		}
		widths = append(widths, from+sign*loops)
	}
	return widths
}

// TestP12ShapeRows: the rows end with the loops that are told, and on the way there are as many as told.
func TestP12ShapeRows(t *testing.T) {
	for from := int64(1); from <= 60; from++ {
		for to := int64(1); to <= 60; to++ {
			for _, rows := range []int64{1, 2, 3, 5, 8, 29, 30} {
				checkShapes(t, from, to, rows)
			}
		}
	}
}

func checkShapes(t *testing.T, from, to, rows int64) {
	t.Helper()
	widths := shapeWidths(from, to, rows)
	some := true
	for k := range rows {
		some = some && max(widths[k], widths[k+1]) <= 2*min(widths[k], widths[k+1])
	}
	shape, code := impl.ShapeRows(from, to, rows)
	if !some {
		if code != impl.ErrNotFound || len(shape) != 0 {
			t.Fatalf("%d rows from %d to %d: %q %d, but one has none", rows, from, to, shape, code)
		}
		return
	}
	f := fabric(int16(from), shape...)
	if code != impl.OK || int64(len(shape)) != rows || lastWidthByHand(f) != to || !impl.ValidFabric(f) {
		t.Fatalf("%d rows from %d to %d: %q %d", rows, from, to, shape, code)
	}
	for k, one := range shape {
		checkShape(t, one, widths[k], widths[k+1])
	}
}

func TestP12ShapeRowsCodes(t *testing.T) {
	many, code := impl.ShapeRows(1, 60, 30)
	checkRows(t, []row{
		{"one less each", "[kkkkd kkkd kkd] 0", all(impl.ShapeRows(6, 3, 3))},
		{"one more each", "[kki kkki kkkki] 0", all(impl.ShapeRows(3, 6, 3))},
		{"less loops than rows", "[kkkkk kkkd kkd] 0", all(impl.ShapeRows(5, 3, 3))},
		{"more, but less than rows", "[kkk kki kkki] 0", all(impl.ShapeRows(3, 5, 3))},
		{"one loop less in many rows", "[kk kk kk d] 0", all(impl.ShapeRows(2, 1, 4))},
		{"one loop more in many rows", "[k k k i] 0", all(impl.ShapeRows(1, 2, 4))},
		{"one row", "[kdkd] 0", all(impl.ShapeRows(6, 4, 1))},
		{"the same", "[kkk kkk] 0", all(impl.ShapeRows(3, 3, 2))},
		{"more than twice, but not in one row", "[iii kiikii] 0", all(impl.ShapeRows(3, 10, 2))},
		{"more than twice in the first row", "[] 6", all(impl.ShapeRows(1, 6, 2))},
		{"more than twice in the last row", "[] 6", all(impl.ShapeRows(6, 1, 2))},
		{"more than twice in one row", "[] 6", all(impl.ShapeRows(3, 7, 1))},
		{"far in many rows", "30 0", all(len(many), code)},
		{"rows 0", "[] 2", all(impl.ShapeRows(3, 3, 0))},
		{"rows less than 0", "[] 2", all(impl.ShapeRows(3, 3, -1))},
		{"too many rows", "[] 2", all(impl.ShapeRows(3, 3, 31))},
		{"from 0", "[] 2", all(impl.ShapeRows(0, 3, 3))},
		{"to 0", "[] 2", all(impl.ShapeRows(3, 0, 3))},
		{"from too many", "[] 2", all(impl.ShapeRows(61, 60, 3))},
		{"to too many", "[] 2", all(impl.ShapeRows(60, 61, 3))},
		{"range ahead of too much", "[] 2", all(impl.ShapeRows(1, 60, 31))},
		{"the greatest numbers", "[] 2", all(impl.ShapeRows(math.MaxInt64, math.MaxInt64, math.MaxInt64))},
	})
}

// TestP12RepeatRow tries parts of up to 4 letters for all short fabrics, and counts how often they have to be repeated.
func TestP12RepeatRow(t *testing.T) {
	for _, part := range textsOf(stitchLetters+"x", 4) {
		takes, _ := rowByHand(part)
		for width := range 9 {
			f := fabric(int16(width), strings.Repeat("k", width))
			if width == 0 {
				f = fabric(3, "bbb")
			}
			got, code := impl.RepeatRow(f, part)
			want, wantCode := "", int64(impl.OK)
			switch {
			case strings.Contains(part, "x"):
				wantCode = impl.ErrSyntax
			case takes == 0:
				wantCode = impl.ErrState
			default:
				left := width
				for ; left >= takes; left -= takes {
					want += part
				}
				if left > 0 {
					want, wantCode = "", impl.ErrState
				}
			}
			if got != want || code != wantCode {
				t.Fatalf("%s for %v: %q %d, not %q %d", part, f, got, code, want, wantCode)
			}
		}
	}
}

func TestP12RepeatRowCodes(t *testing.T) {
	f := fabric(4, "kikk", "dkd")
	checkRows(t, []row{
		{"once", "kdo 0", all(impl.RepeatRow(f, "kdo"))},
		{"three times", "ooiooiooi 0", all(impl.RepeatRow(f, "ooi"))},
		{"some left over", " 4", all(impl.RepeatRow(f, "ki"))},
		{"one more than there are", " 4", all(impl.RepeatRow(f, "dd"))},
		{"no loops", " 4", all(impl.RepeatRow(f, "oo"))},
		{"no letters", " 4", all(impl.RepeatRow(f, ""))},
		{"no letters for no loops", " 4", all(impl.RepeatRow(fabric(1, "b"), ""))},
		{"for no loops", " 0", all(impl.RepeatRow(fabric(1, "b"), "kd"))},
		{"more loops than may be", "kook 0", all(impl.RepeatRow(fabric(2), "kook"))},
		{"far more loops than may be", strings.Repeat("i", 60) + " 0", all(impl.RepeatRow(fabric(60), "i"))},
		{"behind the most rows", "k 0", all(impl.RepeatRow(fabric(1, slices.Repeat([]string{"k"}, 30)...), "k"))},
		{"the last row, not the cast", "ddd 0", all(impl.RepeatRow(fabric(3, "iii"), "d"))},
		{"of the cast", " 4", all(impl.RepeatRow(fabric(3), "d"))},
		{"a letter that is none", " 5", all(impl.RepeatRow(f, "kdx"))},
		{"syntax ahead of state", " 5", all(impl.RepeatRow(f, "x"))},
		{"no whole letter", " 5", all(impl.RepeatRow(f, "k\xff"))},
		{"a longer letter", " 5", all(impl.RepeatRow(f, "\u016b"))},
		{"a newline", " 5", all(impl.RepeatRow(f, "k\n"))},
		{"invalid ahead of syntax", " 1", all(impl.RepeatRow(fabric(4, "kik"), "x"))},
	})
}
