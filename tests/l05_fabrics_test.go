package tests

import (
	"fmt"
	"math"
	"math/rand"
	"slices"
	"strings"
	"testing"

	"loop.example/g01384/impl"
)

const stitchLetters = "kdiob"

func fabric(cast int16, rows ...string) impl.Fabric { return impl.Fabric{Cast: cast, Rows: rows} }

// stitchByHand returns how many loops a stitch takes and makes, and how many times gauge its yarn is.
func stitchByHand(letter byte) (takes, makes, yarn int) {
	switch letter {
	case 'k':
		return 1, 1, 3
	case 'd':
		return 2, 1, 4
	case 'i':
		return 1, 2, 6
	case 'o':
		return 0, 1, 4
	case 'b':
		return 1, 0, 5
	}
	return 0, 0, 0
}

// rowByHand returns how many loops a row takes and makes; a letter that is no stitch takes more than there can be.
func rowByHand(row string) (takes, makes int) {
	for i := range len(row) {
		in, out, yarn := stitchByHand(row[i])
		if yarn == 0 {
			in = 1000
		}
		takes += in
		makes += out
	}
	return takes, makes
}

// widthsByHand returns the loops of all rows up to the first bad one, and the index of this, or -1.
func widthsByHand(cast int, rows []string) ([]int64, int64) {
	widths := []int64{int64(cast)}
	for i, row := range rows {
		takes, makes := rowByHand(row)
		below := int(widths[i])
		if i == 30 || below == 0 || takes != below || makes > 60 {
			return widths, int64(i)
		}
		widths = append(widths, int64(makes))
	}
	return widths, -1
}

// randomRow takes just so many loops, and makes 1 to most.
func randomRow(r *rand.Rand, below, most int) string {
	for {
		var row []byte
		for left := below; left > 0 || r.Intn(3) == 0; {
			letter := stitchLetters[r.Intn(5)]
			if takes, _, _ := stitchByHand(letter); takes <= left {
				row = append(row, letter)
				left -= takes
			}
		}
		if _, makes := rowByHand(string(row)); makes >= 1 && makes <= most {
			return string(row)
		}
	}
}

// randomFabric has so many rows of at most most loops.
func randomFabric(r *rand.Rand, rows, most int) impl.Fabric {
	f := impl.Fabric{Cast: int16(1 + r.Intn(most))}
	below := int(f.Cast)
	for range rows {
		row := randomRow(r, below, most)
		f.Rows = append(f.Rows, row)
		_, below = rowByHand(row)
	}
	return f
}

// fabricPool has valid fabrics: those at the edges, and others.
func fabricPool() []impl.Fabric {
	k60 := strings.Repeat("k", 60)
	pool := []impl.Fabric{
		fabric(1), fabric(60), fabric(4, "kikk", "dkd"), fabric(1, "b"), fabric(3, "kkk", "bbb"), fabric(1, slices.Repeat([]string{"k"}, 30)...),
		fabric(60, slices.Repeat([]string{k60}, 30)...), fabric(30, strings.Repeat("i", 30), strings.Repeat("d", 30), strings.Repeat("b", 30)),
		fabric(60, strings.Repeat("b", 60)+strings.Repeat("o", 60)), fabric(1, "i", "ki", "iii", "dkkd", "ddo", "bbko"),
	}
	r := newRandom()
	for i := range 150 {
		pool = append(pool, randomFabric(r, i%8, 1+i%7))
	}
	for i := range 31 {
		pool = append(pool, randomFabric(r, i, 60))
	}
	return pool
}

// lastWidthByHand returns the loops of the last row of a valid fabric.
func lastWidthByHand(f impl.Fabric) int64 {
	widths, _ := widthsByHand(int(f.Cast), f.Rows)
	return widths[len(widths)-1]
}

// TestP12EachRowTakesAllBelow: the stitches of each row, one behind the other, take all loops below, each one once.
func TestP12EachRowTakesAllBelow(t *testing.T) {
	for _, f := range fabricPool() {
		widths, code := impl.WidthsOf(f)
		want, bad := widthsByHand(int(f.Cast), f.Rows)
		if !impl.ValidFabric(f) || code != impl.OK || bad != -1 || !slices.Equal(widths, want) {
			t.Fatalf("%v: widths %v, not %v, %d", f, widths, want, code)
		}
		for i, row := range f.Rows {
			checkStitches(t, f, i, row)
		}
		for at := range widths[len(f.Rows)] {
			if to, code := impl.GoesTo(f, loop(len(f.Rows), at)); code != impl.ErrNotFound || to != 0 {
				t.Fatalf("%v: the loop %d of the last row goes to %d, %d", f, at, to, code)
			}
		}
		for at := range int64(f.Cast) {
			if from, code := impl.FromOf(f, loop(0, at)); code != impl.OK || len(from) != 0 {
				t.Fatalf("%v: the loop %d that is cast comes from %v, %d", f, at, from, code)
			}
		}
	}
}

func loop(row int, at int64) impl.Loop { return impl.Loop{Row: int16(row), At: int16(at)} }

// checkStitches goes through a row of a fabric, and asks of all loops beside each stitch.
func checkStitches(t *testing.T, f impl.Fabric, index int, row string) {
	t.Helper()
	taken, made := int64(0), int64(0)
	for i := range len(row) {
		takes, makes, _ := stitchByHand(row[i])
		var from []int64
		for range takes {
			if to, code := impl.GoesTo(f, loop(index, taken)); code != impl.OK || to != int64(i) {
				t.Fatalf("%v: the loop %d of the row %d goes to %d, not %d, %d", f, taken, index, to, i, code)
			}
			from = append(from, taken)
			taken++
		}
		for range makes {
			if got, code := impl.FromOf(f, loop(index+1, made)); code != impl.OK || !slices.Equal(got, from) {
				t.Fatalf("%v: the loop %d of the row %d comes from %v, not %v, %d", f, made, index+1, got, from, code)
			}
			made++
		}
	}
	for _, l := range []impl.Loop{loop(index, taken), loop(index+1, made)} {
		from, code := impl.FromOf(f, l)
		to, code2 := impl.GoesTo(f, l)
		if code != impl.ErrRange || code2 != impl.ErrRange || len(from) != 0 || to != 0 {
			t.Fatalf("%v: behind the last loop of a row %v comes from %v, %d, and goes to %d, %d", f, l, from, code, to, code2)
		}
	}
}

// textsOf returns all texts of at most most of some letters.
func textsOf(letters string, most int) []string {
	list, last := []string{""}, []string{""}
	for range most {
		var longer []string
		for _, text := range last {
			for i := range len(letters) {
				longer = append(longer, text+letters[i:i+1])
			}
		}
		list, last = append(list, longer...), longer
	}
	return list
}

// checkBad compares what is said of rows with what is found by hand.
func checkBad(t *testing.T, cast int, rows []string) {
	t.Helper()
	_, want := widthsByHand(cast, rows)
	f := fabric(int16(cast), rows...)
	bad, code := impl.FirstBadRow(int64(cast), rows)
	if want < 0 {
		if code != impl.ErrNotFound || bad != 0 || !impl.ValidFabric(f) {
			t.Fatalf("%d %q is a fabric, but: %d %d", cast, rows, bad, code)
		}
		return
	}
	if code != impl.OK || bad != want || impl.ValidFabric(f) {
		t.Fatalf("%d %q: the row %d is the first bad one, but: %d %d", cast, rows, want, bad, code)
	}
}

// TestP12AllShortRows tries all rows of up to 5 letters, one of which is no stitch, alone and between others.
func TestP12AllShortRows(t *testing.T) {
	for _, tried := range textsOf(stitchLetters+"x", 5) {
		for cast := 1; cast <= 4; cast++ {
			plain := strings.Repeat("k", cast)
			checkBad(t, cast, []string{tried})
			checkBad(t, cast, []string{plain, tried, "k"})
			more, code := impl.AddRow(fabric(int16(cast), plain), tried)
			want, wantCode := fabric(int16(cast), plain, tried), int64(impl.OK)
			if _, bad := widthsByHand(cast, want.Rows); bad >= 0 {
				want, wantCode = impl.Fabric{}, impl.ErrState
			}
			if code != wantCode || !impl.SameFabric(more, want) {
				t.Fatalf("%d %s and %s: %v %d", cast, plain, tried, more, code)
			}
		}
	}
}

// TestP12ChangedFabrics changes fabrics in one place, and asks which row is bad then.
func TestP12ChangedFabrics(t *testing.T) {
	r := newRandom()
	for _, f := range fabricPool() {
		checkBad(t, int(f.Cast), f.Rows)
		if len(f.Rows) == 0 {
			continue
		}
		for range 30 {
			rows := slices.Clone(f.Rows)
			i := r.Intn(len(rows))
			at := r.Intn(len(rows[i]))
			letter := (stitchLetters + "x\x00\xff\n")[r.Intn(9)]
			switch head, tail := rows[i][:at], rows[i][at:]; r.Intn(5) {
			case 0:
				rows[i] = head + tail[1:]
			case 1:
				rows[i] = head + string([]byte{letter}) + tail
			case 2:
				rows[i] = head + string([]byte{letter}) + tail[1:]
			case 3:
				rows = slices.Delete(rows, i, i+1)
			case 4:
				rows = slices.Insert(rows, i, rows[r.Intn(len(rows))])
			}
			checkBad(t, int(f.Cast), rows)
		}
	}
}

func TestP12FabricEdges(t *testing.T) {
	thirty, more := slices.Repeat([]string{"k"}, 30), slices.Repeat([]string{"k"}, 31)
	all60, all30 := strings.Repeat("k", 60), strings.Repeat("i", 30)
	wide, wider := strings.Repeat("b", 60)+strings.Repeat("o", 60), strings.Repeat("k", 60)+"o"
	valid := func(list ...impl.Fabric) []any {
		got := make([]any, len(list))
		for i, f := range list {
			got[i] = impl.ValidFabric(f)
		}
		return got
	}
	checkRows(t, []row{
		{"casts", "false true true false", valid(fabric(0), fabric(1), fabric(60), fabric(61))},
		{"casts far away", "false false false", valid(fabric(-1), fabric(math.MinInt16), fabric(math.MaxInt16))},
		{"a cast of 0 with a row that takes none", "false false", valid(fabric(0, ""), fabric(0, "o"))},
		{"no rows", "true true", valid(fabric(1), impl.Fabric{Cast: 1, Rows: []string{}})},
		{"the most rows, and one more", "true false", valid(fabric(1, thirty...), fabric(1, more...))},
		{"the most loops, and one more", "true true false", valid(fabric(60, all60), fabric(60, wide), fabric(60, wider))},
		{"the most loops by others, and one more", "true false", valid(fabric(30, all30), fabric(30, all30+"o"))},
		{"a last row without loops", "true true", valid(fabric(1, "b"), fabric(3, "kkk", "bbb"))},
		{"one that is not the last", "false false false", valid(fabric(1, "b", ""), fabric(1, "b", "o"), fabric(2, "bb", "k"))},
		{"a row without stitches", "false false", valid(fabric(1, ""), fabric(1, "k", ""))},
		{"too few loops, and too many", "false true false", valid(fabric(3, "kk"), fabric(3, "kkk"), fabric(3, "kkkk"))},
		{"too few loops, and too many, by two", "false true false", valid(fabric(3, "d"), fabric(3, "dk"), fabric(3, "dd"))},
		{"other letters", "false false false false", valid(fabric(1, "K"), fabric(1, "x"), fabric(1, " k"), fabric(1, "k\n"))},
		{"letters beside", "false false false false", valid(fabric(1, "kx"), fabric(1, "k\x00"), fabric(1, "\tk"), fabric(1, "k\r"))},
		{"no whole letters", "false false false", valid(fabric(1, "\xff"), fabric(1, "k\xc5"), fabric(1, "\xabk"))},
		// These end with the byte of a stitch, or have it as the last 8 bits of their number.
		{"longer letters", "false false false", valid(fabric(1, "\u016b"), fabric(1, "\uff4b"), fabric(1, "\U0001006b"))},
		{"the letter of what is none", "false false", valid(fabric(1, "\ufffd"), fabric(1, "k\ufffd"))},
	})
}

func TestP12FirstBadRow(t *testing.T) {
	thirty := slices.Repeat([]string{"k"}, 30)
	checkRows(t, []row{
		{"too few", "1 0", all(impl.FirstBadRow(4, []string{"kikk", "dk"}))},
		{"none", "0 6", all(impl.FirstBadRow(4, []string{"kikk", "dkd"}))},
		{"no rows", "0 6", all(impl.FirstBadRow(1, nil))},
		{"the first one of several", "0 0", all(impl.FirstBadRow(4, []string{"x", "y"}))},
		{"a first row that takes too many", "0 0", all(impl.FirstBadRow(1, []string{"kk", "k"}))},
		{"a last row without loops", "0 6", all(impl.FirstBadRow(1, []string{"k", "b"}))},
		{"the row behind one without loops", "2 0", all(impl.FirstBadRow(1, []string{"k", "b", ""}))},
		{"the most rows", "0 6", all(impl.FirstBadRow(1, thirty))},
		{"one more", "30 0", all(impl.FirstBadRow(1, append(slices.Clone(thirty), "k")))},
		{"two more", "30 0", all(impl.FirstBadRow(1, append(slices.Clone(thirty), "k", "x")))},
		{"a bad one ahead of them", "29 0", all(impl.FirstBadRow(1, append(slices.Clone(thirty[:29]), "x", "k")))},
		{"too many loops", "1 0", all(impl.FirstBadRow(30, []string{strings.Repeat("i", 30), strings.Repeat("k", 60) + "o"}))},
		{"the greatest cast", "0 6", all(impl.FirstBadRow(60, nil))},
		{"a cast of 0", "0 2", all(impl.FirstBadRow(0, nil))},
		{"a cast of one more", "0 2", all(impl.FirstBadRow(61, nil))},
		{"range ahead of a bad row", "0 2", all(impl.FirstBadRow(0, []string{"x"}))},
		// The last 16 bits of this number are 1.
		{"a cast that is no int16", "0 2", all(impl.FirstBadRow(65537, []string{"k"}))},
		{"the least cast", "0 2", all(impl.FirstBadRow(math.MinInt64, nil))},
	})
}

func TestP12AddRow(t *testing.T) {
	f := fabric(4, "kikk", "dkd")
	full := fabric(1, slices.Repeat([]string{"k"}, 30)...)
	some := fabric(1, slices.Repeat([]string{"k"}, 29)...)
	added, code := impl.AddRow(some, "b")
	checkRows(t, []row{
		{"three that end", "{4 [kikk dkd bbb]} 0", all(impl.AddRow(f, "bbb"))},
		{"a first row", "{2 [ik]} 0", all(impl.AddRow(fabric(2), "ik"))},
		{"the last one that may be", "30 true 0", all(len(added.Rows), impl.ValidFabric(added), code)},
		{"one more", "{0 []} 4", all(impl.AddRow(full, "k"))},
		{"too few loops", "{0 []} 4", all(impl.AddRow(f, "kk"))},
		{"too many loops", "{0 []} 4", all(impl.AddRow(f, "kkkk"))},
		{"no stitches", "{0 []} 4", all(impl.AddRow(f, ""))},
		{"a letter that is none", "{0 []} 4", all(impl.AddRow(f, "kkx"))},
		{"no whole letter", "{0 []} 4", all(impl.AddRow(f, "kk\xff"))},
		{"behind a row without loops", "{0 []} 4", all(impl.AddRow(fabric(1, "b"), ""))},
		{"more loops than may be", "{0 []} 4", all(impl.AddRow(fabric(60), strings.Repeat("k", 60)+"o"))},
		{"to what is not valid", "{0 []} 1", all(impl.AddRow(fabric(4, "k"), "kkk"))},
		{"to what would be valid with it", "{0 []} 1", all(impl.AddRow(fabric(0), "o"))},
	})
}

// TestP12Loops asks of loops made by each stitch: in the row "kdiob" the loops 0 to 4, of which "i" has made two.
func TestP12Loops(t *testing.T) {
	f := fabric(5, "kdiob", "ddk")
	from := func(row int16, at int16) []any { return all(impl.FromOf(f, impl.Loop{Row: row, At: at})) }
	to := func(row int16, at int16) []any { return all(impl.GoesTo(f, impl.Loop{Row: row, At: at})) }
	checkRows(t, []row{
		{"from one that is cast", "[] 0", from(0, 0)},
		{"from the last one that is cast", "[] 0", from(0, 4)},
		{"from k", "[0] 0", from(1, 0)},
		{"from d", "[1 2] 0", from(1, 1)},
		{"from i", "[3] 0", from(1, 2)},
		{"from the other loop of i", "[3] 0", from(1, 3)},
		{"from o", "[] 0", from(1, 4)},
		{"from the second d", "[2 3] 0", from(2, 1)},
		{"from no such place that is cast", "[] 2", from(0, 5)},
		{"from no such place", "[] 2", from(1, 5)},
		{"from a place less than 0", "[] 2", from(1, -1)},
		{"from no such row", "[] 2", from(3, 0)},
		{"from a row less than 0", "[] 2", from(-1, 0)},
		{"from the greatest numbers", "[] 2", from(math.MaxInt16, math.MaxInt16)},
		{"from the least numbers", "[] 2", from(math.MinInt16, math.MinInt16)},
		{"from what is not valid", "[] 1", all(impl.FromOf(fabric(5, "k"), impl.Loop{}))},
		{"invalid ahead of range", "[] 1", all(impl.FromOf(fabric(0), impl.Loop{Row: -1}))},
		{"to k", "0 0", to(0, 0)},
		{"to d", "1 0", to(0, 1)},
		{"to d as the second one", "1 0", to(0, 2)},
		{"to i", "2 0", to(0, 3)},
		{"to b, behind o, which takes none", "4 0", to(0, 4)},
		{"of o", "2 0", to(1, 4)},
		{"of the last row", "0 6", to(2, 2)},
		{"to no such place", "0 2", to(1, 5)},
		{"to no such place of the last row", "0 2", to(2, 3)},
		{"to a place less than 0", "0 2", to(2, -1)},
		{"to a row less than 0", "0 2", to(-1, 0)},
		{"to no such row", "0 2", to(3, 0)},
		{"to the greatest numbers", "0 2", to(math.MaxInt16, math.MaxInt16)},
		{"to what is not valid", "0 1", all(impl.GoesTo(fabric(5, "k"), impl.Loop{}))},
		{"without rows", "0 6", all(impl.GoesTo(fabric(5), impl.Loop{At: 4}))},
		{"of a last row without loops", "0 2", all(impl.GoesTo(fabric(1, "b"), impl.Loop{Row: 1}))},
		{"from a last row without loops", "[] 2", all(impl.FromOf(fabric(1, "b"), impl.Loop{Row: 1}))},
		{"the example", "[2] 0", all(impl.FromOf(fabric(4, "kikk", "dkd"), impl.Loop{Row: 2, At: 1}))},
	})
}

func TestP12Widths(t *testing.T) {
	checkRows(t, []row{
		{"the example", "[4 5 3] 0", all(impl.WidthsOf(fabric(4, "kikk", "dkd")))},
		{"no rows", "[60] 0", all(impl.WidthsOf(fabric(60)))},
		{"no loops at last", "[2 3 0] 0", all(impl.WidthsOf(fabric(2, "ik", "bbb")))},
		{"not valid", "[] 1", all(impl.WidthsOf(fabric(4, "kikk", "dk")))},
		{"nothing", "[] 1", all(impl.WidthsOf(impl.Fabric{}))},
	})
}

// TestP12SameFabric compares fabrics that need not be valid.
func TestP12SameFabric(t *testing.T) {
	same := impl.SameFabric
	checkRows(t, []row{
		{"itself", "true", all(same(fabric(4, "kikk", "dkd"), fabric(4, "kikk", "dkd")))},
		{"another cast", "false", all(same(fabric(4, "kikk"), fabric(5, "kikk")))},
		{"another row", "false", all(same(fabric(4, "kikk", "dkd"), fabric(4, "kikk", "dkk")))},
		{"a row less", "false", all(same(fabric(4, "kikk", "dkd"), fabric(4, "kikk")))},
		{"a row more", "false", all(same(fabric(4), fabric(4, "")))},
		{"rows that are joined alike", "false", all(same(fabric(4, "ki", "kk"), fabric(4, "kik", "k")))},
		{"none that are valid", "true false", all(same(fabric(-1, "x"), fabric(-1, "x")), same(fabric(-1, "x"), fabric(-1, "\xff")))},
		{"no rows", "true", all(same(fabric(4), impl.Fabric{Cast: 4, Rows: []string{}}))},
	})
}

// TestP12Mirror: left and right are exchanged, and all loops come from where the others came from.
func TestP12Mirror(t *testing.T) {
	for _, f := range fabricPool() {
		mirror, code := impl.MirrorFabric(f)
		again, code2 := impl.MirrorFabric(mirror)
		widths, _ := widthsByHand(int(f.Cast), f.Rows)
		same, code3 := impl.WidthsOf(mirror)
		if code+code2+code3 != impl.OK || !impl.SameFabric(f, again) || !slices.Equal(same, widths) {
			t.Fatalf("%v: mirrored %v %d, and again %v %d", f, mirror, code, again, code2)
		}
		for row := 1; row < len(widths); row++ {
			for at := range widths[row] {
				from, _ := impl.FromOf(f, loop(row, at))
				other, _ := impl.FromOf(mirror, loop(row, widths[row]-1-at))
				slices.Reverse(other)
				for i, place := range other {
					other[i] = widths[row-1] - 1 - place
				}
				if !slices.Equal(from, other) {
					t.Fatalf("%v: the loop %d of the row %d comes from %v, mirrored from %v", f, at, row, from, other)
				}
			}
		}
	}
	checkRows(t, []row{
		{"the example", "{4 [kkik dkd]} 0", all(impl.MirrorFabric(fabric(4, "kikk", "dkd")))},
		{"no rows", "{4 []} 0", all(impl.MirrorFabric(fabric(4)))},
		{"not valid", "{0 []} 1", all(impl.MirrorFabric(fabric(4, "kikkk")))},
	})
}

func TestP12CountStitch(t *testing.T) {
	for _, f := range fabricPool() {
		whole := strings.Join(f.Rows, "")
		for number := range 256 {
			letter := byte(number)
			count, code := impl.CountStitch(f, letter)
			want, wantCode := 0, impl.ErrSyntax
			if strings.IndexByte(stitchLetters, letter) >= 0 {
				want, wantCode = strings.Count(whole, string(rune(letter))), impl.OK
			}
			if count != int64(want) || code != int64(wantCode) {
				t.Fatalf("%v: %q comes %d times, %d", f, letter, count, code)
			}
		}
	}
	checkRows(t, []row{
		{"the example", "4 0", all(impl.CountStitch(fabric(4, "kikk", "dkd"), 'k'))},
		{"one that does not come", "0 0", all(impl.CountStitch(fabric(4, "kikk", "dkd"), 'o'))},
		{"without rows", "0 0", all(impl.CountStitch(fabric(4), 'k'))},
		{"invalid ahead of syntax", "0 1", all(impl.CountStitch(fabric(4, "x"), 'x'))},
	})
}

func TestP12FabricTexts(t *testing.T) {
	for _, f := range fabricPool() {
		text := impl.FabricText(f)
		want := fmt.Sprintln(f.Cast)
		for _, row := range f.Rows {
			want += row + "\n"
		}
		back, code := impl.ReadFabric(text)
		if text != want || code != impl.OK || !impl.SameFabric(back, f) {
			t.Fatalf("%v has the text %q, which is read as %v, %d", f, text, back, code)
		}
	}
	checkRows(t, []row{
		{"the example", "4\nkikk\ndkd\n", all(impl.FabricText(fabric(4, "kikk", "dkd")))},
		{"no rows", "60\n", all(impl.FabricText(fabric(60)))},
		{"no loops at last", "1\nb\n", all(impl.FabricText(fabric(1, "b")))},
		{"a cast that is not valid", " ", all(impl.FabricText(fabric(0)), impl.FabricText(fabric(61)))},
		{"a row that is not valid", " ", all(impl.FabricText(fabric(4, "kikk", "dk")), impl.FabricText(fabric(1, "k\nk")))},
		{"too many rows", "", all(impl.FabricText(fabric(1, slices.Repeat([]string{"k"}, 31)...)))},
		{"read", "{4 [kikk dkd]} 0", all(impl.ReadFabric("4\nkikk\ndkd\n"))},
		{"read without rows", "{60 []} 0", all(impl.ReadFabric("60\n"))},
	})
}

func TestP12FabricTextsThatAreNone(t *testing.T) {
	list := []string{
		"", "\n", "x", "4", "4 ", "4\r\n", " 4\n", "4 \n", "\n4\n", "4\n\n", "04\n", "+4\n", "-4\n", "-0\n", "0\n", "61\n", "65540\n", "4294967300\n",
		"0x4\n", "4_0\n", "4.0\n", "4e0\n", "\u0664\n", "4\x00\n", "\xff\n", "k\n", "kkkk\n", "kkkk\n4\n", "4kkkk\n", "4kkkk", "4 kkkk\n",
		"4\nkikk", "4\nkikk\ndkd", "4\nkikk\ndkd\n\n", "4\n\nkikk\n", "4\nkikk\n\ndkd\n", "4\nkikk\r\n", "4\nkikk \n", "4\n kikk\n", "4\nkik\n",
		"4\nkikkk\n", "4\nKIKK\n", "4\nkxkk\n", "4\nkik\xff\n", "4\nkik\u016b\n", "4\nkikk\ndk\n", "4\nkikk dkd\n", "1\nb\n\n", "1\nb\no\n", "0\n\n", "0\no\n",
		"1\n" + strings.Repeat("k\n", 31), "60\n" + strings.Repeat("k", 60) + "o\n", strings.Repeat("9", 30) + "\n", "4\n4\n", "\n\n", "4\nkikk\n4\n",
	}
	for _, text := range list {
		if got, code := impl.ReadFabric(text); code != impl.ErrSyntax || got.Cast != 0 || got.Rows != nil {
			t.Errorf("%q is read as %v, %d", text, got, code)
		}
	}
}
