package tests

import (
	"math"
	"runtime"
	"slices"
	"strings"
	"sync"
	"testing"
	"time"

	"loop.example/g01384/impl"
)

func chapter5() []call {
	return []call{
		{"ValidFabric", impl.ValidFabric, false},
		{"SameFabric", impl.SameFabric, false},
		{"WidthsOf", impl.WidthsOf, true},
		{"AddRow", impl.AddRow, true},
		{"FirstBadRow", impl.FirstBadRow, true},
		{"FromOf", impl.FromOf, true},
		{"GoesTo", impl.GoesTo, true},
		{"LadderOf", impl.LadderOf, true},
		{"WorstLoop", impl.WorstLoop, true},
		{"CatchLoop", impl.CatchLoop, true},
		{"YarnFor", impl.YarnFor, true},
		{"RowsWith", impl.RowsWith, true},
		{"FrogTo", impl.FrogTo, true},
		{"ShapeRow", impl.ShapeRow, true},
		{"ShapeRows", impl.ShapeRows, true},
		{"RepeatRow", impl.RepeatRow, true},
		{"MirrorFabric", impl.MirrorFabric, true},
		{"CountStitch", impl.CountStitch, true},
		{"GraftLength", impl.GraftLength, true},
		{"FabricText", impl.FabricText, false},
		{"ReadFabric", impl.ReadFabric, true},
	}
}

// hostileRows has lists that share memory: each one has room behind its end, in which others lie.
func hostileRows() [][]string {
	room := append(make([]string, 0, 6), "kikk", "dkd", "bbb", "", "x")
	thirty := slices.Repeat([]string{"k"}, 31)
	return [][]string{
		nil, {}, room[:1], room[:2], room[:3], room[:4], room, thirty[:29], thirty[:30], thirty, {"k"}, {"b"}, {"b", ""}, {"\xff"}, {"k\xc5"},
		{"\u016b"}, {strings.Repeat("k", 60)}, {strings.Repeat("i", 30)}, {strings.Repeat("k", 60) + "o"}, {"\n"}, {"kkkk", "kkkk\n"}, {"ooooik"},
	}
}

func hostileFabrics() []impl.Fabric {
	list := []impl.Fabric{{}, fabric(-1), fabric(math.MinInt16, "k"), fabric(math.MaxInt16, "k"), fabric(61), fabric(60), fabric(2, "bb")}
	for _, rows := range hostileRows() {
		list = append(list, fabric(4, rows...), fabric(1, rows...))
	}
	return append(list, fabric(60, strings.Repeat("k", 60)), fabric(30, strings.Repeat("i", 30)))
}

func chapter5Pool() argumentPool {
	pool := argumentPool{}
	addPool(pool, hostileFabrics())
	addPool(pool, hostileRows())
	addPool(pool, []int64{
		math.MinInt64, -1, 0, 1, 2, 3, 4, 15, 16, 30, 31, 60, 61, 100, 101, 65536, 1000000, 1000001, math.MaxInt64,
	})
	addPool(pool, []impl.Loop{
		{}, {At: 3}, {At: 4}, {Row: 1}, {Row: 1, At: 1}, {Row: 1, At: 2}, {Row: 1, At: 4}, {Row: 2}, {Row: 2, At: 2}, {Row: 3}, {Row: 30},
		{Row: 31}, {Row: -1}, {At: -1}, {Row: math.MinInt16, At: math.MinInt16}, {Row: math.MaxInt16, At: math.MaxInt16},
	})
	addPool(pool, []byte{'k', 'd', 'i', 'o', 'b', 'x', 'K', ' ', '\n', 0, 0x6b | 0x80, 0xc5, 0xff})
	addPool(pool, []string{
		"", " ", "x", "k", "d", "o", "b", "ki", "kikk", "bbb", "kk\xff", "\u016b", "\n", "4", "4\n", "4\nkikk\ndkd\n", "4\nkikk\ndkd", "0\n", "61\n",
		"4\n\n", "1\nb\n", "1\nb\n\n", "+4\n", "4\r\n", "4\nkik\xff\n", strings.Repeat("9", 99) + "\n", "1\n" + strings.Repeat("k\n", 31),
		strings.Repeat("k", 60), strings.Repeat("ok", 61),
	})
	return pool
}

// TestP1KnittingAllArguments: every function of chapter 5 returns for all arguments, modifies none, and returns equal
// results for equal ones; beside a code other than OK all results are zero.
func TestP1KnittingAllArguments(t *testing.T) {
	checkCalls(t, chapter5(), chapter5Pool())
}

// TestP1KnittingLargeArguments: arguments of a million elements are told off, too, or compared.
func TestP1KnittingLargeArguments(t *testing.T) {
	const many = 1000000
	rows := slices.Repeat([]string{"k"}, many)
	wrong := slices.Clone(rows)
	wrong[many-1] = "kk"
	f, other := fabric(1, rows...), fabric(1, wrong...)
	long := strings.Repeat("k", many)
	part, code := impl.RepeatRow(fabric(60), "k"+strings.Repeat("o", many-1))
	checkRows(t, []row{
		{"valid", "false", all(impl.ValidFabric(f))},
		{"same", "true false", all(impl.SameFabric(f, fabric(1, slices.Clone(rows)...)), impl.SameFabric(f, other))},
		{"widths", "[] 1", all(impl.WidthsOf(f))},
		{"a row more", "{0 []} 1", all(impl.AddRow(f, "k"))},
		{"a long row more", "{0 []} 4", all(impl.AddRow(fabric(1), long))},
		{"bad", "30 0", all(impl.FirstBadRow(1, rows))},
		{"a long bad row", "0 0", all(impl.FirstBadRow(60, []string{long}))},
		{"a long row that makes too many", "0 0", all(impl.FirstBadRow(1, []string{"k" + strings.Repeat("o", many)}))},
		{"from", "[] 1", all(impl.FromOf(f, impl.Loop{}))},
		{"to", "0 1", all(impl.GoesTo(f, impl.Loop{}))},
		{"a ladder", "[] 1", all(impl.LadderOf(f, 0))},
		{"the worst one", "0 0 1", all(impl.WorstLoop(f))},
		{"caught", "[] 1", all(impl.CatchLoop(f, 0, 0))},
		{"yarn", "0 1", all(impl.YarnFor(f, 1))},
		{"rows with yarn", "0 1", all(impl.RowsWith(f, 1, 1))},
		{"frogged", "{0 []} 0 1", all(impl.FrogTo(f, 1, 1))},
		{"a part", " 1", all(impl.RepeatRow(f, "k"))},
		{"a long part", " 4", all(impl.RepeatRow(fabric(60), long))},
		{"a long part that is repeated", "60000000 0", all(len(part), code)},
		{"a long part with a letter that is none", " 5", all(impl.RepeatRow(fabric(60), long+"x"))},
		{"mirrored", "{0 []} 1", all(impl.MirrorFabric(f))},
		{"counted", "0 1", all(impl.CountStitch(f, 'k'))},
		{"grafted", "0 1", all(impl.GraftLength(f, f, 1))},
		{"text", "", all(impl.FabricText(f))},
		{"many rows", "{0 []} 5", all(impl.ReadFabric("1\n" + strings.Repeat("k\n", many/2)))},
		{"newlines", "{0 []} 5", all(impl.ReadFabric("1" + strings.Repeat("\n", many)))},
		{"a long row", "{0 []} 5", all(impl.ReadFabric("1\n" + long + "\n"))},
		{"digits", "{0 []} 5", all(impl.ReadFabric(strings.Repeat("7", many) + "\n"))},
		{"zeros", "{0 []} 5", all(impl.ReadFabric(strings.Repeat("0", many) + "1\n"))},
	})
}

// TestP1KnittingNilAndEmpty: a nil slice and an empty one are equivalent.
func TestP1KnittingNilAndEmpty(t *testing.T) {
	for _, rows := range [][]string{nil, {}} {
		f := impl.Fabric{Cast: 2, Rows: rows}
		checkRows(t, []row{
			{"valid", "true", all(impl.ValidFabric(f))},
			{"same", "true true", all(impl.SameFabric(f, fabric(2)), impl.SameFabric(impl.Fabric{Cast: 2, Rows: []string{}}, f))},
			{"widths", "[2] 0", all(impl.WidthsOf(f))},
			{"a row more", "{2 [kk]} 0", all(impl.AddRow(f, "kk"))},
			{"bad", "0 6", all(impl.FirstBadRow(2, rows))},
			{"from", "[] 0", all(impl.FromOf(f, impl.Loop{At: 1}))},
			{"to", "0 6", all(impl.GoesTo(f, impl.Loop{At: 1}))},
			{"a ladder", "[{0 1}] 0", all(impl.LadderOf(f, 1))},
			{"the worst one", "0 1 0", all(impl.WorstLoop(f))},
			{"caught", "[] 0", all(impl.CatchLoop(f, 1, 0))},
			{"yarn", "8 0", all(impl.YarnFor(f, 1))},
			{"rows with yarn", "0 0", all(impl.RowsWith(f, 1, 8))},
			{"frogged", "{2 []} 0 0", all(impl.FrogTo(f, 0, 1))},
			{"a part", "kk 0", all(impl.RepeatRow(f, "k"))},
			{"mirrored", "{2 []} 0", all(impl.MirrorFabric(f))},
			{"counted", "0 0", all(impl.CountStitch(f, 'k'))},
			{"grafted", "6 0", all(impl.GraftLength(f, f, 1))},
			{"text", "2\n", all(impl.FabricText(f))},
		})
	}
}

// TestP1LaddersLeaveNothingRunning: nobody sends loops any more when a call has returned, and calls at the same time do
// not disturb each other.
func TestP1LaddersLeaveNothingRunning(t *testing.T) {
	before := runtime.NumGoroutine()
	f := fabric(4, "kikk", "dkd")
	want := []impl.Loop{{Row: 2, At: 2}, {Row: 1, At: 3}, {Row: 1, At: 4}, {Row: 0, At: 2}, {Row: 0, At: 3}}
	var calls sync.WaitGroup
	wrong := make([]bool, 50)
	for i := range wrong {
		calls.Go(func() {
			for range 200 {
				ladder, code := impl.LadderOf(f, 2)
				caught, code2 := impl.CatchLoop(f, 2, 1)
				worst, most, code3 := impl.WorstLoop(f)
				if !slices.Equal(ladder, want) || !slices.Equal(caught, want[:1]) || worst != 2 || most != 5 || code+code2+code3 != impl.OK {
					wrong[i] = true
				}
			}
		})
	}
	calls.Wait()
	if slices.Contains(wrong, true) {
		t.Error("calls at the same time return something else")
	}
	// One that has sent all may need a moment to end.
	for range 100 {
		if runtime.NumGoroutine() <= before {
			return
		}
		time.Sleep(10 * time.Millisecond)
	}
	t.Errorf("%d goroutines ahead of the calls, %d behind them", before, runtime.NumGoroutine())
}
