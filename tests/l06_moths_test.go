package tests

import (
	"math"
	"math/rand"
	"slices"
	"strings"
	"testing"

	"loop.example/g01384/impl"
)

// holesOf returns the holes that the first lines of a text tell; the others have none.
func holesOf(lines ...string) impl.Holes {
	var h impl.Holes
	for y, line := range lines {
		for x := range len(line) {
			if line[x] == 'o' {
				h[y] += uint8(math.Pow(2, float64(x)))
			}
		}
	}
	return h
}

func hole(x, y int) impl.Holes {
	var h impl.Holes
	h[y] = 1 << x
	return h
}

// fullHoles are 64.
func fullHoles() impl.Holes { return impl.Holes{255, 255, 255, 255, 255, 255, 255, 255} }

func chessHoles() impl.Holes { return impl.Holes{0x55, 0xaa, 0x55, 0xaa, 0x55, 0xaa, 0x55, 0xaa} }

// snakeHoles are one spot, of which the way from one end to the other is the longest.
func snakeHoles() impl.Holes {
	return holesOf("oooooooo", ".......o", "oooooooo", "o.......", "oooooooo", ".......o", "oooooooo", "o.......")
}

// clawHoles are one spot of which the upper ends come together at the bottom alone.
func clawHoles() impl.Holes {
	return holesOf("o.o.o..o", "o.o.o..o", "o.ooo..o", "o...o..o", "oooooooo")
}

func randomHoles(r *rand.Rand, tenths int) impl.Holes {
	var h impl.Holes
	for n := range 64 {
		if r.Intn(10) < tenths {
			h[n/8] |= 1 << (n % 8)
		}
	}
	return h
}

func holesPool() []impl.Holes {
	pool := []impl.Holes{
		{}, fullHoles(), chessHoles(), snakeHoles(), clawHoles(), hole(0, 0), hole(7, 0), hole(0, 7), hole(7, 7), hole(4, 0), hole(0, 3),
		hole(7, 5), hole(2, 7), hole(4, 3), holesOf("o.......", ".o......"), holesOf(".o......", "o......."), holesOf("o......o"),
		holesOf("oooooooo"), {255}, {7: 255}, {1, 1, 1, 1, 1, 1, 1, 1}, {255, 129, 129, 129, 129, 129, 129, 255},
		{254, 255, 255, 255, 255, 255, 255, 255}, {255, 255, 255, 255, 255, 255, 255, 127}, {128, 64, 32, 16, 8, 4, 2, 1},
	}
	r := newRandom()
	for range 40 {
		for tenths := 1; tenths <= 9; tenths++ {
			pool = append(pool, randomHoles(r, tenths))
		}
	}
	return pool
}

// grid is a piece with a rim of stitches that are no holes round it.
type grid [10][10]bool

func gridOf(h impl.Holes) grid {
	var g grid
	for y, line := range h {
		for x := range 8 {
			g[y+1][x+1] = line/uint8(math.Pow(2, float64(x)))%2 == 1
		}
	}
	return g
}

func (g grid) holes() impl.Holes {
	var h impl.Holes
	for n := range 64 {
		if g[n/8+1][n%8+1] {
			h[n/8] += uint8(math.Pow(2, float64(n%8)))
		}
	}
	return h
}

func (g grid) count() int64 {
	count := int64(0)
	for _, line := range g {
		for _, is := range line {
			if is {
				count++
			}
		}
	}
	return count
}

func (g grid) week(need int64) grid {
	later := g
	for y := 1; y <= 8; y++ {
		for x := 1; x <= 8; x++ {
			near := int64(0)
			for _, is := range []bool{g[y-1][x], g[y+1][x], g[y][x-1], g[y][x+1]} {
				if is {
					near++
				}
			}
			later[y][x] = g[y][x] || near >= need
		}
	}
	return later
}

func (g grid) weeks(need, weeks int64) grid {
	for range weeks {
		g = g.week(need)
	}
	return g
}

// spots gives each hole a number of its own, and then to all holes side by side the lesser one of theirs, until none
// changes; the least number of a spot is that of its first hole.
func (g grid) spots() []grid {
	var marks [10][10]int
	for y, line := range g {
		for x, is := range line {
			if is {
				marks[y][x] = 10*y + x
			}
		}
	}
	for more := true; more; {
		more = false
		for y := 1; y <= 8; y++ {
			for x := 1; x <= 8; x++ {
				for _, near := range []int{marks[y-1][x], marks[y+1][x], marks[y][x-1], marks[y][x+1]} {
					if g[y][x] && near > 0 && near < marks[y][x] {
						marks[y][x], more = near, true
					}
				}
			}
		}
	}
	var spots []grid
	for mark := range 100 {
		var spot grid
		for y, line := range g {
			for x, is := range line {
				spot[y][x] = is && marks[y][x] == mark
			}
		}
		if spot.count() > 0 {
			spots = append(spots, spot)
		}
	}
	return spots
}

func (g grid) without(other grid) grid {
	for y, line := range other {
		for x, is := range line {
			g[y][x] = g[y][x] && !is
		}
	}
	return g
}

// TestP15WeekByWeek compares with a piece week by week: holes become no fewer, those that are stay, and they are counted.
func TestP15WeekByWeek(t *testing.T) {
	for _, h := range holesPool() {
		for need := int64(1); need <= 4; need++ {
			before, g := h, gridOf(h)
			for weeks := range int64(impl.MaxWeeks + 1) {
				later, code := impl.WeeksLater(h, need, weeks)
				if code != impl.OK || later != g.holes() || impl.CountHoles(later) != g.count() {
					t.Fatalf("%v with need %d: after %d weeks %v, not %v, %d", h, need, weeks, later, g.holes(), code)
				}
				for y, line := range before {
					if line&^later[y] != 0 {
						t.Fatalf("%v with need %d: after %d weeks %v has fewer than %v", h, need, weeks, later, before)
					}
				}
				next, code := impl.WeekLater(later, need)
				g = g.week(need)
				if code != impl.OK || next != g.holes() {
					t.Fatalf("%v with need %d is %v a week later, not %v, %d", later, need, next, g.holes(), code)
				}
				stays, code := impl.StaysFor(later, need)
				if code != impl.OK || stays != (impl.CountHoles(next) == impl.CountHoles(later)) {
					t.Fatalf("%v with need %d stays: %t, %d", later, need, stays, code)
				}
				before = later
			}
		}
	}
}

// TestP15WeeksUntil asks for all numbers of holes, and compares with counting week by week, far beyond all changes.
func TestP15WeeksUntil(t *testing.T) {
	for _, h := range holesPool() {
		for need := int64(1); need <= 4; need++ {
			g, counts := gridOf(h), []int64(nil)
			for range 70 {
				counts = append(counts, g.count())
				g = g.week(need)
			}
			for holes := range int64(65) {
				want := int64(slices.IndexFunc(counts, func(count int64) bool { return count >= holes }))
				weeks, code := impl.WeeksUntil(h, need, holes)
				if want >= 0 && (code != impl.OK || weeks != want) || want < 0 && (code != impl.ErrNotFound || weeks != 0) {
					t.Fatalf("%v with need %d: %d holes after %d, not %d, %d", h, need, holes, weeks, want, code)
				}
			}
		}
	}
}

// TestP15Spots compares with spots by hand; they are all holes, each one once.
func TestP15Spots(t *testing.T) {
	for _, h := range holesPool() {
		var want []impl.Holes
		for _, spot := range gridOf(h).spots() {
			want = append(want, spot.holes())
		}
		spots, code := impl.SpotsIn(h)
		if code != impl.OK || !slices.Equal(spots, want) {
			t.Fatalf("%v has the spots %v, not %v, %d", h, spots, want, code)
		}
		var sum impl.Holes
		for _, spot := range spots {
			for y, line := range spot {
				sum[y] += line
			}
		}
		if sum != h {
			t.Fatalf("%v has the spots %v, which are together %v", h, spots, sum)
		}
	}
}

// TestP15MendSpot mends each stitch of each piece; beside the spot that is mended nothing changes.
func TestP15MendSpot(t *testing.T) {
	for _, h := range holesPool() {
		g := gridOf(h)
		spots := g.spots()
		for n := range 64 {
			x, y := n%8, n/8
			mended, code := impl.MendSpot(h, int64(x), int64(y))
			at := slices.IndexFunc(spots, func(spot grid) bool { return spot[y+1][x+1] })
			if at < 0 {
				if code != impl.ErrNotFound || mended != (impl.Holes{}) {
					t.Fatalf("%v at %d, %d, where is no hole: %v, %d", h, x, y, mended, code)
				}
				continue
			}
			if want := g.without(spots[at]).holes(); code != impl.OK || mended != want {
				t.Fatalf("%v mended at %d, %d: %v, not %v, %d", h, x, y, mended, want, code)
			}
		}
	}
}

// TestP15BestMend compares with mending each spot, and waiting.
func TestP15BestMend(t *testing.T) {
	for _, h := range holesPool() {
		g := gridOf(h)
		spots := g.spots()
		for need := int64(1); need <= 4; need++ {
			for _, weeks := range []int64{0, 1, 2, 5, 100} {
				checkMend(t, h, spots, need, weeks)
			}
		}
	}
}

func checkMend(t *testing.T, h impl.Holes, spots []grid, need, weeks int64) {
	t.Helper()
	index, left, code := impl.BestMend(h, need, weeks)
	if len(spots) == 0 {
		if code != impl.ErrNotFound || index != 0 || left != 0 {
			t.Fatalf("%v without holes: %d %d %d", h, index, left, code)
		}
		return
	}
	var counts []int64
	for _, spot := range spots {
		counts = append(counts, gridOf(h).without(spot).weeks(need, weeks).count())
	}
	fewest := slices.Min(counts)
	if want := int64(slices.Index(counts, fewest)); code != impl.OK || index != want || left != fewest {
		t.Fatalf("%v with need %d, %d weeks: without %d are %d, not without %d %d, %d", h, need, weeks, index, left, want, fewest, code)
	}
}

func TestP15WeekCodes(t *testing.T) {
	middle, corner := hole(4, 3), hole(0, 0)
	count := func(h impl.Holes, code int64) []any { return all(impl.CountHoles(h), code) }
	four, three := holesOf("........", "...o....", "..o.o...", "...o...."), holesOf("........", "...o....", "..o.o...")
	aside := holesOf(".o......", "o.......")
	checkRows(t, []row{
		{"the example with need 1", "5 0", count(impl.WeekLater(middle, 1))},
		{"the example with need 2", "1 0", count(impl.WeekLater(middle, 2))},
		{"the middle", "[0 0 16 56 16 0 0 0] 0", all(impl.WeekLater(middle, 1))},
		{"a corner", "[3 1 0 0 0 0 0 0] 0", all(impl.WeekLater(corner, 1))},
		{"the corner across", "[0 0 0 0 0 0 128 192] 0", all(impl.WeekLater(hole(7, 7), 1))},
		{"a side", "[56 16 0 0 0 0 0 0] 0", all(impl.WeekLater(hole(4, 0), 1))},
		{"a side to the right does not go on at the left", "[0 0 0 0 128 192 128 0] 0", all(impl.WeekLater(hole(7, 5), 1))},
		{"no holes", "[0 0 0 0 0 0 0 0] 0", all(impl.WeekLater(impl.Holes{}, 1))},
		{"64 holes", "64 0", count(impl.WeekLater(fullHoles(), 1))},
		{"64 holes with need 4", "64 0", count(impl.WeekLater(fullHoles(), 4))},
		{"four round one with need 4", "5 0", count(impl.WeekLater(four, 4))},
		{"three round one with need 4", "3 0", count(impl.WeekLater(three, 4))},
		{"three round one with need 3", "4 0", count(impl.WeekLater(three, 3))},
		{"three round one with need 2, one more on each side", "6 0", count(impl.WeekLater(three, 2))},
		{"two beside a corner with need 2", "[3 3 0 0 0 0 0 0] 0", all(impl.WeekLater(aside, 2))},
		{"two beside a corner with need 3", "[2 1 0 0 0 0 0 0] 0", all(impl.WeekLater(aside, 3))},
		{"all at once, not one behind the other", "[4 14 31 14 4 0 0 0] 0", all(impl.WeeksLater(hole(2, 2), 1, 2))},
		{"need 0", "[0 0 0 0 0 0 0 0] 2", all(impl.WeekLater(middle, 0))},
		{"need 5", "[0 0 0 0 0 0 0 0] 2", all(impl.WeekLater(middle, 5))},
		{"the least need", "[0 0 0 0 0 0 0 0] 2", all(impl.WeekLater(middle, math.MinInt64))},
		{"the greatest need", "[0 0 0 0 0 0 0 0] 2", all(impl.WeekLater(middle, math.MaxInt64))},
	})
}

func TestP15WeeksCodes(t *testing.T) {
	middle := hole(4, 3)
	checkRows(t, []row{
		{"no weeks", "[0 0 0 16 0 0 0 0] 0", all(impl.WeeksLater(middle, 1, 0))},
		{"one week", "[0 0 16 56 16 0 0 0] 0", all(impl.WeeksLater(middle, 1, 1))},
		{"the most weeks", "[255 255 255 255 255 255 255 255] 0", all(impl.WeeksLater(middle, 1, 100))},
		{"the most weeks with nothing new", "[0 0 0 16 0 0 0 0] 0", all(impl.WeeksLater(middle, 2, 100))},
		{"just enough weeks for all", "[255 255 255 255 255 255 255 255] 0", all(impl.WeeksLater(hole(0, 0), 1, 14))},
		{"one week less", "[255 255 255 255 255 255 255 127] 0", all(impl.WeeksLater(hole(0, 0), 1, 13))},
		{"weeks of -1", "[0 0 0 0 0 0 0 0] 2", all(impl.WeeksLater(middle, 1, -1))},
		{"one week too many", "[0 0 0 0 0 0 0 0] 2", all(impl.WeeksLater(middle, 1, 101))},
		{"the least number of weeks", "[0 0 0 0 0 0 0 0] 2", all(impl.WeeksLater(middle, 1, math.MinInt64))},
		{"the greatest number of weeks", "[0 0 0 0 0 0 0 0] 2", all(impl.WeeksLater(middle, 1, math.MaxInt64))},
		{"need 0", "[0 0 0 0 0 0 0 0] 2", all(impl.WeeksLater(middle, 0, 0))},
		{"need 5", "[0 0 0 0 0 0 0 0] 2", all(impl.WeeksLater(middle, 5, 0))},
	})
}

func TestP15UntilCodes(t *testing.T) {
	middle := hole(4, 3)
	checkRows(t, []row{
		{"no holes, without any", "0 0", all(impl.WeeksUntil(impl.Holes{}, 1, 0))},
		{"no holes, with some", "0 0", all(impl.WeeksUntil(middle, 1, 0))},
		{"as many as now", "0 0", all(impl.WeeksUntil(middle, 2, 1))},
		{"one more", "1 0", all(impl.WeeksUntil(middle, 1, 2))},
		{"just as many as a week later", "1 0", all(impl.WeeksUntil(middle, 1, 5))},
		{"one more than a week later", "2 0", all(impl.WeeksUntil(middle, 1, 6))},
		{"all", "14 0", all(impl.WeeksUntil(hole(0, 0), 1, 64))},
		{"all but one", "13 0", all(impl.WeeksUntil(hole(0, 0), 1, 63))},
		{"64 now", "0 0", all(impl.WeeksUntil(fullHoles(), 4, 64))},
		{"one more that never is", "0 6", all(impl.WeeksUntil(middle, 2, 2))},
		{"as many as there never are", "0 6", all(impl.WeeksUntil(holesOf("o.......", ".o......"), 2, 5))},
		{"as many as there are at last", "1 0", all(impl.WeeksUntil(holesOf("o.......", ".o......"), 2, 4))},
		{"none now", "0 6", all(impl.WeeksUntil(impl.Holes{}, 1, 1))},
		{"holes of -1", "0 2", all(impl.WeeksUntil(middle, 1, -1))},
		{"65 holes", "0 2", all(impl.WeeksUntil(fullHoles(), 1, 65))},
		{"the greatest number of holes", "0 2", all(impl.WeeksUntil(middle, 1, math.MaxInt64))},
		{"need 0", "0 2", all(impl.WeeksUntil(middle, 0, 1))},
		{"need 5", "0 2", all(impl.WeeksUntil(middle, 5, 64))},
		{"range ahead of none", "0 2", all(impl.WeeksUntil(impl.Holes{}, 5, 1))},
	})
}

func TestP15StaysCodes(t *testing.T) {
	checkRows(t, []row{
		{"one with need 2", "true 0", all(impl.StaysFor(hole(4, 3), 2))},
		{"one with need 1", "false 0", all(impl.StaysFor(hole(4, 3), 1))},
		{"none", "true 0", all(impl.StaysFor(impl.Holes{}, 1))},
		{"64", "true 0", all(impl.StaysFor(fullHoles(), 1))},
		{"63, the corner left, need 2", "false 0", all(impl.StaysFor(holesOf(".ooooooo", "oooooooo"), 2))},
		{"the corner left, need 3", "true 0", all(impl.StaysFor(impl.Holes{254, 255, 255, 255, 255, 255, 255, 255}, 3))},
		{"the middle left, need 4", "false 0", all(impl.StaysFor(impl.Holes{255, 255, 255, 239, 255, 255, 255, 255}, 4))},
		{"need 0", "false 2", all(impl.StaysFor(impl.Holes{}, 0))},
		{"need 5", "false 2", all(impl.StaysFor(impl.Holes{}, 5))},
		{"the greatest need", "false 2", all(impl.StaysFor(impl.Holes{}, math.MaxInt64))},
	})
}

func TestP15SpotsByHand(t *testing.T) {
	chess, code := impl.SpotsIn(chessHoles())
	checkRows(t, []row{
		{"no holes", "[] 0", all(impl.SpotsIn(impl.Holes{}))},
		{"64 holes", "[[255 255 255 255 255 255 255 255]] 0", all(impl.SpotsIn(fullHoles()))},
		{"one hole in a corner", "[[1 0 0 0 0 0 0 0]] 0", all(impl.SpotsIn(hole(0, 0)))},
		{"one hole in the last corner", "[[0 0 0 0 0 0 0 128]] 0", all(impl.SpotsIn(hole(7, 7)))},
		{"two that meet at a corner alone", "[[1 0 0 0 0 0 0 0] [0 2 0 0 0 0 0 0]] 0", all(impl.SpotsIn(holesOf("o.......", ".o......")))},
		{"two that meet at the other corner", "[[2 0 0 0 0 0 0 0] [0 1 0 0 0 0 0 0]] 0", all(impl.SpotsIn(holesOf(".o......", "o.......")))},
		{"by y ahead of x", "[[128 0 0 0 0 0 0 0] [0 1 0 0 0 0 0 0]] 0", all(impl.SpotsIn(holesOf(".......o", "o.......")))},
		{"by x on one line", "[[1 0 0 0 0 0 0 0] [128 0 0 0 0 0 0 0]] 0", all(impl.SpotsIn(holesOf("o......o")))},
		{"one round the other", "[[31 17 17 17 31 0 0 0] [0 0 4 0 0 0 0 0]] 0", all(impl.SpotsIn(holesOf("ooooo", "o...o", "o.o.o", "o...o", "ooooo")))},
		{"the most", "32 [1 0 0 0 0 0 0 0] [0 0 0 0 0 0 0 128] 0", all(len(chess), chess[0], chess[31], code)},
	})
}

func TestP15MendCodes(t *testing.T) {
	h := holesOf("o.......", ".oo.....", "...o....")
	checkRows(t, []row{
		{"the first spot", "[0 6 8 0 0 0 0 0] 0", all(impl.MendSpot(h, 0, 0))},
		{"a spot of two by its second hole", "[1 0 8 0 0 0 0 0] 0", all(impl.MendSpot(h, 2, 1))},
		{"the last spot", "[1 6 0 0 0 0 0 0] 0", all(impl.MendSpot(h, 3, 2))},
		{"64 holes", "[0 0 0 0 0 0 0 0] 0", all(impl.MendSpot(fullHoles(), 7, 7))},
		{"a long spot by its end", "[0 0 0 0 0 0 0 0] 0", all(impl.MendSpot(snakeHoles(), 0, 7))},
		{"a stitch that is whole", "[0 0 0 0 0 0 0 0] 6", all(impl.MendSpot(h, 1, 0))},
		{"x for y", "[0 0 0 0 0 0 0 0] 6", all(impl.MendSpot(h, 2, 3))},
		{"no holes", "[0 0 0 0 0 0 0 0] 6", all(impl.MendSpot(impl.Holes{}, 7, 7))},
		{"x of -1", "[0 0 0 0 0 0 0 0] 2", all(impl.MendSpot(fullHoles(), -1, 1))},
		{"y of -1", "[0 0 0 0 0 0 0 0] 2", all(impl.MendSpot(fullHoles(), 0, -1))},
		{"x of 8", "[0 0 0 0 0 0 0 0] 2", all(impl.MendSpot(fullHoles(), 8, 0))},
		{"y of 8", "[0 0 0 0 0 0 0 0] 2", all(impl.MendSpot(fullHoles(), 0, 8))},
		{"the greatest x", "[0 0 0 0 0 0 0 0] 2", all(impl.MendSpot(fullHoles(), math.MaxInt64, 0))},
		// The last 32 bits of this number are 0.
		{"a y that is no int32", "[0 0 0 0 0 0 0 0] 2", all(impl.MendSpot(fullHoles(), 0, 1<<32))},
		{"range ahead of no hole", "[0 0 0 0 0 0 0 0] 2", all(impl.MendSpot(impl.Holes{}, 8, 0))},
	})
}

func TestP15BestMendCodes(t *testing.T) {
	two := holesOf("o.......", "........", "..o.....")
	checkRows(t, []row{
		{"the hole of which more would become", "1 3 0", all(impl.BestMend(two, 1, 1))},
		{"several, no weeks", "0 1 0", all(impl.BestMend(two, 1, 0))},
		{"several, nothing becomes more", "0 1 0", all(impl.BestMend(two, 2, 100))},
		{"several, all are holes at last", "0 64 0", all(impl.BestMend(two, 1, 100))},
		{"the larger one, no weeks", "1 1 0", all(impl.BestMend(holesOf("o.......", "..oo...."), 1, 0))},
		{"one in the middle of others, the first one of both", "1 7 0", all(impl.BestMend(holesOf("o", ".o", "..o", "...o", "", "", "", "oo"), 2, 5))},
		{"one spot", "0 0 0", all(impl.BestMend(fullHoles(), 4, 100))},
		{"no holes", "0 0 6", all(impl.BestMend(impl.Holes{}, 1, 1))},
		{"need 0", "0 0 2", all(impl.BestMend(two, 0, 1))},
		{"need 5", "0 0 2", all(impl.BestMend(two, 5, 1))},
		{"weeks of -1", "0 0 2", all(impl.BestMend(two, 1, -1))},
		{"one week too many", "0 0 2", all(impl.BestMend(two, 1, 101))},
		{"range ahead of no holes", "0 0 2", all(impl.BestMend(impl.Holes{}, 5, 1))},
		{"weeks ahead of no holes", "0 0 2", all(impl.BestMend(impl.Holes{}, 1, math.MaxInt64))},
	})
}

func TestP15Count(t *testing.T) {
	for n := range 64 {
		if count := impl.CountHoles(hole(n%8, n/8)); count != 1 {
			t.Errorf("the hole %d, %d counts %d", n%8, n/8, count)
		}
	}
	checkRows(t, []row{
		{"none", "0", all(impl.CountHoles(impl.Holes{}))},
		{"all", "64", all(impl.CountHoles(fullHoles()))},
		{"some", "32", all(impl.CountHoles(chessHoles()))},
	})
}

// TestP15Texts writes holes by hand, and reads them from their texts.
func TestP15Texts(t *testing.T) {
	for _, h := range holesPool() {
		want, g := "", gridOf(h)
		for _, line := range g[1:9] {
			for _, is := range line[1:9] {
				if is {
					want += "o"
				} else {
					want += "."
				}
			}
			want += "\n"
		}
		if text := impl.HolesText(h); text != want {
			t.Fatalf("%v is written %q, not %q", h, text, want)
		}
		if read, code := impl.ReadHoles(want); code != impl.OK || read != h {
			t.Fatalf("%q is read as %v, not %v, %d", want, read, h, code)
		}
	}
}

func TestP15TextsThatAreNone(t *testing.T) {
	good := impl.HolesText(hole(7, 7))
	none := []string{
		"", "\n", "o\n", ".", good[:71], good + "\n", good + ".", " " + good, good + good, good[9:], strings.Repeat("........\n", 7), strings.Repeat("........\n", 9),
		strings.Repeat(".", 72), strings.Repeat("o", 72), strings.Repeat("\n", 72), strings.Repeat("........\r\n", 8), strings.Repeat(".......\r\n", 8),
		strings.Repeat("........ ", 8), strings.Repeat("\n........", 8), strings.ReplaceAll(good, "o", "O"), strings.ReplaceAll(good, "o", "0"),
		strings.ReplaceAll(good, "o", "\x00"), strings.ReplaceAll(good, "o", "\xff"), strings.ReplaceAll(good, "o", "\u00f8"),
		strings.ReplaceAll(good, ".", " "), strings.Replace(good, ".", "x", 1), strings.Replace(good, "\n", ".", 1), strings.Replace(good, "o\n", "\no", 1),
	}
	for _, text := range none {
		if h, code := impl.ReadHoles(text); code != impl.ErrSyntax || h != (impl.Holes{}) {
			t.Errorf("%q is read as %v, %d", text, h, code)
		}
	}
}

// TestP15EachByteOfATextCounts exchanges each byte of a text by each other one: what is read is written the same.
func TestP15EachByteOfATextCounts(t *testing.T) {
	good := impl.HolesText(chessHoles())
	for at := range len(good) {
		for b := range 256 {
			text := good[:at] + string([]byte{byte(b)}) + good[at+1:]
			stitch := at%9 < 8 && (b == 'o' || b == '.')
			h, code := impl.ReadHoles(text)
			if (stitch || text == good) != (code == impl.OK) || code == impl.OK && impl.HolesText(h) != text {
				t.Fatalf("%q is read as %v, %d", text, h, code)
			}
		}
	}
}
