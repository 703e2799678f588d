package tests

import (
	"math"
	"slices"
	"testing"

	"loop.example/g01384/impl"
)

// ballByHand winds layer after layer: it returns the lengths of so many turns.
func ballByHand(turns, start, grow, layer int64) []int64 {
	var longs []int64
	for long := start; ; long += grow {
		for range layer {
			if int64(len(longs)) == turns {
				return longs
			}
			longs = append(longs, long)
		}
	}
}

func totalByTurns(longs []int64) int64 {
	total := int64(0)
	for _, long := range longs {
		total += long
	}
	return total
}

// TestP9TurnsAreAsLongAsTold: whole turns and what is left are the yarn, and no turn is left.
func TestP9TurnsAreAsLongAsTold(t *testing.T) {
	for long := int64(0); long <= impl.MaxYarn; long++ {
		if long > 1100 && long < impl.MaxYarn-1100 && long%997 != 0 {
			continue
		}
		for _, round := range []int64{1, 2, 3, 7, 150, 499, 500} {
			turns, left, code := impl.TurnsFor(long, round)
			if code != impl.OK || turns*round+left != long || left < 0 || left >= round || turns < 0 {
				t.Fatalf("%d by %d: %d turns, %d left, %d", long, round, turns, left, code)
			}
		}
	}
}

func TestP9TurnsCodes(t *testing.T) {
	checkRows(t, []row{
		{"the example", "6 100 0", all(impl.TurnsFor(1000, 150))},
		{"a length of 0", "0 0 0", all(impl.TurnsFor(0, 150))},
		{"less than one turn", "0 149 0", all(impl.TurnsFor(149, 150))},
		{"just one turn", "1 0 0", all(impl.TurnsFor(150, 150))},
		{"whole turns", "8 0 0", all(impl.TurnsFor(1200, 150))},
		{"the most turns", "100000 0 0", all(impl.TurnsFor(100000, 1))},
		{"the widest turns", "200 0 0", all(impl.TurnsFor(100000, 500))},
		{"long less than 0", "0 0 2", all(impl.TurnsFor(-1, 150))},
		{"too long", "0 0 2", all(impl.TurnsFor(100001, 150))},
		{"round 0", "0 0 2", all(impl.TurnsFor(0, 0))},
		{"round less than 0", "0 0 2", all(impl.TurnsFor(1, -1))},
		{"round too great", "0 0 2", all(impl.TurnsFor(1, 501))},
		{"the least numbers", "0 0 2", all(impl.TurnsFor(math.MinInt64, -1))},
	})
}

// TestP9Ties asks of each turn whether the skein has to be tied behind it.
func TestP9Ties(t *testing.T) {
	check := func(turns, each int64) {
		var want []int64
		for turn := int64(1); turn <= turns; turn++ {
			if turn%each == 0 || turn == turns {
				want = append(want, turn)
			}
		}
		got, code := impl.TiesFor(turns, each)
		if code != impl.OK || !slices.Equal(got, want) {
			t.Fatalf("%d turns, each %d: %v %d, not %v", turns, each, got, code, want)
		}
	}
	for turns := range int64(70) {
		for each := int64(1); each <= 75; each++ {
			check(turns, each)
		}
	}
	for _, each := range []int64{1, 2, 3, 250, 499, 500, 501, 999, 1000} {
		check(999, each)
		check(1000, each)
	}
}

func TestP9TiesCodes(t *testing.T) {
	most, code := impl.TiesFor(1000, 1)
	checkRows(t, []row{
		{"the example", "[3 6 7] 0", all(impl.TiesFor(7, 3))},
		{"a multiple is tied once", "[3 6] 0", all(impl.TiesFor(6, 3))},
		{"fewer turns than each", "[2] 0", all(impl.TiesFor(2, 3))},
		{"as many", "[3] 0", all(impl.TiesFor(3, 3))},
		{"no turns", "[] 0", all(impl.TiesFor(0, 3))},
		{"one turn", "[1] 0", all(impl.TiesFor(1, 1))},
		{"the most turns", "1000 0", all(len(most), code)},
		{"the greatest each", "[1000] 0", all(impl.TiesFor(1000, 1000))},
		{"turns less than 0", "[] 2", all(impl.TiesFor(-1, 3))},
		{"too many turns", "[] 2", all(impl.TiesFor(1001, 3))},
		{"each 0", "[] 2", all(impl.TiesFor(0, 0))},
		{"each less than 0", "[] 2", all(impl.TiesFor(7, -3))},
		{"each too great", "[] 2", all(impl.TiesFor(7, 1001))},
		{"the greatest numbers", "[] 2", all(impl.TiesFor(math.MaxInt64, math.MaxInt64))},
	})
}

// TestP9BallLength compares with all turns, layer after layer.
func TestP9BallLength(t *testing.T) {
	r := newRandom()
	for range 3000 {
		turns, start, grow, layer := r.Int63n(1001), 1+r.Int63n(500), r.Int63n(501), 1+r.Int63n(100)
		if r.Intn(4) == 0 {
			grow = 0
		}
		if r.Intn(4) == 0 {
			layer = []int64{1, 100}[r.Intn(2)]
		}
		want := totalByTurns(ballByHand(turns, start, grow, layer))
		if got, code := impl.BallLength(turns, start, grow, layer); code != impl.OK || got != want {
			t.Fatalf("%d turns of %d, %d, %d: %d %d, not %d", turns, start, grow, layer, got, code, want)
		}
	}
}

// TestP9BallTurns: the turns of a ball and what is left are the yarn, and this is less than one turn more.
func TestP9BallTurns(t *testing.T) {
	r := newRandom()
	for range 3000 {
		most := []int64{30, 3000, 100000}[r.Intn(3)]
		long, start, grow, layer := r.Int63n(most+1), 1+r.Int63n(500), r.Int63n(501), 1+r.Int63n(100)
		if r.Intn(3) == 0 {
			start, grow = 1+r.Int63n(9), r.Int63n(3)
		}
		turns, left, code := impl.BallTurns(long, start, grow, layer)
		if code != impl.OK || turns < 0 || turns > long || left < 0 {
			t.Fatalf("%d of %d, %d, %d: %d %d %d", long, start, grow, layer, turns, left, code)
		}
		longs := ballByHand(turns+1, start, grow, layer)
		if totalByTurns(longs[:turns])+left != long || left >= longs[turns] {
			t.Fatalf("%d of %d, %d, %d: %d turns and %d left are not as long", long, start, grow, layer, turns, left)
		}
	}
}

// TestP9BallsAgain: yarn as long as some turns makes these turns again, and with a little less one turn fewer.
func TestP9BallsAgain(t *testing.T) {
	for _, start := range []int64{1, 2, 10, 500} {
		for _, grow := range []int64{0, 1, 2, 500} {
			for _, layer := range []int64{1, 2, 3, 99, 100} {
				for turns := int64(1); turns <= 205; turns++ {
					long, code := impl.BallLength(turns, start, grow, layer)
					if long > impl.MaxYarn {
						break
					}
					again, left, code2 := impl.BallTurns(long, start, grow, layer)
					fewer, most, code3 := impl.BallTurns(long-1, start, grow, layer)
					last := start + (turns-1)/layer*grow
					if code+code2+code3 != impl.OK || again != turns || left != 0 || fewer != turns-1 || most != last-1 {
						t.Fatalf("%d turns of %d, %d, %d: %d long, %d %d, %d %d", turns, start, grow, layer, long, again, left, fewer, most)
					}
				}
			}
		}
	}
}

func TestP9BallTurnsCodes(t *testing.T) {
	checkRows(t, []row{
		{"the example", "8 6 0", all(impl.BallTurns(100, 10, 2, 3))},
		{"a length of 0", "0 0 0", all(impl.BallTurns(0, 10, 2, 3))},
		{"less than one turn", "0 9 0", all(impl.BallTurns(9, 10, 2, 3))},
		{"just one turn", "1 0 0", all(impl.BallTurns(10, 10, 2, 3))},
		{"one layer", "3 0 0", all(impl.BallTurns(30, 10, 2, 3))},
		{"less than a turn of the next layer", "3 11 0", all(impl.BallTurns(41, 10, 2, 3))},
		{"a turn of the next layer", "4 0 0", all(impl.BallTurns(42, 10, 2, 3))},
		{"that does not grow", "10 5 0", all(impl.BallTurns(105, 10, 0, 3))},
		{"layers of 1", "4 8 0", all(impl.BallTurns(60, 10, 2, 1))},
		{"layers of 100", "100 11 0", all(impl.BallTurns(1011, 10, 2, 100))},
		{"more than 1000 turns", "100000 0 0", all(impl.BallTurns(100000, 1, 0, 1))},
		{"that grows most", "19 5000 0", all(impl.BallTurns(100000, 500, 500, 1))},
		{"long less than 0", "0 0 2", all(impl.BallTurns(-1, 10, 2, 3))},
		{"too long", "0 0 2", all(impl.BallTurns(100001, 10, 2, 3))},
		{"start 0", "0 0 2", all(impl.BallTurns(100, 0, 2, 3))},
		{"start too great", "0 0 2", all(impl.BallTurns(100, 501, 2, 3))},
		{"grow less than 0", "0 0 2", all(impl.BallTurns(100, 10, -1, 3))},
		{"grow too great", "0 0 2", all(impl.BallTurns(100, 10, 501, 3))},
		{"layer 0", "0 0 2", all(impl.BallTurns(100, 10, 2, 0))},
		{"layer less than 0", "0 0 2", all(impl.BallTurns(100, 10, 2, -1))},
		{"layer too great", "0 0 2", all(impl.BallTurns(100, 10, 2, 101))},
	})
}

func TestP9BallLengthCodes(t *testing.T) {
	checkRows(t, []row{
		{"the example", "94 0", all(impl.BallLength(8, 10, 2, 3))},
		{"no turns", "0 0", all(impl.BallLength(0, 10, 2, 3))},
		{"one turn", "10 0", all(impl.BallLength(1, 10, 2, 3))},
		{"that does not grow", "80 0", all(impl.BallLength(8, 10, 0, 3))},
		{"layers of 1", "52 0", all(impl.BallLength(4, 10, 2, 1))},
		{"layers of 100", "1012 0", all(impl.BallLength(101, 10, 2, 100))},
		{"longer than yarn may be", "250250000 0", all(impl.BallLength(1000, 500, 500, 1))},
		{"the shortest one", "1000 0", all(impl.BallLength(1000, 1, 0, 100))},
		{"turns less than 0", "0 2", all(impl.BallLength(-1, 10, 2, 3))},
		{"too many turns", "0 2", all(impl.BallLength(1001, 10, 2, 3))},
		{"start 0", "0 2", all(impl.BallLength(0, 0, 2, 3))},
		{"start too great", "0 2", all(impl.BallLength(0, 501, 2, 3))},
		{"grow less than 0", "0 2", all(impl.BallLength(0, 10, -1, 3))},
		{"grow too great", "0 2", all(impl.BallLength(0, 10, 501, 3))},
		{"layer 0", "0 2", all(impl.BallLength(0, 10, 2, 0))},
		{"layer too great", "0 2", all(impl.BallLength(0, 10, 2, 101))},
		{"the greatest numbers", "0 2", all(impl.BallLength(math.MaxInt64, math.MaxInt64, math.MaxInt64, math.MaxInt64))},
	})
}
