package tests

import (
	"math"
	"math/big"
	"math/rand"
	"slices"
	"strconv"
	"strings"
	"testing"

	"loop.example/g01384/impl"
)

func move(from, to int8, grams int16) impl.Move {
	return impl.Move{From: from, To: to, Grams: grams}
}

// ways are all pairs of places between which wool may be moved.
func ways() [][2]int8 {
	return [][2]int8{{0, 1}, {0, 3}, {1, 2}, {1, 3}, {1, 4}, {2, 3}, {2, 4}}
}

func isWay(from, to int64) bool {
	for _, w := range ways() {
		if int64(w[0]) == from && int64(w[1]) == to {
			return true
		}
	}
	return false
}

func randomMoves(r *rand.Rand, count int, most int64) []impl.Move {
	var list []impl.Move
	for range count {
		w := ways()[r.Intn(7)]
		list = append(list, move(w[0], w[1], int16(1+r.Int63n(most))))
	}
	return list
}

func randomPlaces(r *rand.Rand, most int32) impl.Places {
	var p impl.Places
	for i := range p {
		p[i] = r.Int31n(most + 1)
	}
	return p
}

// walkByHand keeps for each place all numbers of grams that it has, from the start on, without any limit.
func walkByHand(start impl.Places, list []impl.Move) [5][]int64 {
	var walk [5][]int64
	for place, grams := range start {
		walk[place] = []int64{int64(grams)}
	}
	for i, m := range list {
		for place := range walk {
			grams := walk[place][i]
			if place == int(m.From) {
				grams -= int64(m.Grams)
			}
			if place == int(m.To) {
				grams += int64(m.Grams)
			}
			walk[place] = append(walk[place], grams)
		}
	}
	return walk
}

// wrongByHand returns the index of the first move behind which a place has less or more than it may, or -1.
func wrongByHand(walk [5][]int64) int64 {
	for i := 1; i < len(walk[0]); i++ {
		for place := range walk {
			if walk[place][i] < 0 || walk[place][i] > 1000000 {
				return int64(i - 1)
			}
		}
	}
	return -1
}

func placesIn(walk [5][]int64, at int) impl.Places {
	var p impl.Places
	for place := range walk {
		p[place] = int32(walk[place][at])
	}
	return p
}

func gramsAt(p impl.Places) int64 {
	sum := int64(0)
	for _, grams := range p {
		sum += int64(grams)
	}
	return sum
}

func TestP17MayMove(t *testing.T) {
	numbers := []int64{-1, 0, 1, 2, 3, 4, 5, math.MinInt64, math.MaxInt64, 1 << 32, 1<<32 + 1, 1<<8 + 1, 1<<8 + 3}
	for _, from := range numbers {
		for _, to := range numbers {
			if may := impl.MayMove(from, to); may != isWay(from, to) {
				t.Errorf("from %d to %d: %v", from, to, may)
			}
		}
	}
}

func TestP17ValidMoves(t *testing.T) {
	good := move(0, 1, 80)
	for from := int8(-1); from <= 5; from++ {
		for to := int8(-1); to <= 5; to++ {
			for _, grams := range []int16{math.MinInt16, -1, 0, 1, 2, 4999, 5000, 5001, math.MaxInt16} {
				m := move(from, to, grams)
				want := isWay(int64(from), int64(to)) && grams >= 1 && grams <= 5000
				if impl.ValidMoves([]impl.Move{m}) != want || impl.ValidMoves([]impl.Move{good, m}) != want || impl.ValidMoves([]impl.Move{m, good}) != want {
					t.Errorf("%v is valid: %v", m, !want)
				}
			}
		}
	}
	sixty := slices.Repeat([]impl.Move{good}, 60)
	checkRows(t, []row{
		{"none", "true true", all(impl.ValidMoves(nil), impl.ValidMoves([]impl.Move{}))},
		{"the most", "true", all(impl.ValidMoves(sixty))},
		{"one more", "false", all(impl.ValidMoves(append(sixty, good)))},
		{"the least numbers", "false", all(impl.ValidMoves([]impl.Move{move(math.MinInt8, math.MinInt8, 1)}))},
		{"the greatest numbers", "false", all(impl.ValidMoves([]impl.Move{move(math.MaxInt8, math.MaxInt8, 1)}))},
	})
}

// TestP17MovedWoolSumsUp: behind each move all places have together what they had before.
func TestP17MovedWoolSumsUp(t *testing.T) {
	r := newRandom()
	made := 0
	for range 20000 {
		most := []int64{1, 9, 300, 5000}[r.Intn(4)]
		list := randomMoves(r, r.Intn(61), most)
		start := randomPlaces(r, int32([]int64{5 * most, 40 * most, 1000000}[r.Intn(3)]))
		checkMoves(t, start, list, &made)
	}
	if made < 4000 || made > 16000 {
		t.Errorf("all moves can be made %d times: the inputs say little", made)
	}
}

func checkMoves(t *testing.T, start impl.Places, list []impl.Move, made *int) {
	t.Helper()
	walk := walkByHand(start, list)
	wrong := wrongByHand(walk)
	end, code := impl.MakeMoves(start, list)
	at, code2 := impl.PlacesAt(start, list)
	index, code3 := impl.FirstWrong(start, list)
	if wrong >= 0 {
		if code != impl.ErrState || code2 != impl.ErrState || code3 != impl.OK || index != wrong || end != (impl.Places{}) || len(at) != 0 {
			t.Fatalf("%v with %v: %v %d, %v %d, %d %d, but %d is wrong", start, list, end, code, at, code2, index, code3, wrong)
		}
		return
	}
	*made++
	if code != impl.OK || code2 != impl.OK || code3 != impl.ErrNotFound || index != 0 || end != placesIn(walk, len(list)) || len(at) != len(list) {
		t.Fatalf("%v with %v: %v %d, %v %d, %d %d, but none is wrong", start, list, end, code, at, code2, index, code3)
	}
	for i, p := range at {
		if p != placesIn(walk, i+1) || gramsAt(p) != gramsAt(start) {
			t.Fatalf("%v with %v: %v behind the move %d", start, list, p, i)
		}
	}
	net, code := impl.NetMoves(list)
	for place := range net {
		if code != impl.OK || end[place]-start[place] != net[place] {
			t.Fatalf("%v with %v becomes %v, but %v more, %d", start, list, end, net, code)
		}
	}
}

func TestP17MakeMovesCodes(t *testing.T) {
	moves := []impl.Move{move(0, 1, 80), move(0, 3, 10)}
	first := []impl.Move{move(1, 4, 1), move(0, 1, 1)}
	last := []impl.Move{move(0, 1, 1), move(1, 4, 1)}
	sixty := slices.Repeat([]impl.Move{move(0, 1, 5000)}, 60)
	back := append(slices.Repeat([]impl.Move{move(0, 1, 1)}, 59), move(1, 2, 60))
	type wanted struct {
		name  string
		start impl.Places
		list  []impl.Move
		end   string
		wrong string
	}
	tries := []wanted{
		{"the example", impl.Places{100}, moves, "[10 80 0 10 0] 0", "0 6"},
		{"just enough", impl.Places{90}, moves, "[0 80 0 10 0] 0", "0 6"},
		{"one gram too little, at the last move", impl.Places{89}, moves, "[0 0 0 0 0] 4", "1 0"},
		{"just enough for the first move", impl.Places{80}, moves, "[0 0 0 0 0] 4", "1 0"},
		{"one gram too little, at the first move", impl.Places{79}, moves, "[0 0 0 0 0] 4", "0 0"},
		{"nothing", impl.Places{}, moves, "[0 0 0 0 0] 4", "0 0"},
		{"no moves", impl.Places{1, 2, 3, 4, 5}, nil, "[1 2 3 4 5] 0", "0 6"},
		{"just 1000000, at the first move", impl.Places{1, 1, 0, 0, 999999}, first, "[0 1 0 0 1000000] 0", "0 6"},
		{"one more, at the first move", impl.Places{1, 1, 0, 0, 1000000}, first, "[0 0 0 0 0] 4", "0 0"},
		{"just 1000000, at the last move", impl.Places{1, 0, 0, 0, 999999}, last, "[0 0 0 0 1000000] 0", "0 6"},
		{"one more, at the last move", impl.Places{1, 0, 0, 0, 1000000}, last, "[0 0 0 0 0] 4", "1 0"},
		{"just 1000000 between", impl.Places{1, 999999, 0, 0, 0}, last, "[0 999999 0 0 1] 0", "0 6"},
		{"one more between", impl.Places{1, 1000000, 0, 0, 0}, last, "[0 0 0 0 0] 4", "0 0"},
		{"too little ahead of enough", impl.Places{1}, first, "[0 0 0 0 0] 4", "0 0"},
		{"the most moves", impl.Places{300000, 700000}, sixty, "[0 1000000 0 0 0] 0", "0 6"},
		{"the most moves, one gram too little", impl.Places{299999, 700000}, sixty, "[0 0 0 0 0] 4", "59 0"},
		{"the most moves, one gram too much", impl.Places{300000, 700001}, sixty, "[0 0 0 0 0] 4", "59 0"},
		{"the most moves, the last one with just enough", impl.Places{59, 1}, back, "[0 0 60 0 0] 0", "0 6"},
		{"the most moves, the last one with too little", impl.Places{59}, back, "[0 0 0 0 0] 4", "59 0"},
		{"one move too many", impl.Places{1000000}, append(slices.Clone(sixty), moves[0]), "[0 0 0 0 0] 1", "0 1"},
		{"a place of -1", impl.Places{100, -1}, moves, "[0 0 0 0 0] 1", "0 1"},
		{"a place of -1 that would get more", impl.Places{100, -1, 0, 0, 0}, moves[:1], "[0 0 0 0 0] 1", "0 1"},
		{"a place of 1000001", impl.Places{100, 0, 0, 0, 1000001}, moves, "[0 0 0 0 0] 1", "0 1"},
		{"a place of 1000001 that would get less", impl.Places{1000001}, moves, "[0 0 0 0 0] 1", "0 1"},
		{"a place of 1000001, no moves", impl.Places{1000001}, nil, "[0 0 0 0 0] 1", "0 1"},
		{"places of 0 and 1000000, no moves", impl.Places{0, 1000000}, nil, "[0 1000000 0 0 0] 0", "0 6"},
		{"the least place", impl.Places{math.MinInt32}, moves, "[0 0 0 0 0] 1", "0 1"},
		{"the greatest place", impl.Places{100, math.MaxInt32}, moves, "[0 0 0 0 0] 1", "0 1"},
		{"a move that is none", impl.Places{100}, []impl.Move{{}}, "[0 0 0 0 0] 1", "0 1"},
		{"a move that is none behind one that cannot be", impl.Places{}, []impl.Move{moves[0], move(3, 0, 1)}, "[0 0 0 0 0] 1", "0 1"},
	}
	for _, w := range tries {
		end, code := impl.MakeMoves(w.start, w.list)
		at, code2 := impl.PlacesAt(w.start, w.list)
		wrong, code3 := impl.FirstWrong(w.start, w.list)
		checkRows(t, []row{{w.name, w.end, all(end, code)}, {w.name, w.wrong, all(wrong, code3)}})
		if code2 != code || code != impl.OK && len(at) != 0 || code == impl.OK && len(at) != len(w.list) {
			t.Errorf("%s: %v %d", w.name, at, code2)
		}
		if code == impl.OK && len(at) > 0 && at[len(at)-1] != end {
			t.Errorf("%s: %v behind all moves, not %v", w.name, at[len(at)-1], end)
		}
	}
	checkRows(t, []row{
		{"the example, places", "[[20 80 0 0 0] [10 80 0 10 0]] 0", all(impl.PlacesAt(impl.Places{100}, moves))},
		{"places behind no moves", "[] 0", all(impl.PlacesAt(impl.Places{100}, nil))},
	})
}

// TestP17LeastStart: with one gram less at a place the moves cannot be made.
func TestP17LeastStart(t *testing.T) {
	r := newRandom()
	for range 5000 {
		list := randomMoves(r, r.Intn(61), []int64{1, 9, 5000}[r.Intn(3)])
		var want impl.Places
		for place, grams := range walkByHand(impl.Places{}, list) {
			want[place] = int32(-min(0, slices.Min(grams)))
		}
		least, code := impl.LeastStart(list)
		if code != impl.OK || least != want {
			t.Fatalf("%v begin with %v, not %v, %d", list, least, want, code)
		}
		if _, code := impl.MakeMoves(least, list); code != impl.OK {
			t.Fatalf("%v cannot be made with %v, %d", list, least, code)
		}
		for place := range least {
			less := least
			less[place]--
			if _, code := impl.FirstWrong(less, list); least[place] > 0 && code != impl.OK {
				t.Fatalf("%v can be made with %v, too", list, less)
			}
		}
	}
	sixty := slices.Repeat([]impl.Move{move(0, 1, 5000)}, 60)
	checkRows(t, []row{
		{"the example", "[90 0 0 0 0] 0", all(impl.LeastStart([]impl.Move{move(0, 1, 80), move(0, 3, 10)}))},
		{"what has been brought is taken on", "[80 0 0 0 0] 0", all(impl.LeastStart([]impl.Move{move(0, 1, 80), move(1, 4, 80)}))},
		{"what comes later does not help", "[80 80 0 0 0] 0", all(impl.LeastStart([]impl.Move{move(1, 4, 80), move(0, 1, 80)}))},
		{"one gram more than has been brought", "[80 1 0 0 0] 0", all(impl.LeastStart([]impl.Move{move(0, 1, 80), move(1, 4, 81)}))},
		{"no moves", "[0 0 0 0 0] 0", all(impl.LeastStart(nil))},
		{"the most", "[300000 0 0 0 0] 0", all(impl.LeastStart(sixty))},
		{"too many moves", "[0 0 0 0 0] 1", all(impl.LeastStart(append(sixty, sixty[0])))},
		{"a move that is none", "[0 0 0 0 0] 1", all(impl.LeastStart([]impl.Move{move(0, 0, 1)}))},
	})
}

// TestP17NetMoves: what all places get and give sums up to 0.
func TestP17NetMoves(t *testing.T) {
	r := newRandom()
	for range 5000 {
		list := randomMoves(r, r.Intn(61), []int64{1, 9, 5000}[r.Intn(3)])
		want := placesIn(walkByHand(impl.Places{}, list), len(list))
		net, code := impl.NetMoves(list)
		if code != impl.OK || net != want || gramsAt(net) != 0 {
			t.Fatalf("%v bring %v, not %v, %d", list, net, want, code)
		}
	}
	sixty := slices.Repeat([]impl.Move{move(2, 4, 5000)}, 60)
	checkRows(t, []row{
		{"the example", "[-90 80 0 10 0] 0", all(impl.NetMoves([]impl.Move{move(0, 1, 80), move(0, 3, 10)}))},
		{"no moves", "[0 0 0 0 0] 0", all(impl.NetMoves(nil))},
		{"the most", "[0 0 -300000 0 300000] 0", all(impl.NetMoves(sixty))},
		{"too many moves", "[0 0 0 0 0] 1", all(impl.NetMoves(append(sixty, sixty[0])))},
		{"a move that is none", "[0 0 0 0 0] 1", all(impl.NetMoves([]impl.Move{move(0, 1, 5001)}))},
	})
}

func TestP17UndoMove(t *testing.T) {
	r := newRandom()
	for range 2000 {
		list := randomMoves(r, r.Intn(61), 5000)
		for at := range list {
			want := slices.Delete(slices.Clone(list), at, at+1)
			if less, code := impl.UndoMove(list, int64(at)); code != impl.OK || !slices.Equal(less, want) {
				t.Fatalf("%v without %d: %v, %d", list, at, less, code)
			}
		}
		for _, at := range []int64{-1, int64(len(list)), math.MinInt64, math.MaxInt64, 1 << 32} {
			if less, code := impl.UndoMove(list, at); code != impl.ErrRange || len(less) != 0 {
				t.Fatalf("%v without %d: %v, %d", list, at, less, code)
			}
		}
	}
	moves := []impl.Move{move(0, 1, 80), move(0, 3, 10)}
	checkRows(t, []row{
		{"the first one", "[{0 3 10}] 0", all(impl.UndoMove(moves, 0))},
		{"the last one", "[{0 1 80}] 0", all(impl.UndoMove(moves, 1))},
		{"the number of moves", "[] 2", all(impl.UndoMove(moves, 2))},
		{"-1", "[] 2", all(impl.UndoMove(moves, -1))},
		{"the only one", "[] 0", all(impl.UndoMove(moves[:1], 0))},
		{"of no moves", "[] 2", all(impl.UndoMove(nil, 0))},
		{"one by which another one cannot be made any more", "[{1 4 1}] 0", all(impl.UndoMove([]impl.Move{move(0, 1, 1), move(1, 4, 1)}, 0))},
		{"a move that is none", "[] 1", all(impl.UndoMove([]impl.Move{move(0, 1, 0)}, 0))},
		{"invalid ahead of range", "[] 1", all(impl.UndoMove([]impl.Move{move(3, 0, 1)}, 1))},
		{"too many moves", "[] 1", all(impl.UndoMove(slices.Repeat(moves, 31), 0))},
	})
}

// TestP17MergedMovesSumUp: merged moves bring what all moves bring, and come ordered, each way once.
func TestP17MergedMovesSumUp(t *testing.T) {
	r := newRandom()
	merges := 0
	for range 10000 {
		list := randomMoves(r, r.Intn(61), []int64{1, 100, 500, 5000}[r.Intn(4)])
		var want []impl.Move
		most := int64(0)
		for _, w := range ways() {
			sum := int64(0)
			for _, m := range list {
				if m.From == w[0] && m.To == w[1] {
					sum += int64(m.Grams)
				}
			}
			most = max(most, sum)
			if sum > 0 {
				want = append(want, move(w[0], w[1], int16(sum)))
			}
		}
		merged, code := impl.MergeMoves(list)
		if most > 5000 {
			if code != impl.ErrLimit || len(merged) != 0 {
				t.Fatalf("%v become %v, %d", list, merged, code)
			}
			continue
		}
		merges++
		net, _ := impl.NetMoves(list)
		again, _ := impl.NetMoves(merged)
		if code != impl.OK || !slices.Equal(merged, want) || net != again {
			t.Fatalf("%v become %v, not %v, %d", list, merged, want, code)
		}
	}
	if merges < 2000 || merges > 8000 {
		t.Errorf("%d lists are merged: the inputs say little", merges)
	}
}

func TestP17MergeCodes(t *testing.T) {
	one := []impl.Move{move(0, 1, 1)}
	mixed := []impl.Move{move(2, 4, 1), move(1, 3, 2), move(0, 3, 3), move(2, 3, 4), move(1, 2, 5), move(1, 4, 6), move(0, 1, 7), move(2, 4, 8)}
	checkRows(t, []row{
		{"all ways", "[{0 1 7} {0 3 3} {1 2 5} {1 3 2} {1 4 6} {2 3 4} {2 4 9}] 0", all(impl.MergeMoves(mixed))},
		{"just MaxLot", "[{0 1 5000}] 0", all(impl.MergeMoves([]impl.Move{move(0, 1, 4999), move(0, 1, 1)}))},
		{"one gram more", "[] 3", all(impl.MergeMoves([]impl.Move{move(0, 1, 5000), move(0, 1, 1)}))},
		{"one gram more, behind others", "[] 3", all(impl.MergeMoves(append(mixed, move(2, 4, 4992))))},
		{"just MaxLot behind others", "[{0 1 7} {0 3 3} {1 2 5} {1 3 2} {1 4 6} {2 3 4} {2 4 5000}] 0", all(impl.MergeMoves(append(mixed, move(2, 4, 4991))))},
		{"MaxLot of two ways", "[{0 1 5000} {0 3 5000}] 0", all(impl.MergeMoves([]impl.Move{move(0, 3, 5000), move(0, 1, 5000)}))},
		// In 16 bits 14 times 5000 is 4464.
		{"more than 16 bits", "[] 3", all(impl.MergeMoves(slices.Repeat([]impl.Move{move(1, 4, 5000)}, 14)))},
		{"the most moves", "[{0 1 60}] 0", all(impl.MergeMoves(slices.Repeat(one, 60)))},
		{"one more", "[] 1", all(impl.MergeMoves(slices.Repeat(one, 61)))},
		{"no moves", "[] 0", all(impl.MergeMoves(nil))},
		{"one move", "[{0 1 1}] 0", all(impl.MergeMoves(one))},
		{"a move that is none", "[] 1", all(impl.MergeMoves([]impl.Move{move(1, 0, 1)}))},
		{"invalid ahead of limit", "[] 1", all(impl.MergeMoves([]impl.Move{move(0, 1, 5000), move(0, 1, 1), {}}))},
	})
}

// sharesOfCents divides big numbers, and gives what is left one by one to the greatest rest that has got nothing yet.
func sharesOfCents(cents int64, grams []int64) []int64 {
	whole := int64(0)
	for _, n := range grams {
		whole += n
	}
	shares, rests := make([]int64, len(grams)), make([]int64, len(grams))
	left := cents
	for i, n := range grams {
		share, rest := new(big.Int).DivMod(new(big.Int).Mul(big.NewInt(cents), big.NewInt(n)), big.NewInt(whole), new(big.Int))
		shares[i], rests[i] = share.Int64(), rest.Int64()
		left -= shares[i]
	}
	for range left {
		greatest := 0
		for i, rest := range rests {
			if rest > rests[greatest] {
				greatest = i
			}
		}
		shares[greatest]++
		rests[greatest] = -1
	}
	return shares
}

// TestP17SharedCentsSumUp: all shares are together the cents.
func TestP17SharedCentsSumUp(t *testing.T) {
	r := newRandom()
	for range 20000 {
		most := []int64{1, 3, 50, 5000}[r.Intn(4)]
		grams := make([]int64, 1+r.Intn(60))
		for i := range grams {
			grams[i] = r.Int63n(most + 1)
		}
		grams[r.Intn(len(grams))] = most
		cents := r.Int63n([]int64{10, 100, 1000001}[r.Intn(3)])
		shares, code := impl.ShareCents(cents, grams)
		if code != impl.OK || !slices.Equal(shares, sharesOfCents(cents, grams)) {
			t.Fatalf("%d by %v: %v, not %v, %d", cents, grams, shares, sharesOfCents(cents, grams), code)
		}
		sum := int64(0)
		for i, share := range shares {
			sum += share
			if share < 0 || share > 0 && grams[i] == 0 {
				t.Fatalf("%d by %v: %d for %d grams", cents, grams, share, grams[i])
			}
		}
		if sum != cents {
			t.Fatalf("%d by %v sum up to %d", cents, grams, sum)
		}
	}
}

func TestP17ShareCodes(t *testing.T) {
	ones, most := slices.Repeat([]int64{1}, 61), slices.Repeat([]int64{5000}, 60)
	checkRows(t, []row{
		{"the example", "[4 3 3] 0", all(impl.ShareCents(10, []int64{1, 1, 1}))},
		{"equal rests", "[1 1 0] 0", all(impl.ShareCents(2, []int64{1, 1, 1}))},
		{"equal rests behind a greater one", "[2 2 2 3] 0", all(impl.ShareCents(9, []int64{2, 2, 2, 3}))},
		{"equal rests, of which one gets a cent", "[1 0 0 1] 0", all(impl.ShareCents(2, []int64{2, 2, 2, 3}))},
		{"the greatest rest is the last one", "[0 0 1] 0", all(impl.ShareCents(1, []int64{1, 1, 2}))},
		{"the greatest rest is not the greatest number", "[1 4] 0", all(impl.ShareCents(5, []int64{2, 7}))},
		{"nothing is left", "[2 4 6] 0", all(impl.ShareCents(12, []int64{1, 2, 3}))},
		{"one without grams", "[0 1 0] 0", all(impl.ShareCents(1, []int64{0, 1, 0}))},
		{"one without grams, and cents that are left", "[0 1 0 0] 0", all(impl.ShareCents(1, []int64{0, 1, 1, 0}))},
		{"no cents", "[0 0] 0", all(impl.ShareCents(0, []int64{1, 5000}))},
		{"the most cents", "[1000000] 0", all(impl.ShareCents(1000000, []int64{5000}))},
		{"the most cents by two", "[200 999800] 0", all(impl.ShareCents(1000000, []int64{1, 5000}))},
		{"cents of -1", "[] 2", all(impl.ShareCents(-1, []int64{1}))},
		{"cents of one more", "[] 2", all(impl.ShareCents(1000001, []int64{1}))},
		{"the least cents", "[] 2", all(impl.ShareCents(math.MinInt64, []int64{1}))},
		{"the greatest cents", "[] 2", all(impl.ShareCents(math.MaxInt64, []int64{1}))},
		{"grams of -1", "[] 2", all(impl.ShareCents(1, []int64{1, -1}))},
		{"grams of one more", "[] 2", all(impl.ShareCents(1, []int64{5001, 1}))},
		{"the greatest grams", "[] 2", all(impl.ShareCents(1, []int64{1, math.MaxInt64}))},
		{"too many numbers", "[] 3", all(impl.ShareCents(1, ones))},
		{"too many numbers that are all 0", "[] 3", all(impl.ShareCents(1, make([]int64, 61)))},
		{"range ahead of limit", "[] 2", all(impl.ShareCents(-1, ones))},
		{"range of grams ahead of limit", "[] 2", all(impl.ShareCents(1, append(slices.Clone(ones), -1)))},
		{"no numbers", "[] 6", all(impl.ShareCents(1, nil))},
		{"no numbers, no cents", "[] 6", all(impl.ShareCents(0, nil))},
		{"all are 0", "[] 6", all(impl.ShareCents(1, []int64{0, 0, 0}))},
		{"as many as may be, all 0", "[] 6", all(impl.ShareCents(0, make([]int64, 60)))},
		{"range ahead of not found", "[] 2", all(impl.ShareCents(1000001, nil))},
	})
	for _, grams := range [][]int64{ones[:60], most} {
		shares, code := impl.ShareCents(1000000, grams)
		// 60 times 16666 leaves 40 cents, for the first 40.
		if code != impl.OK || !slices.Equal(shares, slices.Concat(slices.Repeat([]int64{16667}, 40), slices.Repeat([]int64{16666}, 20))) {
			t.Errorf("the most cents by 60: %v, %d", shares, code)
		}
	}
}

func movesByHand(list []impl.Move) string {
	text := ""
	for i, m := range list {
		if i > 0 {
			text += " "
		}
		text += strconv.Itoa(int(m.From)) + ">" + strconv.Itoa(int(m.To)) + ":" + strconv.Itoa(int(m.Grams))
	}
	return text
}

func TestP17Texts(t *testing.T) {
	r := newRandom()
	for range 3000 {
		list := randomMoves(r, r.Intn(61), []int64{9, 100, 5000}[r.Intn(3)])
		text := impl.MovesText(list)
		if text != movesByHand(list) {
			t.Fatalf("%v are written %q", list, text)
		}
		if read, code := impl.ReadMoves(text); code != impl.OK || !slices.Equal(read, list) {
			t.Fatalf("%q is read as %v, %d", text, read, code)
		}
	}
	sixty := slices.Repeat([]impl.Move{move(2, 4, 5000)}, 60)
	checkRows(t, []row{
		{"the example", "0>1:80 0>3:10", all(impl.MovesText([]impl.Move{move(0, 1, 80), move(0, 3, 10)}))},
		{"no moves", "", all(impl.MovesText(nil))},
		{"no moves, read", "[] 0", all(impl.ReadMoves(""))},
		{"a move that is none", "", all(impl.MovesText([]impl.Move{move(0, 1, 80), move(0, 3, 0)}))},
		{"too many moves", "", all(impl.MovesText(append(sixty, sixty[0])))},
		{"one move, read", "[{1 2 5000}] 0", all(impl.ReadMoves("1>2:5000"))},
		{"two moves, read", "[{0 1 80} {0 3 10}] 0", all(impl.ReadMoves("0>1:80 0>3:10"))},
	})
}

func TestP17TextsThatAreNone(t *testing.T) {
	one := "0>1:80"
	sixty := strings.TrimSuffix(strings.Repeat(one+" ", 60), " ")
	if list, code := impl.ReadMoves(sixty); code != impl.OK || len(list) != 60 {
		t.Errorf("60 moves are read as %d, %d", len(list), code)
	}
	none := []string{
		" ", "x", ">", ":", ">:", "0", "0>1", "0:1", "0>1:", ">1:80", "0>:80", "0:1>80", "0>1>80", "0>1:80:1", "0>1>2:80", "0-1:80", "80",
		" " + one, one + " ", one + "  " + one, one + "\t" + one, one + "\n", one + "\n" + one, one + "," + one, one + one, one + " x", "x " + one,
		"+0>1:80", "0>+1:80", "0>1:+80", "-0>1:80", "0>-1:80", "0>1:-80", "-1>1:80", "00>1:80", "0>01:80", "0>1:080", "0>1:0", "0>1:00",
		"0>1:5001", "0>1:65616", "0>1:32768", "0>1:4294967376", "256>1:80", "0>257:80", "0>1:99999999999999999999", "0>1:8_0", "0>1:0x8", "0>1:8.0",
		"0>0:80", "1>0:80", "0>2:80", "0>4:80", "0>5:80", "3>0:80", "4>3:80", "5>0:80", "2>1:80", "0 >1:80", "0> 1:80", "0>1 :80", "0>1: 80",
		"\uff10>1:80", "0>1:80\x00", "\xff", "0>1:80\xff", "0>1:80\u00a00>1:80", sixty + " " + one, sixty + " ", sixty + " x",
	}
	for _, text := range none {
		if list, code := impl.ReadMoves(text); code != impl.ErrSyntax || len(list) != 0 {
			t.Errorf("%q is read as %v, %d", text, list, code)
		}
	}
}

// TestP17EachByteOfATextCounts exchanges each byte of a text by each other one: what is read is written the same.
func TestP17EachByteOfATextCounts(t *testing.T) {
	good := "0>1:80 1>2:4999 2>4:1"
	for at := range len(good) {
		for b := range 256 {
			text := good[:at] + string([]byte{byte(b)}) + good[at+1:]
			list, code := impl.ReadMoves(text)
			if code == impl.OK && movesByHand(list) != text || code != impl.OK && (code != impl.ErrSyntax || text == good) {
				t.Fatalf("%q is read as %v, %d", text, list, code)
			}
		}
	}
}
