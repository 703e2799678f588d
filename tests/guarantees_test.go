package tests

import (
	"math/big"
	"math/rand"
	"slices"
	"testing"

	"loop.example/g01384/impl"
)

// mustBeOK stops a test if a code is another one than OK.
func mustBeOK(t *testing.T, name string, code int64) {
	t.Helper()
	if code != impl.OK {
		t.Fatalf("%s: %s", name, impl.CodeName(code))
	}
}

// spunFrom spins heaps, and looks whether the yarns have the grams of their heaps.
func spunFrom(t *testing.T, heaps []impl.Heap, rate int64) []impl.Yarn {
	t.Helper()
	var list []impl.Yarn
	for _, h := range heaps {
		if gramsIn(h) == 0 {
			continue
		}
		y, code := impl.SpinHeap(h, 3, rate)
		mustBeOK(t, "spun", code)
		if int64(y.Grams) != gramsIn(h) || int64(y.Long) != 3*gramsIn(h) {
			t.Fatalf("%v is spun to %v", h, y)
		}
		list = append(list, y)
	}
	return list
}

func gramsOfYarns(list []impl.Yarn) int64 {
	sum := int64(0)
	for _, y := range list {
		sum += int64(y.Grams)
	}
	return sum
}

// TestP18WoolIsKept follows the wool of a fleece from its heaps to yarns, lots, orders and places: at each step there is as
// much of it as before.
func TestP18WoolIsKept(t *testing.T) {
	r := newRandom()
	for range 2000 {
		fleece := randomHeap(r, 75)
		fleece[r.Intn(8)]++
		whole := gramsIn(fleece)
		heaps, code := impl.PartHeap(fleece, 1+r.Int63n(6))
		mustBeOK(t, "parted", code)
		if sumOfHeaps(heaps...) != fleece {
			t.Fatalf("%v is parted to %v", fleece, heaps)
		}
		list := spunFrom(t, heaps, r.Int63n(3)-1)
		if gramsOfYarns(list) != whole {
			t.Fatalf("%v is spun to %v", fleece, list)
		}
		checkCutAndJoined(t, r, list, whole)
		checkSold(t, r, list, whole)
	}
}

// checkCutAndJoined cuts each yarn, and joins all pieces without a loss.
func checkCutAndJoined(t *testing.T, r *rand.Rand, list []impl.Yarn, whole int64) {
	t.Helper()
	var pieces []impl.Yarn
	for _, y := range list {
		first, second, code := impl.CutYarn(y, 1+r.Int63n(int64(y.Long)-1))
		if code == impl.ErrState || len(pieces) > 4 {
			pieces = append(pieces, y)
			continue
		}
		mustBeOK(t, "cut", code)
		pieces = append(pieces, first, second)
	}
	joined, code := impl.JoinYarns(pieces, 0)
	mustBeOK(t, "joined", code)
	if int64(joined.Grams) != whole || int64(joined.Long) != 3*whole || gramsOfYarns(pieces) != whole {
		t.Fatalf("%v is cut to %v, and joined to %v", list, pieces, joined)
	}
}

// checkSold keeps yarns as lots, sells some of them, and shares what has been got for them.
func checkSold(t *testing.T, r *rand.Rand, list []impl.Yarn, whole int64) {
	t.Helper()
	var lots []impl.Lot
	var moves []impl.Move
	for _, y := range list {
		lots = append(lots, impl.Lot{Grams: y.Grams})
		moves = append(moves, move(0, 1, y.Grams))
	}
	orders := randomOrders(r, r.Intn(6), 1, 1+whole/2)
	plan, served, code := impl.MostOrders(lots, orders)
	mustBeOK(t, "served", code)
	left, code := impl.LeftIn(lots, orders, plan)
	mustBeOK(t, "left", code)
	sum, count := int64(0), int64(0)
	for _, grams := range left {
		sum += grams
	}
	for i, index := range plan {
		if index >= 0 {
			sum += int64(orders[i].Grams)
			count++
			moves = append(moves, move(1, 4, orders[i].Grams))
		}
	}
	if sum != whole || count != served {
		t.Fatalf("%v of %v by %v leaves %v: %d of %d grams, %d orders", orders, lots, plan, left, sum, whole, served)
	}
	start, code := impl.LeastStart(moves)
	mustBeOK(t, "start", code)
	at, code := impl.PlacesAt(start, moves)
	mustBeOK(t, "moved", code)
	for _, p := range at {
		if gramsAt(p) != whole || start != (impl.Places{int32(whole)}) {
			t.Fatalf("%v from %v: %v has not %d grams", moves, start, p, whole)
		}
	}
	checkShared(t, r.Int63n(1000), lots)
}

func checkShared(t *testing.T, cents int64, lots []impl.Lot) {
	t.Helper()
	var grams []int64
	for _, l := range lots {
		grams = append(grams, int64(l.Grams))
	}
	shares, code := impl.ShareCents(cents, grams)
	mustBeOK(t, "shared", code)
	if totalByHand(shares) != cents {
		t.Fatalf("%d cents by %v: %v", cents, grams, shares)
	}
}

// TestP18NoBlendIsNearer blends the heaps of a fleece that has been parted: no blend with as many parts is nearer to it.
func TestP18NoBlendIsNearer(t *testing.T) {
	r := newRandom()
	for range 100 {
		wanted := lightHeap(r)
		list := randomFleeces(r, 1+r.Intn(3))
		parts := 1 + r.Int63n(5)
		got, off, code := impl.NearestBlend(list, wanted, parts)
		mustBeOK(t, "blended", code)
		shares, code := impl.BlendOf(list, got)
		mustBeOK(t, "shares", code)
		checkShares(t, shares, code, blendByHand(list, got))
		allParts(len(list), parts, func(other []int64) {
			by := offByHand(blendByHand(list, other), sharesByHand(wanted))
			if by.Cmp(rat(off)) < 0 || slices.Equal(got, other) && by.Cmp(new(big.Rat).Set(rat(off))) != 0 {
				t.Fatalf("%v to %v: %v is off by %v, but %v by %v", list, wanted, got, off, other, by)
			}
		})
	}
}

// TestP18CardingKeeps cards the grams of a heap as a web: what has fallen out, and what is left, are the heap.
func TestP18CardingKeeps(t *testing.T) {
	r := newRandom()
	for range 3000 {
		h := randomHeap(r, 1000)
		var w []int64
		for _, grams := range h {
			w = append(w, int64(grams))
		}
		passes := ""
		for range r.Intn(21) {
			passes += string("cfr"[r.Intn(3)])
		}
		for _, percent := range []int64{0, r.Int63n(101)} {
			carded, fallen, code := impl.CardAll(w, passes, percent)
			mustBeOK(t, "carded", code)
			if totalByHand(carded)+fallen != gramsIn(h) || percent == 0 && fallen != 0 {
				t.Fatalf("%v by %q and %d: %v, and %d", w, passes, percent, carded, fallen)
			}
		}
	}
}

// TestP18NoTurnsBalanceBetter plies yarns that have been spun from the heaps of a fleece.
func TestP18NoTurnsBalanceBetter(t *testing.T) {
	r := newRandom()
	for range 200 {
		var list []impl.Yarn
		for range 2 + r.Intn(5) {
			list = append(list, spunFrom(t, []impl.Heap{lightHeap(r)}, r.Int63n(11)-5)...)
		}
		turns, least, code := impl.BalanceTurns(list)
		mustBeOK(t, "balanced", code)
		for other := int64(-2000); other <= 2000; other++ {
			rest, code := impl.RestOf(list, other)
			mustBeOK(t, "rest", code)
			if rest != restByHand(list, other) || rest < least || other == turns && rest != least {
				t.Fatalf("%v: %d with the rest %d, but %d with %d", list, turns, least, other, rest)
			}
		}
		if plied, code := impl.PlyYarns(list, 0); code != impl.OK || int64(plied.Grams) != gramsOfYarns(list) {
			t.Fatalf("%v are plied to %v, %d", list, plied, code)
		}
	}
}

// TestP18NoFewerPieces looks at all choices of fewer yarns than told: none is long enough.
func TestP18NoFewerPieces(t *testing.T) {
	r := newRandom()
	for range 500 {
		list := randomYarns(r, 1+r.Intn(10), 100)
		knot, need := r.Int63n(21), 1+r.Int63n(400)
		pieces, code := impl.FewestPieces(list, knot, need)
		long := knot
		for _, index := range pieces {
			long += int64(list[index].Long) - knot
		}
		if code == impl.OK && long < need || code != impl.OK && code != impl.ErrNotFound {
			t.Fatalf("%v by %d for %d: %v, %d", list, knot, need, pieces, code)
		}
		fewest := piecesByHand(list, knot, need)
		if (code == impl.OK) != (fewest != nil) || len(pieces) != len(fewest) {
			t.Fatalf("%v by %d for %d: %v, but %v is enough", list, knot, need, pieces, fewest)
		}
	}
}

// TestP18NoFewerReels winds yarns onto reels, and looks at all numbers of fewer reels: none is right.
func TestP18NoFewerReels(t *testing.T) {
	r := newRandom()
	for range 400 {
		m, list, hold := randomMeets(r), randomStrands(r, 1+r.Intn(6), 40), 40+r.Int63n(40)
		numbers, _, code := impl.FewestReels(m, hold, list, impl.MaxReels)
		mustBeOK(t, "wound", code)
		right, code := impl.CheckReels(m, hold, list, numbers)
		mustBeOK(t, "checked", code)
		left, code := impl.LeftOn(hold, list, numbers)
		mustBeOK(t, "left", code)
		if !right || totalByHand(left)+longInAll(list) != hold*int64(len(left)) {
			t.Fatalf("%v on reels of %d: %v, left is %v", list, hold, numbers, left)
		}
		for _, other := range allNumbers(len(list), int64(len(left))-1) {
			if fewer, _ := impl.CheckReels(m, hold, list, other); fewer {
				t.Fatalf("%v on reels of %d: %v, but %v is right, too", list, hold, numbers, other)
			}
		}
	}
}

// TestP18WhatUnravels: each loop of a ladder but the first one is taken by a stitch whose loops have all dropped; loops that
// have not dropped hang on one that has not dropped, either.
func TestP18WhatUnravels(t *testing.T) {
	r := newRandom()
	for range 300 {
		f := randomFabric(r, 1+r.Intn(6), 8)
		worst, most, code := impl.WorstLoop(f)
		mustBeOK(t, "worst", code)
		for at := range lastWidthByHand(f) {
			ladder, code := impl.LadderOf(f, at)
			mustBeOK(t, "ladder", code)
			if int64(len(ladder)) > most || at == worst && int64(len(ladder)) != most {
				t.Fatalf("%v: the ladder of %d has %d loops, the worst one, of %d, %d", f, at, len(ladder), worst, most)
			}
			checkHangs(t, f, ladder)
		}
	}
}

func checkHangs(t *testing.T, f impl.Fabric, ladder []impl.Loop) {
	t.Helper()
	for _, k := range knotsOf(f) {
		undone := len(k.makes) > 0
		for _, l := range k.makes {
			undone = undone && slices.Contains(ladder, l)
		}
		for _, l := range k.takes {
			if slices.Contains(ladder, l) != undone {
				t.Fatalf("%v with the ladder %v: the loop %v hangs on %v", f, ladder, l, k.makes)
			}
		}
	}
}

// TestP18NothingGrowsOrUnfelts washes cloths by all lists of washes that are told as best, too.
func TestP18NothingGrowsOrUnfelts(t *testing.T) {
	r := newRandom()
	for range 1000 {
		c, list := randomCloth(r, []int{5, 1000}[r.Intn(2)]), randomPrograms(r, 1+r.Intn(4), 9)
		fewest, code1 := impl.FewestWashes(c, list, 4)
		felt, least, code2 := impl.LeastFelt(c, list, 4)
		largest, _, code3 := impl.LargestClean(c, list, 4)
		if code1 != code2 || code2 != code3 {
			t.Fatalf("%v by %v: %d, %d and %d", c, list, code1, code2, code3)
		}
		for _, order := range [][]int64{fewest, felt, largest} {
			behind, code := impl.WashAll(c, list, order)
			mustBeOK(t, "washed", code)
			_, _, code = impl.ShrunkBy(c, behind)
			mustBeOK(t, "shrunk", code)
			if code1 == impl.OK && (behind.Dirt != 0 || behind.Felt < least.Felt) || behind.Wide > c.Wide || behind.High > c.High || behind.Felt < c.Felt {
				t.Fatalf("%v by %v of %v becomes %v", c, order, list, behind)
			}
		}
	}
}

// TestP18MovedWoolSumsUp: merged, without one, and all together, moves bring what each of them brings.
func TestP18MovedWoolSumsUp(t *testing.T) {
	r := newRandom()
	for range 3000 {
		list := randomMoves(r, 1+r.Intn(60), 80)
		start, code := impl.LeastStart(list)
		mustBeOK(t, "start", code)
		end, code := impl.MakeMoves(start, list)
		mustBeOK(t, "moved", code)
		merged, code := impl.MergeMoves(list)
		mustBeOK(t, "merged", code)
		net, code := impl.NetMoves(merged)
		mustBeOK(t, "net", code)
		at := r.Intn(len(list))
		less, code := impl.UndoMove(list, int64(at))
		mustBeOK(t, "undone", code)
		without, code := impl.NetMoves(less)
		mustBeOK(t, "net without one", code)
		without[list[at].From] -= int32(list[at].Grams)
		without[list[at].To] += int32(list[at].Grams)
		for place := range end {
			if start[place]+net[place] != end[place] || without != net {
				t.Fatalf("%v from %v becomes %v, merged by %v, without %d by %v", list, start, end, net, at, without)
			}
		}
		if gramsAt(start) != gramsAt(end) {
			t.Fatalf("%v from %v becomes %v", list, start, end)
		}
	}
}
