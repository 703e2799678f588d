package tests

import (
	"math"
	"math/rand"
	"slices"
	"testing"

	"loop.example/g01384/impl"
)

func cloth(wide, high int16, dirt, felt, bears int8) impl.Cloth {
	return impl.Cloth{Wide: wide, High: high, Dirt: dirt, Felt: felt, Bears: bears}
}

// programs returns a list of programs, each told by its heat, its rub and its clean.
func programs(list ...[3]int8) []impl.Program {
	var told []impl.Program
	for _, p := range list {
		told = append(told, impl.Program{Heat: p[0], Rub: p[1], Clean: p[2]})
	}
	return told
}

// feltByHand counts by how much a cloth felts, one by one.
func feltByHand(c impl.Cloth, p impl.Program) int64 {
	by := int64(0)
	if p.Heat > c.Bears {
		for heat := c.Bears; heat < p.Heat; heat++ {
			by++
		}
		for range p.Rub {
			by++
		}
	} else {
		for rub := p.Rub; rub > 2; rub -= 3 {
			by++
		}
	}
	for by > 0 && int64(c.Felt)+by > 9 {
		by--
	}
	return by
}

// sideByHand goes down to the greatest side, hundred times which is at most the side times what is left of it.
func sideByHand(side int16, by int64) int16 {
	left := side
	for left > 1 && 100*int64(left) > int64(side)*(100-2*by) {
		left--
	}
	return left
}

func washByHand(c impl.Cloth, p impl.Program) impl.Cloth {
	by := feltByHand(c, p)
	dirt := c.Dirt
	for clean := p.Clean; clean > 0 && dirt > 0; clean-- {
		dirt--
	}
	return cloth(sideByHand(c.Wide, by), sideByHand(c.High, by), dirt, c.Felt+int8(by), c.Bears)
}

// ordersByHand returns all lists of at most most indices of programs: the shortest ones first, and then as they come.
func ordersByHand(count int, most int64) [][]int64 {
	orders := [][]int64{{}}
	before := orders
	for range most {
		var longer [][]int64
		for _, order := range before {
			for index := range int64(count) {
				longer = append(longer, append(slices.Clone(order), index))
			}
		}
		orders = append(orders, longer...)
		before = longer
	}
	return orders
}

// ending is a list of washes, and the cloth behind them.
type ending struct {
	order  []int64
	behind impl.Cloth
}

// cleanByHand returns all lists of washes behind which a cloth is clean.
func cleanByHand(c impl.Cloth, list []impl.Program, most int64) []ending {
	var clean []ending
	for _, order := range ordersByHand(len(list), most) {
		behind := c
		for _, index := range order {
			behind = washByHand(behind, list[index])
		}
		if behind.Dirt == 0 {
			clean = append(clean, ending{order, behind})
		}
	}
	return clean
}

func randomCloth(r *rand.Rand, wide int) impl.Cloth {
	return cloth(int16(1+r.Intn(wide)), int16(1+r.Intn(wide)), int8(r.Intn(10)), int8(r.Intn(10)), int8(r.Intn(10)))
}

func randomPrograms(r *rand.Rand, count, clean int) []impl.Program {
	var list []impl.Program
	for range count {
		list = append(list, impl.Program{Heat: int8(r.Intn(10)), Rub: int8(r.Intn(10)), Clean: int8(r.Intn(clean + 1))})
	}
	return list
}

// TestP14FeltsBy looks at all heats, rubs, what a cloth bears, and how much it is felted already.
func TestP14FeltsBy(t *testing.T) {
	for n := range 10000 {
		c := cloth(500, 1, 3, int8(n/1000), int8(n/100%10))
		p := impl.Program{Heat: int8(n / 10 % 10), Rub: int8(n % 10), Clean: 1}
		want := feltByHand(c, p)
		by, code := impl.FeltsBy(c, p)
		if code != impl.OK || by != want || by < 0 || int64(c.Felt)+by > impl.MaxFelt {
			t.Fatalf("%v felts in %v by %d, not %d, %d", c, p, by, want, code)
		}
		behind, code := impl.WashOnce(c, p)
		if code != impl.OK || behind != washByHand(c, p) || int64(behind.Felt-c.Felt) != by {
			t.Fatalf("%v is behind %v %v, %d", c, p, behind, code)
		}
	}
}

// TestP14AllSides looks at what becomes of all sides with all that a cloth can felt by.
func TestP14AllSides(t *testing.T) {
	for side := int16(1); side <= impl.MaxWide; side++ {
		for by := int8(0); by <= impl.MaxFelt; by++ {
			behind, code := impl.WashOnce(cloth(side, 1001-side, 9, 0, 0), impl.Program{Heat: by, Clean: 9})
			want := cloth(sideByHand(side, int64(by)), sideByHand(1001-side, int64(by)), 0, by, 0)
			if code != impl.OK || behind != want {
				t.Fatalf("felted by %d a side of %d leaves %v, not %v, %d", by, side, behind, want, code)
			}
		}
	}
}

// TestP14AllDirt looks at all dirt, and how much of it goes.
func TestP14AllDirt(t *testing.T) {
	for n := range int8(100) {
		c, p := cloth(7, 8, n/10, 0, 0), impl.Program{Clean: n % 10}
		want := cloth(7, 8, max(0, n/10-n%10), 0, 0)
		if behind, code := impl.WashOnce(c, p); code != impl.OK || behind != want {
			t.Fatalf("%v is behind %v %v, %d", c, p, behind, code)
		}
	}
}

// TestP14NothingGrows: behind washes no side is greater than before, nothing is felted or dirty by other than told, and
// all washes together are each one behind the other.
func TestP14NothingGrows(t *testing.T) {
	r := newRandom()
	for range 3000 {
		c, list := randomCloth(r, []int{3, 60, 1000}[r.Intn(3)]), randomPrograms(r, 1+r.Intn(6), 9)
		var order []int64
		behind := c
		for range r.Intn(21) {
			order = append(order, r.Int63n(int64(len(list))))
			next, code := impl.WashOnce(behind, list[order[len(order)-1]])
			if code != impl.OK || next.Wide > behind.Wide || next.High > behind.High || next.Felt < behind.Felt || next.Dirt > behind.Dirt {
				t.Fatalf("%v became %v, %d", behind, next, code)
			}
			if !impl.ValidCloth(next) || next.Bears != c.Bears {
				t.Fatalf("%v became %v, which is not valid or bears something else", behind, next)
			}
			behind = next
		}
		if all, code := impl.WashAll(c, list, order); code != impl.OK || all != behind {
			t.Fatalf("%v is behind %v of %v %v, not %v, %d", c, order, list, all, behind, code)
		}
		wide, high, code := impl.ShrunkBy(c, behind)
		if code != impl.OK || wide != int64(c.Wide-behind.Wide) || high != int64(c.High-behind.High) {
			t.Fatalf("from %v to %v shrunk by %d and %d, %d", c, behind, wide, high, code)
		}
	}
}

// TestP14Gentle compares with what each program felts by.
func TestP14Gentle(t *testing.T) {
	r := newRandom()
	for range 3000 {
		c, list := randomCloth(r, 1000), randomPrograms(r, r.Intn(7), 9)
		var want []int64
		for i, p := range list {
			if feltByHand(c, p) == 0 {
				want = append(want, int64(i))
			}
		}
		if got, code := impl.GentleOnes(c, list); code != impl.OK || !slices.Equal(got, want) {
			t.Fatalf("for %v of %v are gentle %v, not %v, %d", c, list, got, want, code)
		}
	}
}

// TestP14NoWashesAreBetter compares with all lists of washes; as they come ordered, the first one of the best is told.
func TestP14NoWashesAreBetter(t *testing.T) {
	r := newRandom()
	for range 1500 {
		c := randomCloth(r, []int{3, 30, 1000}[r.Intn(3)])
		c.Felt = int8(r.Intn(1 + r.Intn(10)))
		checkBest(t, c, randomPrograms(r, r.Intn(7), []int{2, 4, 9}[r.Intn(3)]), r.Int63n(5))
	}
}

// TestP14SeveralBestWashes takes few kinds of programs, several of them alike, so that there is mostly more than one best.
func TestP14SeveralBestWashes(t *testing.T) {
	r := newRandom()
	for range 1500 {
		kinds := programs([3]int8{0, 0, int8(r.Intn(5))}, [3]int8{0, 3, int8(r.Intn(5))}, [3]int8{0, 6, int8(r.Intn(5))})
		var list []impl.Program
		for range 1 + r.Intn(6) {
			list = append(list, kinds[r.Intn(3)])
		}
		c := randomCloth(r, 40)
		c.Dirt = int8(r.Intn(7))
		checkBest(t, c, list, r.Int63n(5))
	}
}

func checkBest(t *testing.T, c impl.Cloth, list []impl.Program, most int64) {
	t.Helper()
	clean := cleanByHand(c, list, most)
	few, code1 := impl.FewestWashes(c, list, most)
	felt, cloth, code2 := impl.LeastFelt(c, list, most)
	large, area, code3 := impl.LargestClean(c, list, most)
	if len(clean) == 0 {
		if code1 != impl.ErrNotFound || code2 != impl.ErrNotFound || code3 != impl.ErrNotFound {
			t.Fatalf("%v in %v, at most %d: %d %d %d, but it gets not clean", c, list, most, code1, code2, code3)
		}
		return
	}
	least, largest := clean[0], clean[0]
	for _, e := range clean {
		if e.behind.Felt < least.behind.Felt {
			least = e
		}
		if areaByHand(e.behind) > areaByHand(largest.behind) {
			largest = e
		}
	}
	if code1 != impl.OK || !slices.Equal(few, clean[0].order) {
		t.Fatalf("%v in %v, at most %d: the fewest are %v, not %v, %d", c, list, most, few, clean[0].order, code1)
	}
	if code2 != impl.OK || !slices.Equal(felt, least.order) || cloth != least.behind {
		t.Fatalf("%v in %v, at most %d: %v felt least, to %v, not %v, %d", c, list, most, felt, cloth, least, code2)
	}
	if code3 != impl.OK || !slices.Equal(large, largest.order) || area != areaByHand(largest.behind) {
		t.Fatalf("%v in %v, at most %d: %v leave the largest, %d, not %v, %d", c, list, most, large, area, largest, code3)
	}
}

func areaByHand(c impl.Cloth) int64 {
	area := int64(0)
	for range c.High {
		area += int64(c.Wide)
	}
	return area
}

func TestP14ValidCloths(t *testing.T) {
	checkRows(t, []row{
		{"the least", "true", all(impl.ValidCloth(cloth(1, 1, 0, 0, 0)))},
		{"the greatest", "true", all(impl.ValidCloth(cloth(1000, 1000, 9, 9, 9)))},
		{"no width", "false", all(impl.ValidCloth(cloth(0, 1, 0, 0, 0)))},
		{"no height", "false", all(impl.ValidCloth(cloth(1, 0, 0, 0, 0)))},
		{"less than no width", "false", all(impl.ValidCloth(cloth(-1, 1, 0, 0, 0)))},
		{"less than no height", "false", all(impl.ValidCloth(cloth(1, math.MinInt16, 0, 0, 0)))},
		{"too wide", "false", all(impl.ValidCloth(cloth(1001, 1, 0, 0, 0)))},
		{"too high", "false", all(impl.ValidCloth(cloth(1, 1001, 0, 0, 0)))},
		{"dirt less than 0", "false", all(impl.ValidCloth(cloth(1, 1, -1, 0, 0)))},
		{"too much dirt", "false", all(impl.ValidCloth(cloth(1, 1, 10, 0, 0)))},
		{"felt less than 0", "false", all(impl.ValidCloth(cloth(1, 1, 0, -1, 0)))},
		{"too much felt", "false", all(impl.ValidCloth(cloth(1, 1, 0, 10, 0)))},
		{"bears less than 0", "false", all(impl.ValidCloth(cloth(1, 1, 0, 0, -1)))},
		{"bears too much", "false", all(impl.ValidCloth(cloth(1, 1, 0, 0, 10)))},
		{"the zero value", "false", all(impl.ValidCloth(impl.Cloth{}))},
	})
}

func TestP14ValidPrograms(t *testing.T) {
	checkRows(t, []row{
		{"the zero value", "true", all(impl.ValidProgram(impl.Program{}))},
		{"the greatest", "true", all(impl.ValidProgram(impl.Program{Heat: 9, Rub: 9, Clean: 9}))},
		{"heat less than 0", "false", all(impl.ValidProgram(impl.Program{Heat: -1}))},
		{"too much heat", "false", all(impl.ValidProgram(impl.Program{Heat: 10}))},
		{"rub less than 0", "false", all(impl.ValidProgram(impl.Program{Rub: -1}))},
		{"too much rub", "false", all(impl.ValidProgram(impl.Program{Rub: 10}))},
		{"clean less than 0", "false", all(impl.ValidProgram(impl.Program{Clean: -1}))},
		{"too much clean", "false", all(impl.ValidProgram(impl.Program{Clean: 10}))},
		{"the least numbers", "false", all(impl.ValidProgram(impl.Program{Heat: math.MinInt8, Rub: math.MinInt8, Clean: math.MinInt8}))},
	})
}

func TestP14FeltsByCodes(t *testing.T) {
	c := cloth(100, 50, 5, 0, 4)
	by := func(felt, heat, rub int8) []any {
		return all(impl.FeltsBy(cloth(100, 50, 5, felt, 4), impl.Program{Heat: heat, Rub: rub}))
	}
	checkRows(t, []row{
		{"the example", "3 0", all(impl.FeltsBy(c, impl.Program{Heat: 6, Rub: 1, Clean: 6}))},
		{"the other program of the example", "1 0", all(impl.FeltsBy(c, impl.Program{Heat: 4, Rub: 3, Clean: 3}))},
		{"just as hot as it bears, rub 2", "0 0", by(0, 4, 2)},
		{"just as hot as it bears, rub 3", "1 0", by(0, 4, 3)},
		{"one less, rub 9", "3 0", by(0, 3, 9)},
		{"one less, rub 8", "2 0", by(0, 3, 8)},
		{"one more, no rub", "1 0", by(0, 5, 0)},
		{"one more, rub 2", "3 0", by(0, 5, 2)},
		{"one more, rub 3", "4 0", by(0, 5, 3)},
		{"just to the most", "9 0", by(0, 9, 4)},
		{"to more than the most", "9 0", by(0, 9, 5)},
		{"the hottest", "9 0", by(0, 9, 9)},
		{"one less than the most is left", "1 0", by(8, 5, 0)},
		{"one is left, of several", "1 0", by(8, 9, 9)},
		{"two are left, of three by rub", "2 0", by(7, 0, 9)},
		{"felted to the most", "0 0", by(9, 9, 9)},
		{"a cloth that is none", "0 1", all(impl.FeltsBy(impl.Cloth{}, impl.Program{}))},
		{"a program that is none", "0 1", all(impl.FeltsBy(c, impl.Program{Heat: 10}))},
		{"a program with less than none", "0 1", all(impl.FeltsBy(c, impl.Program{Clean: -1}))},
		{"both are none", "0 1", all(impl.FeltsBy(cloth(1, 1, 0, 10, 0), impl.Program{Rub: 10}))},
	})
}

func TestP14WashOnceCodes(t *testing.T) {
	c := cloth(100, 50, 5, 0, 4)
	checkRows(t, []row{
		{"the example", "{94 47 0 3 4} 0", all(impl.WashOnce(c, impl.Program{Heat: 6, Rub: 1, Clean: 6}))},
		{"a side of 1", "{1 1 0 9 0} 0", all(impl.WashOnce(cloth(1, 1, 1, 0, 0), impl.Program{Heat: 9, Clean: 1}))},
		{"a side of 2", "{1 1 0 1 0} 0", all(impl.WashOnce(cloth(2, 2, 0, 0, 0), impl.Program{Heat: 1}))},
		{"the greatest sides", "{820 820 9 9 0} 0", all(impl.WashOnce(cloth(1000, 1000, 9, 0, 0), impl.Program{Heat: 9}))},
		{"felted to more than the most", "{98 980 0 9 0} 0", all(impl.WashOnce(cloth(100, 1000, 0, 8, 0), impl.Program{Heat: 9, Rub: 9}))},
		{"felted to the most", "{100 1000 0 9 0} 0", all(impl.WashOnce(cloth(100, 1000, 9, 9, 0), impl.Program{Heat: 9, Rub: 9, Clean: 9}))},
		{"cleaned by one less", "{5 5 1 0 0} 0", all(impl.WashOnce(cloth(5, 5, 5, 0, 0), impl.Program{Clean: 4}))},
		{"cleaned just so", "{5 5 0 0 0} 0", all(impl.WashOnce(cloth(5, 5, 5, 0, 0), impl.Program{Clean: 5}))},
		{"cleaned by one more", "{5 5 0 0 0} 0", all(impl.WashOnce(cloth(5, 5, 5, 0, 0), impl.Program{Clean: 6}))},
		{"a cloth that is none", "{0 0 0 0 0} 1", all(impl.WashOnce(cloth(1001, 1, 0, 0, 0), impl.Program{}))},
		{"a program that is none", "{0 0 0 0 0} 1", all(impl.WashOnce(c, impl.Program{Heat: 10}))},
	})
}

func TestP14WashAllCodes(t *testing.T) {
	c, wrong := cloth(100, 50, 5, 0, 4), cloth(100, 50, 5, 0, 10)
	list := programs([3]int8{6, 1, 6}, [3]int8{4, 3, 3})
	bad := append(slices.Clone(list), impl.Program{Heat: 10})
	six, seven := slices.Repeat(list[1:], 6), slices.Repeat(list[1:], 7)
	twenty, more := make([]int64, 20), make([]int64, 21)
	more[20] = 9
	checkRows(t, []row{
		{"the example", "{96 48 0 2 4} 0", all(impl.WashAll(c, list, []int64{1, 1}))},
		{"both", "{92 46 0 4 4} 0", all(impl.WashAll(c, list, []int64{0, 1}))},
		{"in an order, two are left to felt by", "{9 9 0 9 4} 0", all(impl.WashAll(cloth(10, 10, 5, 7, 4), list, []int64{0, 1}))},
		{"in the other order", "{8 8 0 9 4} 0", all(impl.WashAll(cloth(10, 10, 5, 7, 4), list, []int64{1, 0}))},
		{"no washes", "{100 50 5 0 4} 0", all(impl.WashAll(c, list, nil))},
		{"no washes and no programs", "{100 50 5 0 4} 0", all(impl.WashAll(c, nil, nil))},
		{"the most washes", "{82 41 0 9 4} 0", all(impl.WashAll(c, list, twenty))},
		{"one wash more", "{0 0 0 0 0} 3", all(impl.WashAll(c, list, make([]int64, 21)))},
		{"the most programs", "{98 49 2 1 4} 0", all(impl.WashAll(c, six, []int64{5}))},
		{"no program 6 of the most", "{0 0 0 0 0} 2", all(impl.WashAll(c, six, []int64{6}))},
		{"one program more", "{0 0 0 0 0} 3", all(impl.WashAll(c, seven, []int64{0}))},
		{"an index of -1", "{0 0 0 0 0} 2", all(impl.WashAll(c, list, []int64{0, -1}))},
		{"an index of the number of programs", "{0 0 0 0 0} 2", all(impl.WashAll(c, list, []int64{1, 2, 0}))},
		{"no programs", "{0 0 0 0 0} 2", all(impl.WashAll(c, nil, []int64{0}))},
		{"the least index", "{0 0 0 0 0} 2", all(impl.WashAll(c, list, []int64{math.MinInt64}))},
		// The last 32 bits of this number are 0.
		{"an index that is no int32", "{0 0 0 0 0} 2", all(impl.WashAll(c, list, []int64{1 << 32}))},
		{"the greatest index", "{0 0 0 0 0} 2", all(impl.WashAll(c, list, []int64{math.MaxInt64}))},
		{"too many washes ahead of an index", "{0 0 0 0 0} 3", all(impl.WashAll(c, list, more))},
		{"too many programs ahead of an index", "{0 0 0 0 0} 3", all(impl.WashAll(c, seven, []int64{7}))},
		{"a cloth that is none", "{0 0 0 0 0} 1", all(impl.WashAll(wrong, list, nil))},
		{"a program that is none, though it is not washed by", "{0 0 0 0 0} 1", all(impl.WashAll(c, bad, []int64{0}))},
		{"invalid ahead of too many washes", "{0 0 0 0 0} 1", all(impl.WashAll(c, bad, more))},
		{"invalid ahead of too many programs", "{0 0 0 0 0} 1", all(impl.WashAll(c, append(seven, bad[2]), nil))},
		{"invalid ahead of an index", "{0 0 0 0 0} 1", all(impl.WashAll(wrong, list, []int64{2}))},
	})
}

func TestP14ShrunkByCodes(t *testing.T) {
	c := cloth(100, 50, 5, 3, 4)
	checkRows(t, []row{
		{"the example", "6 3 0", all(impl.ShrunkBy(cloth(100, 50, 5, 0, 4), cloth(94, 47, 0, 3, 4)))},
		{"nothing", "0 0 0", all(impl.ShrunkBy(c, c))},
		{"the most", "999 999 0", all(impl.ShrunkBy(cloth(1000, 1000, 0, 0, 0), cloth(1, 1, 0, 0, 0)))},
		{"wide alone", "1 0 0", all(impl.ShrunkBy(c, cloth(99, 50, 5, 3, 4)))},
		{"high alone", "0 1 0", all(impl.ShrunkBy(c, cloth(100, 49, 5, 3, 4)))},
		{"more dirt, and bears something else", "0 0 0", all(impl.ShrunkBy(c, cloth(100, 50, 9, 3, 0)))},
		{"less dirt, and bears more", "0 0 0", all(impl.ShrunkBy(c, cloth(100, 50, 0, 3, 9)))},
		{"felted alone", "0 0 0", all(impl.ShrunkBy(c, cloth(100, 50, 5, 4, 4)))},
		{"wider", "0 0 4", all(impl.ShrunkBy(c, cloth(101, 49, 5, 3, 4)))},
		{"higher", "0 0 4", all(impl.ShrunkBy(c, cloth(99, 51, 5, 3, 4)))},
		{"unfelted", "0 0 4", all(impl.ShrunkBy(c, cloth(99, 49, 5, 2, 4)))},
		{"before is none", "0 0 1", all(impl.ShrunkBy(cloth(1001, 50, 5, 3, 4), c))},
		{"after is none", "0 0 1", all(impl.ShrunkBy(c, cloth(99, 0, 5, 3, 4)))},
		{"invalid ahead of state", "0 0 1", all(impl.ShrunkBy(c, cloth(1001, 50, 5, 3, 4)))},
	})
}

func TestP14GentleCodes(t *testing.T) {
	c := cloth(100, 50, 5, 0, 4)
	list := programs([3]int8{4, 2, 9}, [3]int8{4, 3, 9}, [3]int8{5, 0, 9}, [3]int8{0, 0, 0}, [3]int8{3, 2, 1}, [3]int8{9, 9, 9})
	seven := append(slices.Clone(list), list[0])
	checkRows(t, []row{
		{"some", "[0 3 4] 0", all(impl.GentleOnes(c, list))},
		{"none", "[] 0", all(impl.GentleOnes(c, list[1:3]))},
		{"of none", "[] 0", all(impl.GentleOnes(c, nil))},
		{"felted to the most", "[0 1 2 3 4 5] 0", all(impl.GentleOnes(cloth(100, 50, 5, 9, 4), list))},
		{"felted to one less", "[0 3 4] 0", all(impl.GentleOnes(cloth(100, 50, 5, 8, 4), list))},
		{"a side of 1 that cannot shrink", "[0 3 4] 0", all(impl.GentleOnes(cloth(1, 1, 5, 0, 4), list))},
		{"clean already", "[0 3 4] 0", all(impl.GentleOnes(cloth(100, 50, 0, 0, 4), list))},
		{"too many programs", "[] 3", all(impl.GentleOnes(c, seven))},
		{"a cloth that is none", "[] 1", all(impl.GentleOnes(cloth(0, 1, 0, 0, 0), list))},
		{"a program that is none", "[] 1", all(impl.GentleOnes(c, programs([3]int8{0, 0, 0}, [3]int8{0, 10, 0})))},
		{"invalid ahead of too many", "[] 1", all(impl.GentleOnes(c, append(seven, impl.Program{Rub: -1})))},
	})
}

// TestP14WhichWashesAreTold: of several best washes the shortest ones, and then the first ones are told.
func TestP14WhichWashesAreTold(t *testing.T) {
	c := cloth(100, 50, 5, 0, 4)
	example := programs([3]int8{6, 1, 6}, [3]int8{4, 3, 3})
	alike := programs([3]int8{0, 0, 2}, [3]int8{0, 0, 3}, [3]int8{0, 0, 3})
	// By the first program twice a side of 10 becomes 9 and 8, by the second one once 9, though it felts by more.
	rounded := programs([3]int8{0, 3, 3}, [3]int8{0, 9, 6})
	checkRows(t, []row{
		{"the example, least felt", "[1 1] {96 48 0 2 4} 0", all(impl.LeastFelt(c, example, 3))},
		{"the example, fewest", "[0] 0", all(impl.FewestWashes(c, example, 3))},
		{"the example, largest", "[1 1] 4608 0", all(impl.LargestClean(c, example, 3))},
		{"the example with one wash, least felt", "[0] {94 47 0 3 4} 0", all(impl.LeastFelt(c, example, 1))},
		{"the example with one wash, largest", "[0] 4418 0", all(impl.LargestClean(c, example, 1))},
		{"several fewest", "[0 1] 0", all(impl.FewestWashes(c, alike, 4))},
		{"several that felt least", "[0 1] {100 50 0 0 4} 0", all(impl.LeastFelt(c, alike, 4))},
		{"several largest", "[0 1] 5000 0", all(impl.LargestClean(c, alike, 4))},
		{"a shorter one behind longer ones, fewest", "[1] 0", all(impl.FewestWashes(cloth(9, 9, 3, 0, 4), alike, 4))},
		{"a shorter one behind longer ones, least felt", "[1] {9 9 0 0 4} 0", all(impl.LeastFelt(cloth(9, 9, 3, 0, 4), alike, 4))},
		{"a shorter one behind longer ones, largest", "[1] 81 0", all(impl.LargestClean(cloth(9, 9, 3, 0, 4), alike, 4))},
		{"rounded, least felt", "[0 0] {8 8 0 2 0} 0", all(impl.LeastFelt(cloth(10, 10, 6, 0, 0), rounded, 4))},
		{"rounded, largest", "[1] 81 0", all(impl.LargestClean(cloth(10, 10, 6, 0, 0), rounded, 4))},
		{"sides of 1, least felt", "[0 0] {1 1 0 2 0} 0", all(impl.LeastFelt(cloth(1, 1, 6, 0, 0), rounded, 4))},
		{"sides of 1, largest", "[1] 1 0", all(impl.LargestClean(cloth(1, 1, 6, 0, 0), rounded, 4))},
		{"felted to the most, least felt", "[1] {10 10 0 9 0} 0", all(impl.LeastFelt(cloth(10, 10, 6, 9, 0), rounded, 4))},
		{"the greatest sides", "[] 1000000 0", all(impl.LargestClean(cloth(1000, 1000, 0, 0, 0), rounded, 4))},
	})
}

func TestP14BestCodes(t *testing.T) {
	c, clean := cloth(100, 50, 4, 0, 4), cloth(100, 50, 0, 2, 4)
	one := programs([3]int8{0, 0, 1})
	none := programs([3]int8{0, 9, 0}, [3]int8{9, 9, 0})
	six, seven := slices.Repeat(one, 6), slices.Repeat(one, 7)
	bad := append(slices.Clone(seven), impl.Program{Clean: 10})
	checkRows(t, []row{
		{"just enough washes, fewest", "[0 0 0 0] 0", all(impl.FewestWashes(c, one, 4))},
		{"just enough washes, least felt", "[0 0 0 0] {100 50 0 0 4} 0", all(impl.LeastFelt(c, one, 4))},
		{"just enough washes, largest", "[0 0 0 0] 5000 0", all(impl.LargestClean(c, one, 4))},
		{"the most programs", "[0 0 0 0] 0", all(impl.FewestWashes(c, six, 4))},
		{"one wash less, fewest", "[] 6", all(impl.FewestWashes(c, one, 3))},
		{"one wash less, least felt", "[] {0 0 0 0 0} 6", all(impl.LeastFelt(c, one, 3))},
		{"one wash less, largest", "[] 0 6", all(impl.LargestClean(c, one, 3))},
		{"one dirt more", "[] 6", all(impl.FewestWashes(cloth(100, 50, 5, 0, 4), one, 4))},
		{"programs that do not clean", "[] 6", all(impl.FewestWashes(c, none, 4))},
		{"no programs", "[] {0 0 0 0 0} 6", all(impl.LeastFelt(c, nil, 4))},
		{"no washes", "[] 0 6", all(impl.LargestClean(c, one, 0))},
		{"clean already, fewest", "[] 0", all(impl.FewestWashes(clean, one, 4))},
		{"clean already, least felt", "[] {100 50 0 2 4} 0", all(impl.LeastFelt(clean, one, 4))},
		{"clean already, largest", "[] 5000 0", all(impl.LargestClean(clean, none, 4))},
		{"clean already, no washes", "[] 0", all(impl.FewestWashes(clean, one, 0))},
		{"clean already, no programs", "[] {100 50 0 2 4} 0", all(impl.LeastFelt(clean, nil, 0))},
		{"most of -1, fewest", "[] 2", all(impl.FewestWashes(clean, one, -1))},
		{"most of -1, least felt", "[] {0 0 0 0 0} 2", all(impl.LeastFelt(clean, one, -1))},
		{"most of -1, largest", "[] 0 2", all(impl.LargestClean(clean, one, -1))},
		{"most of one more, fewest", "[] 2", all(impl.FewestWashes(clean, one, 5))},
		{"most of one more, least felt", "[] {0 0 0 0 0} 2", all(impl.LeastFelt(clean, one, 5))},
		{"most of one more, largest", "[] 0 2", all(impl.LargestClean(clean, one, 5))},
		{"the greatest most", "[] 2", all(impl.FewestWashes(c, none, math.MaxInt64))},
		{"range ahead of none", "[] 2", all(impl.FewestWashes(c, none, math.MinInt64))},
		{"too many programs, fewest", "[] 3", all(impl.FewestWashes(clean, seven, 4))},
		{"too many programs, least felt", "[] {0 0 0 0 0} 3", all(impl.LeastFelt(clean, seven, 4))},
		{"too many programs, largest", "[] 0 3", all(impl.LargestClean(clean, seven, 4))},
		{"too many programs ahead of range", "[] 3", all(impl.FewestWashes(clean, seven, 5))},
		{"invalid ahead of too many, fewest", "[] 1", all(impl.FewestWashes(clean, bad, 5))},
		{"invalid ahead of too many, least felt", "[] {0 0 0 0 0} 1", all(impl.LeastFelt(clean, bad, 5))},
		{"invalid ahead of too many, largest", "[] 0 1", all(impl.LargestClean(clean, bad, 5))},
		{"a cloth that is none, fewest", "[] 1", all(impl.FewestWashes(impl.Cloth{}, one, 5))},
		{"a cloth that is none, least felt", "[] {0 0 0 0 0} 1", all(impl.LeastFelt(impl.Cloth{}, one, 4))},
		{"a cloth that is none, largest", "[] 0 1", all(impl.LargestClean(impl.Cloth{}, one, 4))},
	})
}
