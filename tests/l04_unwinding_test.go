package tests

import (
	"math"
	"slices"
	"strings"
	"testing"

	"loop.example/g01384/impl"
)

// reelsByHand winds strands in the order of their indices; the last one of each reel lies at its end.
func reelsByHand(numbers []int64) [8][]int64 {
	var reels [8][]int64
	for i, number := range numbers {
		reels[number] = append(reels[number], int64(i))
	}
	return reels
}

// comeOff takes strands off one by one, and reports whether each one is the last one of its reel then.
func comeOff(numbers, order []int64) bool {
	reels := reelsByHand(numbers)
	for _, index := range order {
		own := reels[numbers[index]]
		if own[len(own)-1] != index {
			return false
		}
		reels[numbers[index]] = own[:len(own)-1]
	}
	return true
}

// permutations returns all orders of so many indices.
func permutations(count int) [][]int64 {
	if count == 0 {
		return [][]int64{{}}
	}
	var list [][]int64
	for _, order := range permutations(count - 1) {
		for at := range count {
			list = append(list, slices.Insert(slices.Clone(order), at, int64(count-1)))
		}
	}
	return list
}

// allNumbers returns all lists of so many numbers that are less than most.
func allNumbers(count int, most int64) [][]int64 {
	list := [][]int64{{}}
	for range count {
		var longer [][]int64
		for _, numbers := range list {
			for number := range most {
				longer = append(longer, append(slices.Clone(numbers), number))
			}
		}
		list = longer
	}
	return list
}

// TestP11UnwindOrder takes the strands of each reel off from its end, reel by reel.
func TestP11UnwindOrder(t *testing.T) {
	r := newRandom()
	for range 4000 {
		numbers := make([]int64, r.Intn(9))
		most := 1 + r.Int63n(8)
		for i := range numbers {
			numbers[i] = r.Int63n(most)
		}
		var want []int64
		for _, reel := range reelsByHand(numbers) {
			for len(reel) > 0 {
				want = append(want, reel[len(reel)-1])
				reel = reel[:len(reel)-1]
			}
		}
		got, code := impl.UnwindOrder(numbers)
		if code != impl.OK || !slices.Equal(got, want) {
			t.Fatalf("%v come off as %v %d, not %v", numbers, got, code, want)
		}
		if can, code := impl.CanUnwind(numbers, got); code != impl.OK || !can {
			t.Fatalf("%v cannot come off as %v, %d", numbers, got, code)
		}
	}
}

func TestP11UnwindOrderCodes(t *testing.T) {
	checkRows(t, []row{
		{"the example", "[2 0 1] 0", all(impl.UnwindOrder([]int64{0, 1, 0}))},
		{"one reel", "[3 2 1 0] 0", all(impl.UnwindOrder([]int64{5, 5, 5, 5}))},
		{"each on its own reel", "[0 1 2 3 4 5 6 7] 0", all(impl.UnwindOrder([]int64{0, 1, 2, 3, 4, 5, 6, 7}))},
		{"from the least number on", "[7 6 5 4 3 2 1 0] 0", all(impl.UnwindOrder([]int64{7, 6, 5, 4, 3, 2, 1, 0}))},
		{"numbers that are not used in between", "[3 1 2 0] 0", all(impl.UnwindOrder([]int64{7, 2, 4, 2}))},
		{"no strands", "[] 0", all(impl.UnwindOrder(nil))},
		{"one strand", "[0] 0", all(impl.UnwindOrder([]int64{7}))},
		{"a number less than 0", "[] 2", all(impl.UnwindOrder([]int64{0, -1}))},
		{"a number too great", "[] 2", all(impl.UnwindOrder([]int64{8, 0}))},
		{"the least number of all", "[] 2", all(impl.UnwindOrder([]int64{math.MinInt64}))},
		{"too many", "[] 3", all(impl.UnwindOrder(make([]int64, 9)))},
		{"limit ahead of range", "[] 3", all(impl.UnwindOrder([]int64{8, 8, 8, 8, 8, 8, 8, 8, 8}))},
	})
}

// TestP11CanUnwind looks at all orders of up to 5 strands on up to 3 reels.
func TestP11CanUnwind(t *testing.T) {
	for count := range 6 {
		orders := permutations(count)
		for _, numbers := range allNumbers(count, 3) {
			for _, order := range orders {
				got, code := impl.CanUnwind(numbers, order)
				if code != impl.OK || got != comeOff(numbers, order) {
					t.Fatalf("%v as %v: %v %d", numbers, order, got, code)
				}
			}
		}
	}
}

// TestP11CanUnwindMany looks at orders of many strands, of which about a half is right.
func TestP11CanUnwindMany(t *testing.T) {
	r, rights := newRandom(), 0
	for range 3000 {
		numbers := make([]int64, 6+r.Intn(3))
		for i := range numbers {
			numbers[i] = r.Int63n(8)
		}
		reels, order := reelsByHand(numbers), []int64(nil)
		for _, at := range r.Perm(len(numbers)) {
			reel := numbers[at]
			order = append(order, reels[reel][len(reels[reel])-1])
			reels[reel] = reels[reel][:len(reels[reel])-1]
		}
		if r.Intn(2) == 0 {
			a, b := r.Intn(len(order)), r.Intn(len(order))
			order[a], order[b] = order[b], order[a]
		}
		right := comeOff(numbers, order)
		if right {
			rights++
		}
		if got, code := impl.CanUnwind(numbers, order); code != impl.OK || got != right {
			t.Fatalf("%v as %v: %v %d", numbers, order, got, code)
		}
	}
	if rights < 300 || rights > 2700 {
		t.Errorf("%d of 3000 are right: this does not test much", rights)
	}
}

func TestP11CanUnwindCodes(t *testing.T) {
	reels := []int64{0, 1, 0}
	eight, nine := []int64{0, 1, 2, 3, 4, 5, 6, 7}, make([]int64, 9)
	checkRows(t, []row{
		{"the last one first", "true 0", all(impl.CanUnwind(reels, []int64{2, 0, 1}))},
		{"another reel in between", "true 0", all(impl.CanUnwind(reels, []int64{2, 1, 0}))},
		{"another reel first", "true 0", all(impl.CanUnwind(reels, []int64{1, 2, 0}))},
		{"the first one first", "false 0", all(impl.CanUnwind(reels, []int64{0, 1, 2}))},
		{"on one reel", "false 0", all(impl.CanUnwind([]int64{0, 0}, []int64{0, 1}))},
		{"on two reels", "true 0", all(impl.CanUnwind([]int64{1, 0}, []int64{0, 1}))},
		{"numbers that are not used in between", "true 0", all(impl.CanUnwind([]int64{7, 3, 7}, []int64{1, 2, 0}))},
		{"the last reel is wrong", "false 0", all(impl.CanUnwind([]int64{0, 7, 7}, []int64{0, 1, 2}))},
		{"eight reels", "true 0", all(impl.CanUnwind(eight, []int64{3, 0, 7, 1, 6, 2, 5, 4}))},
		{"no strands", "true 0", all(impl.CanUnwind(nil, nil))},
		{"an order of none", "false 4", all(impl.CanUnwind(reels, nil))},
		{"an order of fewer", "false 4", all(impl.CanUnwind(reels, []int64{1, 0}))},
		{"an order of more", "false 4", all(impl.CanUnwind(reels, []int64{2, 1, 0, 3}))},
		{"one twice", "false 4", all(impl.CanUnwind(reels, []int64{2, 0, 2}))},
		{"one that is not there", "false 4", all(impl.CanUnwind(reels, []int64{2, 1, 3}))},
		{"one less than 0", "false 4", all(impl.CanUnwind(reels, []int64{2, 1, -1}))},
		{"the greatest one of all", "false 4", all(impl.CanUnwind(reels, []int64{math.MaxInt64, 1, 0}))},
		{"an order of no strands", "false 4", all(impl.CanUnwind(nil, []int64{0}))},
		{"an order of too many", "false 4", all(impl.CanUnwind(eight, []int64{0, 1, 2, 3, 4, 5, 6, 7, 8}))},
		{"a number too great ahead of state", "false 2", all(impl.CanUnwind([]int64{0, 8}, nil))},
		{"a number less than 0 ahead of state", "false 2", all(impl.CanUnwind([]int64{-1}, nil))},
		{"too many ahead of range", "false 3", all(impl.CanUnwind([]int64{-1, 0, 0, 0, 0, 0, 0, 0, 0}, nil))},
		{"too many ahead of state", "false 3", all(impl.CanUnwind(nine, nil))},
	})
}

// placesOf tells when each strand comes off.
func placesOf(order []int64) []int64 {
	places := make([]int64, len(order))
	for place, index := range order {
		places[index] = int64(place)
	}
	return places
}

// longestRise returns how many strands come off one behind the other in the order in which they have been wound: no two
// of them can be on one reel, so that no fewer reels will do.
func longestRise(order []int64) int64 {
	most, rises := int64(0), make([]int64, len(order))
	places := placesOf(order)
	for i := range places {
		rises[i] = 1
		for j := range i {
			if places[j] < places[i] {
				rises[i] = max(rises[i], rises[j]+1)
			}
		}
		most = max(most, rises[i])
	}
	return most
}

// firstForOrder winds each strand onto the first reel whose last strand comes off behind it.
func firstForOrder(order []int64) []int64 {
	places, numbers := placesOf(order), []int64(nil)
	for i, place := range places {
		number := int64(0)
		for ; ; number++ {
			last := int64(-1)
			for j := range i {
				if numbers[j] == number {
					last = places[j]
				}
			}
			if last < 0 || last > place {
				break
			}
		}
		numbers = append(numbers, number)
	}
	return numbers
}

// TestP11FewestForOrder looks at all orders of up to 8 strands.
func TestP11FewestForOrder(t *testing.T) {
	for count := range 9 {
		for _, order := range permutations(count) {
			numbers, reels, code := impl.FewestForOrder(order)
			if code != impl.OK || !slices.Equal(numbers, firstForOrder(order)) || reels != longestRise(order) {
				t.Fatalf("%v: %v %d %d", order, numbers, reels, code)
			}
			if reels != int64(different(numbers)) || !comeOff(numbers, order) {
				t.Fatalf("%v cannot come off %v, or these are not %d", order, numbers, reels)
			}
		}
	}
}

// TestP11NoFewerForOrder tries all numbers of up to 5 strands: with one reel less they do not come off in the order.
func TestP11NoFewerForOrder(t *testing.T) {
	for count := 1; count < 6; count++ {
		for _, order := range permutations(count) {
			_, reels, code := impl.FewestForOrder(order)
			for _, numbers := range allNumbers(count, reels-1) {
				if code != impl.OK || comeOff(numbers, order) {
					t.Fatalf("%v: %d reels, but it comes off %v, %d", order, reels, numbers, code)
				}
			}
		}
	}
}

func TestP11FewestForOrderCodes(t *testing.T) {
	checkRows(t, []row{
		{"the example", "[0 0 1] 2 0", all(impl.FewestForOrder([]int64{1, 0, 2}))},
		{"from the last one on", "[0 0 0 0 0 0 0 0] 1 0", all(impl.FewestForOrder([]int64{7, 6, 5, 4, 3, 2, 1, 0}))},
		{"from the first one on", "[0 1 2 3 4 5 6 7] 8 0", all(impl.FewestForOrder([]int64{0, 1, 2, 3, 4, 5, 6, 7}))},
		{"the first reel, not the best one", "[0 1 0 1] 2 0", all(impl.FewestForOrder([]int64{2, 0, 3, 1}))},
		{"one strand", "[0] 1 0", all(impl.FewestForOrder([]int64{0}))},
		{"no strands", "[] 0 0", all(impl.FewestForOrder(nil))},
		{"one twice", "[] 0 4", all(impl.FewestForOrder([]int64{0, 0}))},
		{"one that is not there", "[] 0 4", all(impl.FewestForOrder([]int64{1}))},
		{"one less than 0", "[] 0 4", all(impl.FewestForOrder([]int64{0, -1}))},
		{"the least one of all", "[] 0 4", all(impl.FewestForOrder([]int64{math.MinInt64}))},
		{"too many", "[] 0 3", all(impl.FewestForOrder([]int64{8, 7, 6, 5, 4, 3, 2, 1, 0}))},
		{"limit ahead of state", "[] 0 3", all(impl.FewestForOrder(make([]int64, 9)))},
	})
}

func TestP11Texts(t *testing.T) {
	list := []impl.Strand{strand(50, 0), strand(2000, 5), strand(1, 3)}
	text := "50@0 2000@5 1@3"
	eight := make9()[:8]
	checkRows(t, []row{
		{"text", text, all(impl.StrandsText(list))},
		{"read", "[{50 0} {2000 5} {1 3}] 0", all(impl.ReadStrands(text))},
		{"of none", "[] 0", all(impl.ReadStrands(""))},
		{"none", "", all(impl.StrandsText(nil))},
		{"as many as may be", "1@0 2@0 3@0 4@0 5@0 6@0 7@0 8@0", all(impl.StrandsText(eight))},
		{"too many", "", all(impl.StrandsText(make9()))},
		{"a length that is not valid", "", all(impl.StrandsText([]impl.Strand{list[0], strand(2001, 0)}))},
		{"a dye that is not valid", "", all(impl.StrandsText([]impl.Strand{strand(1, 6), list[0]}))},
	})
	r := newRandom()
	for count := range 9 {
		for range 30 {
			list := randomStrands(r, count, 2000)
			back, code := impl.ReadStrands(impl.StrandsText(list))
			if code != impl.OK || !slices.Equal(back, list) {
				t.Fatalf("%v is read as %v, %d", list, back, code)
			}
		}
	}
}

func TestP11TextsThatAreNone(t *testing.T) {
	list := []string{
		" ", "x", "@", "1", "1@", "@1", "1@@1", "1@1@", "1@1@1", "@1@1", " 1@1", "1@1 ", "1@1  1@1", "1@1\n", "1@1\t1@1", "1@1\n1@1",
		"1@1,1@1", "1 @1", "1@ 1", "01@1", "1@01", "1@00", "+1@1", "1@+1", "-1@1", "1@-0", "1@-1", "0@1", "2001@1", "1@6", "1@10",
		"50@6", "65537@1", "32768@1", "1@256", "1@257", "0x1@1", "1_0@1", "1e1@1", "1.0@1", "1@1 0@1", "1@1 x", "1@1 1@6",
		"\x001@1", "1@1\x00", "\xff", "\xff@1", "1@\xff", "١@1", "1\u00a0@1", "1@1\u00a01@1",
		strings.Repeat("1@1 ", 8) + "1@1", "99999999999999999999@1", "1@99999999999999999999",
	}
	for _, text := range list {
		if got, code := impl.ReadStrands(text); code != impl.ErrSyntax || len(got) != 0 {
			t.Errorf("%q is read as %v, %d", text, got, code)
		}
	}
}
