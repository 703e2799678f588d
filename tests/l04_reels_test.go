package tests

import (
	"math"
	"math/rand"
	"slices"
	"testing"

	"loop.example/g01384/impl"
)

// apart lets no two dyes be together, and together lets all.
func apart() impl.Meets    { return impl.Meets{1, 2, 4, 8, 16, 32} }
func together() impl.Meets { return impl.Meets{63, 63, 63, 63, 63, 63} }

// chain lets each dye be with those beside it alone.
func chain() impl.Meets { return impl.Meets{3, 7, 14, 28, 56, 48} }

func strand(long int16, dye uint8) impl.Strand { return impl.Strand{Long: long, Dye: dye} }

// strandsOf returns strands of the dye 0.
func strandsOf(longs ...int16) []impl.Strand {
	list := make([]impl.Strand, len(longs))
	for i, long := range longs {
		list[i] = strand(long, 0)
	}
	return list
}

func dyed(dyes ...uint8) []impl.Strand {
	list := make([]impl.Strand, len(dyes))
	for i, dye := range dyes {
		list[i] = strand(10, dye)
	}
	return list
}

func randomMeets(r *rand.Rand) impl.Meets {
	m, often := apart(), r.Intn(4)
	for a := range m {
		for b := range a {
			if r.Intn(4) <= often {
				m[a] |= 1 << b
				m[b] |= 1 << a
			}
		}
	}
	return m
}

func randomStrands(r *rand.Rand, count int, most int64) []impl.Strand {
	list := make([]impl.Strand, count)
	for i := range list {
		list[i] = strand(int16(1+r.Int63n(most)), uint8(r.Intn(impl.Dyes)))
	}
	return list
}

// mayBeWith looks at one bit alone, by division.
func mayBeWith(m impl.Meets, a, b uint8) bool {
	bits := int(m[a])
	for range b {
		bits /= 2
	}
	return bits%2 == 1
}

// onReelByHand looks at all pairs, and at the length in all.
func onReelByHand(m impl.Meets, hold int64, list []impl.Strand) bool {
	for _, a := range list {
		for _, b := range list {
			if !mayBeWith(m, a.Dye, b.Dye) {
				return false
			}
		}
	}
	return longInAll(list) <= hold
}

func longInAll(list []impl.Strand) int64 {
	long := int64(0)
	for _, s := range list {
		long += int64(s.Long)
	}
	return long
}

// withNumber returns the strands with a number of those that have numbers.
func withNumber(list []impl.Strand, numbers []int64, number int64) []impl.Strand {
	var own []impl.Strand
	for i, n := range numbers {
		if n == number {
			own = append(own, list[i])
		}
	}
	return own
}

func rightByHand(m impl.Meets, hold int64, list []impl.Strand, numbers []int64) bool {
	if len(numbers) != len(list) {
		return false
	}
	for _, number := range numbers {
		if number < 0 || number > 7 || !onReelByHand(m, hold, withNumber(list, numbers, number)) {
			return false
		}
	}
	return true
}

func TestP10ValidStrands(t *testing.T) {
	for n := math.MinInt16; n <= math.MaxInt16; n++ {
		if impl.ValidStrands([]impl.Strand{strand(1, 5), strand(int16(n), 0)}) != (n >= 1 && n <= 2000) {
			t.Errorf("the length %d is not told right", n)
		}
	}
	for n := range 256 {
		if impl.ValidStrands([]impl.Strand{strand(2000, uint8(n)), strand(1, 0)}) != (n < 6) {
			t.Errorf("the dye %d is not told right", n)
		}
	}
	checkRows(t, []row{
		{"none, and more than MaxStrands", "true true", all(impl.ValidStrands(nil), impl.ValidStrands(make9()))},
	})
}

// make9 returns one strand more than MaxStrands.
func make9() []impl.Strand { return strandsOf(1, 2, 3, 4, 5, 6, 7, 8, 9) }

// TestP10ValidMeets flips bits of valid meets: one alone is never right, but for the bits of a pair of dyes.
func TestP10ValidMeets(t *testing.T) {
	r := newRandom()
	for range 300 {
		m := randomMeets(r)
		if !impl.ValidMeets(m) {
			t.Fatalf("%v is told not to be valid", m)
		}
		for dye := range m {
			for bit := range 8 {
				wrong := m
				wrong[dye] ^= 1 << bit
				if impl.ValidMeets(wrong) {
					t.Fatalf("%v is told to be valid", wrong)
				}
				if bit < 6 && bit != dye {
					wrong[bit] ^= 1 << dye
					if !impl.ValidMeets(wrong) {
						t.Fatalf("%v is told not to be valid", wrong)
					}
				}
			}
		}
	}
	checkRows(t, []row{
		{"valid ones", "true true true", all(impl.ValidMeets(apart()), impl.ValidMeets(together()), impl.ValidMeets(chain()))},
		{"no bits", "false", all(impl.ValidMeets(impl.Meets{}))},
		{"a dye that may not be with itself", "false", all(impl.ValidMeets(impl.Meets{1, 2, 4, 8, 16, 0}))},
		{"two that may be with each other, but not with themselves", "false", all(impl.ValidMeets(impl.Meets{2, 1, 4, 8, 16, 32}))},
		{"only one of two may be with the other", "false", all(impl.ValidMeets(impl.Meets{3, 2, 4, 8, 16, 32}))},
		{"only the other one may", "false", all(impl.ValidMeets(impl.Meets{1, 3, 4, 8, 16, 32}))},
		{"a bit of no dye", "false", all(impl.ValidMeets(impl.Meets{1, 2, 4, 8, 16, 32 + 64}))},
		{"all bits", "false", all(impl.ValidMeets(impl.Meets{255, 255, 255, 255, 255, 255}))},
	})
}

func TestP10MayWind(t *testing.T) {
	r := newRandom()
	for range 100 {
		m := randomMeets(r)
		for a := range uint8(6) {
			for b := range uint8(6) {
				got, code := impl.MayWind(m, strand(2000, a), strand(2000, b))
				if code != impl.OK || got != mayBeWith(m, a, b) {
					t.Fatalf("%d and %d by %v: %v %d", a, b, m, got, code)
				}
			}
		}
	}
	right := strand(1, 0)
	checkRows(t, []row{
		{"with itself", "true 0", all(impl.MayWind(apart(), right, right))},
		{"with another one", "false 0", all(impl.MayWind(apart(), right, strand(1, 5)))},
		{"with one beside it", "true 0", all(impl.MayWind(chain(), strand(1, 5), strand(1, 4)))},
		{"the first one too long", "false 1", all(impl.MayWind(apart(), strand(2001, 0), right))},
		{"the second one too short", "false 1", all(impl.MayWind(apart(), right, strand(0, 0)))},
		{"no such dye", "false 1", all(impl.MayWind(apart(), strand(1, 6), right))},
		{"no such second dye", "false 1", all(impl.MayWind(apart(), right, strand(1, 255)))},
		{"meets of one of two", "false 1", all(impl.MayWind(impl.Meets{3, 2, 4, 8, 16, 32}, right, right))},
	})
}

func TestP10OnReel(t *testing.T) {
	r := newRandom()
	for range 4000 {
		m, list := randomMeets(r), randomStrands(r, r.Intn(9), []int64{3, 100, 2000}[r.Intn(3)])
		if r.Intn(2) == 0 {
			m = together()
		}
		hold := min(impl.MaxHold, max(1, longInAll(list)+int64(r.Intn(3)-1)))
		got, code := impl.OnReel(m, hold, list)
		if code != impl.OK || got != onReelByHand(m, hold, list) {
			t.Fatalf("%v by %v on %d: %v %d", list, m, hold, got, code)
		}
	}
}

func TestP10OnReelCodes(t *testing.T) {
	m, bad := apart(), impl.Meets{1, 2, 4, 8, 16, 0}
	list := []impl.Strand{strand(50, 0), strand(60, 1), strand(40, 0)}
	eight, wrong := strandsOf(250, 250, 250, 250, 250, 250, 250, 250), append(make9(), strand(0, 0))
	checkRows(t, []row{
		{"dyes apart", "false 0", all(impl.OnReel(m, 2000, list[:2]))},
		{"dyes apart of which one is not beside the other", "false 0", all(impl.OnReel(m, 2000, list))},
		{"only the first and the last may not be", "false 0", all(impl.OnReel(chain(), 2000, dyed(1, 2, 2, 3)))},
		{"each beside the others", "true 0", all(impl.OnReel(chain(), 2000, dyed(1, 2, 2, 1)))},
		{"as long as it holds", "true 0", all(impl.OnReel(together(), 150, list))},
		{"longer than it holds", "false 0", all(impl.OnReel(together(), 149, list))},
		{"one as long as it holds", "true 0", all(impl.OnReel(m, 50, list[:1]))},
		{"one that is longer", "false 0", all(impl.OnReel(m, 49, list[:1]))},
		{"no strands", "true 0", all(impl.OnReel(m, 1, nil))},
		{"as many as may be", "true 0", all(impl.OnReel(m, 2000, eight))},
		{"one more", "false 3", all(impl.OnReel(m, 2000, make9()))},
		{"hold 0", "false 2", all(impl.OnReel(m, 0, nil))},
		{"hold too great", "false 2", all(impl.OnReel(m, 2001, nil))},
		{"the least hold", "false 2", all(impl.OnReel(m, math.MinInt64, nil))},
		{"limit ahead of range", "false 3", all(impl.OnReel(m, 0, make9()))},
		{"strands not valid ahead of limit", "false 1", all(impl.OnReel(m, 0, wrong))},
		{"meets not valid ahead of limit", "false 1", all(impl.OnReel(bad, 0, make9()))},
	})
}

func TestP10CheckReels(t *testing.T) {
	r, rights := newRandom(), 0
	for range 6000 {
		m, list := randomMeets(r), randomStrands(r, r.Intn(9), 50)
		hold, numbers := 1+r.Int63n(300), make([]int64, len(list))
		for i := range numbers {
			numbers[i] = []int64{0, 3, 4, 5, 6, 7, r.Int63n(10) - 1}[r.Intn(7)]
		}
		right := rightByHand(m, hold, list, numbers)
		if right {
			rights++
		}
		if got, code := impl.CheckReels(m, hold, list, numbers); code != impl.OK || got != right {
			t.Fatalf("%v on %v by %v and %d: %v %d", list, numbers, m, hold, got, code)
		}
	}
	if rights < 300 || rights > 5700 {
		t.Errorf("%d of 6000 are right: this does not test much", rights)
	}
}

func TestP10CheckReelsCodes(t *testing.T) {
	m, bad := apart(), impl.Meets{1, 2, 4, 8, 16, 0}
	list := []impl.Strand{strand(50, 0), strand(60, 1), strand(40, 0)}
	wrong := append(make9(), strand(0, 0))
	checkRows(t, []row{
		{"the example", "true 0", all(impl.CheckReels(m, 100, list, []int64{0, 1, 0}))},
		{"numbers that are not used in between", "true 0", all(impl.CheckReels(m, 100, list, []int64{7, 2, 7}))},
		{"more reels than are needed", "true 0", all(impl.CheckReels(m, 100, list, []int64{2, 1, 0}))},
		{"dyes apart", "false 0", all(impl.CheckReels(m, 100, list, []int64{0, 1, 1}))},
		{"as long as it holds", "true 0", all(impl.CheckReels(m, 90, list, []int64{0, 1, 0}))},
		{"longer than it holds", "false 0", all(impl.CheckReels(m, 89, list, []int64{0, 1, 0}))},
		{"one longer than it holds", "false 0", all(impl.CheckReels(m, 59, list, []int64{0, 1, 2}))},
		{"too few numbers", "false 0", all(impl.CheckReels(m, 100, list, []int64{0, 1}))},
		{"too many numbers", "false 0", all(impl.CheckReels(m, 100, list, []int64{0, 1, 0, 2}))},
		{"a number less than 0", "false 0", all(impl.CheckReels(m, 100, list, []int64{0, -1, 0}))},
		{"a number too great", "false 0", all(impl.CheckReels(m, 100, list, []int64{0, 8, 0}))},
		{"the greatest number", "false 0", all(impl.CheckReels(m, 100, list, []int64{0, math.MaxInt64, 0}))},
		{"no strands", "true 0", all(impl.CheckReels(m, 100, nil, nil))},
		{"no strands and a number", "false 0", all(impl.CheckReels(m, 100, nil, []int64{0}))},
		{"strands and no number", "false 0", all(impl.CheckReels(m, 100, list, nil))},
		{"eight reels", "true 0", all(impl.CheckReels(m, 8, make9()[:8], []int64{7, 6, 5, 4, 3, 2, 1, 0}))},
		{"hold 0", "false 2", all(impl.CheckReels(m, 0, list, nil))},
		{"hold too great", "false 2", all(impl.CheckReels(m, 2001, list, []int64{0, 1, 0}))},
		{"limit ahead of range", "false 3", all(impl.CheckReels(m, 0, make9(), nil))},
		{"strands not valid ahead of limit", "false 1", all(impl.CheckReels(m, 0, wrong, nil))},
		{"meets not valid ahead of limit", "false 1", all(impl.CheckReels(bad, 0, make9(), nil))},
	})
}

// TestP10FirstReels: no strand could be on a reel with a lesser number, and new reels have the next number.
func TestP10FirstReels(t *testing.T) {
	r := newRandom()
	for range 4000 {
		m, list := randomMeets(r), randomStrands(r, r.Intn(9), 50)
		hold := 50 + r.Int63n(100)
		numbers, reels, code := impl.FirstReels(m, hold, list)
		if code != impl.OK || !rightByHand(m, hold, list, numbers) {
			t.Fatalf("%v by %v and %d: %v %d %d", list, m, hold, numbers, reels, code)
		}
		used := int64(0)
		for i, number := range numbers {
			for lesser := range number {
				if onReelByHand(m, hold, append(withNumber(list, numbers[:i], lesser), list[i])) {
					t.Fatalf("%v by %v and %d: %v winds %d not onto %d", list, m, hold, numbers, i, lesser)
				}
			}
			if number > used {
				t.Fatalf("%v by %v and %d: %v leaves out %d", list, m, hold, numbers, used)
			}
			used = max(used, number+1)
		}
		if reels != used {
			t.Fatalf("%v by %v and %d: %v has not %d reels", list, m, hold, numbers, reels)
		}
	}
}

func TestP10FirstReelsCodes(t *testing.T) {
	m, bad := apart(), impl.Meets{1, 2, 4, 8, 16, 0}
	list := []impl.Strand{strand(50, 0), strand(60, 1), strand(40, 0)}
	wrong := append(make9(), strand(0, 0))
	checkRows(t, []row{
		{"the example", "[0 1 0] 2 0", all(impl.FirstReels(m, 100, list))},
		{"as long as they hold", "[0 1 0] 2 0", all(impl.FirstReels(m, 90, list))},
		{"longer than one holds", "[0 1 2] 3 0", all(impl.FirstReels(m, 89, list))},
		{"each as long as a reel holds", "[0 1 2 3 4 5 6 7] 8 0", all(impl.FirstReels(m, 7, strandsOf(7, 7, 7, 7, 7, 7, 7, 7)))},
		{"back to the first one", "[0 1 0 1 0] 2 0", all(impl.FirstReels(m, 100, strandsOf(60, 70, 30, 30, 10)))},
		{"more than are needed", "[0 0 1 2] 3 0", all(impl.FirstReels(m, 10, strandsOf(3, 4, 6, 7)))},
		{"beside those that may be", "[0 0 1 1 0] 2 0", all(impl.FirstReels(chain(), 100, dyed(0, 1, 2, 3, 0)))},
		{"no strands", "[] 0 0", all(impl.FirstReels(m, 1, nil))},
		{"the last one longer than hold", "[] 0 6", all(impl.FirstReels(m, 59, []impl.Strand{list[0], list[2], list[1]}))},
		{"one longer than hold", "[] 0 6", all(impl.FirstReels(m, 49, list[:1]))},
		{"one as long as hold", "[0] 1 0", all(impl.FirstReels(m, 50, list[:1]))},
		{"hold 0 ahead of not found", "[] 0 2", all(impl.FirstReels(m, 0, list))},
		{"hold too great", "[] 0 2", all(impl.FirstReels(m, 2001, list))},
		{"limit ahead of range", "[] 0 3", all(impl.FirstReels(m, 0, make9()))},
		{"limit ahead of not found", "[] 0 3", all(impl.FirstReels(m, 1, make9()))},
		{"strands not valid ahead of limit", "[] 0 1", all(impl.FirstReels(m, 0, wrong))},
		{"meets not valid ahead of limit", "[] 0 1", all(impl.FirstReels(bad, 0, make9()))},
	})
}

// fewestByHand winds as the document tells, by calling itself, and looks at whole reels each time.
func fewestByHand(m impl.Meets, hold int64, list []impl.Strand) ([]int64, int64) {
	tries, numbers := int64(0), []int64{}
	var wind func(count, used int64) bool
	wind = func(count, used int64) bool {
		at := len(numbers)
		if at == len(list) {
			return true
		}
		for number := int64(0); number <= used && number < count; number++ {
			if !onReelByHand(m, hold, append(withNumber(list, numbers, number), list[at])) {
				continue
			}
			tries++
			numbers = append(numbers, number)
			if wind(count, max(used, number+1)) {
				return true
			}
			numbers = numbers[:at]
		}
		return false
	}
	for count := int64(0); ; count++ {
		if wind(count, 0) {
			return numbers, tries
		}
	}
}

// fewestOfAll goes through all numbers up to 7, right or not, from the last ones to the first ones.
func fewestOfAll(m impl.Meets, hold int64, list []impl.Strand) []int64 {
	most := int64(len(list)) - 1
	numbers := slices.Repeat([]int64{most}, len(list))
	var best []int64
	for {
		if rightByHand(m, hold, list, numbers) && (best == nil || different(numbers) <= different(best)) {
			best = slices.Clone(numbers)
		}
		at := len(numbers) - 1
		for at >= 0 && numbers[at] == 0 {
			numbers[at] = most
			at--
		}
		if at < 0 {
			return best
		}
		numbers[at]--
	}
}

func different(numbers []int64) int {
	sorted := slices.Sorted(slices.Values(numbers))
	return len(slices.Compact(sorted))
}

// TestP10NoFewerReels: of all right numbers those that are told have the fewest reels, and come first.
func TestP10NoFewerReels(t *testing.T) {
	r := newRandom()
	for range 400 {
		m, list := randomMeets(r), randomStrands(r, 1+r.Intn(5), 50)
		hold := 50 + r.Int63n(60)
		numbers, _, code := impl.FewestReels(m, hold, list, impl.MaxReels)
		if want := fewestOfAll(m, hold, list); code != impl.OK || !slices.Equal(numbers, want) {
			t.Fatalf("%v by %v and %d: %v %d, not %v", list, m, hold, numbers, code, want)
		}
	}
}

// TestP10Tries: numbers and tries are those of winding by hand; with as many tries as budget all are wound, and with one
// less they are not.
func TestP10Tries(t *testing.T) {
	r, most := newRandom(), int64(0)
	for range 4000 {
		m, list := randomMeets(r), randomStrands(r, r.Intn(9), 50)
		hold := 50 + r.Int63n(60)
		if r.Intn(2) == 0 {
			m = together()
		}
		want, wantTries := fewestByHand(m, hold, list)
		most = max(most, wantTries)
		for _, budget := range []int64{wantTries, wantTries + 1, impl.MaxReels} {
			numbers, tries, code := impl.FewestReels(m, hold, list, budget)
			if code != impl.OK || !slices.Equal(numbers, want) || tries != wantTries {
				t.Fatalf("%v by %v and %d: %v %d %d, not %v %d", list, m, hold, numbers, tries, code, want, wantTries)
			}
		}
		if wantTries == 0 {
			continue
		}
		for _, budget := range []int64{0, wantTries / 2, wantTries - 1} {
			numbers, tries, code := impl.FewestReels(m, hold, list, budget)
			if code != impl.ErrBudget || len(numbers) != 0 || tries != 0 {
				t.Fatalf("%v by %v and %d for %d tries: %v %d %d", list, m, hold, budget, numbers, tries, code)
			}
		}
	}
	if most < 100 {
		t.Errorf("at most %d tries: this does not test much", most)
	}
}

func TestP10FewestReelsCodes(t *testing.T) {
	m, bad := apart(), impl.Meets{1, 2, 4, 8, 16, 0}
	list := []impl.Strand{strand(50, 0), strand(60, 1), strand(40, 0)}
	tight, wrong := strandsOf(3, 4, 6, 7), append(make9(), strand(0, 0))
	checkRows(t, []row{
		// One reel takes the first strand alone, which is one try; with two reels each try is right.
		{"the example", "[0 1 0] 4 0", all(impl.FewestReels(m, 100, list, 4))},
		{"a try less", "[] 0 7", all(impl.FewestReels(m, 100, list, 3))},
		{"a budget of 0", "[] 0 7", all(impl.FewestReels(m, 100, list, 0))},
		{"the greatest budget", "[0 1 0] 4 0", all(impl.FewestReels(m, 100, list, 20000))},
		// Two tries for one reel. For two of them 0, 0 and 1, where 7 goes nowhere; then 1 for 4, and 0 for 6, where it goes
		// nowhere again; then 1 for 6, and 0 for 7.
		{"where the first reels do not do", "[0 1 1 0] 9 0", all(impl.FewestReels(m, 10, tight, 9))},
		{"there with a try less", "[] 0 7", all(impl.FewestReels(m, 10, tight, 8))},
		{"on one reel", "[0 0 0 0 0 0 0 0] 8 0", all(impl.FewestReels(m, 8, strandsOf(1, 1, 1, 1, 1, 1, 1, 1), 8))},
		{"on eight reels", "[0 1 2 3 4 5 6 7] 36 0", all(impl.FewestReels(m, 7, strandsOf(7, 7, 7, 7, 7, 7, 7, 7), 36))},
		{"on eight reels with a try less", "[] 0 7", all(impl.FewestReels(m, 7, strandsOf(7, 7, 7, 7, 7, 7, 7, 7), 35))},
		{"of equally good ones the first one", "[0 0 1 1] 6 0", all(impl.FewestReels(m, 10, strandsOf(5, 5, 5, 5), 6))},
		{"no strands with a budget of 0", "[] 0 0", all(impl.FewestReels(m, 1, nil, 0))},
		{"one strand with a budget of 0", "[] 0 7", all(impl.FewestReels(m, 50, list[:1], 0))},
		{"one strand with a budget of 1", "[0] 1 0", all(impl.FewestReels(m, 50, list[:1], 1))},
		{"longer than hold ahead of the budget", "[] 0 6", all(impl.FewestReels(m, 59, list, 0))},
		{"budget less than 0", "[] 0 2", all(impl.FewestReels(m, 100, nil, -1))},
		{"budget too great", "[] 0 2", all(impl.FewestReels(m, 100, nil, 20001))},
		{"budget ahead of not found", "[] 0 2", all(impl.FewestReels(m, 1, list, -1))},
		{"hold 0", "[] 0 2", all(impl.FewestReels(m, 0, nil, 0))},
		{"hold too great", "[] 0 2", all(impl.FewestReels(m, 2001, list, 9))},
		{"limit ahead of the range of hold", "[] 0 3", all(impl.FewestReels(m, 0, make9(), 9))},
		{"limit ahead of the range of budget", "[] 0 3", all(impl.FewestReels(m, 9, make9(), -1))},
		{"strands not valid ahead of limit", "[] 0 1", all(impl.FewestReels(m, 0, wrong, -1))},
		{"meets not valid ahead of limit", "[] 0 1", all(impl.FewestReels(bad, 0, make9(), -1))},
	})
}

// lotsByHand looks at all choices of strands by their bits, the order of which is not that of lists.
func lotsByHand(m impl.Meets, list []impl.Strand) []int64 {
	best := []int64{}
	for bits := range 1 << len(list) {
		lot, right := []int64{}, true
		for i, s := range list {
			if bits>>i&1 == 0 {
				continue
			}
			for _, other := range lot {
				right = right && !mayBeWith(m, list[other].Dye, s.Dye)
			}
			lot = append(lot, int64(i))
		}
		if right && (len(lot) > len(best) || len(lot) == len(best) && slices.Compare(lot, best) < 0) {
			best = lot
		}
	}
	return best
}

func TestP10LotsApart(t *testing.T) {
	r := newRandom()
	for range 3000 {
		m, list := randomMeets(r), randomStrands(r, r.Intn(9), 2000)
		got, code := impl.LotsApart(m, list)
		if want := lotsByHand(m, list); code != impl.OK || !slices.Equal(got, want) {
			t.Fatalf("%v by %v: %v %d, not %v", list, m, got, code, want)
		}
	}
}

func TestP10LotsApartCodes(t *testing.T) {
	m, bad := apart(), impl.Meets{3, 2, 4, 8, 16, 32}
	wrong := append(make9(), strand(1, 6))
	checkRows(t, []row{
		{"the example", "[0 1] 0", all(impl.LotsApart(m, []impl.Strand{strand(50, 0), strand(60, 1), strand(40, 0)}))},
		{"all of one dye", "[0] 0", all(impl.LotsApart(m, dyed(3, 3, 3)))},
		{"all may be together", "[0] 0", all(impl.LotsApart(together(), dyed(5, 4, 3)))},
		{"all dyes", "[0 1 2 3 4 6] 0", all(impl.LotsApart(m, dyed(5, 4, 3, 2, 1, 1, 0, 5)))},
		{"equally good ones", "[0 2] 0", all(impl.LotsApart(chain(), dyed(0, 1, 2, 3)))},
		{"not with the first one", "[1 2] 0", all(impl.LotsApart(chain(), dyed(1, 0, 2)))},
		{"two of three dyes in a row", "[0 2 4] 0", all(impl.LotsApart(chain(), dyed(0, 1, 2, 3, 4, 5)))},
		{"as long as strands may be", "[0 1] 0", all(impl.LotsApart(m, []impl.Strand{strand(2000, 0), strand(2000, 1)}))},
		{"no strands", "[] 0", all(impl.LotsApart(m, nil))},
		{"eight strands", "[0] 0", all(impl.LotsApart(m, make9()[:8]))},
		{"too many", "[] 3", all(impl.LotsApart(m, make9()))},
		{"strands not valid ahead of limit", "[] 1", all(impl.LotsApart(m, wrong))},
		{"meets not valid ahead of limit", "[] 1", all(impl.LotsApart(bad, make9()))},
	})
}

func TestP10LeftOn(t *testing.T) {
	r := newRandom()
	for range 4000 {
		list := randomStrands(r, r.Intn(9), 50)
		hold, numbers, fits := 40+r.Int63n(160), make([]int64, len(list)), true
		for i := range numbers {
			numbers[i] = r.Int63n(8)
		}
		want := []int64{}
		for number := range int64(8) {
			if len(numbers) > 0 && number <= slices.Max(numbers) {
				left := hold - longInAll(withNumber(list, numbers, number))
				want = append(want, left)
				fits = fits && left >= 0
			}
		}
		got, code := impl.LeftOn(hold, list, numbers)
		if fits && (code != impl.OK || !slices.Equal(got, want)) || !fits && (code != impl.ErrState || len(got) != 0) {
			t.Fatalf("%v on %v by %d: %v %d, not %v", list, numbers, hold, got, code, want)
		}
	}
}

func TestP10LeftOnCodes(t *testing.T) {
	list := []impl.Strand{strand(50, 0), strand(60, 1), strand(40, 0)}
	wrong := append(make9(), strand(1, 6))
	checkRows(t, []row{
		{"of the example", "[10 40] 0", all(impl.LeftOn(100, list, []int64{0, 1, 0}))},
		{"dyes are not asked", "[50 0] 0", all(impl.LeftOn(100, list, []int64{0, 1, 1}))},
		{"something would be less than 0", "[] 4", all(impl.LeftOn(99, list, []int64{0, 1, 1}))},
		{"one longer than hold", "[] 4", all(impl.LeftOn(59, list, []int64{0, 1, 2}))},
		{"numbers that are not used in between", "[100 50 100 100 40 100 100 60] 0", all(impl.LeftOn(100, list, []int64{1, 4, 7}))},
		{"only the greatest number", "[2000 2000 2000 2000 2000 2000 2000 1850] 0", all(impl.LeftOn(2000, list, []int64{7, 7, 7}))},
		{"no strands", "[] 0", all(impl.LeftOn(1, nil, nil))},
		{"too few numbers", "[] 4", all(impl.LeftOn(100, list, []int64{0, 1}))},
		{"too many numbers", "[] 4", all(impl.LeftOn(100, list, []int64{0, 1, 0, 0}))},
		{"no strands and a number", "[] 4", all(impl.LeftOn(100, nil, []int64{0}))},
		{"a number less than 0", "[] 4", all(impl.LeftOn(100, list, []int64{0, 1, -1}))},
		{"a number too great", "[] 4", all(impl.LeftOn(100, list, []int64{8, 1, 0}))},
		{"the greatest number of all", "[] 4", all(impl.LeftOn(100, list, []int64{math.MaxInt64, 1, 0}))},
		{"hold 0 ahead of state", "[] 2", all(impl.LeftOn(0, list, nil))},
		{"hold too great", "[] 2", all(impl.LeftOn(2001, list, []int64{0, 1, 0}))},
		{"limit ahead of range", "[] 3", all(impl.LeftOn(0, make9(), nil))},
		{"limit ahead of state", "[] 3", all(impl.LeftOn(100, make9(), make([]int64, 9)))},
		{"strands not valid ahead of limit", "[] 1", all(impl.LeftOn(0, wrong, nil))},
	})
}
