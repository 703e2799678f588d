package tests

import (
	"math"
	"slices"
	"strings"
	"testing"

	"loop.example/g01384/impl"
)

// foldedByHand and crossedByHand follow the indices that the document tells.
func foldedByHand(w []int64) []int64 {
	n := len(w)
	out := make([]int64, n/2)
	for k := range out {
		out[k] = w[k] + w[n-1-k]
	}
	return out
}

func crossedByHand(w []int64) []int64 {
	n := len(w)
	out := make([]int64, n/2)
	for k := range out {
		out[k] = w[k] + w[k+n/2]
	}
	return out
}

func rolledByHand(w []int64) []int64 {
	out := make([]int64, len(w))
	for i, thick := range w {
		out[(i+1)%len(w)] = thick
	}
	return out
}

func drawnByHand(w []int64) []int64 {
	out := make([]int64, 2*len(w))
	for k, thick := range w {
		out[2*k], out[2*k+1] = (thick+1)/2, thick-(thick+1)/2
	}
	return out
}

func cardedByHand(w []int64, pass byte, percent int64) ([]int64, int64) {
	var out []int64
	switch pass {
	case 'r':
		return rolledByHand(w), 0
	case 'f':
		out = drawnByHand(foldedByHand(w))
	case 'c':
		out = drawnByHand(crossedByHand(w))
	}
	fallen := int64(0)
	for i, thick := range out {
		out[i] -= thick * percent / 100
		fallen += thick * percent / 100
	}
	return out, fallen
}

// TestP4LaidDouble: what comes together, is drawn out, or rolled, has the total of the web.
func TestP4LaidDouble(t *testing.T) {
	for _, w := range webPool() {
		folded, c0 := impl.FoldWeb(w)
		crossed, c1 := impl.CrossWeb(w)
		rolled, c2 := impl.RollWeb(w, 1)
		out, c3 := impl.DrawOut(folded, int64(len(w)))
		if c0 != impl.OK || c1 != impl.OK || c2 != impl.OK || c3 != impl.OK {
			t.Fatalf("%v: codes %d, %d, %d, %d", w, c0, c1, c2, c3)
		}
		if !slices.Equal(folded, foldedByHand(w)) || !slices.Equal(crossed, crossedByHand(w)) {
			t.Fatalf("%v folds to %v, and crosses to %v", w, folded, crossed)
		}
		if !slices.Equal(rolled, rolledByHand(w)) || !slices.Equal(out, drawnByHand(folded)) {
			t.Fatalf("%v rolls to %v, and %v is drawn out to %v", w, rolled, folded, out)
		}
		for _, list := range [][]int64{folded, crossed, rolled, out} {
			if totalByHand(list) != totalByHand(w) {
				t.Fatalf("%v has become %v", w, list)
			}
		}
	}
}

func TestP4LaidDoubleCodes(t *testing.T) {
	example, wrong := []int64{9, 1, 0, 2}, []int64{9, 1, 0, 10001}
	six := []int64{0, 1, 2, 3, 4, 5, 6, 7, 8, 9, 10, 11}
	checkRows(t, []row{
		{"folded", "[11 1] 0", all(impl.FoldWeb(example))},
		{"two folded", "[10] 0", all(impl.FoldWeb(example[:2]))},
		{"twelve folded", "[11 11 11 11 11 11] 0", all(impl.FoldWeb(six))},
		{"thick ones folded", "[20000] 0", all(impl.FoldWeb(fullWeb(2)))},
		{"folded not valid", "[] 1", all(impl.FoldWeb(wrong))},
		{"crossed", "[9 3] 0", all(impl.CrossWeb(example))},
		{"two crossed", "[10] 0", all(impl.CrossWeb(example[:2]))},
		{"twelve crossed", "[6 8 10 12 14 16] 0", all(impl.CrossWeb(six))},
		{"thick ones crossed", "[20000 20000 20000 20000 20000 20000] 0", all(impl.CrossWeb(fullWeb(12)))},
		{"crossed not valid", "[] 1", all(impl.CrossWeb(example[:3]))},
	})
}

func TestP4DrawOutCodes(t *testing.T) {
	checkRows(t, []row{
		{"the half that is rounded up is first", "[6 5 1 0] 0", all(impl.DrawOut([]int64{11, 1}, 4))},
		{"even ones", "[5 5 0 0] 0", all(impl.DrawOut([]int64{10, 0}, 4))},
		{"one", "[2 1] 0", all(impl.DrawOut([]int64{3}, 2))},
		{"the greatest", "[10000 10000] 0", all(impl.DrawOut([]int64{20000}, 2))},
		{"one less", "[10000 9999] 0", all(impl.DrawOut([]int64{19999}, 2))},
		{"six", "[1 0 1 1 2 1 2 2 3 2 3 3] 0", all(impl.DrawOut([]int64{1, 2, 3, 4, 5, 6}, 12))},
		{"too thick", "[] 2", all(impl.DrawOut([]int64{0, 20001}, 4))},
		{"less than 0", "[] 2", all(impl.DrawOut([]int64{0, -1}, 4))},
		{"none", "[] 2", all(impl.DrawOut(nil, 0))},
		{"seven", "[] 2", all(impl.DrawOut(make([]int64, 7), 14))},
		{"as many stripes", "[] 2", all(impl.DrawOut([]int64{11, 1}, 2))},
		{"an odd number of stripes", "[] 2", all(impl.DrawOut([]int64{11, 1}, 5))},
		{"one stripe less", "[] 2", all(impl.DrawOut([]int64{11, 1}, 3))},
		{"too many stripes", "[] 2", all(impl.DrawOut([]int64{11, 1}, 6))},
		{"stripes less than 0", "[] 2", all(impl.DrawOut([]int64{11, 1}, -4))},
		{"the least of stripes", "[] 2", all(impl.DrawOut([]int64{11, 1}, math.MinInt64))},
	})
}

// TestP4Rolled: rolling by any number of places is rolling by 1 as often, or back.
func TestP4Rolled(t *testing.T) {
	for _, w := range webPool() {
		right := slices.Clone(w)
		for by := range int64(30) {
			left, c0 := impl.RollWeb(right, -by)
			got, c1 := impl.RollWeb(w, by)
			if c0 != impl.OK || c1 != impl.OK || !slices.Equal(got, right) || !slices.Equal(left, w) {
				t.Fatalf("%v rolls by %d to %v, %d, and back to %v, %d", w, by, got, c1, left, c0)
			}
			right = rolledByHand(right)
		}
	}
	w := []int64{9, 1, 0, 2}
	six := []int64{1, 2, 3, 4, 5, 6}
	checkRows(t, []row{
		{"by 1", "[2 9 1 0] 0", all(impl.RollWeb(w, 1))},
		{"to the left", "[1 0 2 9] 0", all(impl.RollWeb(w, -1))},
		{"by nothing", "[9 1 0 2] 0", all(impl.RollWeb(w, 0))},
		{"by all", "[9 1 0 2] 0", all(impl.RollWeb(w, 4))},
		{"by more than all", "[0 2 9 1] 0", all(impl.RollWeb(w, 6))},
		{"by more than all to the left", "[2 9 1 0] 0", all(impl.RollWeb(w, -7))},
		{"by the greatest", "[1 0 2 9] 0", all(impl.RollWeb(w, math.MaxInt64))},
		{"by the least", "[9 1 0 2] 0", all(impl.RollWeb(w, math.MinInt64))},
		{"six by the greatest", "[6 1 2 3 4 5] 0", all(impl.RollWeb(six, math.MaxInt64))},
		{"six by the least", "[3 4 5 6 1 2] 0", all(impl.RollWeb(six, math.MinInt64))},
		{"not valid", "[] 1", all(impl.RollWeb(w[:1], 1))},
	})
}

// TestP4CardingKeeps: behind a pass the web and what has fallen out have the total of the web before.
func TestP4CardingKeeps(t *testing.T) {
	for _, w := range webPool() {
		for _, pass := range []byte("cfr") {
			for _, percent := range []int64{0, 1, 7, 50, 99, 100} {
				got, fallen, code := impl.CardOnce(w, pass, percent)
				mustWeb(t, got, code)
				if totalByHand(got)+fallen != totalByHand(w) {
					t.Fatalf("%v by %c and %d: %v, and %d has fallen out", w, pass, percent, got, fallen)
				}
				want, out := cardedByHand(w, pass, percent)
				if !slices.Equal(got, want) || fallen != out {
					t.Fatalf("%v by %c and %d: %v %d, not %v %d", w, pass, percent, got, fallen, want, out)
				}
			}
		}
	}
}

// TestP4CardingAllKeeps: so do several passes, each one behind the one before.
func TestP4CardingAllKeeps(t *testing.T) {
	r := newRandom()
	for _, w := range webPool() {
		for _, count := range []int{0, 1, 2, 5, 20} {
			passes, percent := make([]byte, count), r.Int63n(101)
			want, out := slices.Clone(w), int64(0)
			for i := range passes {
				passes[i] = "cfr"[r.Intn(3)]
				next, more := cardedByHand(want, passes[i], percent)
				want, out = next, out+more
			}
			got, fallen, code := impl.CardAll(w, string(passes), percent)
			mustWeb(t, got, code)
			if !slices.Equal(got, want) || fallen != out || totalByHand(got)+fallen != totalByHand(w) {
				t.Fatalf("%v by %s and %d: %v %d, not %v %d", w, passes, percent, got, fallen, want, out)
			}
		}
	}
}

func TestP4CardOnceCodes(t *testing.T) {
	w, wrong := []int64{9, 1, 0, 2}, []int64{9, 1, 0}
	checkRows(t, []row{
		{"folded", "[6 5 1 0] 0 0", all(impl.CardOnce(w, 'f', 0))},
		{"crossed", "[5 4 2 1] 0 0", all(impl.CardOnce(w, 'c', 0))},
		{"rolled", "[2 9 1 0] 0 0", all(impl.CardOnce(w, 'r', 0))},
		{"a half falls out", "[3 2 1 1] 5 0", all(impl.CardOnce(w, 'c', 50))},
		{"all falls out", "[0 0 0 0] 12 0", all(impl.CardOnce(w, 'f', 100))},
		{"nothing falls out by rolling", "[2 9 1 0] 0 0", all(impl.CardOnce(w, 'r', 100))},
		{"of a total of 0", "[0 0] 0 0", all(impl.CardOnce([]int64{0, 0}, 'c', 100))},
		{"the thickest", "[10000 10000] 0 0", all(impl.CardOnce(fullWeb(2), 'f', 0))},
		{"the thickest less some", "[9900 9900] 200 0", all(impl.CardOnce(fullWeb(2), 'c', 1))},
		{"percent less than 0", "[] 0 2", all(impl.CardOnce(w, 'f', -1))},
		{"percent too great", "[] 0 2", all(impl.CardOnce(w, 'f', 101))},
		{"no pass", "[] 0 5", all(impl.CardOnce(w, 'x', 0))},
		{"no letter", "[] 0 5", all(impl.CardOnce(w, 0, 0))},
		{"half a letter", "[] 0 5", all(impl.CardOnce(w, 0xff, 0))},
		{"a great letter", "[] 0 5", all(impl.CardOnce(w, 'F', 0))},
		{"range ahead of syntax", "[] 0 2", all(impl.CardOnce(w, 'x', 101))},
		{"invalid ahead of range", "[] 0 1", all(impl.CardOnce(wrong, 'x', 101))},
	})
}

func TestP4CardAllCodes(t *testing.T) {
	w, wrong := []int64{9, 1, 0, 2}, []int64{9, 1, 0, -1}
	checkRows(t, []row{
		{"two", "[3 3 3 3] 0 0", all(impl.CardAll(w, "cf", 0))},
		{"each one behind the other", "[2 1 5 4] 0 0", all(impl.CardAll(w, "rc", 0))},
		{"none", "[9 1 0 2] 0 0", all(impl.CardAll(w, "", 100))},
		{"what falls out twice", "[1 1 1 1] 8 0", all(impl.CardAll(w, "cf", 50))},
		{"twenty", "[9 1 0 2] 0 0", all(impl.CardAll(w, strings.Repeat("r", 20), 0))},
		{"too many", "[] 0 3", all(impl.CardAll(w, strings.Repeat("r", 21), 0))},
		{"limit ahead of syntax", "[] 0 3", all(impl.CardAll(w, strings.Repeat("x", 21), 0))},
		{"no letter among twenty", "[] 0 5", all(impl.CardAll(w, strings.Repeat("r", 19)+"x", 0))},
		{"the first one no letter", "[] 0 5", all(impl.CardAll(w, "xc", 0))},
		{"a blank", "[] 0 5", all(impl.CardAll(w, "c f", 0))},
		{"percent less than 0", "[] 0 2", all(impl.CardAll(w, "c", -1))},
		{"range ahead of limit", "[] 0 2", all(impl.CardAll(w, strings.Repeat("r", 21), 101))},
		{"range of no passes", "[] 0 2", all(impl.CardAll(w, "", 101))},
		{"invalid ahead of range", "[] 0 1", all(impl.CardAll(wrong, "x", 101))},
	})
}

// passTexts returns all texts of at most so many passes, the shorter ones first, and as long ones as texts.
func passTexts(most int) []string {
	texts, last := []string{""}, []string{""}
	for range most {
		var longer []string
		for _, text := range last {
			longer = append(longer, text+"c", text+"f", text+"r")
		}
		texts, last = append(texts, longer...), longer
	}
	return texts
}

// spreadsByHand returns the spread behind each of the texts.
func spreadsByHand(w []int64, texts []string) []int64 {
	webs, spreads := map[string][]int64{"": w}, make([]int64, len(texts))
	for i, text := range texts {
		if text != "" {
			last := len(text) - 1
			webs[text], _ = cardedByHand(webs[text[:last]], text[last], 0)
		}
		spreads[i] = spreadByHand(webs[text])
	}
	return spreads
}

// bestByHand returns the first text with at most most passes and the least spread, and the first one with at most spread.
func bestByHand(texts []string, spreads []int64, spread int64, most int) (evenest, fewest int) {
	evenest, fewest = 0, -1
	for i, text := range texts {
		if len(text) > most {
			break
		}
		if spreads[i] < spreads[evenest] {
			evenest = i
		}
		if fewest < 0 && spreads[i] <= spread {
			fewest = i
		}
	}
	return evenest, fewest
}

// TestP5NoShorterPasses compares with all texts of passes.
func TestP5NoShorterPasses(t *testing.T) {
	texts := passTexts(impl.MaxPasses)
	for _, w := range webPool() {
		spreads := spreadsByHand(w, texts)
		for most := range impl.MaxPasses + 1 {
			for _, spread := range []int64{0, 1, 2, spreads[0] / 2, max(spreads[0]-1, 0), spreads[0], math.MaxInt64} {
				evenest, fewest := bestByHand(texts, spreads, spread, most)
				passes, least, code := impl.EvenestPasses(w, int64(most))
				if code != impl.OK || passes != texts[evenest] || least != spreads[evenest] {
					t.Fatalf("%v by at most %d: evenest %q %d %d, not %q %d", w, most, passes, least, code, texts[evenest], spreads[evenest])
				}
				want, wantCode := "", int64(impl.ErrNotFound)
				if fewest >= 0 {
					want, wantCode = texts[fewest], impl.OK
				}
				if passes, code := impl.FewestPasses(w, spread, int64(most)); passes != want || code != wantCode {
					t.Fatalf("%v to %d by at most %d: fewest %q %d, not %q %d", w, spread, most, passes, code, want, wantCode)
				}
			}
		}
	}
}

func TestP5SeveralGoodPasses(t *testing.T) {
	checkRows(t, []row{
		{"both ways of two stripes", "c 0", all(impl.FewestPasses([]int64{9, 1}, 0, 6))},
		{"both ways of four", "c 0", all(impl.FewestPasses([]int64{6, 6, 0, 0}, 0, 6))},
		{"folding alone", "f 0", all(impl.FewestPasses([]int64{6, 0, 6, 0}, 0, 6))},
		{"crossing alone", "c 0", all(impl.FewestPasses([]int64{6, 0, 0, 6}, 0, 6))},
		{"evenest both ways", "c 0 0", all(impl.EvenestPasses([]int64{6, 6, 0, 0}, 6))},
		{"evenest by folding", "f 0 0", all(impl.EvenestPasses([]int64{6, 0, 6, 0}, 6))},
		{"the shortest one is told", "c 1 0", all(impl.EvenestPasses([]int64{4, 1}, 6))},
		{"none is needed", " 0", all(impl.FewestPasses([]int64{9, 1, 0, 2}, 9, 6))},
		{"none helps", " 0 0", all(impl.EvenestPasses(fullWeb(12), 6))},
		{"none helps a spread of 1", " 1 0", all(impl.EvenestPasses([]int64{0, 1}, 6))},
	})
}

func TestP5Codes(t *testing.T) {
	w, wrong := []int64{9, 1, 0, 2}, []int64{9, 1, 0}
	checkRows(t, []row{
		{"the example", "cf 0", all(impl.FewestPasses(w, 1, 6))},
		{"just as many", "cf 0", all(impl.FewestPasses(w, 1, 2))},
		{"too few", " 6", all(impl.FewestPasses(w, 1, 1))},
		{"none", " 6", all(impl.FewestPasses(w, 8, 0))},
		{"never", " 6", all(impl.FewestPasses([]int64{0, 1}, 0, 6))},
		{"a total of 0", " 0", all(impl.FewestPasses(make([]int64, 12), 0, 0))},
		{"any spread", " 0", all(impl.FewestPasses([]int64{0, 10000}, math.MaxInt64, 0))},
		{"spread less than 0", " 2", all(impl.FewestPasses(w, -1, 6))},
		{"the least spread", " 2", all(impl.FewestPasses(w, math.MinInt64, 6))},
		{"most less than 0", " 2", all(impl.FewestPasses(w, 9, -1))},
		{"most too great", " 2", all(impl.FewestPasses(w, 9, 7))},
		{"range ahead of not found", " 2", all(impl.FewestPasses([]int64{0, 1}, 0, 7))},
		{"invalid ahead of range", " 1", all(impl.FewestPasses(wrong, -1, 7))},
		{"evenest", "cf 0 0", all(impl.EvenestPasses(w, 2))},
		{"evenest by one", "c 4 0", all(impl.EvenestPasses(w, 1))},
		{"evenest by none", " 9 0", all(impl.EvenestPasses(w, 0))},
		{"evenest of a total of 0", " 0 0", all(impl.EvenestPasses([]int64{0, 0}, 6))},
		{"evenest by less than none", " 0 2", all(impl.EvenestPasses(w, -1))},
		{"evenest by too many", " 0 2", all(impl.EvenestPasses(w, 7))},
		{"evenest invalid ahead of range", " 0 1", all(impl.EvenestPasses(wrong, 7))},
	})
}
