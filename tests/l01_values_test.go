package tests

import (
	"math"
	"testing"

	"loop.example/g01384/impl"
)

func TestP1CodeNames(t *testing.T) {
	names := []string{"ok", "invalid", "range", "limit", "state", "syntax", "notfound", "budget", "proof"}
	codes := []int64{impl.OK, impl.ErrInvalid, impl.ErrRange, impl.ErrLimit, impl.ErrState, impl.ErrSyntax, impl.ErrNotFound, impl.ErrBudget, impl.ErrProof}
	for i, code := range codes {
		if code != int64(i) || impl.CodeName(code) != names[i] {
			t.Errorf("the code %d is %d, %q", i, code, impl.CodeName(code))
		}
	}
	for _, code := range []int64{-1, 9, math.MinInt64, math.MaxInt64} {
		if impl.CodeName(code) != "" {
			t.Errorf("%d has the name %q", code, impl.CodeName(code))
		}
	}
}

func TestP1MakeFraction(t *testing.T) {
	checkRows(t, []row{
		{"both less than 0", "{1 2} 0", all(impl.MakeFraction(-3, -6))},
		{"den less than 0", "{-1 2} 0", all(impl.MakeFraction(5, -10))},
		{"num less than 0", "{-7 3} 0", all(impl.MakeFraction(-14, 6))},
		{"none", "{0 1} 0", all(impl.MakeFraction(0, -7))},
		{"whole", "{4 1} 0", all(impl.MakeFraction(12, 3))},
		{"lowest already", "{2 3} 0", all(impl.MakeFraction(2, 3))},
		{"greatest", "{1 1} 0", all(impl.MakeFraction(-1000000000, -1000000000))},
		{"greatest sizes", "{-1000000000 1} 0", all(impl.MakeFraction(1000000000, -1))},
		{"num too great", "{0 0} 2", all(impl.MakeFraction(1000000001, 1))},
		{"num too small", "{0 0} 2", all(impl.MakeFraction(-1000000001, 1))},
		{"den too great", "{0 0} 2", all(impl.MakeFraction(1, 1000000001))},
		{"den too small", "{0 0} 2", all(impl.MakeFraction(1, -1000000001))},
		{"least", "{0 0} 2", all(impl.MakeFraction(math.MinInt64, 1))},
		{"least den", "{0 0} 2", all(impl.MakeFraction(0, math.MinInt64))},
		{"range ahead of state", "{0 0} 2", all(impl.MakeFraction(1000000001, 0))},
		{"den 0", "{0 0} 4", all(impl.MakeFraction(1, 0))},
		{"both 0", "{0 0} 4", all(impl.MakeFraction(0, 0))},
	})
}

func TestP1MakeFractionLowest(t *testing.T) {
	r := newRandom()
	for range 2000 {
		num, den := r.Int63n(2001)-1000, r.Int63n(2001)-1000
		f, code := impl.MakeFraction(num, den)
		if (den == 0) != (code == impl.ErrState) {
			t.Fatalf("%d / %d: %d", num, den, code)
		}
		if den != 0 && (!isTold(f) || f.Num*den != f.Den*num) {
			t.Fatalf("%d / %d is %v", num, den, f)
		}
	}
}

func TestP1CompareFractions(t *testing.T) {
	of := func(num, den int64) impl.Fraction { return impl.Fraction{Num: num, Den: den} }
	checkRows(t, []row{
		{"less", "-1 0", all(impl.CompareFractions(of(1, 3), of(1, 2)))},
		{"greater", "1 0", all(impl.CompareFractions(of(1, 2), of(1, 3)))},
		{"the same", "0 0", all(impl.CompareFractions(of(-2, 3), of(-2, 3)))},
		{"less than 0", "-1 0", all(impl.CompareFractions(of(-1, 2), of(-1, 3)))},
		{"of both signs", "1 0", all(impl.CompareFractions(of(0, 1), of(-1, 1000000000)))},
		{"great", "-1 0", all(impl.CompareFractions(of(999999998, 999999999), of(999999999, 1000000000)))},
		{"greatest", "1 0", all(impl.CompareFractions(of(1000000000, 1), of(-1000000000, 1)))},
		{"not lowest", "0 1", all(impl.CompareFractions(of(2, 4), of(1, 2)))},
		{"the second one not lowest", "0 1", all(impl.CompareFractions(of(1, 2), of(2, 4)))},
		{"zero by two", "0 1", all(impl.CompareFractions(of(0, 2), of(1, 2)))},
		{"den 0", "0 1", all(impl.CompareFractions(of(1, 2), of(1, 0)))},
		{"zero value", "0 1", all(impl.CompareFractions(of(0, 0), of(1, 2)))},
		{"den less than 0", "0 1", all(impl.CompareFractions(of(1, -2), of(1, 2)))},
		{"num too great", "0 1", all(impl.CompareFractions(of(1000000001, 1), of(1, 2)))},
		{"num too small", "0 1", all(impl.CompareFractions(of(1, 2), of(-1000000001, 1)))},
		{"den too great", "0 1", all(impl.CompareFractions(of(1, 1000000001), of(1, 2)))},
		{"least", "0 1", all(impl.CompareFractions(of(math.MinInt64, 1), of(1, 2)))},
	})
}

func TestP1Validity(t *testing.T) {
	full := impl.Heap{1000, 1000, 1000, 1000, 1000, 1000, 1000, 1000}
	checkRows(t, []row{
		{"heaps", "true true true", all(impl.ValidHeap(impl.Heap{}), impl.ValidHeap(full), impl.ValidHeap(impl.Heap{7: 1}))},
		{"no heaps", "false false false", all(impl.ValidHeap(impl.Heap{-1}), impl.ValidHeap(impl.Heap{7: 1001}), impl.ValidHeap(impl.Heap{3: math.MinInt32}))},
		{"fleeces", "true true", all(impl.ValidFleece(impl.Fleece{}), impl.ValidFleece(impl.Fleece{Fine: 9, Grams: full}))},
		{"no fleeces", "false false false", all(impl.ValidFleece(impl.Fleece{Fine: -1}), impl.ValidFleece(impl.Fleece{Fine: 10}), impl.ValidFleece(impl.Fleece{Fine: 1, Grams: impl.Heap{7: -1}}))},
	})
}

func TestP1Lengths(t *testing.T) {
	example := impl.Heap{0, 0, 30, 50, 20}
	full := impl.Heap{1000, 1000, 1000, 1000, 1000, 1000, 1000, 1000}
	checkRows(t, []row{
		{"grams", "100 0", all(impl.GramsOf(example))},
		{"no grams", "0 0", all(impl.GramsOf(impl.Heap{}))},
		{"most grams", "8000 0", all(impl.GramsOf(full))},
		{"grams not valid", "0 1", all(impl.GramsOf(impl.Heap{1001}))},
		{"mean", "{29 10} 0", all(impl.MeanLength(example))},
		{"mean of the length 0", "{0 1} 0", all(impl.MeanLength(impl.Heap{9}))},
		{"mean of all", "{7 2} 0", all(impl.MeanLength(full))},
		{"mean of none", "{0 0} 6", all(impl.MeanLength(impl.Heap{}))},
		{"mean not valid", "{0 0} 1", all(impl.MeanLength(impl.Heap{-1, 1}))},
		{"median", "3 0", all(impl.MedianLength(example))},
		{"median at the half", "2 0", all(impl.MedianLength(impl.Heap{2: 5, 6: 5}))},
		{"median behind the half", "6 0", all(impl.MedianLength(impl.Heap{2: 5, 6: 6}))},
		{"median behind a gap", "7 0", all(impl.MedianLength(impl.Heap{7: 1}))},
		{"median of the length 0", "0 0", all(impl.MedianLength(impl.Heap{1, 1}))},
		{"median of none", "0 6", all(impl.MedianLength(impl.Heap{}))},
		{"median not valid", "0 1", all(impl.MedianLength(impl.Heap{2000}))},
	})
}

func TestP1Texts(t *testing.T) {
	two := []impl.Fleece{{Fine: 0, Grams: impl.Heap{7: 1000}}, {Fine: 9}}
	text := "0: 0 0 0 0 0 0 0 1000\n9: 0 0 0 0 0 0 0 0\n"
	if got := impl.FleecesText(two); got != text {
		t.Errorf("the text is %q", got)
	}
	checkRows(t, []row{
		{"read", "[{0 [0 0 0 0 0 0 0 1000]} {9 [0 0 0 0 0 0 0 0]}] 0", all(impl.ReadFleeces(text))},
		{"empty text", "[] 0", all(impl.ReadFleeces(""))},
		{"as many as may be", "6", all(len(mustRead(t, impl.FleecesText(make([]impl.Fleece, 6)))))},
		{"too many", "", all(impl.FleecesText(make([]impl.Fleece, 7)))},
		{"not valid", "", all(impl.FleecesText([]impl.Fleece{{}, {Fine: 10}}))},
	})
}

func mustRead(t *testing.T, text string) []impl.Fleece {
	t.Helper()
	list, code := impl.ReadFleeces(text)
	if code != impl.OK {
		t.Fatalf("%q: %d", text, code)
	}
	return list
}

func TestP1TextsThatAreNone(t *testing.T) {
	line := "9: 0 0 0 0 0 0 0 0\n"
	for _, text := range []string{
		"x", "\n", " ", "9", "9:", "9:\n", line[:len(line)-1], line + "\n", "\n" + line, line + " ", line + "x",
		line + line + line + line + line + line + line,
		"10: 0 0 0 0 0 0 0 0\n", "-1: 0 0 0 0 0 0 0 0\n", "09: 0 0 0 0 0 0 0 0\n", "+9: 0 0 0 0 0 0 0 0\n", "-0: 0 0 0 0 0 0 0 0\n",
		": 0 0 0 0 0 0 0 0\n", "265: 0 0 0 0 0 0 0 0\n", " 9: 0 0 0 0 0 0 0 0\n", "9 : 0 0 0 0 0 0 0 0\n", "9 0 0 0 0 0 0 0 0\n",
		"9: 0 0 0 0 0 0 0\n", "9: 0 0 0 0 0 0 0 0 0\n", "9:0 0 0 0 0 0 0 0\n", "9:  0 0 0 0 0 0 0 0\n", "9: 0 0 0 0  0 0 0 0\n",
		"9: 0 0 0 0 0 0 0 0 \n", "9:\t0 0 0 0 0 0 0 0\n", "9: 0 0 0 0 0 0 0 0\r\n", "9: 0 0 0 0 0 0 0 1001\n", "9: 0 0 0 0 0 0 0 -1\n",
		"9: 0 0 0 0 0 0 0 00\n", "9: 0 0 0 0 0 0 0 +1\n", "9: 0 0 0 0 0 0 0 -0\n", "9: 0 0 0 0 0 0 0 0x1\n", "9: 0 0 0 0 0 0 0 1_0\n",
		"9: 0 0 0 0 0 0 0 4294967296\n", "9: 0 0 0 0 0 0 0 99999999999999999999\n", "9: 0 0 0 0 0 0 0 \u0661\n", "9: 0 0 0 0 0 0 0 a\n",
		"9:: 0 0 0 0 0 0 0 0\n", "9: 0 0 0 0 0 0 0 0\x00\n",
	} {
		if list, code := impl.ReadFleeces(text); code != impl.ErrSyntax || len(list) != 0 {
			t.Errorf("%q is read as %v, %d", text, list, code)
		}
	}
}

func TestP1TextsAreRead(t *testing.T) {
	r := newRandom()
	for range 500 {
		list := make([]impl.Fleece, r.Intn(7))
		for i := range list {
			list[i] = impl.Fleece{Fine: int8(r.Intn(10)), Grams: randomHeap(r, 1000)}
		}
		back := mustRead(t, impl.FleecesText(list))
		if len(back) != len(list) {
			t.Fatalf("%v is read as %v", list, back)
		}
		for i := range list {
			if back[i] != list[i] {
				t.Fatalf("%v is read as %v", list, back)
			}
		}
	}
}
