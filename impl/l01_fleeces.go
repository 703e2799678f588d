package impl

import (
	"iter"
	"slices"
	"strconv"
	"strings"
)

// Error codes.
const (
	OK          = 0
	ErrInvalid  = 1
	ErrRange    = 2
	ErrLimit    = 3
	ErrState    = 4
	ErrSyntax   = 5
	ErrNotFound = 6
	ErrBudget   = 7
	ErrProof    = 8
)

// Limits of fleeces.
const (
	Lengths    = 8
	MaxGrams   = 1000
	MaxFine    = 9
	MaxFleeces = 6
	MaxParts   = 8
	MaxHeaps   = 20
)

// Limits that the document states only where they apply.
const (
	maxFractionSize = 1000000000
	maxBlendGrams   = 100
)

var codeNames = [9]string{"ok", "invalid", "range", "limit", "state", "syntax", "notfound", "budget", "proof"}

// Fraction is a fraction in its lowest terms.
type Fraction struct {
	Num int64
	Den int64
}

// Heap tells how many grams of each length there are.
type Heap [8]int32

// Fleece has grams of wool and a fineness.
type Fleece struct {
	Fine  int8
	Grams Heap
}

// numerators are the shares of all lengths over one denominator that is told beside them.
type numerators [Lengths]int64

// noWool is the value with which woolOf panics, so that only withWool needs to know what it means.
type noWool struct{}

// nearest is what a search of blends keeps.
type nearest struct {
	parts []int64
	off   Fraction
}

// CodeName returns the name of an error code.
func CodeName(code int64) string {
	if code < 0 || code >= int64(len(codeNames)) {
		return ""
	}
	return codeNames[code]
}

// MakeFraction returns a fraction in its lowest terms.
func MakeFraction(num, den int64) (Fraction, int64) {
	f := Fraction{Num: num, Den: den}
	if !f.isSmall() {
		return Fraction{}, ErrRange
	}
	if den == 0 {
		return Fraction{}, ErrState
	}
	return f.reduced(), OK
}

// CompareFractions compares two fractions.
func CompareFractions(a, b Fraction) (int64, int64) {
	if !a.isTold() || !b.isTold() {
		return 0, ErrInvalid
	}
	// Both products are at most 10 to the power 18, and fit into an int64.
	left, right := a.Num*b.Den, b.Num*a.Den
	switch {
	case left < right:
		return -1, OK
	case left > right:
		return 1, OK
	}
	return 0, OK
}

// isSmall is asked ahead of all arithmetic, as the least int64 has no negative.
func (f Fraction) isSmall() bool {
	return f.Num >= -maxFractionSize && f.Num <= maxFractionSize &&
		f.Den >= -maxFractionSize && f.Den <= maxFractionSize
}

func (f Fraction) isTold() bool {
	return f.isSmall() && f.Den > 0 && f == f.reduced()
}

// reduced returns the fraction in its lowest terms; Den is not 0.
func (f Fraction) reduced() Fraction {
	by := gcd(sizeOf(f.Num), sizeOf(f.Den))
	if f.Den < 0 {
		by = -by
	}
	return Fraction{Num: f.Num / by, Den: f.Den / by}
}

func sizeOf(n int64) int64 {
	if n < 0 {
		return -n
	}
	return n
}

func gcd(a, b int64) int64 {
	for b != 0 {
		a, b = b, a%b
	}
	return a
}

func lcm(a, b int64) int64 {
	return a / gcd(a, b) * b
}

func sumOf[N int32 | int64](list []N) int64 {
	sum := int64(0)
	for _, n := range list {
		sum += int64(n)
	}
	return sum
}

// ValidHeap reports whether h is valid.
func ValidHeap(h Heap) bool {
	for _, grams := range h {
		if grams < 0 || grams > MaxGrams {
			return false
		}
	}
	return true
}

// ValidFleece reports whether f is valid.
func ValidFleece(f Fleece) bool {
	return f.Fine >= 0 && f.Fine <= MaxFine && ValidHeap(f.Grams)
}

func validFleeces(list []Fleece) bool {
	for _, f := range list {
		if !ValidFleece(f) {
			return false
		}
	}
	return true
}

// lengthsOf gives the lengths of which a heap has wool, from the least one on, each with its grams.
func lengthsOf(h Heap) iter.Seq2[int64, int64] {
	return func(yield func(int64, int64) bool) {
		for length, grams := range h {
			if grams != 0 && !yield(int64(length), int64(grams)) {
				return
			}
		}
	}
}

// woolOf returns the grams of a heap by which one can divide.
func woolOf(h Heap) int64 {
	if h == (Heap{}) {
		panic(noWool{})
	}
	return sumOf(h[:])
}

// withWool returns what work returns, or ErrNotFound if it has met a heap without wool.
func withWool[T any](work func() T) (result T, code int64) {
	defer func() {
		switch r := recover().(type) {
		case nil:
		case noWool:
			code = ErrNotFound
		default:
			panic(r)
		}
	}()
	return work(), OK
}

// GramsOf returns the sum of a heap.
func GramsOf(h Heap) (int64, int64) {
	if !ValidHeap(h) {
		return 0, ErrInvalid
	}
	return sumOf(h[:]), OK
}

// MeanLength returns the mean length of a heap.
func MeanLength(h Heap) (Fraction, int64) {
	if !ValidHeap(h) {
		return Fraction{}, ErrInvalid
	}
	return withWool(func() Fraction {
		sum := int64(0)
		for length, grams := range lengthsOf(h) {
			sum += length * grams
		}
		return Fraction{Num: sum, Den: woolOf(h)}.reduced()
	})
}

// MedianLength returns the median length of a heap.
func MedianLength(h Heap) (int64, int64) {
	if !ValidHeap(h) {
		return 0, ErrInvalid
	}
	return withWool(func() int64 {
		all, upTo, median := woolOf(h), int64(0), int64(0)
		for length, grams := range lengthsOf(h) {
			upTo += grams
			median = length
			if 2*upTo >= all {
				break
			}
		}
		return median
	})
}

// SortOut returns the heap of some lengths, and that of all others.
func SortOut(h Heap, low, high int64) (Heap, Heap, int64) {
	if !ValidHeap(h) {
		return Heap{}, Heap{}, ErrInvalid
	}
	if low < 0 || high >= Lengths || low > high {
		return Heap{}, Heap{}, ErrRange
	}
	var sorted Heap
	others := h
	for length := low; length <= high; length++ {
		sorted[length], others[length] = h[length], 0
	}
	return sorted, others, OK
}

// TakeLongest takes the longest wool.
func TakeLongest(h Heap, grams int64) (Heap, Heap, int64) {
	if !ValidHeap(h) {
		return Heap{}, Heap{}, ErrInvalid
	}
	if grams < 0 {
		return Heap{}, Heap{}, ErrRange
	}
	if grams > sumOf(h[:]) {
		return Heap{}, Heap{}, ErrNotFound
	}
	var taken Heap
	left := h
	for length, here := range slices.Backward(h[:]) {
		part := min(int64(here), grams)
		taken[length] += int32(part)
		left[length] -= int32(part)
		grams -= part
	}
	return taken, left, OK
}

// JoinHeaps adds two heaps.
func JoinHeaps(a, b Heap) (Heap, int64) {
	if !ValidHeap(a) || !ValidHeap(b) {
		return Heap{}, ErrInvalid
	}
	both := a.plus(b)
	if !ValidHeap(both) {
		return Heap{}, ErrLimit
	}
	return both, OK
}

func (h Heap) plus(more Heap) Heap {
	for length, grams := range more {
		h[length] += grams
	}
	return h
}

// PartHeap parts a heap into several ones.
func PartHeap(h Heap, heaps int64) ([]Heap, int64) {
	if !ValidHeap(h) {
		return nil, ErrInvalid
	}
	if heaps < 1 || heaps > MaxHeaps {
		return nil, ErrRange
	}
	parts := make([]Heap, heaps)
	for length, grams := range lengthsOf(h) {
		each, over := grams/heaps, grams%heaps
		for i := range parts {
			parts[i][length] = int32(each)
			if int64(i) < over {
				parts[i][length]++
			}
		}
	}
	return parts, OK
}

// WashedHeap returns a heap that has lost some percent.
func WashedHeap(h Heap, percent int64) (Heap, int64) {
	if !ValidHeap(h) {
		return Heap{}, ErrInvalid
	}
	if percent < 0 || percent > 100 {
		return Heap{}, ErrRange
	}
	var washed Heap
	for length, grams := range lengthsOf(h) {
		washed[length] = int32(grams * (100 - percent) / 100)
	}
	return washed, OK
}

// GradesOf returns the grade of each fleece.
func GradesOf(list []Fleece, bounds []int64) ([]int64, int64) {
	if code := gradesCode(list, bounds); code != OK {
		return nil, code
	}
	grades := make([]int64, len(list))
	for i, f := range list {
		grades[i] = gradeOf(f, bounds)
	}
	return grades, OK
}

// GradeHeaps returns the heap of each grade.
func GradeHeaps(list []Fleece, bounds []int64) ([]Heap, int64) {
	if code := gradesCode(list, bounds); code != OK {
		return nil, code
	}
	heaps := make([]Heap, len(bounds)+1)
	for _, f := range list {
		grade := gradeOf(f, bounds)
		heaps[grade] = heaps[grade].plus(f.Grams)
	}
	for _, h := range heaps {
		if !ValidHeap(h) {
			return nil, ErrLimit
		}
	}
	return heaps, OK
}

func gradesCode(list []Fleece, bounds []int64) int64 {
	switch {
	case !validFleeces(list):
		return ErrInvalid
	case !areBounds(bounds):
		return ErrRange
	case len(list) > MaxFleeces:
		return ErrLimit
	}
	return OK
}

func areBounds(bounds []int64) bool {
	before := int64(0)
	for _, b := range bounds {
		if b <= before || b > MaxFine {
			return false
		}
		before = b
	}
	return true
}

func gradeOf(f Fleece, bounds []int64) int64 {
	grade := int64(0)
	for _, b := range bounds {
		if b <= int64(f.Fine) {
			grade++
		}
	}
	return grade
}

// commonShares returns the shares of heaps as whole numbers over one denominator, so that they can be added and
// compared exactly. It is at most the product of all grams, which is 10 to the power 14 for the 7 heaps of a blend.
func commonShares(heaps []Heap) ([]numerators, int64) {
	over := int64(1)
	for _, h := range heaps {
		over = lcm(over, woolOf(h))
	}
	rows := make([]numerators, len(heaps))
	for i, h := range heaps {
		times := over / woolOf(h)
		for length, grams := range lengthsOf(h) {
			rows[i][length] = grams * times
		}
	}
	return rows, over
}

// over returns the fractions that numerators tell.
func (n numerators) over(den int64) []Fraction {
	list := make([]Fraction, len(n))
	for length, num := range n {
		list[length] = Fraction{Num: num, Den: den}.reduced()
	}
	return list
}

func (n numerators) plusTimes(row numerators, times int64) numerators {
	for length, num := range row {
		n[length] += num * times
	}
	return n
}

func (n numerators) offBy(other numerators) int64 {
	off := int64(0)
	for length, num := range n {
		off += sizeOf(num - other[length])
	}
	return off
}

// SharesOf returns the share of each length.
func SharesOf(h Heap) ([]Fraction, int64) {
	if !ValidHeap(h) {
		return nil, ErrInvalid
	}
	return withWool(func() []Fraction {
		rows, den := commonShares([]Heap{h})
		return rows[0].over(den)
	})
}

// OffBy returns by how much the shares of two heaps differ.
func OffBy(a, b Heap) (Fraction, int64) {
	if !ValidHeap(a) || !ValidHeap(b) {
		return Fraction{}, ErrInvalid
	}
	return withWool(func() Fraction {
		rows, den := commonShares([]Heap{a, b})
		return Fraction{Num: rows[0].offBy(rows[1]), Den: den}.reduced()
	})
}

// BlendOf returns the shares of a blend.
func BlendOf(list []Fleece, parts []int64) ([]Fraction, int64) {
	switch {
	case !validFleeces(list):
		return nil, ErrInvalid
	case len(parts) != len(list) || !areParts(parts):
		return nil, ErrRange
	case !areLight(list):
		return nil, ErrLimit
	}
	return withWool(func() []Fraction {
		rows, den := commonShares(heapsOf(list))
		return mixed(rows, parts).over(den * sumOf(parts))
	})
}

func areParts(parts []int64) bool {
	for _, n := range parts {
		if n < 0 || n > MaxParts {
			return false
		}
	}
	return sumOf(parts) > 0
}

// areLight reports whether the fleeces are few and light enough for commonShares.
func areLight(list []Fleece) bool {
	if len(list) > MaxFleeces {
		return false
	}
	for _, f := range list {
		if sumOf(f.Grams[:]) > maxBlendGrams {
			return false
		}
	}
	return true
}

func heapsOf(list []Fleece) []Heap {
	heaps := make([]Heap, len(list))
	for i, f := range list {
		heaps[i] = f.Grams
	}
	return heaps
}

func mixed(rows []numerators, parts []int64) numerators {
	var sum numerators
	for i, row := range rows {
		sum = sum.plusTimes(row, parts[i])
	}
	return sum
}

// NearestBlend returns the parts that are nearest to a wanted heap.
func NearestBlend(list []Fleece, wanted Heap, parts int64) ([]int64, Fraction, int64) {
	switch {
	case !validFleeces(list) || !ValidHeap(wanted):
		return nil, Fraction{}, ErrInvalid
	case parts < 1 || parts > MaxParts:
		return nil, Fraction{}, ErrRange
	case !areLight(list) || sumOf(wanted[:]) > maxBlendGrams:
		return nil, Fraction{}, ErrLimit
	case len(list) == 0:
		return nil, Fraction{}, ErrNotFound
	}
	best, code := withWool(func() nearest {
		return nearestOf(heapsOf(list), wanted, parts)
	})
	return best.parts, best.off, code
}

func nearestOf(heaps []Heap, wanted Heap, all int64) nearest {
	rows, den := commonShares(append(slices.Clone(heaps), wanted))
	last := len(heaps) - 1
	// A blend of all parts has its numerators over all times den: so must the wanted one.
	goal := numerators{}.plusTimes(rows[last+1], all)
	behind := lastPlaces(heaps)
	parts := make([]int64, len(heaps))
	best, least := []int64(nil), int64(0)
	// Parts are tried in the order of their lists, so that the first one of several best ones is kept.
	var try func(index int, left int64)
	try = func(index int, left int64) {
		if index == last {
			parts[index] = left
			off := mixed(rows[:len(heaps)], parts).offBy(goal)
			if best == nil || off < least {
				best, least = slices.Clone(parts), off
			}
			return
		}
		most := left
		// With its parts given to the same heap behind it a list is the same blend, and comes earlier.
		if behind[heaps[index]] > index {
			most = 0
		}
		for n := int64(0); n <= most; n++ {
			parts[index] = n
			try(index+1, left-n)
		}
	}
	try(0, all)
	return nearest{parts: best, off: Fraction{Num: least, Den: den * all}.reduced()}
}

// lastPlaces returns the last index at which each heap stands.
func lastPlaces(heaps []Heap) map[Heap]int {
	places := make(map[Heap]int, len(heaps))
	for i, h := range heaps {
		places[h] = i
	}
	return places
}

// FleecesText returns the text of fleeces.
func FleecesText(list []Fleece) string {
	if !validFleeces(list) || len(list) > MaxFleeces {
		return ""
	}
	var text strings.Builder
	for _, f := range list {
		text.WriteString(strconv.Itoa(int(f.Fine)) + ":")
		for _, grams := range f.Grams {
			text.WriteString(" " + strconv.Itoa(int(grams)))
		}
		text.WriteString("\n")
	}
	return text.String()
}

// ReadFleeces returns the fleeces with the given text.
func ReadFleeces(text string) ([]Fleece, int64) {
	var list []Fleece
	for line := range strings.Lines(text) {
		f, ok := readFleece(line)
		if !ok || len(list) == MaxFleeces {
			return nil, ErrSyntax
		}
		list = append(list, f)
	}
	// A line may be read that is not written so, with other blanks, or more digits; only the text itself will do.
	if FleecesText(list) != text {
		return nil, ErrSyntax
	}
	return list, OK
}

func readFleece(line string) (Fleece, bool) {
	head, tail, found := strings.Cut(line, ":")
	fine, err := strconv.ParseInt(head, 10, 8)
	words := strings.Fields(tail)
	if !found || err != nil || len(words) != Lengths {
		return Fleece{}, false
	}
	f := Fleece{Fine: int8(fine)}
	for length, word := range words {
		grams, err := strconv.ParseInt(word, 10, 32)
		if err != nil {
			return Fleece{}, false
		}
		f.Grams[length] = int32(grams)
	}
	return f, true
}
