package tests

import (
	"fmt"
	"math/big"
	"math/rand"
	"strings"
	"testing"

	"loop.example/g01384/impl"
)

// row is a call by hand: what it returned, and what it has to return, as fmt.Sprintln shows it.
type row struct {
	name string
	want string
	got  []any
}

func all(results ...any) []any { return results }

func checkRows(t *testing.T, rows []row) {
	t.Helper()
	for _, r := range rows {
		if got := strings.TrimSuffix(fmt.Sprintln(r.got...), "\n"); got != r.want {
			t.Errorf("%s: got %s, want %s", r.name, got, r.want)
		}
	}
}

// newRandom has a fixed seed: every run tests the same inputs.
func newRandom() *rand.Rand { return rand.New(rand.NewSource(20261118)) }

// randomHeap has at most most grams of each length, and often none.
func randomHeap(r *rand.Rand, most int32) impl.Heap {
	var h impl.Heap
	for length := range h {
		if r.Intn(3) > 0 {
			h[length] = r.Int31n(most + 1)
		}
	}
	return h
}

// heapPool has the heaps at the edges, and others.
func heapPool() []impl.Heap {
	full := impl.Heap{1000, 1000, 1000, 1000, 1000, 1000, 1000, 1000}
	pool := []impl.Heap{{}, full, {0: 1}, {7: 1}, {0: 1000}, {7: 1000}, {0, 0, 30, 50, 20}, {1, 1, 1, 1, 1, 1, 1, 1}, {3: 1, 4: 1}}
	r := newRandom()
	for range 200 {
		pool = append(pool, randomHeap(r, 1000), randomHeap(r, 3))
	}
	return pool
}

func gramsIn(h impl.Heap) int64 {
	sum := int64(0)
	for _, grams := range h {
		sum += int64(grams)
	}
	return sum
}

func sumOfHeaps(heaps ...impl.Heap) impl.Heap {
	var sum impl.Heap
	for _, h := range heaps {
		for length, grams := range h {
			sum[length] += grams
		}
	}
	return sum
}

func rat(f impl.Fraction) *big.Rat { return big.NewRat(f.Num, f.Den) }

// isTold checks with big numbers that a fraction is in its lowest terms.
func isTold(f impl.Fraction) bool {
	if f.Den <= 0 {
		return false
	}
	r := rat(f)
	return r.Num().Int64() == f.Num && r.Denom().Int64() == f.Den
}
