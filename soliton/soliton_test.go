package soliton_test

import (
	"math"
	"math/big"
	"slices"
	"testing"

	"downpour/soliton"
)

// P7.1: the root of every small number, and of those about great squares.
func TestRoot(t *testing.T) {
	r := 0
	for n := range 10000 {
		if (r+1)*(r+1) <= n {
			r++
		}
		if got := soliton.Root(n); got != r {
			t.Fatalf("Root(%d): %d", n, got)
		}
	}
	for _, r := range []int{1000, 46340, 46341, 65535, 65536, 1<<31 - 1, 1 << 31, 3037000498, 3037000499} {
		if soliton.Root(r*r) != r || soliton.Root(r*r-1) != r-1 || soliton.Root(r*r+1) != r {
			t.Errorf("about the square of %d", r)
		}
	}
	for n, want := range map[int]int{0: 0, -1: 0, -4: 0, math.MinInt: 0, math.MaxInt: 3037000499} {
		if got := soliton.Root(n); got != want {
			t.Errorf("Root(%d): %d", n, got)
		}
	}
}

// P7.1: tables of 1 to 80 pieces.
func TestNew(t *testing.T) {
	for n := -3; n < 300; n++ {
		if (soliton.New(n) != nil) != (n >= 1 && n <= 80) {
			t.Errorf("New(%d)", n)
		}
	}
	if soliton.New(math.MaxInt) != nil || soliton.New(math.MinInt) != nil {
		t.Error("they may not be")
	}
}

// quotient is a / b, rounded down by itself.
func quotient(a, b int) uint32 {
	return uint32(new(big.Int).Quo(big.NewInt(int64(a)), big.NewInt(int64(b))).Int64())
}

// weights are the chapter's words once more.
func weights(n int) []uint32 {
	root := int(math.Sqrt(float64(n)))
	m := n / root
	l := []uint32{quotient(1048576, n)}
	for d := 2; d <= n; d++ {
		l = append(l, quotient(1048576, d*d-d))
	}
	for d := 1; d < m; d++ {
		l[d-1] += quotient(262144*root, d*n)
	}
	l[m-1] += quotient(524288*root, n)
	return l
}

// P7.1: some weights that were worked out by hand, and all by the chapter's words.
func TestWeights(t *testing.T) {
	for n, want := range map[int][]uint32{
		1: {1048576 + 524288},
		2: {524288 + 131072, 524288 + 262144},
		3: {349525 + 87381, 524288 + 43690, 174762 + 174762},
		4: {262144 + 131072, 524288 + 262144, 174762, 87381},
	} {
		if got := soliton.New(n).Weights(); !slices.Equal(got, want) {
			t.Errorf("%d: %v, not %v", n, got, want)
		}
	}
	for n := 1; n <= 80; n++ {
		if got := soliton.New(n).Weights(); !slices.Equal(got, weights(n)) {
			t.Errorf("%d: %v, not %v", n, got, weights(n))
		}
	}
}

// P7.1, R2: weights are the caller's own, and change no degree.
func TestWeightsAreNewMemory(t *testing.T) {
	table := soliton.New(9)
	want := table.Degree(1 << 31)
	clear(table.Weights())
	if table.Degree(1<<31) != want || !slices.Equal(table.Weights(), weights(9)) || soliton.New(9).Degree(1<<31) != want {
		t.Error("memory is shared")
	}
}

// degree is the chapter's words once more.
func degree(n int, x uint32) int {
	all := uint64(0)
	for _, w := range weights(n) {
		all += uint64(w)
	}
	at, together := uint64(x)*all/4294967296, uint64(0)
	for i, w := range weights(n) {
		if together += uint64(w); together > at {
			return i + 1
		}
	}
	return -1
}

// P7.2: the example, the ends, and x to both sides of where one degree ends and another begins.
func TestDegree(t *testing.T) {
	if got := soliton.New(1).Degree(7); got != 1 {
		t.Errorf("example: %d", got)
	}
	for n := 1; n <= 80; n++ {
		table := soliton.New(n)
		if table.Degree(0) != 1 || table.Degree(math.MaxUint32) != n {
			t.Errorf("%d: the ends", n)
		}
		all, together := uint64(0), uint64(0)
		for _, w := range weights(n) {
			all += uint64(w)
		}
		for _, w := range weights(n) {
			together += uint64(w)
			edge := together * 4294967296 / all
			for x := edge - 2; x <= edge+2; x++ {
				if x > math.MaxUint32 {
					continue
				}
				if got := table.Degree(uint32(x)); got != degree(n, uint32(x)) {
					t.Errorf("%d: of %d: %d, not %d", n, x, got, degree(n, uint32(x)))
				}
			}
		}
	}
}

// P7.3: a greater x is no lesser number; each is 1 to n, and each comes.
func TestDegreeRises(t *testing.T) {
	for _, n := range []int{1, 2, 3, 10, 64, 80} {
		table, last, seen := soliton.New(n), 1, map[int]int{}
		for x := uint64(0); x < 1<<32; x += 99991 {
			d := table.Degree(uint32(x))
			if d < last || d > n {
				t.Fatalf("%d: of %d: %d behind %d", n, x, d, last)
			}
			last = d
			seen[d]++
		}
		if len(seen) != n {
			t.Errorf("%d: only %d numbers come", n, len(seen))
		}
	}
}

// R3: a nil table tells zero values.
func TestNil(t *testing.T) {
	var table *soliton.Table
	if len(table.Weights()) != 0 || table.Degree(5) != 0 {
		t.Error("not zero")
	}
}
