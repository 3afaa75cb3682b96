package rand_test

import (
	"math"
	"slices"
	"testing"

	"downpour/api"
	"downpour/rand"
)

// plain is the chapter's words once more, in wide numbers taken modulo 2^32.
type plain struct{ state uint64 }

const all = 1 << 32

func mixed(x uint64) uint64 {
	x = (x ^ x/65536) * 0x7feb352d % all
	x = (x ^ x/32768) * 0x846ca68b % all
	return x ^ x/65536
}

func newPlain(a, b uint32) *plain {
	return &plain{(mixed(uint64(a)) + uint64(b)*0x9e3779b9%all + 1) % all}
}

func (p *plain) next() uint64 {
	if p.state == 0 {
		p.state = 1
	}
	p.state ^= p.state * 8192 % all
	p.state ^= p.state / 131072
	p.state ^= p.state * 32 % all
	return mixed(p.state)
}

func (p *plain) below(n int) int { return int(p.next() * uint64(n) / all) }

func (p *plain) some(n, k int) []int {
	l := []int{}
	for i := range n {
		l = append(l, i)
	}
	for i := range k {
		j := i + p.below(n-i)
		l[i], l[j] = l[j], l[i]
	}
	l = l[:k]
	slices.Sort(l)
	return l
}

// pairs are numbers at the edges, and others; of the last pair the first state is 0.
func pairs() [][2]uint32 {
	l := [][2]uint32{{0, 0}, {0, 1}, {1, 0}, {1, 1}, {7, 64}, {math.MaxUint32, 0}, {0, math.MaxUint32}, {math.MaxUint32, math.MaxUint32}, {0xdeadbeef, 1 << 31}}
	return append(l, [2]uint32{0, zeroAt()})
}

// zeroAt is the b for which New(0, b) is in state 0: -1 by the inverse of 9e3779b9, modulo 2^32.
func zeroAt() uint32 {
	inverse := uint32(1)
	for range 5 {
		inverse *= 2 - 0x9e3779b9*inverse
	}
	return -inverse
}

// P4.1: the numbers are those of the chapter's words.
func TestNext(t *testing.T) {
	for _, p := range pairs() {
		got, want := rand.New(p[0], p[1]), newPlain(p[0], p[1])
		for i := range 200 {
			if g, w := got.Next(), want.next(); uint64(g) != w {
				t.Fatalf("%x: number %d is %x, not %x", p, i, g, w)
			}
		}
	}
}

// P4.1: of 0 the state is 1 first.
func TestNextOfZero(t *testing.T) {
	if newPlain(0, zeroAt()).state != 0 {
		t.Fatal("the pair is not the one")
	}
	one := &plain{1}
	if got := rand.New(0, zeroAt()).Next(); uint64(got) != one.next() {
		t.Errorf("%x", got)
	}
}

// P4.2: Below takes one number, and tells one below n.
func TestBelow(t *testing.T) {
	for _, n := range []int{1, 2, 3, 10, 80, 256, 1000003, 1<<31 - 1, 1 << 31} {
		for _, p := range pairs() {
			got, want := rand.New(p[0], p[1]), newPlain(p[0], p[1])
			for range 50 {
				g, w := got.Below(n), want.below(n)
				if g != w || g < 0 || g >= n {
					t.Fatalf("%x below %d: %d, not %d", p, n, g, w)
				}
			}
		}
	}
}

// P4.2: where n may not be, it is 0, and no number is taken.
func TestBelowTakesNothing(t *testing.T) {
	got, want := rand.New(3, 4), newPlain(3, 4)
	for _, n := range []int{0, -1, math.MinInt, 1<<31 + 1, 1 << 32, math.MaxInt} {
		if g := got.Below(n); g != 0 {
			t.Errorf("%d: %d", n, g)
		}
	}
	if uint64(got.Next()) != want.next() {
		t.Error("a number was taken")
	}
}

// P4.2: the example, and the words for all n and many k.
func TestSome(t *testing.T) {
	if got := rand.New(0, 0).Some(5, 5); !slices.Equal(got, []int{0, 1, 2, 3, 4}) {
		t.Errorf("example: %v", got)
	}
	for n := range api.MaxBits + 1 {
		for _, k := range []int{0, 1, 2, n / 3, n - 1, n} {
			if k < 0 || k > n {
				continue
			}
			got, want := rand.New(uint32(n), uint32(k)), newPlain(uint32(n), uint32(k))
			if g, w := got.Some(n, k), want.some(n, k); !slices.Equal(g, w) {
				t.Fatalf("Some(%d, %d): %v, not %v", n, k, g, w)
			}
			if uint64(got.Next()) != want.next() {
				t.Fatalf("Some(%d, %d) takes k numbers", n, k)
			}
		}
	}
}

// P4.2: k is brought to 0 to n; of too many, or none, there are none.
func TestSomeAtTheEdges(t *testing.T) {
	for _, k := range []int{6, 7, 1000, math.MaxInt} {
		if got := rand.New(1, 2).Some(5, k); !slices.Equal(got, []int{0, 1, 2, 3, 4}) {
			t.Errorf("%d of 5: %v", k, got)
		}
	}
	got, want := rand.New(1, 2), newPlain(1, 2)
	for _, nk := range [][2]int{{5, 0}, {5, -1}, {5, math.MinInt}, {0, 0}, {0, 3}, {-1, 1}, {math.MinInt, 1}, {257, 1}, {257, 257}, {math.MaxInt, 2}} {
		if l := got.Some(nk[0], nk[1]); len(l) != 0 {
			t.Errorf("%v: %v", nk, l)
		}
	}
	if uint64(got.Next()) != want.next() {
		t.Error("a number was taken")
	}
}

// P4.2, R2: a list is the caller's own, behind its length, too.
func TestSomeIsNewMemory(t *testing.T) {
	s := rand.New(9, 9)
	a := s.Some(10, 4)
	kept := slices.Clone(a)
	b := append(s.Some(10, 4), 99)
	b[0] = 77
	if !slices.Equal(a, kept) {
		t.Error("memory is shared")
	}
}

// R3: a nil source tells zero values.
func TestNil(t *testing.T) {
	var s *rand.Source
	if s.Next() != 0 || s.Below(5) != 0 || len(s.Some(5, 5)) != 0 {
		t.Error("not zero")
	}
}

// P4.3: of the same two numbers the same row comes, and sources keep to themselves.
func TestSameRow(t *testing.T) {
	for _, p := range pairs() {
		a, b := rand.New(p[0], p[1]), rand.New(p[0], p[1])
		first := []uint32{}
		for range 20 {
			first = append(first, a.Next())
		}
		for i := range 20 {
			if got := b.Next(); got != first[i] {
				t.Fatalf("%x: number %d: %x, not %x", p, i, got, first[i])
			}
		}
	}
}
