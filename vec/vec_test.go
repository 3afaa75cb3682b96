package vec_test

import (
	"bytes"
	"math"
	"slices"
	"testing"

	"downpour/vec"
)

var lengths = []int{0, 1, 2, 7, 8, 9, 10, 63, 64, 65, 80, 127, 128, 129, 192, 200, 255, 256}

// some are bits of a row of n, at the edges of words and bytes and elsewhere.
func some(n int) []int {
	l := []int{}
	for i := range n {
		if i == 0 || i == n-1 || i%5 == 2 || i == 63 || i == 64 {
			l = append(l, i)
		}
	}
	return l
}

// P5.1: rows of 0 to MaxBits bits, none set; else nil.
func TestNew(t *testing.T) {
	for _, n := range lengths {
		v := vec.New(n)
		if v == nil || v.Len() != n || v.Count() != 0 || v.First() != -1 || len(v.List()) != 0 {
			t.Errorf("New(%d)", n)
		}
	}
	for _, n := range []int{-1, 257, 1000, math.MinInt, math.MaxInt} {
		if vec.New(n) != nil || vec.Of(n, []int{0}) != nil {
			t.Errorf("New(%d) is not nil", n)
		}
	}
}

// P5.1: Of sets those of the list that are there, and leaves the list.
func TestOf(t *testing.T) {
	for _, n := range lengths {
		l := some(n)
		v := vec.Of(n, l)
		if !slices.Equal(v.List(), l) || v.Count() != len(l) || v.Len() != n {
			t.Errorf("%d: %v", n, v.List())
		}
		for i := -2; i < n+70; i++ {
			if v.Has(i) != slices.Contains(l, i) {
				t.Errorf("%d: Has(%d)", n, i)
			}
		}
	}
	l := []int{5, -1, 3, 10, 3, math.MaxInt, 0, math.MinInt}
	v := vec.Of(10, l)
	if !slices.Equal(v.List(), []int{0, 3, 5}) || !slices.Equal(l, []int{5, -1, 3, 10, 3, math.MaxInt, 0, math.MinInt}) {
		t.Error(v.List(), l)
	}
}

// P5.1: Set sets and clears one bit, and none beyond.
func TestSet(t *testing.T) {
	for _, n := range lengths {
		v, l := vec.New(n), some(n)
		for _, i := range l {
			if !v.Set(i, true) || !v.Set(i, true) || !v.Has(i) {
				t.Errorf("%d: Set(%d)", n, i)
			}
		}
		for _, i := range []int{-1, -64, n, n + 1, 256, math.MaxInt, math.MinInt} {
			if i == 256 && n == 256 {
				continue
			}
			if v.Set(i, true) || v.Set(i, false) || v.Has(i) {
				t.Errorf("%d: Set(%d) beyond", n, i)
			}
		}
		if !slices.Equal(v.List(), l) {
			t.Errorf("%d: %v", n, v.List())
		}
		for len(l) > 0 {
			if v.First() != l[0] || v.Count() != len(l) || !v.Set(l[0], false) || !v.Set(l[0], false) {
				t.Errorf("%d: %d is not cleared", n, l[0])
			}
			l = l[1:]
			if !slices.Equal(v.List(), l) {
				t.Errorf("%d: %v", n, v.List())
			}
		}
	}
}

// P5.1, P5.3: Xor changes the row alone; twice is nothing.
func TestXor(t *testing.T) {
	for _, n := range lengths {
		a, b := []int{}, []int{}
		want := []int{}
		for i := range n {
			if i%2 == 0 {
				a = append(a, i)
			}
			if i%3 == 0 {
				b = append(b, i)
			}
			if (i%2 == 0) != (i%3 == 0) {
				want = append(want, i)
			}
		}
		v, w := vec.Of(n, a), vec.Of(n, b)
		if !v.Xor(w) || !slices.Equal(v.List(), want) || !slices.Equal(w.List(), b) {
			t.Errorf("%d: %v", n, v.List())
		}
		if !v.Xor(w) || !slices.Equal(v.List(), a) {
			t.Errorf("%d: twice: %v", n, v.List())
		}
		if !v.Xor(v) || v.Count() != 0 {
			t.Errorf("%d: with itself", n)
		}
	}
	v := vec.Of(10, []int{1, 9})
	for _, w := range []*vec.Vec{nil, vec.Of(9, []int{1}), vec.Of(11, []int{1}), vec.New(0)} {
		if v.Xor(w) || !slices.Equal(v.List(), []int{1, 9}) {
			t.Error("another length")
		}
	}
}

// P5.1, R2: a copy, and a list, are of their own memory.
func TestCopy(t *testing.T) {
	for _, n := range lengths {
		v := vec.Of(n, some(n))
		w := v.Copy()
		if !vec.Same(v, w) {
			t.Errorf("%d", n)
		}
		for i := range n {
			w.Set(i, false)
		}
		l := v.List()
		for i := range l {
			l[i] = -5
		}
		if !slices.Equal(v.List(), some(n)) {
			t.Errorf("%d: memory is shared", n)
		}
	}
}

// P5.2: the example, and bit i modulo 8 of byte i / 8.
func TestBytes(t *testing.T) {
	if got := vec.Of(10, []int{1, 9}).Bytes(); !bytes.Equal(got, []byte{2, 2}) {
		t.Errorf("example: %x", got)
	}
	for _, n := range lengths {
		want := make([]byte, (n+7)/8)
		for _, i := range some(n) {
			want[i/8] += 1 << (i % 8)
		}
		v := vec.Of(n, some(n))
		got := v.Bytes()
		if !bytes.Equal(got, want) {
			t.Errorf("%d: %x, not %x", n, got, want)
		}
		for i := range got {
			got[i] = 0
		}
		if !bytes.Equal(v.Bytes(), want) {
			t.Errorf("%d: memory is shared", n)
		}
	}
}

// P5.2: From tells the row of Bytes.
func TestFrom(t *testing.T) {
	for _, n := range lengths {
		v := vec.Of(n, some(n))
		b := v.Bytes()
		w, ok := vec.From(n, b)
		if !ok || !vec.Same(v, w) || w.Len() != n {
			t.Errorf("%d", n)
		}
		if n > 0 {
			w.Set(0, false)
			if !bytes.Equal(b, v.Bytes()) {
				t.Errorf("%d: memory is shared", n)
			}
		}
	}
	full := vec.New(256)
	for i := range 256 {
		full.Set(i, true)
	}
	if w, ok := vec.From(256, bytes.Repeat([]byte{0xff}, 32)); !ok || !vec.Same(w, full) {
		t.Error("all bits")
	}
}

// P5.2: no row of another length, of a length that may not be, or with a bit beyond.
func TestFromRefuses(t *testing.T) {
	refuse := func(n int, b []byte) {
		t.Helper()
		if v, ok := vec.From(n, b); ok || v != nil {
			t.Errorf("%d of %x", n, b)
		}
	}
	for _, n := range lengths {
		size := (n + 7) / 8
		refuse(n, make([]byte, size+1))
		if size > 0 {
			refuse(n, make([]byte, size-1))
		}
		for i := n; i < size*8; i++ {
			b := make([]byte, size)
			b[i/8] |= 1 << (i % 8)
			refuse(n, b)
		}
	}
	refuse(-1, nil)
	refuse(-8, nil)
	refuse(257, make([]byte, 33))
	refuse(math.MaxInt, nil)
	refuse(math.MinInt, nil)
}

// P5.2: Same looks at whether there is a row, at its length and at its bits.
func TestSame(t *testing.T) {
	v := vec.Of(70, []int{3, 69})
	for _, w := range []*vec.Vec{nil, vec.Of(70, []int{3}), vec.Of(70, []int{3, 68}), vec.Of(71, []int{3, 69}), vec.New(0)} {
		if vec.Same(v, w) || vec.Same(w, v) {
			t.Error("they are not the same")
		}
	}
	if !vec.Same(nil, nil) || !vec.Same(v, v) || !vec.Same(v, vec.Of(70, []int{69, 3, 3})) || !vec.Same(vec.New(0), vec.New(0)) || vec.Same(vec.New(1), vec.New(2)) || vec.Same(vec.New(0), nil) {
		t.Error("they are the same")
	}
}

// R3: a nil row tells zero values, and First -1.
func TestNil(t *testing.T) {
	var v *vec.Vec
	if v.Len() != 0 || v.Has(0) || v.Set(0, true) || v.Xor(v) || v.Xor(vec.New(0)) || v.First() != -1 || v.Count() != 0 || len(v.List()) != 0 || v.Copy() != nil || len(v.Bytes()) != 0 {
		t.Error("not zero")
	}
}
