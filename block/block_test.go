package block_test

import (
	"bytes"
	"math"
	"slices"
	"testing"

	"downpour/block"
)

func image(n int) []byte {
	b := make([]byte, n)
	for i := range b {
		b[i] = byte(i*29 + i/256 + 1)
	}
	return b
}

// P10.1: the least number of pieces that hold them; at most MaxK.
func TestCount(t *testing.T) {
	for length := -2; length < 600; length++ {
		for size := -2; size < 20; size++ {
			want := 0
			if length >= 1 && length <= 512 && size >= 1 && size <= 16 {
				for want*size < length {
					want++
				}
				if want > 64 {
					want = 0
				}
			}
			if got := block.Count(length, size); got != want {
				t.Errorf("Count(%d, %d): %d, not %d", length, size, got, want)
			}
		}
	}
	for _, n := range []int{math.MaxInt, math.MaxInt - 1, math.MinInt} {
		if block.Count(n, 16) != 0 || block.Count(16, n) != 0 || block.Count(n, n) != 0 {
			t.Errorf("%d", n)
		}
	}
}

// P10.1: the example: the last piece is filled up with 00.
func TestSplit(t *testing.T) {
	if l := block.Split([]byte{1, 2, 3}, 2); !slices.EqualFunc(l, [][]byte{{1, 2}, {3, 0}}, bytes.Equal) {
		t.Errorf("example: %v", l)
	}
	if l := block.Split([]byte{1, 2, 3, 4}, 2); !slices.EqualFunc(l, [][]byte{{1, 2}, {3, 4}}, bytes.Equal) {
		t.Errorf("none is filled up: %v", l)
	}
	for _, wrong := range []struct {
		n, size int
	}{{0, 1}, {0, 16}, {513, 16}, {5, 0}, {5, -1}, {5, 17}, {65, 1}, {129, 2}, {512, 7}} {
		if l := block.Split(image(wrong.n), wrong.size); len(l) != 0 {
			t.Errorf("%v: %d pieces", wrong, len(l))
		}
	}
}

// P10.1: what lies behind an image's length is no part of it.
func TestSplitKeepsToTheLength(t *testing.T) {
	b := image(10)
	if l := block.Split(b[:5], 4); !slices.EqualFunc(l, [][]byte{b[:4], {b[4], 0, 0, 0}}, bytes.Equal) || !bytes.Equal(b, image(10)) {
		t.Error(l)
	}
}

// P10.1, R2: pieces share no memory, with the image or with one another.
func TestSplitIsNewMemory(t *testing.T) {
	b := image(12)
	l := block.Split(b, 4)
	_ = append(l[0], 0xee)
	clear(l[0])
	if !bytes.Equal(b, image(12)) || !bytes.Equal(l[1], b[4:8]) {
		t.Error("memory is shared")
	}
}

// P10.1: pieces, of whatever lengths, one behind the other, up to length.
func TestJoin(t *testing.T) {
	l := [][]byte{{1, 2}, nil, {3}, {}, {4, 5, 6}}
	for n := 1; n <= 6; n++ {
		if got := block.Join(l, n); !bytes.Equal(got, []byte{1, 2, 3, 4, 5, 6}[:n]) {
			t.Errorf("%d: %v", n, got)
		}
	}
	for _, n := range []int{0, -1, 7, 512, 513, math.MaxInt, math.MinInt} {
		if got := block.Join(l, n); len(got) != 0 {
			t.Errorf("%d: %v", n, got)
		}
	}
	long := [][]byte{image(600), image(600)}
	if got := block.Join(long, 512); !bytes.Equal(got, image(600)[:512]) {
		t.Error("512 bytes")
	}
	if len(block.Join(long, 513)) != 0 || len(block.Join(nil, 1)) != 0 || len(block.Join([][]byte{nil, {}}, 1)) != 0 {
		t.Error("it may not be")
	}
	got := block.Join(l, 2)
	_ = append(got, 9)
	clear(got)
	if !slices.EqualFunc(l, [][]byte{{1, 2}, nil, {3}, {}, {4, 5, 6}}, bytes.Equal) {
		t.Error("memory is shared")
	}
}

// P10.2: byte by byte; nothing of none, or of pieces that are not as long as one another.
func TestSum(t *testing.T) {
	l := [][]byte{{1, 0xf0, 3}, {2, 0x0f, 3}, {4, 0xff, 1}}
	if got := block.Sum(l); !bytes.Equal(got, []byte{7, 0, 1}) {
		t.Errorf("%x", got)
	}
	got := block.Sum(l[:1])
	if !bytes.Equal(got, l[0]) {
		t.Errorf("one: %x", got)
	}
	clear(got)
	if !slices.EqualFunc(l, [][]byte{{1, 0xf0, 3}, {2, 0x0f, 3}, {4, 0xff, 1}}, bytes.Equal) {
		t.Error("what was handed in was changed")
	}
	for _, l := range [][][]byte{nil, {}, {nil}, {{}, nil}, {{1}, {1, 2}}, {{1, 2}, {1}}, {{1}, {2}, {}}, {{}, {1}}, {{1, 2}, {3, 4}, {5, 6, 7}}} {
		if got := block.Sum(l); len(got) != 0 {
			t.Errorf("%v: %x", l, got)
		}
	}
}

// P10.3: what is split is joined.
func TestSplitAndJoin(t *testing.T) {
	for n := 1; n <= 512; n++ {
		for size := 1; size <= 16; size++ {
			l := block.Split(image(n), size)
			if len(l) != block.Count(n, size) {
				t.Fatalf("%d by %d: %d pieces", n, size, len(l))
			}
			if len(l) > 0 && !bytes.Equal(block.Join(l, n), image(n)) {
				t.Fatalf("%d by %d", n, size)
			}
		}
	}
}
