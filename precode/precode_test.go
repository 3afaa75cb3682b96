package precode_test

import (
	"bytes"
	"math"
	"slices"
	"testing"

	"downpour/api"
	"downpour/precode"
	"downpour/rand"
)

func wrong() []api.Params {
	return []api.Params{
		{}, {K: 0, P: 1, Size: 1}, {K: 65, P: 1, Size: 1}, {K: -1, P: 1, Size: 1}, {K: 1, P: -1, Size: 1}, {K: 1, P: 17, Size: 1}, {K: 1, P: 1, Size: 0}, {K: 1, P: 1, Size: 17}, {K: math.MaxInt, P: math.MaxInt, Size: math.MinInt},
	}
}

func right() []api.Params {
	l := []api.Params{}
	for _, k := range []int{1, 2, 9, 64} {
		for _, p := range []int{0, 1, 5, 16} {
			l = append(l, api.Params{Session: uint32(k + p), K: k, P: p, Size: 1}, api.Params{Session: math.MaxUint32 - uint32(k), K: k, P: p, Size: 16})
		}
	}
	return l
}

func pieces(k, size int) [][]byte {
	l := [][]byte{}
	for i := range k {
		b := make([]byte, size)
		for j := range b {
			b[j] = byte(i*53 + j*7 + 1)
		}
		l = append(l, b)
	}
	return l
}

// P9.1: the example: without parity there are no rows; nor of what may not be.
func TestNoRows(t *testing.T) {
	if l := precode.Rows(api.Params{Session: 1, K: 10, P: 0, Size: 4}); len(l) != 0 {
		t.Errorf("%d rows", len(l))
	}
	for _, p := range wrong() {
		if l := precode.Rows(p); len(l) != 0 {
			t.Errorf("%+v: %d rows", p, len(l))
		}
	}
}

// P9.1: of each j, piece K + j, and those i for which Next is odd, asked for one by one.
func TestRows(t *testing.T) {
	for _, p := range right() {
		l := precode.Rows(p)
		if len(l) != p.P {
			t.Fatalf("%+v: %d rows", p, len(l))
		}
		for j, v := range l {
			want, s := []int{}, rand.New(p.Session, uint32(1<<31+j))
			for i := range p.K {
				if s.Next()&1 == 1 {
					want = append(want, i)
				}
			}
			want = append(want, p.K+j)
			if !slices.Equal(v.List(), want) || v.Len() != p.K+p.P {
				t.Errorf("%+v: row %d: %v, not %v", p, j, v.List(), want)
			}
		}
	}
}

// P9.2, P9.3: the pieces, and parity behind them; the sum of all pieces of a row is nothing.
func TestPieces(t *testing.T) {
	for _, p := range right() {
		l := pieces(p.K, p.Size)
		all := precode.Pieces(p, l)
		if len(all) != p.K+p.P {
			t.Fatalf("%+v: %d pieces", p, len(all))
		}
		for i := range l {
			if !bytes.Equal(all[i], l[i]) {
				t.Errorf("%+v: piece %d", p, i)
			}
		}
		for j, v := range precode.Rows(p) {
			sum := make([]byte, p.Size)
			for _, i := range v.List() {
				for n, x := range all[i] {
					sum[n] ^= x
				}
			}
			if len(all[p.K+j]) != p.Size || !bytes.Equal(sum, make([]byte, p.Size)) {
				t.Errorf("%+v: row %d: %x", p, j, sum)
			}
		}
	}
}

// P9.2: what is handed in is neither changed nor kept, and no two pieces share memory.
func TestPiecesAreNewMemory(t *testing.T) {
	p := api.Params{Session: 3, K: 4, P: 3, Size: 5}
	l := pieces(4, 5)
	all := precode.Pieces(p, l)
	want := precode.Pieces(p, l)
	for i := range all {
		_ = append(all[i], 0xee)
		for j := range all[i] {
			all[i][j] ^= 0xff
		}
		for j := range all {
			if j > i && !bytes.Equal(all[j], want[j]) {
				t.Errorf("pieces %d and %d share memory", i, j)
			}
		}
	}
	if !slices.EqualFunc(l, pieces(4, 5), bytes.Equal) {
		t.Error("what was handed in was changed")
	}
}

// P9.2: nothing of what may not be, of too few or too many pieces, or of one of another size.
func TestPiecesRefuses(t *testing.T) {
	for _, p := range wrong() {
		if len(precode.Pieces(p, pieces(1, 1))) != 0 || len(precode.Pieces(p, nil)) != 0 || len(precode.Pieces(p, pieces(max(0, min(p.K, 99)), max(0, min(p.Size, 99))))) != 0 {
			t.Errorf("%+v", p)
		}
	}
	p := api.Params{Session: 3, K: 4, P: 3, Size: 5}
	for _, l := range [][][]byte{nil, {}, pieces(3, 5), pieces(5, 5), pieces(7, 5), pieces(4, 4), pieces(4, 6), make([][]byte, 4)} {
		if len(precode.Pieces(p, l)) != 0 {
			t.Errorf("%d pieces", len(l))
		}
	}
	for i := range 4 {
		for _, size := range []int{0, 4, 6} {
			l := pieces(4, 5)
			l[i] = make([]byte, size)
			if len(precode.Pieces(p, l)) != 0 {
				t.Errorf("piece %d of %d bytes", i, size)
			}
		}
	}
}
