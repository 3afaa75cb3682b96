package code_test

import (
	"bytes"
	"math"
	"slices"
	"testing"

	"downpour/api"
	"downpour/block"
	"downpour/code"
	"downpour/precode"
	"downpour/spread"
)

func image(n int) []byte {
	b := make([]byte, n)
	for i := range b {
		b[i] = byte(i*29 + i/256 + 1)
	}
	return b
}

// cases are images of many lengths, in pieces of many sizes.
func cases() map[int]api.Params {
	l := map[int]api.Params{}
	for i, n := range []int{1, 2, 15, 16, 17, 60, 100, 511, 512} {
		size := 16 - i%3*4
		l[n] = api.Params{Session: uint32(n * 1000), K: block.Count(n, size), P: i * 2, Size: size}
	}
	return l
}

// P11.1: a manifest's params; Hash and Version make no difference.
func TestOf(t *testing.T) {
	m := api.Manifest{Session: 7, Version: 9, Length: 100, Size: 8, P: 3}
	if p, ok := code.Of(m); !ok || p != (api.Params{Session: 7, K: 13, P: 3, Size: 8}) {
		t.Errorf("%+v", p)
	}
	for n, want := range cases() {
		if p, ok := code.Of(api.Manifest{Session: want.Session, Length: n, Size: want.Size, P: want.P}); !ok || p != want {
			t.Errorf("%+v", p)
		}
	}
}

// P11.1: what may not be coded so has no params.
func TestOfRefuses(t *testing.T) {
	for _, m := range []api.Manifest{
		{},
		{Session: 1, Length: 0, Size: 8, P: 3}, {Session: 1, Length: -1, Size: 8, P: 3}, {Session: 1, Length: 513, Size: 16, P: 3},
		{Session: 1, Length: 8, Size: 0, P: 3}, {Session: 1, Length: 8, Size: 17, P: 3}, {Session: 1, Length: 65, Size: 1, P: 3},
		{Session: 1, Length: 8, Size: 8, P: -1}, {Session: 1, Length: 8, Size: 8, P: 17}, {Session: 1, Length: math.MaxInt, Size: math.MaxInt, P: math.MaxInt},
	} {
		if p, ok := code.Of(m); ok || p != (api.Params{}) {
			t.Errorf("%+v: %+v", m, p)
		}
	}
}

// P11.1: no head of what may not be, or of an image that has not K pieces.
func TestNew(t *testing.T) {
	for n, p := range cases() {
		if code.New(p, image(n)) == nil {
			t.Errorf("%d: %+v", n, p)
		}
		for _, wrong := range []api.Params{{}, {K: p.K + 1, P: p.P, Size: p.Size}, {K: p.K - 1, P: p.P, Size: p.Size}, {K: p.K, P: -1, Size: p.Size}, {K: p.K, P: 17, Size: p.Size}, {K: p.K, P: p.P, Size: 0}, {K: 0, P: p.P, Size: 0}} {
			if code.New(wrong, image(n)) != nil {
				t.Errorf("%d: %+v", n, wrong)
			}
		}
	}
	for _, b := range [][]byte{nil, {}, image(8), image(17), image(513)} {
		if code.New(api.Params{K: 2, P: 1, Size: 8}, b) != nil {
			t.Errorf("%d bytes", len(b))
		}
	}
}

// P11.1: the pieces are those of block, and parity of precode.
func TestPieces(t *testing.T) {
	for n, p := range cases() {
		want := precode.Pieces(p, block.Split(image(n), p.Size))
		h := code.New(p, image(n))
		for range 2 {
			got := h.Pieces()
			if len(got) != p.K+p.P || !slices.EqualFunc(got, want, bytes.Equal) {
				t.Errorf("%d: %x, not %x", n, got, want)
			}
			for i := range got {
				_ = append(got[i], 0xee)
				clear(got[i])
			}
		}
	}
}

// P11.1, P11.2: a symbol is the sum of its row's pieces; that of id below K is a piece.
func TestSymbol(t *testing.T) {
	for n, p := range cases() {
		h := code.New(p, image(n))
		all := precode.Pieces(p, block.Split(image(n), p.Size))
		for id := range uint32(120) {
			want := make([]byte, p.Size)
			for _, i := range spread.Row(p, id).List() {
				for j, x := range all[i] {
					want[j] ^= x
				}
			}
			got := h.Symbol(id)
			if !bytes.Equal(got, want) || id < uint32(p.K) && !bytes.Equal(got, all[id]) {
				t.Errorf("%d: symbol %d: %x, not %x", n, id, got, want)
			}
			clear(got)
		}
		for _, id := range []uint32{1 << 31, math.MaxUint32} {
			if len(h.Symbol(id)) != p.Size {
				t.Errorf("%d: symbol %d", n, id)
			}
		}
	}
}

// P11.1: the example: the first piece is the first bytes; the last one is filled up.
func TestSymbolsOfPieces(t *testing.T) {
	h := code.New(api.Params{Session: 1, K: 3, P: 2, Size: 4}, []byte{1, 2, 3, 4, 5, 6, 7, 8, 9})
	if !bytes.Equal(h.Symbol(0), []byte{1, 2, 3, 4}) || !bytes.Equal(h.Symbol(2), []byte{9, 0, 0, 0}) {
		t.Errorf("%x %x", h.Symbol(0), h.Symbol(2))
	}
}

// R2: an image that is handed in is not kept, whenever the pieces are made.
func TestImageIsNotKept(t *testing.T) {
	b := image(60)
	p := api.Params{Session: 2, K: 4, P: 2, Size: 16}
	h := code.New(p, b)
	clear(b)
	if !bytes.Equal(h.Symbol(0), image(60)[:16]) || !slices.EqualFunc(h.Pieces(), code.New(p, image(60)).Pieces(), bytes.Equal) {
		t.Error("the image is kept")
	}
}

// R3: a nil head tells nothing.
func TestNil(t *testing.T) {
	var h *code.Head
	if len(h.Pieces()) != 0 || len(h.Symbol(0)) != 0 || len(h.Symbol(math.MaxUint32)) != 0 {
		t.Error("not nothing")
	}
}
