package decode_test

import (
	"bytes"
	"math"
	"math/rand"
	"testing"

	"downpour/api"
	"downpour/block"
	"downpour/code"
	"downpour/decode"
	"downpour/elim"
	"downpour/precode"
	"downpour/spread"
)

func image(n int) []byte {
	b := make([]byte, n)
	for i := range b {
		b[i] = byte(i*29 + i/256 + 1)
	}
	return b
}

// cases are images of many lengths, in pieces of many sizes.
func cases() map[int]api.Params {
	l := map[int]api.Params{}
	for i, n := range []int{1, 2, 15, 16, 17, 60, 100, 511, 512} {
		size := 16 - i%3*4
		l[n] = api.Params{Session: uint32(n * 1000), K: block.Count(n, size), P: i * 2, Size: size}
	}
	return l
}

// P12.1: a decoder needs K at first; there is none of what may not be.
func TestNew(t *testing.T) {
	for n, p := range cases() {
		d := decode.New(p)
		if d == nil || d.Needs() != p.K || d.Taken() != 0 {
			t.Errorf("%d", n)
		}
		if b, ok := d.Image(n); ok || len(b) != 0 {
			t.Errorf("%d: an image of nothing", n)
		}
	}
	for _, p := range []api.Params{{}, {K: 0, P: 1, Size: 1}, {K: 65, P: 1, Size: 1}, {K: 1, P: -1, Size: 1}, {K: 1, P: 17, Size: 1}, {K: 1, P: 1, Size: 0}, {K: 1, P: 1, Size: 17}, {K: math.MinInt, P: math.MaxInt, Size: math.MaxInt}} {
		if decode.New(p) != nil {
			t.Errorf("%+v", p)
		}
	}
}

// P12.1: the example: symbols 0 to K - 1 are enough; each of them, once.
func TestPiecesAreEnough(t *testing.T) {
	for n, p := range cases() {
		h, d := code.New(p, image(n)), decode.New(p)
		for id := range uint32(p.K) {
			if d.Needs() != p.K-int(id) || d.Taken() != int(id) {
				t.Fatalf("%d: Needs %d, Taken %d ahead of %d", n, d.Needs(), d.Taken(), id)
			}
			if !d.Says(id) || !d.Take(id, h.Symbol(id)) || d.Says(id) || d.Take(id, h.Symbol(id)) {
				t.Fatalf("%d: symbol %d", n, id)
			}
		}
		got, ok := d.Image(n)
		if d.Needs() != 0 || d.Taken() != p.K || !ok || !bytes.Equal(got, image(n)) {
			t.Errorf("%d: Needs %d, Taken %d", n, d.Needs(), d.Taken())
		}
	}
}

// P12.1: Says, Take and Needs are those of a matrix with the rows of parity, each with 00.
func TestTakeIsAdd(t *testing.T) {
	for n, p := range cases() {
		h, d := code.New(p, image(n)), decode.New(p)
		m := elim.New(p.K+p.P, p.Size)
		for _, row := range precode.Rows(p) {
			m.Add(row, make([]byte, p.Size))
		}
		taken := 0
		for id := uint32(p.K); d.Needs() > 0 && id < 5000; id++ {
			want := m.Says(spread.Row(p, id))
			if d.Says(id) != want || d.Take(id, h.Symbol(id)) != want {
				t.Fatalf("%d: symbol %d", n, id)
			}
			if m.Add(spread.Row(p, id), h.Symbol(id)) {
				taken++
			}
			if d.Taken() != taken || d.Needs() != p.K+p.P-m.Rank() {
				t.Fatalf("%d: Taken %d, Needs %d", n, d.Taken(), d.Needs())
			}
		}
	}
}

// P12.1: data of another size is not taken, nor what says nothing new; nothing changes.
func TestTakeRefuses(t *testing.T) {
	p := api.Params{Session: 4, K: 6, P: 2, Size: 5}
	d, h := decode.New(p), code.New(p, image(30))
	d.Take(1, h.Symbol(1))
	for _, data := range [][]byte{nil, {}, make([]byte, 4), make([]byte, 6), h.Symbol(1)} {
		if d.Take(1, data) {
			t.Errorf("%d bytes", len(data))
		}
	}
	for _, data := range [][]byte{nil, {}, make([]byte, 4), make([]byte, 6)} {
		if d.Take(2, data) || !d.Says(2) {
			t.Errorf("%d bytes", len(data))
		}
	}
	if d.Needs() != 5 || d.Taken() != 1 {
		t.Errorf("Needs %d, Taken %d", d.Needs(), d.Taken())
	}
}

// P12.1, R2: data that is handed in is neither changed nor kept.
func TestTakeKeepsToItself(t *testing.T) {
	p := api.Params{Session: 4, K: 6, P: 2, Size: 5}
	d, h := decode.New(p), code.New(p, image(30))
	for id := range uint32(6) {
		data := h.Symbol(id)
		d.Take(id, data)
		if !bytes.Equal(data, h.Symbol(id)) {
			t.Errorf("symbol %d was changed", id)
		}
		clear(data)
	}
	if got, ok := d.Image(30); !ok || !bytes.Equal(got, image(30)) {
		t.Error("data is kept")
	}
}

// P12.2: an image of lengths that have K pieces; of others there is none; and asked once more it is the same.
func TestImage(t *testing.T) {
	p := api.Params{Session: 4, K: 6, P: 2, Size: 5}
	d, h := decode.New(p), code.New(p, image(30))
	for id := range uint32(6) {
		if b, ok := d.Image(30); ok || len(b) != 0 {
			t.Fatalf("an image ahead of symbol %d", id)
		}
		d.Take(id, h.Symbol(id))
	}
	for n := -3; n < 600; n++ {
		b, ok := d.Image(n)
		if n > 25 && n <= 30 {
			if !ok || !bytes.Equal(b, image(30)[:n]) {
				t.Errorf("%d: %x %v", n, b, ok)
			}
			clear(b)
		} else if ok || len(b) != 0 {
			t.Errorf("%d: %x %v", n, b, ok)
		}
	}
	if b, ok := d.Image(30); !ok || !bytes.Equal(b, image(30)) {
		t.Error("memory is shared")
	}
	for _, n := range []int{math.MaxInt, math.MinInt} {
		if b, ok := d.Image(n); ok || len(b) != 0 {
			t.Errorf("%d", n)
		}
	}
}

// P12.3: symbols by chance, in whatever order, however often, tell the image once there are enough; and no more than K are taken.
func TestAnySymbolsAreEnough(t *testing.T) {
	r := rand.New(rand.NewSource(12))
	for n, p := range cases() {
		h := code.New(p, image(n))
		for range 5 {
			d := decode.New(p)
			for d.Needs() > 0 {
				id := uint32(r.Intn(p.K + 40 + p.K*2))
				d.Take(id, h.Symbol(id))
				d.Take(id, h.Symbol(id))
			}
			if got, ok := d.Image(n); !ok || !bytes.Equal(got, image(n)) || d.Taken() != p.K {
				t.Fatalf("%d: %v, Taken %d", n, ok, d.Taken())
			}
			if d.Says(0) || d.Take(uint32(p.K+1), h.Symbol(uint32(p.K+1))) || d.Taken() != p.K {
				t.Errorf("%d: there is nothing new any more", n)
			}
		}
	}
}

// R3: a nil decoder tells zero values.
func TestNil(t *testing.T) {
	var d *decode.Decoder
	b, ok := d.Image(1)
	c, ok0 := d.Image(0)
	if d.Says(0) || d.Take(0, nil) || d.Taken() != 0 || d.Needs() != 0 || ok || ok0 || len(b)+len(c) != 0 {
		t.Error("not zero")
	}
}
