package carousel_test

import (
	"bytes"
	"crypto/sha256"
	"math"
	"math/rand"
	"slices"
	"testing"

	"downpour/api"
	"downpour/block"
	"downpour/carousel"
	"downpour/code"
	"downpour/decode"
	"downpour/device"
	"downpour/frame"
	"downpour/manifest"
	"downpour/packet"
	"downpour/state"
)

var key = []byte("the key of all devices")

func image(n, x int) []byte {
	b := make([]byte, n)
	for i := range b {
		b[i] = byte(i*13 + i/256*7 + x)
	}
	return b
}

func headOf(t *testing.T, version uint32, image []byte, size, p int) *carousel.Head {
	t.Helper()
	h, e := carousel.New(key, version*100+1, version, image, size, p)
	if e != api.OK || h == nil {
		t.Fatalf("New: %d", e)
	}
	return h
}

func made(t *testing.T) *device.Device {
	t.Helper()
	d, e := device.Make(key, 1, image(200, 1), 10000)
	if e != api.OK {
		t.Fatalf("Make: %d", e)
	}
	return d
}

func hears(b []byte) api.Event { return api.Event{Kind: api.EPacket, Bytes: b} }

// P26.1: the manifest of what was handed in, which may be.
func TestNew(t *testing.T) {
	for _, c := range []struct{ n, size, p int }{{1, 1, 0}, {512, 16, 16}, {512, 8, 3}, {64, 1, 1}} {
		sum := sha256.Sum256(image(c.n, 2))
		want := api.Manifest{Session: 7, Version: 9, Length: c.n, Size: c.size, P: c.p, Hash: sum[:]}
		h, e := carousel.New(key, 7, 9, image(c.n, 2), c.size, c.p)
		if e != api.OK || !manifest.Same(h.Manifest(), want) {
			t.Errorf("%+v: %d", c, e)
		}
	}
	for _, c := range []struct{ key, n, size, p int }{{65, 10, 4, 1}, {200, 10, 4, 1}, {64, 0, 4, 1}, {64, 513, 16, 1}, {64, 65, 1, 1}, {64, 10, 0, 1}, {64, 10, 17, 1}, {64, 10, -1, 1}, {64, 10, 4, -1}, {64, 10, 4, 17}, {64, 10, math.MaxInt, math.MinInt}} {
		if h, e := carousel.New(make([]byte, c.key), 1, 1, image(c.n, 1), c.size, c.p); h != nil || e != api.ErrArg {
			t.Errorf("%+v: %d", c, e)
		}
	}
	for _, n := range []int{0, 64} {
		if h, e := carousel.New(make([]byte, n), 1, 1, image(5, 1), 4, 1); h == nil || e != api.OK {
			t.Errorf("a key of %d: %d", n, e)
		}
	}
}

// P26.1: First is the manifest, signed and wrapped.
func TestFirst(t *testing.T) {
	h := headOf(t, 2, image(100, 2), 10, 3)
	b, _ := manifest.Bytes(key, h.Manifest())
	want, _ := frame.Wrap(api.FManifest, b)
	if !bytes.Equal(h.First(), want) {
		t.Errorf("%x", h.First())
	}
}

// P26.1: Symbol is the packet of code's symbol, wrapped.
func TestSymbol(t *testing.T) {
	for _, c := range []struct{ n, size, p int }{{1, 1, 0}, {100, 10, 3}, {512, 16, 16}} {
		h := headOf(t, 2, image(c.n, 2), c.size, c.p)
		head := code.New(api.Params{Session: 201, K: block.Count(c.n, c.size), P: c.p, Size: c.size}, image(c.n, 2))
		for _, id := range []uint32{0, 1, 9, 10, 11, 50, 1 << 31, math.MaxUint32} {
			b, _ := packet.Bytes(api.Symbol{Session: 201, Id: id, Data: head.Symbol(id)})
			want, _ := frame.Wrap(api.FSymbol, b)
			if got := h.Symbol(id); len(got) != 9+8+c.size || !bytes.Equal(got, want) {
				t.Errorf("%+v: symbol %d: %x, not %x", c, id, got, want)
			}
		}
	}
}

// P26.1: Enough tells whether a decoder needs nothing more.
func TestEnough(t *testing.T) {
	r := rand.New(rand.NewSource(26))
	h := headOf(t, 2, image(100, 2), 10, 3)
	if h.Enough(nil) || h.Enough([]uint32{0, 1, 2, 3, 4, 5, 6, 7, 8}) || !h.Enough([]uint32{9, 8, 7, 6, 5, 4, 3, 2, 1, 0}) {
		t.Error("of the pieces")
	}
	yes := 0
	for range 400 {
		d := decode.New(api.Params{Session: 201, K: 10, P: 3, Size: 10})
		ids := []uint32{}
		for range 8 + r.Intn(8) {
			ids = append(ids, uint32(r.Intn(30)))
		}
		kept := slices.Clone(ids)
		for _, id := range ids {
			d.Take(id, make([]byte, 10))
		}
		got := h.Enough(ids)
		if got != (d.Needs() == 0) || !slices.Equal(ids, kept) {
			t.Fatalf("%v: %v", ids, got)
		}
		if got {
			yes++
		}
	}
	if yes < 50 || yes > 350 {
		t.Errorf("%d of 400", yes)
	}
}

// P26.1: at most MaxScript symbols are looked at.
func TestEnoughOfMany(t *testing.T) {
	h := headOf(t, 2, image(30, 2), 10, 0)
	for at, want := range map[int]bool{998: true, 999: true, 1000: false, 1001: false, 5000: false} {
		ids := make([]uint32, at, at+1)
		ids[0] = 1
		if ids = append(ids, 2); h.Enough(ids) != want {
			t.Errorf("the last one at %d", at)
		}
	}
}

// P26.2: of each event, what the device tells; at most MaxScript of them.
func TestPlay(t *testing.T) {
	h := headOf(t, 2, image(100, 2), 10, 3)
	l := []api.Event{{}, hears(h.First()), hears(h.First()), hears(h.Symbol(3)), hears(h.Symbol(3)), {Kind: api.EFuse, N: 0}, hears(h.Symbol(4)), hears(h.Symbol(4)), {Kind: api.EPower}, hears(h.Symbol(4)), {Kind: api.ECut}, {Kind: api.EBoot}}
	want := []api.Errno{api.ErrArg, api.OK, api.ErrDup, api.OK, api.ErrDup, api.OK, api.ErrDown, api.ErrDown, api.OK, api.OK, api.OK, api.ErrDown}
	if got := carousel.Play(made(t), l); !slices.Equal(got, want) {
		t.Errorf("%v", got)
	}
	for _, n := range []int{0, 1, 999, 1000, 1001, 3000} {
		d := made(t)
		l := make([]api.Event, n)
		if n > 1000 {
			l[1000] = hears(h.First())
		}
		got := carousel.Play(d, l)
		if len(got) != min(n, 1000) || d.Status() != api.SIdle {
			t.Errorf("%d events: %d", n, len(got))
		}
	}
}

// P26.3: the example: it hears First and the pieces, and runs the image.
func TestItRuns(t *testing.T) {
	for _, c := range []struct{ n, size, p int }{{1, 1, 0}, {100, 10, 3}, {512, 16, 16}, {512, 8, 0}} {
		h, d := headOf(t, 2, image(c.n, 2), c.size, c.p), made(t)
		l := []api.Event{hears(h.First())}
		for id := range uint32(block.Count(c.n, c.size)) {
			l = append(l, hears(h.Symbol(id)))
		}
		for i, e := range carousel.Play(d, l) {
			if e != api.OK {
				t.Errorf("%+v: event %d: %d", c, i, e)
			}
		}
		if !bytes.Equal(d.Running(), image(c.n, 2)) {
			t.Errorf("%+v: it does not run", c)
		}
	}
}

// P26.3: over whatever cuts, a device that hears First and enough symbols, again and again, runs the image, and nothing but what was whole ahead of it.
func TestItRunsOverCuts(t *testing.T) {
	r := rand.New(rand.NewSource(263))
	for range 25 {
		n, size, p := 60+r.Intn(300), 6+r.Intn(11), r.Intn(17)
		h, d := headOf(t, 2, image(n, 2), size, p), made(t)
		forged, _ := carousel.New([]byte("not the key"), 301, 3, image(n, 3), size, p)
		for round := 0; bytes.Equal(d.Running(), image(200, 1)); round++ {
			if round > 300 {
				t.Fatal("it does not end")
			}
			l := []api.Event{{Kind: api.EFuse, N: r.Intn(900), Torn: r.Intn(512)}, hears(forged.First()), hears(h.First())}
			for range 120 {
				l = append(l, hears(h.Symbol(uint32(r.Intn(150)))), hears(forged.Symbol(uint32(r.Intn(150)))))
			}
			carousel.Play(d, append(l, api.Event{Kind: api.ECut}))
			carousel.Play(d, []api.Event{{Kind: api.EPower}, {Kind: api.EPower}})
		}
		if s, ok := d.State(); !ok || !bytes.Equal(d.Running(), image(n, 2)) || s.Active != 1 || s.Slots[1].Version != 2 {
			t.Fatalf("%+v", s)
		}
	}
}

// P26.3: one broadcast behind the other; a version that is not above what counts is refused.
func TestOneBehindTheOther(t *testing.T) {
	d := made(t)
	for v := uint32(2); v < 6; v++ {
		h := headOf(t, v, image(50+int(v), int(v)), 10, 2)
		l := []api.Event{hears(h.First())}
		for id := range uint32(20) {
			l = append(l, hears(h.Symbol(19-id)))
		}
		carousel.Play(d, append(l, api.Event{Kind: api.EBoot}, api.Event{Kind: api.EConfirm}))
		if s, _ := d.State(); !bytes.Equal(d.Running(), image(50+int(v), int(v))) || s.Floor != v || s.Trial != 0 {
			t.Fatalf("version %d: %+v", v, s)
		}
		before, _ := d.State()
		if got := carousel.Play(d, l[:2]); !slices.Equal(got, []api.Errno{api.ErrOld, api.ErrNone}) {
			t.Errorf("version %d again: %v", v, got)
		}
		if s, _ := d.State(); !state.Same(s, before) {
			t.Errorf("version %d again: %+v", v, s)
		}
	}
}

// R2: key and image are not kept as they were handed in, and what is told is new memory.
func TestHeadKeepsToItself(t *testing.T) {
	k, i := bytes.Clone(key), image(100, 2)
	h, _ := carousel.New(k, 201, 2, i, 10, 3)
	clear(k)
	clear(i)
	want := headOf(t, 2, image(100, 2), 10, 3)
	for range 2 {
		if !bytes.Equal(h.First(), want.First()) || !bytes.Equal(h.Symbol(0), want.Symbol(0)) || !bytes.Equal(h.Symbol(77), want.Symbol(77)) {
			t.Error("memory is shared")
		}
		clear(h.First())
		clear(h.Symbol(0))
		clear(h.Manifest().Hash)
	}
}

// R3: a nil head tells zero values; a nil device is answered.
func TestNil(t *testing.T) {
	var h *carousel.Head
	if !manifest.Same(h.Manifest(), api.Manifest{}) || len(h.First()) != 0 || len(h.Symbol(0)) != 0 || h.Enough(nil) || h.Enough([]uint32{0}) {
		t.Error("not zero")
	}
	for _, e := range carousel.Play(nil, []api.Event{{Kind: api.EPower}, {Kind: api.EBoot}}) {
		if e != api.ErrArg {
			t.Errorf("a nil device: %d", e)
		}
	}
}
