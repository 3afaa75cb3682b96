package store_test

import (
	"bytes"
	"math/rand"
	"testing"

	"downpour/api"
	"downpour/code"
	"downpour/decode"
	"downpour/flash"
	"downpour/store"
	"downpour/wheel"
)

func image(n int) []byte {
	b := make([]byte, n)
	for i := range b {
		b[i] = byte(i*29 + i/256 + 1)
	}
	return b
}

func manifestOf(n, size, p int) api.Manifest {
	return api.Manifest{Session: uint32(n), Version: 3, Length: n, Size: size, P: p, Hash: make([]byte, 32)}
}

func head(m api.Manifest) *code.Head {
	p, _ := code.Of(m)
	return code.New(p, image(m.Length))
}

func open(t *testing.T, f *flash.Flash, m api.Manifest, gen uint32) *store.Store {
	t.Helper()
	s, e := store.Open(f, m, gen)
	if e != api.OK || s == nil {
		t.Fatalf("Open: %d", e)
	}
	return s
}

// whole tells whether the store needs nothing and tells the image.
func whole(s *store.Store, n int) bool {
	b, ok := s.Image()
	return s.Needs() == 0 && ok && bytes.Equal(b, image(n))
}

// P23.1: of what may not be coded, of no flash or no power, there is no store.
func TestOpenRefuses(t *testing.T) {
	down := flash.New(1)
	down.Cut()
	refuse := func(what string, f *flash.Flash, m api.Manifest, want api.Errno) {
		t.Helper()
		if s, e := store.Open(f, m, 1); s != nil || e != want {
			t.Errorf("%s: %d, not %d", what, e, want)
		}
	}
	for _, m := range []api.Manifest{{}, manifestOf(0, 8, 0), manifestOf(513, 16, 0), manifestOf(65, 1, 0), manifestOf(9, 17, 0), manifestOf(9, 0, 0), manifestOf(9, 8, 17), manifestOf(9, 8, -1)} {
		refuse("a manifest", flash.New(1), m, api.ErrArg)
		refuse("a manifest, no power", down, m, api.ErrArg)
	}
	refuse("no power", down, manifestOf(9, 8, 0), api.ErrDown)
	refuse("nil", nil, manifestOf(9, 8, 0), api.ErrArg)
}

// P23.1: symbols are kept until nothing is needed; the image is told then.
func TestPut(t *testing.T) {
	for _, m := range []api.Manifest{manifestOf(1, 1, 0), manifestOf(64, 1, 16), manifestOf(100, 7, 3), manifestOf(512, 16, 16), manifestOf(512, 8, 5)} {
		f, h := flash.New(1), head(m)
		p, _ := code.Of(m)
		s := open(t, f, m, 4)
		for i := 0; s.Needs() > 0; i++ {
			if s.Kept() != i || s.Needs() != p.K-i {
				t.Fatalf("%d: Kept %d, Needs %d", m.Length, s.Kept(), s.Needs())
			}
			if b, ok := s.Image(); ok || len(b) != 0 {
				t.Fatalf("%d: an image too soon", m.Length)
			}
			id := uint32(p.K - 1 - i)
			data := h.Symbol(id)
			if e := s.Put(id, data); e != api.OK || !bytes.Equal(data, h.Symbol(id)) {
				t.Fatalf("%d: symbol %d: %d", m.Length, id, e)
			}
			clear(data)
		}
		if s.Kept() != p.K || !whole(s, m.Length) {
			t.Errorf("%d: Kept %d", m.Length, s.Kept())
		}
		b, _ := s.Image()
		clear(b)
		if !whole(s, m.Length) || !whole(open(t, f, m, 4), m.Length) {
			t.Errorf("%d: memory is shared", m.Length)
		}
	}
}

// P23.1: what is refused, by the first sentence that applies, is not kept.
func TestPutRefuses(t *testing.T) {
	m := manifestOf(40, 8, 2)
	f, h := flash.New(1), head(m)
	s := open(t, f, m, 4)
	s.Put(1, h.Symbol(1))
	steps := f.Steps()
	refuse := func(what string, id uint32, data []byte, want api.Errno) {
		t.Helper()
		if e := s.Put(id, data); e != want || s.Kept() != 1 || s.Needs() != 4 || f.Steps() != steps {
			t.Errorf("%s: %d, not %d", what, e, want)
		}
	}
	refuse("the example: twice", 1, h.Symbol(1), api.ErrDup)
	refuse("with other data", 1, make([]byte, 8), api.ErrDup)
	for _, data := range [][]byte{nil, {}, make([]byte, 7), make([]byte, 9)} {
		refuse("another size", 1, data, api.ErrForm)
		refuse("another size", 2, data, api.ErrForm)
	}
	f.Cut()
	refuse("twice, no power", 1, h.Symbol(1), api.ErrDup)
	if e := s.Put(2, h.Symbol(2)); e != api.ErrDown || f.Steps() != steps {
		t.Errorf("no power: %d", e)
	}
}

// P23.1: a symbol is asked of the decoder: what is a sum of others says nothing new.
func TestPutOfSums(t *testing.T) {
	m := manifestOf(40, 8, 2)
	p, _ := code.Of(m)
	f, h, d := flash.New(1), head(m), decode.New(p)
	s := open(t, f, m, 4)
	for id := uint32(5); id < 400; id++ {
		want := api.ErrDup
		if d.Take(id, h.Symbol(id)) {
			want = api.OK
		}
		if e := s.Put(id, h.Symbol(id)); e != want || s.Kept() != d.Taken() || s.Needs() != d.Needs() {
			t.Fatalf("symbol %d: %d, not %d", id, e, want)
		}
	}
	if !whole(s, 40) || s.Kept() != 5 {
		t.Errorf("Kept %d", s.Kept())
	}
}

// P23.1: what records say is taken in order; what does not say anything new is not kept.
func TestOpenTakesRecords(t *testing.T) {
	m := manifestOf(40, 8, 2)
	f, h := flash.New(1), head(m)
	w, _ := wheel.Open(f, 4, 8)
	for _, id := range []uint32{3, 3, 0, 3, 1, 0} {
		w.Add(id, h.Symbol(id))
	}
	s := open(t, f, m, 4)
	if s.Kept() != 3 || s.Needs() != 2 {
		t.Errorf("Kept %d, Needs %d", s.Kept(), s.Needs())
	}
	for gen, want := range map[uint32]int{3: 0, 4: 3, 5: 0} {
		if s := open(t, f, m, gen); s.Kept() != want {
			t.Errorf("gen %d: Kept %d", gen, s.Kept())
		}
	}
	w.Add(2, make([]byte, 8))
	w.Add(2, h.Symbol(2))
	w.Add(4, h.Symbol(4))
	b, ok := open(t, f, m, 4).Image()
	want := image(40)
	clear(want[16:24])
	if !ok || !bytes.Equal(b, want) {
		t.Error("the first of two counts")
	}
}

// P23.1: where the wheel has no room, or is worn, that is told, and nothing is kept.
func TestPutWithoutRoom(t *testing.T) {
	m := manifestOf(512, 16, 0)
	f, h := flash.New(1), head(m)
	w, _ := wheel.Open(f, 4, 16)
	for w.Room() > 1 {
		w.Add(9, h.Symbol(9))
	}
	s := open(t, f, m, 4)
	if e := s.Put(1, h.Symbol(1)); e != api.OK || s.Kept() != 2 {
		t.Errorf("the last place: %d, Kept %d", e, s.Kept())
	}
	for range 2 {
		if e := s.Put(2, h.Symbol(2)); e != api.ErrFull || s.Kept() != 2 {
			t.Errorf("full: %d, Kept %d", e, s.Kept())
		}
	}
	f = flash.New(1)
	f.Erase(api.WheelAt)
	f.Program(api.WheelAt*256, []byte{0})
	s = open(t, f, m, 4)
	for range 2 {
		if e := s.Put(2, h.Symbol(2)); e != api.ErrWorn || s.Kept() != 0 || s.Needs() != 32 {
			t.Errorf("worn: %d, Kept %d", e, s.Kept())
		}
	}
}

// P23.2: what was put is kept behind a cut; there are never more records than pieces of the image.
func TestPowerGoesAnywhere(t *testing.T) {
	r := rand.New(rand.NewSource(23))
	for _, m := range []api.Manifest{manifestOf(60, 5, 4), manifestOf(512, 16, 3)} {
		p, _ := code.Of(m)
		for range 30 {
			f, h, kept := flash.New(100), head(m), 0
			s := open(t, f, m, 7)
			for s.Needs() > 0 {
				f.Fuse(r.Intn(400), r.Intn(256))
				e := api.OK
				for e != api.ErrDown && s.Needs() > 0 {
					id := uint32(r.Intn(p.K * 3))
					if e = s.Put(id, h.Symbol(id)); e == api.OK {
						kept++
					} else if e != api.ErrDup && e != api.ErrDown {
						t.Fatalf("symbol %d: %d", id, e)
					}
				}
				f.Start()
				s = open(t, f, m, 7)
				if s.Kept() != kept && s.Kept() != kept+1 || s.Kept() > p.K {
					t.Fatalf("%d were put, %d are kept", kept, s.Kept())
				}
				kept = s.Kept()
			}
			w, _ := wheel.Open(f, 7, m.Size)
			if !whole(s, m.Length) || kept != p.K || len(w.Records()) != p.K {
				t.Fatalf("%d kept, %d records", kept, len(w.Records()))
			}
		}
	}
}

// R3: a nil store tells zero values, and ErrArg.
func TestNil(t *testing.T) {
	var s *store.Store
	b, ok := s.Image()
	if s.Put(0, nil) != api.ErrArg || s.Kept() != 0 || s.Needs() != 0 || ok || len(b) != 0 {
		t.Error("not zero")
	}
}
