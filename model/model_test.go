package model_test

import (
	"bytes"
	"crypto/sha256"
	"math/rand"
	"testing"

	"downpour/api"
	"downpour/boot"
	"downpour/code"
	"downpour/device"
	"downpour/frame"
	"downpour/manifest"
	"downpour/model"
	"downpour/packet"
	"downpour/session"
	"downpour/state"
)

var key = []byte("the key of all devices")

func image(n, x int) []byte {
	b := make([]byte, n)
	for i := range b {
		b[i] = byte(i*13 + i/256*7 + x)
	}
	return b
}

// sky is what is broadcast of one image.
type sky struct {
	m    api.Manifest
	head *code.Head
}

func skyOf(version uint32, image []byte, size, p int) sky {
	sum := sha256.Sum256(image)
	m := api.Manifest{Session: version*100 + 1, Version: version, Length: len(image), Size: size, P: p, Hash: sum[:]}
	params, _ := code.Of(m)
	return sky{m, code.New(params, image)}
}

func wrap(kind int, b []byte) []byte {
	f, _ := frame.Wrap(kind, b)
	return f
}

func (s sky) first() []byte {
	b, _ := manifest.Bytes(key, s.m)
	return wrap(api.FManifest, b)
}

func symbol(session, id uint32, data []byte) []byte {
	b, _ := packet.Bytes(api.Symbol{Session: session, Id: id, Data: data})
	return wrap(api.FSymbol, b)
}

func (s sky) symbol(id uint32) []byte { return symbol(s.m.Session, id, s.head.Symbol(id)) }

func made(t *testing.T) *model.Model {
	t.Helper()
	m, e := model.New(key, 1, image(200, 1))
	if e != api.OK || m == nil {
		t.Fatalf("New: %d", e)
	}
	return m
}

func expect(t *testing.T, what string, got, want api.Errno) {
	t.Helper()
	if got != want {
		t.Errorf("%s: %d, not %d", what, got, want)
	}
}

// is holds all that a model tells against what it should.
func is(t *testing.T, m *model.Model, s api.State, status, kept int, running []byte) {
	t.Helper()
	if !state.Same(m.State(), s) || m.Status() != status || m.Kept() != kept || !bytes.Equal(m.Running(), running) {
		t.Errorf("%+v, Status %d, Kept %d", m.State(), m.Status(), m.Kept())
	}
}

// P25.1: the example; the state is boot.First, and the image runs.
func TestNew(t *testing.T) {
	want, _ := boot.First(1, image(200, 1))
	is(t, made(t), want, api.SIdle, 0, image(200, 1))
	for _, c := range []struct {
		key, image int
		want       api.Errno
	}{{0, 1, api.OK}, {64, 512, api.OK}, {65, 1, api.ErrArg}, {64, 0, api.ErrArg}, {64, 513, api.ErrArg}, {65, 513, api.ErrArg}} {
		m, e := model.New(make([]byte, c.key), 1, image(c.image, 1))
		if e != c.want || (m != nil) != (e == api.OK) {
			t.Errorf("%+v: %d", c, e)
		}
	}
}

// P25.1: a manifest is admitted, and a decoder takes symbols until it needs nothing.
func TestPacket(t *testing.T) {
	m, s := made(t), skyOf(2, image(100, 2), 10, 2)
	want, _ := session.Admit(m.State(), s.m)
	expect(t, "the manifest", m.Packet(s.first()), api.OK)
	is(t, m, want, api.STaking, 0, image(200, 1))
	for id := range uint32(9) {
		expect(t, "a symbol", m.Packet(s.symbol(id)), api.OK)
		is(t, m, want, api.STaking, int(id)+1, image(200, 1))
		expect(t, "twice", m.Packet(s.symbol(id)), api.ErrDup)
	}
	expect(t, "the last one", m.Packet(s.symbol(9)), api.OK)
	want, _ = boot.Activate(want)
	is(t, m, want, api.SIdle, 0, image(100, 2))
	expect(t, "no session any more", m.Packet(s.symbol(9)), api.ErrNone)
	expect(t, "on trial", m.Packet(skyOf(3, image(9, 3), 3, 0).first()), api.ErrState)
}

// P25.1: what is refused changes nothing.
func TestPacketRefuses(t *testing.T) {
	m, s := made(t), skyOf(2, image(100, 2), 10, 2)
	forged, _ := manifest.Bytes([]byte("another key"), s.m)
	broken := s.first()
	broken[20] ^= 1
	refuse := func(what string, b []byte, want api.Errno) {
		t.Helper()
		st, status, kept, running := m.State(), m.Status(), m.Kept(), m.Running()
		expect(t, what, m.Packet(b), want)
		is(t, m, st, status, kept, running)
	}
	common := func() {
		t.Helper()
		refuse("nothing", nil, api.ErrShort)
		refuse("no frame", make([]byte, 9), api.ErrForm)
		refuse("a broken one", broken, api.ErrCheck)
		for _, kind := range []int{0, 3, 255} {
			refuse("a kind", wrap(kind, nil), api.ErrForm)
		}
		refuse("a short manifest", wrap(api.FManifest, forged[:75]), api.ErrForm)
		refuse("another key", wrap(api.FManifest, forged), api.ErrTag)
		refuse("an old one", skyOf(1, image(9, 2), 10, 2).first(), api.ErrOld)
		refuse("a short symbol", wrap(api.FSymbol, make([]byte, 8)), api.ErrShort)
		refuse("a long symbol", wrap(api.FSymbol, make([]byte, 25)), api.ErrForm)
	}
	common()
	refuse("no session", s.symbol(1), api.ErrNone)
	expect(t, "the manifest", m.Packet(s.first()), api.OK)
	expect(t, "a symbol", m.Packet(s.symbol(1)), api.OK)
	common()
	refuse("the manifest twice", s.first(), api.ErrDup)
	refuse("another session", symbol(5, 2, make([]byte, 9)), api.ErrOther)
	refuse("another size", symbol(s.m.Session, 2, make([]byte, 9)), api.ErrForm)
	refuse("another size, twice", symbol(s.m.Session, 1, make([]byte, 11)), api.ErrForm)
	refuse("twice", symbol(s.m.Session, 1, make([]byte, 10)), api.ErrDup)
	expect(t, "a newer one", m.Packet(skyOf(3, image(60, 3), 6, 1).first()), api.OK)
	if m.Kept() != 0 || m.State().Gen != 2 {
		t.Errorf("Kept %d", m.Kept())
	}
}

// P25.1: an image that is not the one is dropped.
func TestWrongImage(t *testing.T) {
	m, s := made(t), skyOf(2, image(100, 2), 10, 2)
	m.Packet(s.first())
	want := boot.Drop(m.State())
	for id := range uint32(9) {
		m.Packet(s.symbol(id))
	}
	expect(t, "another piece", m.Packet(symbol(s.m.Session, 9, make([]byte, 10))), api.ErrHash)
	is(t, m, want, api.SIdle, 0, image(200, 1))
}

// P25.2: starts and confirmations; what runs before and behind them.
func TestBootAndConfirm(t *testing.T) {
	for _, confirm := range []bool{false, true} {
		m, s := made(t), skyOf(2, image(100, 2), 10, 2)
		first := m.State()
		expect(t, "Boot", m.Boot(), api.OK)
		is(t, m, first, api.SIdle, 0, image(200, 1))
		m.Packet(s.first())
		for id := range uint32(10) {
			m.Packet(s.symbol(id))
		}
		want := m.State()
		for range 3 {
			is(t, m, want, api.SIdle, 0, image(100, 2))
			if confirm {
				expect(t, "Confirm", m.Confirm(), api.OK)
				want, _ = boot.Confirm(want)
			}
			expect(t, "Boot", m.Boot(), api.OK)
			want, _ = boot.Start(want)
		}
		if confirm {
			is(t, m, want, api.SIdle, 0, image(100, 2))
		} else {
			is(t, m, want, api.SIdle, 0, image(200, 1))
		}
	}
}

// R2: key, image and packets are not kept, and what is told is new memory.
func TestModelKeepsToItself(t *testing.T) {
	k, i := bytes.Clone(key), image(200, 1)
	m, _ := model.New(k, 1, i)
	clear(k)
	clear(i)
	first := skyOf(2, image(100, 2), 10, 2).first()
	expect(t, "the manifest", m.Packet(first), api.OK)
	clear(first)
	want, _ := state.Bytes(m.State())
	got := m.State()
	clear(got.Slots[0].Hash)
	clear(got.Now.Hash)
	clear(m.Running())
	if b, e := state.Bytes(m.State()); e != api.OK || !bytes.Equal(b, want) || !bytes.Equal(m.Running(), image(200, 1)) {
		t.Error("memory is shared")
	}
}

// P25.3: a device whose power does not go tells the same, whatever comes.
func TestDeviceTellsTheSame(t *testing.T) {
	r := rand.New(rand.NewSource(25))
	for range 40 {
		m := made(t)
		d, _ := device.Make(key, 1, image(200, 1), 10000)
		l := []sky{}
		for v := uint32(1); v < 8; v++ {
			l = append(l, skyOf(v, image(20+r.Intn(60), int(v)), 4+r.Intn(4), r.Intn(4)))
		}
		at := 0
		for range 400 {
			s, want, got := l[at], api.OK, api.OK
			switch x := r.Intn(60); {
			case x == 0:
				want, got = d.Boot(), m.Boot()
			case x == 1:
				want, got = d.Confirm(), m.Confirm()
			case x < 4:
				at = r.Intn(len(l))
			case x < 8:
				want, got = d.Packet(s.first()), m.Packet(s.first())
			case x == 8:
				b := symbol(s.m.Session, uint32(r.Intn(40)), make([]byte, 1+r.Intn(8)))
				want, got = d.Packet(b), m.Packet(b)
			case x == 9:
				b := s.first()
				b[r.Intn(len(b))] ^= 1
				want, got = d.Packet(b), m.Packet(b)
			case x == 10:
				want = d.Power()
			default:
				b := s.symbol(uint32(r.Intn(40)))
				want, got = d.Packet(b), m.Packet(b)
			}
			expect(t, "a call", got, want)
			st, _ := d.State()
			is(t, m, st, d.Status(), d.Kept(), d.Running())
			if t.Failed() {
				t.FailNow()
			}
		}
	}
}

// R3: a nil model tells zero values, ErrArg, and SOff.
func TestNil(t *testing.T) {
	var m *model.Model
	for _, e := range []api.Errno{m.Packet(nil), m.Boot(), m.Confirm()} {
		expect(t, "nil", e, api.ErrArg)
	}
	if m.Status() != api.SOff || !state.Same(m.State(), api.State{}) || m.Kept() != 0 || len(m.Running()) != 0 {
		t.Error("not zero")
	}
}
