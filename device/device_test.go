package device_test

import (
	"bytes"
	"crypto/sha256"
	"math"
	"math/rand"
	"testing"

	"downpour/api"
	"downpour/boot"
	"downpour/cell"
	"downpour/code"
	"downpour/device"
	"downpour/flash"
	"downpour/frame"
	"downpour/manifest"
	"downpour/packet"
	"downpour/session"
	"downpour/slot"
	"downpour/state"
	"downpour/wheel"
)

var key = []byte("the key of all devices")

func image(n, x int) []byte {
	b := make([]byte, n)
	for i := range b {
		b[i] = byte(i*13 + i/256*7 + x)
	}
	return b
}

// sky is what is broadcast of one image.
type sky struct {
	m    api.Manifest
	head *code.Head
}

func skyOf(version uint32, image []byte, size, p int) sky {
	sum := sha256.Sum256(image)
	m := api.Manifest{Session: version*100 + 1, Version: version, Length: len(image), Size: size, P: p, Hash: sum[:]}
	params, _ := code.Of(m)
	return sky{m, code.New(params, image)}
}

func wrap(kind int, b []byte) []byte {
	f, _ := frame.Wrap(kind, b)
	return f
}

func (s sky) first() []byte {
	b, _ := manifest.Bytes(key, s.m)
	return wrap(api.FManifest, b)
}

func (s sky) symbol(id uint32) []byte {
	b, _ := packet.Bytes(api.Symbol{Session: s.m.Session, Id: id, Data: s.head.Symbol(id)})
	return wrap(api.FSymbol, b)
}

// pieces is K.
func (s sky) pieces() uint32 {
	p, _ := code.Of(s.m)
	return uint32(p.K)
}

func made(t *testing.T, n, wear int) *device.Device {
	t.Helper()
	d, e := device.Make(key, 1, image(n, 1), wear)
	if e != api.OK || d == nil {
		t.Fatalf("Make: %d", e)
	}
	return d
}

func expect(t *testing.T, what string, got, want api.Errno) {
	t.Helper()
	if got != want {
		t.Errorf("%s: %d, not %d", what, got, want)
	}
}

func stateOf(t *testing.T, d *device.Device) api.State {
	t.Helper()
	s, ok := d.State()
	if !ok {
		t.Fatal("there is no memory")
	}
	return s
}

// recorded is the state that stands on flash.
func recorded(d *device.Device) api.State {
	f := flash.New(1)
	f.Program(0, d.Flash().Bytes())
	b, _ := cell.Read(f)
	s, _ := state.Parse(b)
	return s
}

// off tells whether there is no memory.
func off(d *device.Device) bool {
	s, ok := d.State()
	return !ok && state.Same(s, api.State{}) && d.Status() == api.SOff && d.Kept() == 0
}

// filled takes the manifest and all pieces but the last one.
func filled(t *testing.T, d *device.Device, s sky) {
	t.Helper()
	expect(t, "the manifest", d.Packet(s.first()), api.OK)
	for id := range s.pieces() - 1 {
		expect(t, "a symbol", d.Packet(s.symbol(id)), api.OK)
	}
}

// P24.1: slot 0 holds the image, the state is kept, and there is memory.
func TestMake(t *testing.T) {
	for _, n := range []int{1, 256, 512} {
		d := made(t, n, 1)
		want, _ := boot.First(1, image(n, 1))
		if !state.Same(stateOf(t, d), want) || !state.Same(recorded(d), want) || d.Status() != api.SIdle || d.Kept() != 0 {
			t.Errorf("%d bytes: %+v", n, stateOf(t, d))
		}
		if !bytes.Equal(d.Running(), image(n, 1)) || !slot.Right(d.Flash(), 0, want.Slots[0]) || d.Flash().Down() {
			t.Errorf("%d bytes: the image", n)
		}
		if !d.Flash().Blank(4*256, 10*256) || d.Flash().Erases(0) != 1 || d.Flash().Erases(2) != 0 {
			t.Errorf("%d bytes: other sectors", n)
		}
	}
	d := made(t, 5, 1)
	expect(t, "worn at once", d.Flash().Erase(0), api.ErrWorn)
}

// P24.1: a key of at most 64 bytes, and an image that may be.
func TestMakeRefuses(t *testing.T) {
	for _, c := range []struct {
		key, image int
		want       api.Errno
	}{{64, 5, api.OK}, {0, 5, api.OK}, {65, 5, api.ErrArg}, {200, 5, api.ErrArg}, {5, 0, api.ErrArg}, {5, 513, api.ErrArg}, {65, 0, api.ErrArg}} {
		for _, wear := range []int{math.MinInt, 0, 5, math.MaxInt} {
			d, e := device.Make(make([]byte, c.key), 1, image(c.image, 1), wear)
			if e != c.want || (d != nil) != (e == api.OK) {
				t.Errorf("%+v: %d", c, e)
			}
		}
	}
}

// R2: key and image are not kept as they were handed in, and what is told is new memory.
func TestDeviceKeepsToItself(t *testing.T) {
	k, i := bytes.Clone(key), image(50, 1)
	d, _ := device.Make(k, 1, i, 9)
	clear(k)
	clear(i)
	first := skyOf(2, image(20, 2), 8, 0).first()
	kept := bytes.Clone(first)
	expect(t, "the manifest", d.Packet(first), api.OK)
	if !bytes.Equal(first, kept) {
		t.Error("what was handed in was changed")
	}
	clear(first)
	want, _ := state.Bytes(stateOf(t, d))
	s := stateOf(t, d)
	clear(s.Slots[0].Hash)
	clear(s.Now.Hash)
	clear(d.Running())
	if b, _ := state.Bytes(stateOf(t, d)); !bytes.Equal(d.Running(), image(50, 1)) || !bytes.Equal(b, want) {
		t.Error("memory is shared")
	}
}

// The example; P24.2: power leads back to what was kept, also where there is power.
func TestPower(t *testing.T) {
	d := made(t, 100, 99)
	expect(t, "Power", d.Power(), api.OK)
	if d.Status() != api.SIdle {
		t.Errorf("example: %d", d.Status())
	}
	s := skyOf(2, image(100, 2), 10, 2)
	filled(t, d, s)
	want, kept := stateOf(t, d), d.Kept()
	for range 3 {
		expect(t, "Power", d.Power(), api.OK)
		if !state.Same(stateOf(t, d), want) || d.Kept() != kept || kept != 9 || d.Status() != api.STaking {
			t.Errorf("Kept %d, Status %d", d.Kept(), d.Status())
		}
	}
	d.Do(api.Event{Kind: api.ECut})
	if !off(d) || !d.Flash().Down() {
		t.Error("there is memory")
	}
	expect(t, "Power", d.Power(), api.OK)
	if !state.Same(stateOf(t, d), want) || d.Kept() != kept || d.Flash().Down() {
		t.Error("it is not what was kept")
	}
	other, _ := boot.First(7, image(9, 9))
	b, _ := state.Bytes(other)
	cell.Write(d.Flash(), b)
	expect(t, "Power", d.Power(), api.OK)
	if !state.Same(stateOf(t, d), other) || d.Status() != api.SIdle || d.Kept() != 0 {
		t.Error("memory is not forgotten")
	}
}

// P24.2: without a state that can be read there is no memory.
func TestPowerWithoutState(t *testing.T) {
	d := made(t, 100, 99)
	for _, c := range []struct {
		b    []byte
		want api.Errno
	}{{nil, api.ErrShort}, {make([]byte, 5), api.ErrShort}, {bytes.Repeat([]byte{9}, 60), api.ErrForm}, {make([]byte, 13), api.ErrForm}} {
		cell.Write(d.Flash(), c.b)
		expect(t, "Power", d.Power(), c.want)
		if !off(d) || len(d.Running()) != 0 {
			t.Errorf("%x: there is a state", c.b)
		}
		expect(t, "Packet", d.Packet(nil), api.ErrDown)
	}
	d.Flash().Erase(0)
	d.Flash().Erase(1)
	expect(t, "no copy", d.Power(), api.ErrNone)
	if !off(d) || len(d.Running()) != 0 || d.Flash().Down() {
		t.Error("there is a state")
	}
}

// P24.3: what is taken is told from the outside to the inside.
func TestPacketRefuses(t *testing.T) {
	d := made(t, 100, 99)
	s := skyOf(2, image(100, 2), 10, 2)
	otherKey, _ := manifest.Bytes([]byte("another key"), s.m)
	old := skyOf(1, image(100, 2), 10, 2)
	symbol := func(session uint32, data []byte) []byte {
		b, _ := packet.Bytes(api.Symbol{Session: session, Id: 1, Data: data})
		return wrap(api.FSymbol, b)
	}
	broken := s.first()
	broken[20] ^= 1
	steps := d.Flash().Steps()
	refuse := func(what string, b []byte, want api.Errno) {
		t.Helper()
		before := stateOf(t, d)
		expect(t, what, d.Packet(b), want)
		if !state.Same(stateOf(t, d), before) || d.Flash().Steps() != steps {
			t.Errorf("%s: something has changed", what)
		}
	}
	common := func() {
		t.Helper()
		refuse("nothing", nil, api.ErrShort)
		refuse("no frame", make([]byte, 9), api.ErrForm)
		refuse("too long", make([]byte, 301), api.ErrForm)
		refuse("a broken one", broken, api.ErrCheck)
		for _, kind := range []int{0, 3, 4, 255} {
			refuse("a kind", wrap(kind, nil), api.ErrForm)
		}
		refuse("a short manifest", wrap(api.FManifest, make([]byte, 75)), api.ErrForm)
		refuse("a wrong tag", wrap(api.FManifest, make([]byte, 76)), api.ErrTag)
		refuse("another key", wrap(api.FManifest, otherKey), api.ErrTag)
		refuse("an old one", old.first(), api.ErrOld)
		refuse("a short symbol", wrap(api.FSymbol, make([]byte, 8)), api.ErrShort)
		refuse("a long symbol", wrap(api.FSymbol, make([]byte, 25)), api.ErrForm)
	}
	common()
	refuse("no session", s.symbol(1), api.ErrNone)
	refuse("no session, another size", symbol(5, []byte{1}), api.ErrNone)

	expect(t, "the manifest", d.Packet(s.first()), api.OK)
	expect(t, "a symbol", d.Packet(s.symbol(1)), api.OK)
	steps = d.Flash().Steps()
	common()
	refuse("the manifest twice", s.first(), api.ErrDup)
	refuse("another session", symbol(5, make([]byte, 10)), api.ErrOther)
	refuse("another session, another size", symbol(5, make([]byte, 9)), api.ErrOther)
	refuse("another size", symbol(s.m.Session, make([]byte, 9)), api.ErrForm)
	refuse("twice", s.symbol(1), api.ErrDup)
	if d.Kept() != 1 || d.Status() != api.STaking {
		t.Errorf("Kept %d, Status %d", d.Kept(), d.Status())
	}
	d.Do(api.Event{Kind: api.ECut})
	for _, b := range [][]byte{nil, s.first(), s.symbol(2), broken} {
		expect(t, "no memory", d.Packet(b), api.ErrDown)
	}
	d.Flash().Start()
	expect(t, "power, no memory", d.Packet(s.symbol(2)), api.ErrDown)
}

// P24.3: a manifest is kept, with a new store; a newer one takes its place.
func TestPacketManifest(t *testing.T) {
	d := made(t, 100, 99)
	a, b := skyOf(2, image(100, 2), 10, 2), skyOf(3, image(60, 3), 6, 1)
	expect(t, "the manifest", d.Packet(a.first()), api.OK)
	s := stateOf(t, d)
	if !s.On || !manifest.Same(s.Now, a.m) || s.Gen != 1 || d.Status() != api.STaking || d.Kept() != 0 || !state.Same(recorded(d), s) {
		t.Errorf("%+v", s)
	}
	for id := uint32(20); d.Kept() < 4; id++ {
		d.Packet(a.symbol(id))
	}
	expect(t, "a newer one", d.Packet(b.first()), api.OK)
	s = stateOf(t, d)
	if !manifest.Same(s.Now, b.m) || s.Gen != 2 || d.Kept() != 0 || d.Status() != api.STaking || !state.Same(recorded(d), s) {
		t.Errorf("%+v", s)
	}
	expect(t, "the old session", d.Packet(a.symbol(1)), api.ErrOther)
	expect(t, "the old manifest", d.Packet(a.first()), api.ErrOld)
	expect(t, "the new session", d.Packet(b.symbol(1)), api.OK)
}

// P24.3, P24.4: enough symbols: it finishes, and what was broadcast runs, on trial.
func TestFinish(t *testing.T) {
	for _, c := range []struct{ n, size, p int }{{1, 1, 0}, {100, 10, 2}, {512, 16, 16}, {512, 8, 0}, {64, 1, 4}} {
		d := made(t, 200, 99)
		s := skyOf(2, image(c.n, 2), c.size, c.p)
		filled(t, d, s)
		if d.Kept() != int(s.pieces())-1 || !bytes.Equal(d.Running(), image(200, 1)) {
			t.Errorf("%+v: Kept %d", c, d.Kept())
		}
		last := stateOf(t, d)
		expect(t, "the last symbol", d.Packet(s.symbol(s.pieces()-1)), api.OK)
		want, _ := boot.Activate(last)
		if got := stateOf(t, d); !state.Same(got, want) || !state.Same(recorded(d), want) || got.Active != 1 || got.Trial != 3 {
			t.Errorf("%+v: %+v", c, got)
		}
		if d.Status() != api.SIdle || d.Kept() != 0 || !bytes.Equal(d.Running(), image(c.n, 2)) || !slot.Right(d.Flash(), 1, want.Slots[1]) || !slot.Right(d.Flash(), 0, want.Slots[0]) {
			t.Errorf("%+v: Status %d", c, d.Status())
		}
		expect(t, "no session any more", d.Packet(s.symbol(0)), api.ErrNone)
		expect(t, "on trial", d.Packet(skyOf(3, image(9, 3), 3, 0).first()), api.ErrState)
	}
}

// P24.3: one broadcast behind the other: each goes into the slot that does not run.
func TestFinishAgain(t *testing.T) {
	d := made(t, 200, 99)
	for v := 2; v < 6; v++ {
		s := skyOf(uint32(v), image(100+v, v), 10, 2)
		filled(t, d, s)
		expect(t, "the last symbol", d.Packet(s.symbol(s.pieces()-1)), api.OK)
		expect(t, "Confirm", d.Confirm(), api.OK)
		st := stateOf(t, d)
		if st.Active != (v+1)%2 || !bytes.Equal(d.Running(), image(100+v, v)) || !slot.Right(d.Flash(), 0, st.Slots[0]) || !slot.Right(d.Flash(), 1, st.Slots[1]) {
			t.Errorf("version %d: %+v", v, st)
		}
	}
}

// P24.4: three starts without a Confirm lead back; with one it stays.
func TestBootAndConfirm(t *testing.T) {
	d := made(t, 200, 99)
	steps := d.Flash().Steps()
	expect(t, "Boot without a trial", d.Boot(), api.OK)
	if d.Flash().Steps() != steps {
		t.Error("nothing is kept, if nothing is other")
	}
	expect(t, "Confirm", d.Confirm(), api.OK)
	if s := stateOf(t, d); s.Floor != 1 || !state.Same(recorded(d), s) {
		t.Errorf("%+v", s)
	}
	steps = d.Flash().Steps()
	expect(t, "Confirm once more", d.Confirm(), api.OK)
	if d.Flash().Steps() != steps {
		t.Error("nothing is kept, if nothing is other")
	}
	s := skyOf(2, image(100, 2), 10, 2)
	for round := range 2 {
		filled(t, d, s)
		expect(t, "Confirm in a session", d.Confirm(), api.OK)
		expect(t, "Boot in a session", d.Boot(), api.OK)
		if d.Kept() != 9 {
			t.Errorf("Kept %d", d.Kept())
		}
		expect(t, "the last symbol", d.Packet(s.symbol(9)), api.OK)
		for trial := 3; trial > 0; trial-- {
			if got := stateOf(t, d); got.Trial != trial || !bytes.Equal(d.Running(), image(100, 2)) {
				t.Errorf("ahead of a start: %+v", got)
			}
			if round == 1 && trial == 1 {
				expect(t, "Confirm", d.Confirm(), api.OK)
			}
			expect(t, "Boot", d.Boot(), api.OK)
			expect(t, "Power", d.Power(), api.OK)
			if !state.Same(recorded(d), stateOf(t, d)) {
				t.Error("it is not kept")
			}
		}
		want := image(200, 1)
		if round == 1 {
			want = image(100, 2)
		}
		if got := stateOf(t, d); got.Trial != 0 || got.Active != round || got.Floor != uint32(1+round) || !bytes.Equal(d.Running(), want) {
			t.Errorf("behind all starts: %+v", got)
		}
	}
	d.Do(api.Event{Kind: api.ECut})
	expect(t, "Boot without memory", d.Boot(), api.ErrDown)
	expect(t, "Confirm without memory", d.Confirm(), api.ErrDown)
}

// P24.3: an image that is not the one is dropped.
func TestWrongImage(t *testing.T) {
	d := made(t, 200, 99)
	s := skyOf(2, image(100, 2), 10, 2)
	filled(t, d, s)
	steps := d.Flash().Erases(4)
	b, _ := packet.Bytes(api.Symbol{Session: s.m.Session, Id: 9, Data: make([]byte, 10)})
	want := boot.Drop(stateOf(t, d))
	expect(t, "another last piece", d.Packet(wrap(api.FSymbol, b)), api.ErrHash)
	if got := stateOf(t, d); !state.Same(got, want) || got.On || got.Active != 0 || !state.Same(recorded(d), want) || d.Status() != api.SIdle || d.Kept() != 0 || !bytes.Equal(d.Running(), image(200, 1)) {
		t.Errorf("%+v", got)
	}
	if !d.Flash().Blank(4*256, 512) || d.Flash().Erases(4) != steps {
		t.Error("the slot was written")
	}
	filled(t, d, s)
	expect(t, "the last piece", d.Packet(s.symbol(9)), api.OK)
	if s := stateOf(t, d); s.Gen != 2 || !bytes.Equal(d.Running(), image(100, 2)) {
		t.Errorf("%+v", s)
	}
}

// P24.2: what is enough behind a cut finishes as power comes; what is not the image is dropped then.
func TestPowerFinishes(t *testing.T) {
	s := skyOf(2, image(100, 2), 10, 2)
	for _, right := range []bool{true, false} {
		d := made(t, 200, 99)
		filled(t, d, s)
		data := s.head.Symbol(9)
		if !right {
			data = make([]byte, 10)
		}
		w, _ := wheel.Open(d.Flash(), 1, 10)
		w.Add(9, data)
		want, told := boot.Drop(stateOf(t, d)), api.ErrHash
		if right {
			want, _ = boot.Activate(stateOf(t, d))
			told = api.OK
		}
		expect(t, "Power", d.Power(), told)
		if !state.Same(stateOf(t, d), want) || !state.Same(recorded(d), want) || d.Status() != api.SIdle || d.Kept() != 0 {
			t.Errorf("%v: %+v", right, stateOf(t, d))
		}
		expect(t, "Power once more", d.Power(), api.OK)
	}
}

// P24.3, P24.4: what cannot be written stays taken, and is ready.
func TestReady(t *testing.T) {
	d := made(t, 200, 9)
	for range 9 {
		d.Flash().Erase(4)
	}
	d.Flash().Program(4*256, []byte{0})
	s := skyOf(2, image(100, 2), 10, 2)
	filled(t, d, s)
	want := stateOf(t, d)
	expect(t, "the last symbol", d.Packet(s.symbol(9)), api.ErrWorn)
	for range 2 {
		if d.Status() != api.SReady || d.Kept() != 10 || !state.Same(stateOf(t, d), want) || !bytes.Equal(d.Running(), image(200, 1)) {
			t.Errorf("Status %d, Kept %d", d.Status(), d.Kept())
		}
		expect(t, "nothing new", d.Packet(s.symbol(50)), api.ErrDup)
		expect(t, "Power", d.Power(), api.ErrWorn)
	}
}

// P24.3: behind an error of what keeps, the state is as it was.
func TestWorn(t *testing.T) {
	d := made(t, 200, 1)
	a, b := skyOf(2, image(100, 2), 10, 2), skyOf(3, image(60, 3), 6, 1)
	expect(t, "the manifest", d.Packet(a.first()), api.OK)
	expect(t, "a symbol", d.Packet(a.symbol(3)), api.OK)
	want := stateOf(t, d)
	expect(t, "a newer one", d.Packet(b.first()), api.ErrWorn)
	expect(t, "Confirm", d.Confirm(), api.ErrWorn)
	if !state.Same(stateOf(t, d), want) || d.Kept() != 1 || d.Status() != api.STaking {
		t.Errorf("%+v", stateOf(t, d))
	}
	for id := range uint32(10) {
		e := d.Packet(a.symbol(id))
		if id == 3 {
			expect(t, "twice", e, api.ErrDup)
		} else if id < 9 {
			expect(t, "a symbol", e, api.OK)
		} else {
			expect(t, "the last one", e, api.ErrWorn)
		}
	}
	if !state.Same(stateOf(t, d), want) || d.Status() != api.SReady || !bytes.Equal(d.Running(), image(200, 1)) {
		t.Errorf("%+v", stateOf(t, d))
	}
	d = made(t, 200, 1)
	w, _ := wheel.Open(d.Flash(), 1, 10)
	for w.Room() > 0 {
		w.Add(3, a.head.Symbol(3))
	}
	expect(t, "the manifest", d.Packet(a.first()), api.OK)
	expect(t, "no room", d.Packet(a.symbol(4)), api.ErrFull)
	if d.Kept() != 1 || d.Status() != api.STaking {
		t.Errorf("Kept %d, Status %d", d.Kept(), d.Status())
	}
}

// P24: whatever call meets ErrDown, there is no memory any more.
func TestNoMemoryBehindErrDown(t *testing.T) {
	s := skyOf(2, image(100, 2), 10, 2)
	calls := map[string]func(d *device.Device) api.Errno{
		"Confirm":  func(d *device.Device) api.Errno { return d.Confirm() },
		"manifest": func(d *device.Device) api.Errno { return d.Packet(s.first()) },
		"symbol": func(d *device.Device) api.Errno {
			d.Flash().Fuse(-1, 0)
			d.Packet(s.first())
			d.Flash().Fuse(3, 0)
			return d.Packet(s.symbol(1))
		},
		"Boot": func(d *device.Device) api.Errno {
			d.Flash().Fuse(-1, 0)
			filled(t, d, s)
			d.Packet(s.symbol(9))
			d.Flash().Fuse(0, 0)
			return d.Boot()
		},
		"Power": func(d *device.Device) api.Errno {
			d.Flash().Fuse(-1, 0)
			filled(t, d, s)
			w, _ := wheel.Open(d.Flash(), 1, 10)
			w.Add(9, s.head.Symbol(9))
			d.Flash().Fuse(5, 0)
			return d.Power()
		},
		"a flash without power": func(d *device.Device) api.Errno {
			d.Flash().Fuse(-1, 0)
			d.Flash().Cut()
			if d.Status() != api.SIdle || d.Kept() != 0 || d.Packet(nil) != api.ErrShort || d.Status() != api.SIdle {
				t.Error("no call has met ErrDown")
			}
			return d.Packet(s.first())
		},
	}
	for name, call := range calls {
		d := made(t, 200, 99)
		d.Flash().Fuse(2, 0)
		expect(t, name, call(d), api.ErrDown)
		if !off(d) || len(d.Running()) == 0 {
			t.Errorf("%s: there is memory", name)
		}
		expect(t, name+", then Packet", d.Packet(s.first()), api.ErrDown)
		expect(t, name+", then Power", d.Power(), api.OK)
		if off(d) {
			t.Errorf("%s: there is no memory", name)
		}
	}
}

// P24.4: Do does what its event says; others are refused.
func TestDo(t *testing.T) {
	d := made(t, 200, 99)
	s := skyOf(2, image(100, 2), 10, 2)
	expect(t, "EPacket", d.Do(api.Event{Kind: api.EPacket, Bytes: s.first()}), api.OK)
	expect(t, "EPacket twice", d.Do(api.Event{Kind: api.EPacket, Bytes: s.first()}), api.ErrDup)
	expect(t, "EConfirm", d.Do(api.Event{Kind: api.EConfirm}), api.OK)
	if stateOf(t, d).Floor != 1 {
		t.Error("it is not confirmed")
	}
	for id := range s.pieces() {
		expect(t, "EPacket", d.Do(api.Event{Kind: api.EPacket, Bytes: s.symbol(id)}), api.OK)
	}
	expect(t, "EBoot", d.Do(api.Event{Kind: api.EBoot}), api.OK)
	if stateOf(t, d).Trial != 2 {
		t.Error("it is not started")
	}
	for _, kind := range []int{0, -1, 7, 8, math.MaxInt, math.MinInt} {
		expect(t, "another kind", d.Do(api.Event{Kind: kind, Bytes: s.first(), N: 1, Torn: 1}), api.ErrArg)
	}
	expect(t, "EFuse", d.Do(api.Event{Kind: api.EFuse, N: 3, Torn: 0x35}), api.OK)
	before := d.Flash().Steps()
	expect(t, "it blows", d.Do(api.Event{Kind: api.EBoot}), api.ErrDown)
	if d.Flash().Steps() != before+4 || !d.Flash().Down() || !off(d) {
		t.Errorf("%d steps", d.Flash().Steps()-before)
	}
	expect(t, "EFuse without power", d.Do(api.Event{Kind: api.EFuse, N: -1}), api.OK)
	expect(t, "EBoot without power", d.Do(api.Event{Kind: api.EBoot}), api.ErrDown)
	expect(t, "EConfirm without power", d.Do(api.Event{Kind: api.EConfirm}), api.ErrDown)
	expect(t, "EPacket without power", d.Do(api.Event{Kind: api.EPacket, Bytes: s.first()}), api.ErrDown)
	expect(t, "another kind without power", d.Do(api.Event{}), api.ErrArg)
	expect(t, "EPower", d.Do(api.Event{Kind: api.EPower}), api.OK)
	if stateOf(t, d).Trial != 2 || d.Flash().Down() {
		t.Errorf("%+v", stateOf(t, d))
	}
	for range 2 {
		expect(t, "ECut", d.Do(api.Event{Kind: api.ECut}), api.OK)
		if !off(d) || !d.Flash().Down() {
			t.Error("there is power, or memory")
		}
	}
}

// P24.4: N and Torn of an event are the fuse's.
func TestFuseOfAnEvent(t *testing.T) {
	d := made(t, 200, 99)
	d.Do(api.Event{Kind: api.EFuse, N: 1, Torn: 100})
	expect(t, "Erase", d.Flash().Erase(13), api.OK)
	expect(t, "Erase", d.Flash().Erase(2), api.ErrDown)
	if b := d.Flash().Bytes(); b[512+99] != 0xff || b[512+100] != image(200, 1)[100] {
		t.Error("torn otherwise")
	}
}

// P24.4: what runs is told by flash's bytes alone, power or not, and the flash stays as it is.
func TestRunning(t *testing.T) {
	d := made(t, 200, 99)
	d.Flash().Fuse(5, 0)
	d.Flash().Cut()
	steps, before := d.Flash().Steps(), d.Flash().Bytes()
	for range 2 {
		if !bytes.Equal(d.Running(), image(200, 1)) {
			t.Error("another image")
		}
	}
	if !d.Flash().Down() || d.Flash().Steps() != steps || !bytes.Equal(d.Flash().Bytes(), before) {
		t.Error("the flash has changed")
	}
	d.Flash().Start()
	d.Flash().Fuse(-1, 0)
	d.Flash().Program(512, []byte{0, 0})
	if got := d.Running(); len(got) != 200 || got[0] != 0 || got[1] != 0 || got[2] != image(200, 1)[2] {
		t.Error("it is not flash's bytes that are told")
	}
	other, _ := boot.First(7, image(9, 9))
	other.Active, other.Slots = 1, [2]api.Slot{{}, {Version: 7, Length: 512, Hash: make([]byte, 32)}}
	b, _ := state.Bytes(other)
	cell.Write(d.Flash(), b)
	if got := d.Running(); len(got) != 512 || !bytes.Equal(got, bytes.Repeat([]byte{0xff}, 512)) {
		t.Error("it is not the cell's state that counts")
	}
	if stateOf(t, d).Active != 0 {
		t.Error("memory has changed")
	}
}

// rain plays a whole broadcast over fuses, and tells how often power went.
func rain(t *testing.T, d *device.Device, s sky, r *rand.Rand, steps int) int {
	t.Helper()
	cuts := 0
	fuse := func() { d.Flash().Fuse(r.Intn(steps), r.Intn(512)) }
	fuse()
	for range 100000 {
		if st, ok := d.State(); ok && st.Active == 1 {
			return cuts
		}
		e := api.OK
		if d.Status() == api.SOff {
			cuts++
			before := d.Running()
			if fuse(); d.Power() == api.OK {
				whole(t, d, before)
				fuse()
			}
		} else if d.Status() == api.SIdle {
			e = d.Packet(s.first())
		} else {
			e = d.Packet(s.symbol(uint32(r.Intn(int(s.pieces()) * 3))))
		}
		if e != api.OK && e != api.ErrDown && e != api.ErrDup {
			t.Fatalf("%d", e)
		}
		if got := d.Running(); !bytes.Equal(got, image(200, 1)) && !bytes.Equal(got, image(int(s.m.Length), 2)) {
			t.Fatal("what runs was never whole")
		}
		if d.Flash().Erases(2) != 0 || d.Flash().Erases(3) != 0 {
			t.Fatal("the slot that runs was erased")
		}
	}
	t.Fatal("it does not end")
	return 0
}

// whole holds what was recovered against what is recovered once more.
func whole(t *testing.T, d *device.Device, before []byte) {
	t.Helper()
	st, kept, status := stateOf(t, d), d.Kept(), d.Status()
	if status == api.SIdle && !bytes.Equal(d.Running(), before) {
		return // it finished just now
	}
	d.Flash().Fuse(-1, 0)
	if e := d.Power(); e != api.OK || !state.Same(st, stateOf(t, d)) || d.Kept() != kept || d.Status() != status {
		t.Fatalf("recovered twice: %d, Kept %d and %d", e, kept, d.Kept())
	}
}

// P24.5: over whatever cuts, what runs was whole, and in the end it is the new image.
func TestRainOverCuts(t *testing.T) {
	r := rand.New(rand.NewSource(24))
	for _, c := range []struct{ n, size, p int }{{100, 10, 2}, {512, 16, 4}, {33, 1, 0}} {
		cuts := 0
		for range 15 {
			d, e := device.Make(key, 1, image(200, 1), 10000)
			if e != api.OK {
				t.Fatal(e)
			}
			cuts += rain(t, d, skyOf(2, image(c.n, 2), c.size, c.p), r, 250+c.n*2)
			if st := stateOf(t, d); st.Trial != 3 || !bytes.Equal(d.Running(), image(c.n, 2)) {
				t.Fatalf("%+v", st)
			}
		}
		if cuts < 15 {
			t.Errorf("only %d cuts", cuts)
		}
	}
}

// P24.5: a cut at every step of finishing: what runs is the one or the other, and power leads to the other.
func TestCutAtEveryStepOfFinishing(t *testing.T) {
	s := skyOf(2, image(100, 2), 10, 2)
	for _, torn := range []int{0, 0xff, 0x99, 256} {
		for n := 0; ; n++ {
			d := made(t, 200, 99)
			filled(t, d, s)
			d.Flash().Program(5*256+7, []byte{0})
			d.Flash().Fuse(n, torn)
			e := d.Packet(s.symbol(9))
			if e == api.OK {
				break
			}
			expect(t, "the last symbol", e, api.ErrDown)
			if got := d.Running(); !bytes.Equal(got, image(200, 1)) && !bytes.Equal(got, image(100, 2)) {
				t.Fatalf("fuse %d: what runs was never whole", n)
			}
			expect(t, "Power", d.Power(), api.OK)
			if d.Status() == api.STaking {
				expect(t, "the last symbol, again", d.Packet(s.symbol(9)), api.OK)
			}
			if st := stateOf(t, d); st.Active != 1 || st.Trial != 3 || st.On || !bytes.Equal(d.Running(), image(100, 2)) {
				t.Fatalf("fuse %d: %+v", n, st)
			}
		}
	}
}

// P24.5: whatever bytes come, they are answered, and nothing is activated that the key did not sign.
func TestWhateverComes(t *testing.T) {
	r := rand.New(rand.NewSource(241))
	d := made(t, 200, 99)
	s := skyOf(2, image(100, 2), 10, 2)
	forged := skyOf(9, image(50, 9), 10, 2)
	sign, _ := manifest.Bytes([]byte("not the key"), forged.m)
	for range 3000 {
		b := [][]byte{s.first(), s.symbol(uint32(r.Intn(8))), wrap(api.FManifest, sign), wrap(api.FSymbol, sign[:20]), wrap(r.Intn(4), sign[:r.Intn(76)])}[r.Intn(5)]
		for range r.Intn(3) {
			b[r.Intn(len(b))] ^= byte(r.Intn(256))
		}
		d.Packet(b[:r.Intn(len(b)+1)])
		if st := stateOf(t, d); st.Active != 0 || st.On && !manifest.Same(st.Now, s.m) {
			t.Fatalf("%+v", st)
		}
	}
	if _, e := session.Admit(stateOf(t, d), forged.m); e != api.OK {
		t.Error("it was refused for another reason than its key")
	}
}

// R3: a nil device tells zero values, ErrArg, and SOff.
func TestNil(t *testing.T) {
	var d *device.Device
	for _, e := range []api.Errno{d.Power(), d.Packet(nil), d.Boot(), d.Confirm(), d.Do(api.Event{Kind: api.EFuse}), d.Do(api.Event{Kind: api.ECut}), d.Do(api.Event{Kind: api.EPower}), d.Do(api.Event{})} {
		expect(t, "nil", e, api.ErrArg)
	}
	s, ok := d.State()
	if d.Status() != api.SOff || ok || !state.Same(s, api.State{}) || d.Kept() != 0 || len(d.Running()) != 0 || d.Flash() != nil {
		t.Error("not zero")
	}
}
