package state_test

import (
	"bytes"
	"math"
	"slices"
	"testing"

	"downpour/api"
	"downpour/manifest"
	"downpour/state"
)

func hash(x byte) []byte { return bytes.Repeat([]byte{x}, 32) }

func filled(x byte) api.Slot {
	return api.Slot{Version: 0x01020300 + uint32(x), Length: 0x0101, Hash: hash(x)}
}

func now() api.Manifest {
	return api.Manifest{Session: 5, Version: 6, Length: 70, Size: 8, P: 9, Hash: hash(0x77)}
}

// right are states that may be.
func right() []api.State {
	return []api.State{
		{Slots: [2]api.Slot{filled(1)}},
		{Active: 1, Slots: [2]api.Slot{{}, filled(2)}},
		{Active: 0, Trial: 3, Floor: 0x0a0b0c0d, Gen: 0x1a1b1c1d, Slots: [2]api.Slot{filled(1), filled(2)}},
		{Active: 1, Trial: 1, Floor: math.MaxUint32, Gen: math.MaxUint32, Slots: [2]api.Slot{filled(1), filled(2)}, On: true, Now: now()},
		{Active: 1, Trial: 0, Slots: [2]api.Slot{filled(1), filled(2)}},
		{Active: 0, Slots: [2]api.Slot{filled(1)}, On: true, Now: now()},
		{Slots: [2]api.Slot{{Version: 0, Length: 1, Hash: make([]byte, 32)}, {Version: 9, Length: 512, Hash: hash(4)}}},
		{Slots: [2]api.Slot{filled(1), {Hash: []byte{}}}, Now: api.Manifest{Hash: []byte{}}},
	}
}

// wrong are states that may not be.
func wrong() []api.State {
	two := [2]api.Slot{filled(1), filled(2)}
	one := [2]api.Slot{filled(1)}
	l := []api.State{
		{},
		{Active: 1},
		{Active: 2, Slots: two}, {Active: -1, Slots: two}, {Active: math.MaxInt, Slots: two}, {Active: math.MinInt, Slots: two},
		{Trial: 4, Slots: two}, {Trial: -1, Slots: two}, {Trial: math.MinInt, Slots: two},
		{Active: 1, Slots: one}, {Slots: [2]api.Slot{{}, filled(2)}},
		{Trial: 1, Slots: one}, {Active: 1, Trial: 3, Slots: [2]api.Slot{{}, filled(2)}},
		{Slots: two, On: true},
		{Slots: two, On: true, Now: api.Manifest{Session: 5, Version: 6, Length: 70, Size: 1, P: 9, Hash: hash(1)}},
		{Slots: two, On: true, Now: api.Manifest{Session: 5, Version: 6, Length: 70, Size: 8, P: 9, Hash: hash(1)[1:]}},
		{Slots: two, Now: now()},
		{Slots: two, Now: api.Manifest{Session: 1}}, {Slots: two, Now: api.Manifest{Version: 1}}, {Slots: two, Now: api.Manifest{Length: 1}},
		{Slots: two, Now: api.Manifest{Size: 1}}, {Slots: two, Now: api.Manifest{P: 1}}, {Slots: two, Now: api.Manifest{Hash: []byte{0}}},
	}
	for _, bad := range []api.Slot{{Version: 1}, {Length: 1}, {Version: 1, Length: 1}, {Hash: hash(1)}, {Version: 1, Length: 0, Hash: hash(1)}, {Length: -1, Hash: hash(1)}, {Length: 513, Hash: hash(1)}, {Length: 65536 + 5, Hash: hash(1)}, {Length: 5, Hash: hash(1)[1:]}, {Length: 5, Hash: append(hash(1), 1)}, {Length: 5, Hash: []byte{1}}, {Hash: []byte{1}}} {
		l = append(l, api.State{Slots: [2]api.Slot{filled(1), bad}}, api.State{Active: 1, Slots: [2]api.Slot{bad, filled(1)}}, api.State{Slots: [2]api.Slot{bad, filled(1)}}, api.State{Trial: 2, Slots: [2]api.Slot{filled(1), bad}})
	}
	return l
}

func zero(s api.State) bool { return state.Same(s, api.State{}) }

// P19.1: what may be, and what may not.
func TestMay(t *testing.T) {
	for _, s := range right() {
		if !state.May(s) {
			t.Errorf("%+v may be", s)
		}
	}
	for _, s := range wrong() {
		if state.May(s) {
			t.Errorf("%+v may not be", s)
		}
	}
}

// P19.1: Same looks at all fields, and at nothing else.
func TestSame(t *testing.T) {
	full := func() api.State { return right()[3] }
	for i, change := range []func(s *api.State){
		func(s *api.State) { s.Active = 0 },
		func(s *api.State) { s.Trial++ },
		func(s *api.State) { s.Floor-- },
		func(s *api.State) { s.Gen-- },
		func(s *api.State) { s.On = false },
		func(s *api.State) { s.Slots[0].Version++ },
		func(s *api.State) { s.Slots[0].Length++ },
		func(s *api.State) { s.Slots[0].Hash = hash(9) },
		func(s *api.State) { s.Slots[1].Version++ },
		func(s *api.State) { s.Slots[1].Length++ },
		func(s *api.State) { s.Slots[1].Hash = nil },
		func(s *api.State) { s.Now.Session++ },
		func(s *api.State) { s.Now.Version++ },
		func(s *api.State) { s.Now.Length++ },
		func(s *api.State) { s.Now.Size++ },
		func(s *api.State) { s.Now.P++ },
		func(s *api.State) { s.Now.Hash = hash(9) },
	} {
		a, b := full(), full()
		if !state.Same(a, b) {
			t.Fatal("they are the same")
		}
		change(&b)
		if state.Same(a, b) || state.Same(b, a) || !state.Same(b, b) {
			t.Errorf("change %d", i)
		}
	}
	if !state.Same(right()[7], right()[0]) || !state.Same(api.State{}, api.State{Slots: [2]api.Slot{{Hash: []byte{}}}}) {
		t.Error("nil and empty lists are one")
	}
}

// P19.2: the example, and bytes as the words say.
func TestBytes(t *testing.T) {
	slots := func(x byte) []byte { return append([]byte{1, 1, 2, 3, x, 1, 1}, hash(x)...) }
	plain, _ := manifest.Plain(now())
	for i, want := range map[int][]byte{
		0: slices.Concat(make([]byte, 10), slots(1), []byte{0, 0}),
		1: slices.Concat([]byte{1, 0}, make([]byte, 8), []byte{0}, slots(2), []byte{0}),
		2: slices.Concat([]byte{0, 3, 10, 11, 12, 13, 0x1a, 0x1b, 0x1c, 0x1d}, slots(1), slots(2), []byte{0}),
		3: slices.Concat([]byte{1, 1}, bytes.Repeat([]byte{0xff}, 8), slots(1), slots(2), []byte{1}, plain),
		5: slices.Concat(make([]byte, 10), slots(1), []byte{0, 1}, plain),
	} {
		s := right()[i]
		b, e := state.Bytes(s)
		if e != api.OK || !bytes.Equal(b, want) {
			t.Errorf("%d: %x %d, not %x", i, b, e, want)
		}
		if i == 0 && len(b) != 51 {
			t.Errorf("example: %d bytes", len(b))
		}
		clear(b)
		if !state.Same(s, right()[i]) {
			t.Error("memory is shared")
		}
	}
	for _, s := range wrong() {
		if b, e := state.Bytes(s); e != api.ErrArg || b != nil {
			t.Errorf("%+v: %x %d", s, b, e)
		}
	}
}

// P19.2, P19.3: what is written is read as it was, in memory of its own.
func TestParse(t *testing.T) {
	for i, s := range right() {
		b, _ := state.Bytes(s)
		kept := bytes.Clone(b)
		got, e := state.Parse(b)
		if e != api.OK || !state.Same(got, s) {
			t.Errorf("%d: %+v %d", i, got, e)
		}
		for _, h := range [][]byte{got.Slots[0].Hash, got.Slots[1].Hash, got.Now.Hash} {
			_ = append(h, 0xee)
			clear(h)
		}
		if again, e := state.Parse(b); e != api.OK || !state.Same(again, s) || !bytes.Equal(b, kept) {
			t.Errorf("%d: memory is shared", i)
		}
	}
}

func refuse(t *testing.T, what string, b []byte, want api.Errno) {
	t.Helper()
	if s, e := state.Parse(b); e != want || !zero(s) {
		t.Errorf("%s: %x: %+v %d, not %d", what, b, s, e, want)
	}
}

// P19.2: cut anywhere, it ends too soon; with a byte more, bytes are left.
func TestParseOfOtherLengths(t *testing.T) {
	refuse(t, "nothing", nil, api.ErrShort)
	for _, s := range right() {
		b, _ := state.Bytes(s)
		for i := range b {
			refuse(t, "cut", b[:i], api.ErrShort)
		}
		refuse(t, "a byte more", append(bytes.Clone(b), 0), api.ErrForm)
		refuse(t, "many more", append(bytes.Clone(b), make([]byte, 300)...), api.ErrForm)
	}
}

// P19.2: the byte ahead of a slot, or of Now, is told as it comes: ahead of an end that comes too soon.
func TestParseOfOtherMarks(t *testing.T) {
	b, _ := state.Bytes(right()[3])
	for _, at := range []int{10, 49, 88} {
		for _, x := range []byte{2, 3, 0x80, 0xff} {
			bad := bytes.Clone(b)
			bad[at] = x
			refuse(t, "a mark", bad, api.ErrForm)
			refuse(t, "a mark, and the end", bad[:at+1], api.ErrForm)
			refuse(t, "a mark, and too soon", bad[:at], api.ErrShort)
			bad[10] = 2
			refuse(t, "two marks", bad[:11], api.ErrForm)
		}
	}
}

// P19.2: what manifest.Read refuses is told as it comes; what may not be, at last.
func TestParseOfWhatMayNotBe(t *testing.T) {
	b, _ := state.Bytes(right()[3])
	change := func(at int, x byte) []byte {
		bad := bytes.Clone(b)
		bad[at] = x
		return bad
	}
	for what, bad := range map[string][]byte{
		"Active 2":           change(0, 2),
		"Active 255":         change(0, 255),
		"Trial 4":            change(1, 4),
		"Trial 255":          change(1, 255),
		"Length 0 of slot 0": append(append(bytes.Clone(b[:15]), 0, 0), b[17:]...),
		"Length of slot 0":   change(15, 2),
		"Length of slot 1":   change(54, 3),
		"Size of Now":        change(99, 0),
		"P of Now":           change(100, 17),
		"Length of Now":      change(97, 2),
	} {
		refuse(t, what, bad, api.ErrForm)
	}
	refuse(t, "it may not be, and ends too soon", change(0, 2)[:100], api.ErrShort)
	refuse(t, "nothing in the Active slot", make([]byte, 13), api.ErrForm)
	one, _ := state.Bytes(right()[0])
	one[0] = 1
	refuse(t, "nothing in the Active slot 1", one, api.ErrForm)
	one[0], one[1] = 0, 1
	refuse(t, "a trial, and nothing to go back to", one, api.ErrForm)
}
