package session_test

import (
	"bytes"
	"math"
	"testing"

	"downpour/api"
	"downpour/session"
	"downpour/state"
)

func hash(x byte) []byte { return bytes.Repeat([]byte{x}, 32) }

func manifestOf(version uint32) api.Manifest {
	return api.Manifest{Session: 5, Version: version, Length: 70, Size: 8, P: 9, Hash: hash(7)}
}

// two is a state that runs version 40, of slot 0; version 90 in slot 1 does not run.
func two() api.State {
	return api.State{Floor: 30, Gen: 9, Slots: [2]api.Slot{{Version: 40, Length: 10, Hash: hash(1)}, {Version: 90, Length: 20, Hash: hash(2)}}}
}

func on(s api.State, version uint32) api.State {
	s.On, s.Now = true, manifestOf(version)
	return s
}

func floor(s api.State, f uint32) api.State { s.Floor = f; return s }
func gen(s api.State, g uint32) api.State   { s.Gen = g; return s }
func trial(s api.State, n int) api.State    { s.Trial = n; return s }
func active(s api.State, a int) api.State   { s.Active = a; return s }

func zero(s api.State) bool { return state.Same(s, api.State{}) }

// wrong are states that may not be.
func wrong() []api.State {
	return []api.State{{}, active(two(), 2), active(two(), -1), trial(two(), 4), {On: true, Now: manifestOf(1)}, {Slots: two().Slots, On: true}, {Slots: two().Slots, Now: manifestOf(1)}}
}

// P22.1: above Floor, above what runs, and above what is taken.
func TestNewer(t *testing.T) {
	for i, c := range []struct {
		s    api.State
		edge uint32
	}{
		{two(), 40},
		{floor(two(), 60), 60},
		{floor(two(), 40), 40},
		{active(two(), 1), 90},
		{on(two(), 70), 70},
		{on(two(), 20), 40},
		{on(floor(two(), 80), 70), 80},
		{trial(active(two(), 1), 2), 90},
		{on(two(), math.MaxUint32-1), math.MaxUint32 - 1},
	} {
		for _, v := range []uint32{0, c.edge - 1, c.edge, c.edge + 1, math.MaxUint32} {
			if got := session.Newer(c.s, v); got != (v > c.edge) {
				t.Errorf("%d: version %d: %v", i, v, got)
			}
		}
	}
	if session.Newer(floor(two(), math.MaxUint32), math.MaxUint32) {
		t.Error("there is none above the last")
	}
	for _, s := range wrong() {
		if session.Newer(s, math.MaxUint32) {
			t.Errorf("%+v", s)
		}
	}
}

// P22.1: Gen is one more, and Now is m; all else is as it was.
func TestAdmit(t *testing.T) {
	for i, s := range []api.State{two(), active(two(), 1), on(two(), 50), floor(two(), 99), gen(two(), 0), gen(two(), math.MaxUint32-2)} {
		m := manifestOf(100)
		want := on(s, 100)
		want.Gen++
		got, e := session.Admit(s, m)
		if e != api.OK || !state.Same(got, want) || !state.May(got) {
			t.Errorf("%d: %+v %d", i, got, e)
		}
	}
}

// P22.1, R2: what is told is new memory.
func TestAdmitIsNewMemory(t *testing.T) {
	h := hash(6)
	s := api.State{Slots: [2]api.Slot{{Version: 1, Length: 1, Hash: h}, {Version: 2, Length: 2, Hash: h}}}
	m := manifestOf(9)
	m.Hash = h
	got, e := session.Admit(s, m)
	if e != api.OK {
		t.Fatalf("%d", e)
	}
	lists := [][]byte{got.Slots[0].Hash, got.Slots[1].Hash, got.Now.Hash}
	for i, l := range lists {
		for j := range l {
			l[j] = byte(i)
		}
	}
	if !bytes.Equal(h, hash(6)) || lists[0][0] != 0 || lists[1][0] != 1 || lists[2][0] != 2 {
		t.Error("memory is shared")
	}
}

// P22.1: what is refused, by the first sentence that applies.
func TestAdmitRefuses(t *testing.T) {
	bad := manifestOf(100)
	bad.Size = 1
	other := manifestOf(50)
	other.Session = 6
	for i, c := range []struct {
		s    api.State
		m    api.Manifest
		want api.Errno
	}{
		{two(), bad, api.ErrArg},
		{two(), api.Manifest{}, api.ErrArg},
		{trial(two(), 1), bad, api.ErrArg},
		{trial(two(), 1), manifestOf(100), api.ErrState},
		{trial(on(two(), 50), 1), manifestOf(50), api.ErrState},
		{trial(two(), 3), manifestOf(1), api.ErrState},
		{on(two(), 50), manifestOf(50), api.ErrDup},
		{floor(on(two(), 50), 50), manifestOf(50), api.ErrDup},
		{gen(on(two(), 50), math.MaxUint32), manifestOf(50), api.ErrDup},
		{on(two(), 50), other, api.ErrOld},
		{on(two(), 50), manifestOf(49), api.ErrOld},
		{two(), manifestOf(40), api.ErrOld},
		{two(), manifestOf(39), api.ErrOld},
		{floor(two(), 60), manifestOf(60), api.ErrOld},
		{active(two(), 1), manifestOf(90), api.ErrOld},
		{gen(two(), math.MaxUint32), manifestOf(40), api.ErrOld},
		{gen(two(), math.MaxUint32), manifestOf(100), api.ErrFull},
		{gen(two(), math.MaxUint32-1), manifestOf(100), api.ErrFull},
		{gen(on(two(), 50), math.MaxUint32-1), manifestOf(51), api.ErrFull},
	} {
		if got, e := session.Admit(c.s, c.m); e != c.want || !zero(got) {
			t.Errorf("%d: %+v %d, not %d", i, got, e, c.want)
		}
	}
	for _, s := range wrong() {
		if got, e := session.Admit(s, manifestOf(100)); e != api.ErrArg || !zero(got) {
			t.Errorf("%+v: %+v %d", s, got, e)
		}
	}
}

// P22.2: the example; what is admitted is newer than all that there was.
func TestAdmitTwice(t *testing.T) {
	s := two()
	for v := uint32(41); v < 60; v += 3 {
		next, e := session.Admit(s, manifestOf(v))
		if e != api.OK || session.Newer(next, v) {
			t.Errorf("%d: %d", v, e)
		}
		if _, e := session.Admit(next, manifestOf(v)); e != api.ErrDup {
			t.Errorf("%d twice: %d", v, e)
		}
		if _, e := session.Admit(next, manifestOf(v-1)); e != api.ErrOld {
			t.Errorf("%d behind %d: %d", v-1, v, e)
		}
		s = next
	}
	if s.Gen != 9+7 {
		t.Errorf("Gen %d", s.Gen)
	}
}
