package boot_test

import (
	"bytes"
	"crypto/sha256"
	"math"
	"testing"

	"downpour/api"
	"downpour/boot"
	"downpour/state"
)

func hash(x byte) []byte { return bytes.Repeat([]byte{x}, 32) }

func now() api.Manifest {
	return api.Manifest{Session: 5, Version: 60, Length: 70, Size: 8, P: 9, Hash: hash(7)}
}

// two is a state with both slots, of versions 40 and 50.
func two(active, trial int) api.State {
	return api.State{Active: active, Trial: trial, Floor: 45, Gen: 9, Slots: [2]api.Slot{{Version: 40, Length: 10, Hash: hash(1)}, {Version: 50, Length: 20, Hash: hash(2)}}}
}

func on(s api.State) api.State {
	s.On, s.Now = true, now()
	return s
}

// wrong are states that may not be.
func wrong() []api.State {
	return []api.State{{}, two(2, 0), two(-1, 0), two(0, 4), two(0, -1), {On: true, Now: now()}, {Slots: two(0, 0).Slots, On: true}, {Active: 1, Slots: [2]api.Slot{two(0, 0).Slots[0]}}, {Trial: 1, Slots: [2]api.Slot{two(0, 0).Slots[0]}}}
}

func zero(s api.State) bool { return state.Same(s, api.State{}) }

// apart tells whether changing all lists of got leaves s as it is.
func apart(got, s, kept api.State) bool {
	lists := [][]byte{got.Slots[0].Hash, got.Slots[1].Hash, got.Now.Hash}
	for i, h := range lists {
		_ = append(h, 0xee)
		for j := range h {
			h[j] = byte(100 + i)
		}
	}
	for i, h := range lists {
		if len(h) > 0 && h[0] != byte(100+i) {
			return false
		}
	}
	return state.Same(s, kept)
}

// P21.1: slot 0 holds the image, and runs; all else is zero.
func TestFirst(t *testing.T) {
	for _, n := range []int{1, 100, 512} {
		image := bytes.Repeat([]byte{3}, n)
		sum := sha256.Sum256(image)
		want := api.State{Slots: [2]api.Slot{{Version: 77, Length: n, Hash: sum[:]}}}
		if s, ok := boot.First(77, image); !ok || !state.Same(s, want) || !state.May(s) {
			t.Errorf("%d bytes: %+v", n, s)
		}
	}
	for _, n := range []int{0, 513} {
		if s, ok := boot.First(77, make([]byte, n)); ok || !zero(s) {
			t.Errorf("%d bytes: %+v", n, s)
		}
	}
}

// P21.1: without a trial nothing; the last start of a trial leads back; others are counted.
func TestStart(t *testing.T) {
	for active := range 2 {
		for trial, want := range []api.State{two(active, 0), two(1-active, 0), two(active, 1), two(active, 2)} {
			for _, session := range []bool{false, true} {
				s, kept := two(active, trial), two(active, trial)
				if session {
					s, kept, want = on(s), on(kept), on(want)
				}
				got, other := boot.Start(s)
				if other != (trial > 0) || !state.Same(got, want) || !state.May(got) {
					t.Errorf("%d, %d: %+v %v", active, trial, got, other)
				}
				if !apart(got, s, kept) {
					t.Errorf("%d, %d: memory is shared", active, trial)
				}
			}
		}
	}
	for _, s := range wrong() {
		if got, other := boot.Start(s); other || !zero(got) {
			t.Errorf("%+v: %+v", s, got)
		}
	}
}

// P21.2: no trial, and a floor that is at least what runs; whether anything is other.
func TestConfirm(t *testing.T) {
	for _, c := range []struct {
		active, trial int
		floor, want   uint32
		other         bool
	}{
		{0, 0, 45, 45, false}, {0, 1, 45, 45, true}, {0, 0, 40, 40, false}, {0, 0, 39, 40, true}, {0, 0, 0, 40, true},
		{1, 0, 45, 50, true}, {1, 3, 45, 50, true}, {1, 2, 50, 50, true}, {1, 0, 50, 50, false}, {1, 0, math.MaxUint32, math.MaxUint32, false},
	} {
		for _, session := range []bool{false, true} {
			s, want := two(c.active, c.trial), two(c.active, 0)
			s.Floor, want.Floor = c.floor, c.want
			if session {
				s, want = on(s), on(want)
			}
			kept := two(c.active, c.trial)
			kept.Floor, kept.On, kept.Now = s.Floor, s.On, want.Now
			got, other := boot.Confirm(s)
			if other != c.other || !state.Same(got, want) || !state.May(got) {
				t.Errorf("%+v: %+v %v", c, got, other)
			}
			if s.Now.Hash != nil {
				kept.Now.Hash = hash(7)
			}
			if !apart(got, s, kept) {
				t.Errorf("%+v: memory is shared", c)
			}
		}
	}
	for _, s := range wrong() {
		if got, other := boot.Confirm(s); other || !zero(got) {
			t.Errorf("%+v: %+v", s, got)
		}
	}
}

// P21.2: what was broadcast is in the other slot, and runs on trial; the session is at its end.
func TestActivate(t *testing.T) {
	for active := range 2 {
		s, kept := on(two(active, 0)), on(two(active, 0))
		want := two(1-active, 3)
		want.Slots[1-active] = api.Slot{Version: 60, Length: 70, Hash: hash(7)}
		got, e := boot.Activate(s)
		if e != api.OK || !state.Same(got, want) || !state.May(got) {
			t.Errorf("%d: %+v %d", active, got, e)
		}
		if !apart(got, s, kept) {
			t.Errorf("%d: memory is shared", active)
		}
	}
	one := on(two(0, 0))
	one.Slots[1] = api.Slot{}
	if got, e := boot.Activate(one); e != api.OK || got.Active != 1 || got.Slots[1].Version != 60 || !state.May(got) {
		t.Errorf("an empty slot: %+v %d", got, e)
	}
}

// P21.2: what may not be, then what is not On, or is on trial.
func TestActivateRefuses(t *testing.T) {
	for _, s := range wrong() {
		if got, e := boot.Activate(s); e != api.ErrArg || !zero(got) {
			t.Errorf("%+v: %+v %d", s, got, e)
		}
	}
	for _, s := range []api.State{two(0, 0), two(1, 3), on(two(0, 1)), on(two(1, 3))} {
		if got, e := boot.Activate(s); e != api.ErrState || !zero(got) {
			t.Errorf("%+v: %+v %d", s, got, e)
		}
	}
}

// P21.2: no session any more; all else is as it was.
func TestDrop(t *testing.T) {
	for _, s := range []api.State{two(0, 0), two(1, 3), on(two(0, 0)), on(two(1, 2))} {
		kept := two(s.Active, s.Trial)
		if s.On {
			kept = on(kept)
		}
		got := boot.Drop(s)
		if !state.Same(got, two(s.Active, s.Trial)) || !state.May(got) {
			t.Errorf("%+v: %+v", s, got)
		}
		if !apart(got, s, kept) {
			t.Errorf("%+v: memory is shared", s)
		}
	}
	for _, s := range wrong() {
		if got := boot.Drop(s); !zero(got) {
			t.Errorf("%+v: %+v", s, got)
		}
	}
}

// R2: lists of one answer share no memory, even where those of what was handed in do.
func TestSharedHashes(t *testing.T) {
	h := hash(5)
	s := api.State{Slots: [2]api.Slot{{Version: 1, Length: 1, Hash: h}, {Version: 2, Length: 2, Hash: h}}, On: true, Now: api.Manifest{Session: 5, Version: 60, Length: 70, Size: 8, P: 9, Hash: h}}
	kept := s
	a, _ := boot.Start(s)
	b, _ := boot.Confirm(s)
	c, _ := boot.Activate(s)
	for i, got := range []api.State{a, b, c, boot.Drop(s)} {
		if !apart(got, s, kept) || h[0] != 5 {
			t.Errorf("call %d: memory is shared", i)
		}
	}
}

// P21.3: the example: Trials starts without a Confirm lead back to what ran before; with one it stays.
func TestTrialsLeadBack(t *testing.T) {
	s, _ := boot.First(40, []byte{1})
	before := s
	s.On, s.Now = true, now()
	s, _ = boot.Activate(s)
	confirmed, _ := boot.Confirm(s)
	for i := range api.Trials {
		if s.Active != 1 || s.Trial != api.Trials-i {
			t.Errorf("ahead of start %d: %+v", i, s)
		}
		s, _ = boot.Start(s)
	}
	if s.Active != 0 || s.Trial != 0 || !bytes.Equal(s.Slots[0].Hash, before.Slots[0].Hash) || s.Floor != 0 {
		t.Errorf("%+v", s)
	}
	for range api.Trials + 1 {
		confirmed, _ = boot.Start(confirmed)
	}
	if confirmed.Active != 1 || confirmed.Trial != 0 || confirmed.Floor != 60 {
		t.Errorf("%+v", confirmed)
	}
}
