package slot_test

import (
	"bytes"
	"crypto/sha256"
	"math"
	"testing"

	"downpour/api"
	"downpour/flash"
	"downpour/slot"
)

func image(n, x int) []byte {
	b := make([]byte, n)
	for i := range b {
		b[i] = byte(i*13 + i/256*7 + x)
	}
	return b
}

// at is where a slot begins.
func at(s int) int { return 512 + 512*s }

func zero(s api.Slot) bool { return s.Version == 0 && s.Length == 0 && len(s.Hash) == 0 }

// P20.1: Version, Length and Hash of an image of 1 to SlotSize bytes.
func TestOf(t *testing.T) {
	for _, n := range []int{1, 2, 255, 256, 511, 512} {
		want := sha256.Sum256(image(n, 3))
		s, ok := slot.Of(math.MaxUint32, image(n, 3))
		if !ok || s.Version != math.MaxUint32 || s.Length != n || !bytes.Equal(s.Hash, want[:]) {
			t.Errorf("%d bytes: %+v %v", n, s, ok)
		}
	}
	for _, n := range []int{0, 513, 1000} {
		if s, ok := slot.Of(1, image(n, 3)); ok || !zero(s) {
			t.Errorf("%d bytes: %+v %v", n, s, ok)
		}
	}
	if s, ok := slot.Of(1, nil); ok || !zero(s) {
		t.Errorf("nothing: %+v %v", s, ok)
	}
}

// P20.1: the first bytes of slot 0 or 1.
func TestRead(t *testing.T) {
	f := flash.New(1)
	all := image(14*256, 9)
	f.Program(0, all)
	for s := range 2 {
		for _, n := range []int{0, 1, 256, 257, 512} {
			if b, e := slot.Read(f, s, n); e != api.OK || !bytes.Equal(b, all[at(s):at(s)+n]) {
				t.Errorf("slot %d, %d bytes: %d", s, n, e)
			}
		}
	}
	refuse := func(what string, f *flash.Flash, s, n int, want api.Errno) {
		t.Helper()
		if b, e := slot.Read(f, s, n); e != want || b != nil {
			t.Errorf("%s: %d, not %d", what, e, want)
		}
	}
	for _, s := range []int{-1, 2, 3, math.MinInt, math.MaxInt} {
		refuse("slot", f, s, 5, api.ErrArg)
	}
	for _, n := range []int{-1, 513, math.MinInt, math.MaxInt} {
		refuse("length", f, 0, n, api.ErrArg)
		refuse("length", f, 1, n, api.ErrArg)
	}
	refuse("nil", nil, 0, 5, api.ErrArg)
	f.Cut()
	refuse("no power", f, 0, 5, api.ErrDown)
	refuse("no power, nothing", f, 1, 0, api.ErrDown)
	refuse("slot, no power", f, 2, 5, api.ErrArg)
	refuse("length, no power", f, 1, 513, api.ErrArg)
}

// P20.1: Right, if Length may be, Read tells OK, and that has the Hash.
func TestRight(t *testing.T) {
	f := flash.New(1)
	for s := range 2 {
		for _, n := range []int{1, 256, 300, 512} {
			f = flash.New(1)
			known, _ := slot.Of(7, image(n, s+1))
			if slot.Right(f, s, known) {
				t.Errorf("slot %d, %d bytes: there is nothing", s, n)
			}
			slot.Write(f, s, image(n, s+1))
			if !slot.Right(f, s, known) || slot.Right(f, 1-s, known) {
				t.Errorf("slot %d, %d bytes", s, n)
			}
			other := known
			other.Version = 99
			if !slot.Right(f, s, other) {
				t.Error("the version is not in the slot")
			}
			for _, bad := range []api.Slot{{}, {Version: 7, Length: n - 1, Hash: known.Hash}, {Version: 7, Length: n + 1, Hash: known.Hash}, {Version: 7, Length: n}, {Version: 7, Length: n, Hash: known.Hash[:31]}, {Version: 7, Length: n, Hash: make([]byte, 32)}, {Version: 7, Length: math.MinInt, Hash: known.Hash}, {Version: 7, Length: math.MaxInt, Hash: known.Hash}} {
				if slot.Right(f, s, bad) {
					t.Errorf("%+v", bad)
				}
			}
			f.Program(at(s)+n-1, []byte{0})
			if slot.Right(f, s, known) {
				t.Errorf("slot %d, %d bytes: the last one is another", s, n)
			}
		}
	}
	nothing := sha256.Sum256(nil)
	if slot.Right(f, 0, api.Slot{Length: 0, Hash: nothing[:]}) {
		t.Error("Length 0")
	}
	known, _ := slot.Of(1, image(5, 5))
	f = flash.New(1)
	slot.Write(f, 0, image(5, 5))
	f.Cut()
	if slot.Right(f, 0, known) || slot.Right(nil, 0, known) || slot.Right(f, 2, known) {
		t.Error("no power, no flash, no slot")
	}
}

// P20.2: the example; an image of any length is written into its slot, and nowhere else.
func TestWrite(t *testing.T) {
	for s := range 2 {
		for _, n := range []int{1, 2, 255, 256, 257, 511, 512} {
			f := flash.New(1)
			in := image(n, s)
			if e := slot.Write(f, s, in); e != api.OK || !bytes.Equal(in, image(n, s)) {
				t.Fatalf("slot %d, %d bytes: %d", s, n, e)
			}
			want := bytes.Repeat([]byte{0xff}, 14*256)
			copy(want[at(s):], image(n, s))
			if !bytes.Equal(f.Bytes(), want) || f.Steps() != n {
				t.Errorf("slot %d, %d bytes: %d steps", s, n, f.Steps())
			}
			if b, e := slot.Read(f, s, n); e != api.OK || !bytes.Equal(b, image(n, s)) {
				t.Errorf("slot %d, %d bytes: read: %d", s, n, e)
			}
		}
	}
}

// P20.2: each of the slot's sectors is erased, if one of its bytes is not ff.
func TestWriteErases(t *testing.T) {
	for s := range 2 {
		for _, place := range []int{0, 100, 255, 256, 300, 511} {
			f := flash.New(1)
			f.Program(0, make([]byte, 512))
			f.Program(at(1-s), make([]byte, 512))
			f.Program(6*256, make([]byte, 8*256))
			before, steps := f.Bytes(), f.Steps()
			f.Program(at(s)+place, []byte{0xfe})
			if e := slot.Write(f, s, image(10, 1)); e != api.OK {
				t.Fatalf("slot %d, %d: %d", s, place, e)
			}
			copy(before[at(s):], image(10, 1))
			for i := range api.Sectors {
				want := 0
				if i == 2+2*s+place/256 {
					want = 1
				}
				if f.Erases(i) != want {
					t.Errorf("slot %d, %d: sector %d: %d erasures", s, place, i, f.Erases(i))
				}
			}
			if !bytes.Equal(f.Bytes(), before) || f.Steps() != steps+1+1+10 {
				t.Errorf("slot %d, %d: other bytes", s, place)
			}
		}
	}
}

// P20.2: what is refused changes nothing; the first sentence that applies is told.
func TestWriteRefuses(t *testing.T) {
	f := flash.New(1)
	refuse := func(what string, f *flash.Flash, s int, b []byte, want api.Errno) {
		t.Helper()
		if e := slot.Write(f, s, b); e != want {
			t.Errorf("%s: %d, not %d", what, e, want)
		}
	}
	for _, s := range []int{-1, 2, math.MinInt, math.MaxInt} {
		refuse("slot", f, s, image(5, 5), api.ErrArg)
	}
	refuse("nothing", f, 0, nil, api.ErrArg)
	refuse("empty", f, 1, []byte{}, api.ErrArg)
	refuse("too many", f, 0, image(513, 5), api.ErrArg)
	refuse("nil", nil, 0, image(5, 5), api.ErrArg)
	f.Cut()
	refuse("no power", f, 0, image(5, 5), api.ErrDown)
	refuse("slot, no power", f, 2, image(5, 5), api.ErrArg)
	refuse("nothing, no power", f, 0, nil, api.ErrArg)
	if f.Steps() != 0 {
		t.Error("something was written")
	}
}

// P20.2: flash's errors, as they come: behind a worn sector nothing is programmed.
func TestWriteOnWornSectors(t *testing.T) {
	for worn := range 2 {
		f := flash.New(1)
		slot.Write(f, 1, image(512, 1))
		f.Erase(4 + worn)
		f.Program((4+worn)*256, []byte{0})
		if e := slot.Write(f, 1, image(512, 2)); e != api.ErrWorn {
			t.Errorf("sector %d: %d", worn, e)
		}
		if f.Erases(4) != 1 || f.Erases(5) != worn {
			t.Errorf("sector %d: %d and %d erasures: they are erased in order", worn, f.Erases(4), f.Erases(5))
		}
		if worn == 1 && !f.Blank(4*256, 256) || f.Bytes()[(4+worn)*256] != 0 {
			t.Errorf("sector %d: something was programmed", worn)
		}
	}
}

// P20.3: wherever power goes, the other slot stays; and to write once more is the same.
func TestPowerGoesAnywhere(t *testing.T) {
	for _, torn := range []int{0, 0xff, 0x5a, 100, 256} {
		for n := 0; ; n += 1 + n/40 {
			f := flash.New(50)
			slot.Write(f, 0, image(400, 1))
			slot.Write(f, 1, image(512, 2))
			f.Fuse(n, torn)
			e := slot.Write(f, 1, image(300, 3))
			f.Start()
			f.Fuse(-1, 0)
			if b, _ := slot.Read(f, 0, 400); !bytes.Equal(b, image(400, 1)) || f.Erases(2) != 0 {
				t.Fatalf("fuse %d: the other slot has changed", n)
			}
			if e == api.OK {
				break
			}
			if e != api.ErrDown {
				t.Fatalf("fuse %d: %d", n, e)
			}
			for range 2 {
				if e := slot.Write(f, 1, image(300, 3)); e != api.OK {
					t.Fatalf("fuse %d: again: %d", n, e)
				}
				if b, _ := slot.Read(f, 1, 300); !bytes.Equal(b, image(300, 3)) || !f.Blank(at(1)+300, 212) {
					t.Fatalf("fuse %d: what is read is another", n)
				}
			}
		}
	}
}
