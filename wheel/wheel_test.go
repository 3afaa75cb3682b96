package wheel_test

import (
	"bytes"
	"encoding/binary"
	"hash/crc32"
	"math"
	"slices"
	"testing"

	"downpour/api"
	"downpour/flash"
	"downpour/wheel"
)

const first = api.WheelAt * api.Sector

func data(id uint32, size int) []byte {
	b := make([]byte, size)
	for i := range b {
		b[i] = byte(int(id)*17 + i*5 + 1)
	}
	return b
}

// recordOf is the chapter's words of a record once more.
func recordOf(gen, id uint32, b []byte) []byte {
	r := binary.BigEndian.AppendUint32(nil, gen)
	r = binary.BigEndian.AppendUint32(r, id)
	r = append(r, b...)
	r = binary.BigEndian.AppendUint32(r, crc32.ChecksumIEEE(r))
	return append(r, 0)
}

func per(size int) int { return 256 / (size + 13) }

// at is where a place is.
func at(place, size int) int {
	return first + place/per(size)*256 + place%per(size)*(size+13)
}

func open(t *testing.T, f *flash.Flash, gen uint32, size int) *wheel.Wheel {
	t.Helper()
	w, e := wheel.Open(f, gen, size)
	if e != api.OK || w == nil {
		t.Fatalf("Open: %d", e)
	}
	return w
}

func ids(w *wheel.Wheel) []uint32 {
	l := []uint32{}
	for _, r := range w.Records() {
		l = append(l, r.Id)
	}
	return l
}

func same(a, b []api.Record) bool {
	return slices.EqualFunc(a, b, func(x, y api.Record) bool { return x.Id == y.Id && bytes.Equal(x.Data, y.Data) })
}

func up(from, to uint32) []uint32 {
	l := []uint32{}
	for ; from < to; from++ {
		l = append(l, from)
	}
	return l
}

// P18.1: sizes of 1 to MaxSize; power; and the example: as many places as fit.
func TestOpen(t *testing.T) {
	for size := 1; size <= 16; size++ {
		w := open(t, flash.New(1), 1, size)
		if w.Room() != 8*per(size) || len(w.Records()) != 0 {
			t.Errorf("size %d: room %d", size, w.Room())
		}
	}
	if w := open(t, flash.New(1), 1, 16); w.Room() != 8*8 {
		t.Errorf("example: room %d", w.Room())
	}
	down := flash.New(1)
	down.Cut()
	for _, size := range []int{0, -1, 17, math.MaxInt, math.MinInt} {
		for _, f := range []*flash.Flash{flash.New(1), down, nil} {
			if w, e := wheel.Open(f, 1, size); w != nil || e != api.ErrArg {
				t.Errorf("size %d: %d", size, e)
			}
		}
	}
	if w, e := wheel.Open(down, 1, 16); w != nil || e != api.ErrDown {
		t.Errorf("no power: %d", e)
	}
	if w, e := wheel.Open(nil, 1, 16); w != nil || e != api.ErrArg {
		t.Errorf("nil: %d", e)
	}
}

// P18.2: records one behind the other, as the words say, until there is no place; and to open is to find them.
func TestAddFillsTheWheel(t *testing.T) {
	for _, size := range []int{1, 2, 5, 8, 15, 16} {
		f := flash.New(1)
		w := open(t, f, 0x01020304, size)
		n := 8 * per(size)
		for i := range n {
			if w.Room() != n-i {
				t.Fatalf("size %d: room %d ahead of %d", size, w.Room(), i)
			}
			in := data(uint32(i), size)
			if e := w.Add(uint32(i), in); e != api.OK || !bytes.Equal(in, data(uint32(i), size)) {
				t.Fatalf("size %d: %d: %d", size, i, e)
			}
			want := recordOf(0x01020304, uint32(i), data(uint32(i), size))
			if got, _ := f.Read(at(i, size), size+13); !bytes.Equal(got, want) {
				t.Fatalf("size %d: %d: %x, not %x", size, i, got, want)
			}
			again := open(t, f, 0x01020304, size)
			if !same(again.Records(), w.Records()) || len(w.Records()) != i+1 || again.Room() != w.Room() {
				t.Fatalf("size %d: %d: opened, it is another", size, i)
			}
		}
		if f.Steps() != n*(size+13) || !f.Blank(0, first) {
			t.Errorf("size %d: %d steps", size, f.Steps())
		}
		if e := w.Add(1000, data(0, size)); e != api.ErrFull || w.Room() != 0 || len(w.Records()) != n {
			t.Errorf("size %d: full: %d", size, e)
		}
		if w := open(t, f, 0x01020304, size); w.Add(1000, data(0, size)) != api.ErrFull {
			t.Errorf("size %d: full, opened anew", size)
		}
	}
}

// P18.2: what is refused changes nothing; the first sentence that applies is told.
func TestAddRefuses(t *testing.T) {
	f := flash.New(1)
	w := open(t, f, 1, 4)
	w.Add(5, data(5, 4))
	before := f.Bytes()
	for _, b := range [][]byte{nil, {}, data(1, 3), data(1, 5), data(1, 300)} {
		if e := w.Add(6, b); e != api.ErrArg || !bytes.Equal(f.Bytes(), before) || !slices.Equal(ids(w), []uint32{5}) {
			t.Errorf("%d bytes: %d", len(b), e)
		}
	}
	f.Cut()
	if e := w.Add(6, data(6, 3)); e != api.ErrArg {
		t.Errorf("ErrArg ahead of ErrDown: %d", e)
	}
	if e := w.Add(6, data(6, 4)); e != api.ErrDown || !bytes.Equal(f.Bytes(), before) {
		t.Errorf("no power: %d", e)
	}
	f = flash.New(1)
	w = open(t, f, 1, 4)
	for w.Room() > 0 {
		w.Add(1, data(1, 4))
	}
	f.Cut()
	if e := w.Add(1, data(1, 4)); e != api.ErrFull {
		t.Errorf("ErrFull ahead of ErrDown: %d", e)
	}
	if e := w.Add(1, data(1, 3)); e != api.ErrArg {
		t.Errorf("ErrArg ahead of ErrFull: %d", e)
	}
}

// P18.1: sectors whose first place is not whole do not count, whatever stands behind it.
func TestSectorsThatCount(t *testing.T) {
	f := flash.New(10)
	size := 16
	put := func(place int, b []byte) { f.Program(at(place, size), b) }
	put(1, recordOf(3, 1, data(1, size)))        // sector 0: the first place is blank
	put(8, recordOf(2, 8, data(8, size)))        // sector 1: of another generation
	put(9, recordOf(3, 9, data(9, size)))        //
	put(16, recordOf(3, 16, data(16, size)))     // sector 2 counts
	put(18, recordOf(3, 18, data(18, size)))     // behind a blank place
	put(24, recordOf(3, 24, data(24, size))[1:]) // sector 3: torn
	put(25, recordOf(3, 25, data(25, size)))     //
	put(32, recordOf(3, 32, data(32, size)))     // sector 4 counts, and is the ready one
	put(33, recordOf(2, 33, data(33, size)))     // another generation: not whole, not blank
	put(34, recordOf(3, 34, data(34, size)))     //
	put(35, []byte{0})                           // not blank
	f.Program(first+4*256+8*29, []byte{0, 0})    // behind all places
	f.Program(first+7*256+100, []byte{0})        // in a sector that does not count
	w := open(t, f, 3, size)
	if !slices.Equal(ids(w), []uint32{16, 18, 32, 34}) || w.Room() != 64-36 {
		t.Errorf("%v, room %d", ids(w), w.Room())
	}
	if e := w.Add(36, data(36, size)); e != api.OK || f.Erases(api.WheelAt+4) != 0 {
		t.Errorf("%d", e)
	}
	if got, _ := f.Read(at(36, size), 29); !bytes.Equal(got, recordOf(3, 36, data(36, size))) {
		t.Errorf("%x", got)
	}
	for i := 37; i < 64; i++ {
		if e := w.Add(uint32(i), data(uint32(i), size)); e != api.OK {
			t.Errorf("%d: %d", i, e)
		}
	}
	for s, want := range []int{0, 0, 0, 0, 0, 0, 0, 1} {
		if f.Erases(api.WheelAt+s) != want {
			t.Errorf("sector %d: %d erasures", s, f.Erases(api.WheelAt+s))
		}
	}
	want := append([]uint32{16, 18, 32, 34}, up(36, 64)...)
	if again := open(t, f, 3, size); !slices.Equal(ids(w), want) || !same(again.Records(), w.Records()) || again.Room() != 0 {
		t.Errorf("%v", ids(w))
	}
}

// P18.1: a place is whole, if its mark is 00, its sum is right, and its gen is the wheel's.
func TestPlacesThatAreWhole(t *testing.T) {
	good := recordOf(7, 70, data(70, 3))
	for i := range good {
		for bit := range 8 {
			bad := bytes.Clone(good)
			bad[i] ^= 1 << bit
			f := flash.New(1)
			f.Program(at(0, 3), recordOf(7, 1, data(1, 3)))
			f.Program(at(1, 3), bad)
			f.Program(at(2, 3), good)
			w := open(t, f, 7, 3)
			if !slices.Equal(ids(w), []uint32{1, 70}) || w.Room() != 8*16-3 {
				t.Errorf("byte %d, bit %d: %v, room %d", i, bit, ids(w), w.Room())
			}
		}
	}
}

// P18.1: the next place is behind the last one of the ready sector that is not blank, be it in the next sector, or nowhere.
func TestNextPlace(t *testing.T) {
	f := flash.New(9)
	f.Program(at(0, 16), recordOf(1, 0, data(0, 16)))
	f.Program(at(7, 16)+28, []byte{0x7f})
	w := open(t, f, 1, 16)
	if w.Room() != 64-8 {
		t.Errorf("room %d", w.Room())
	}
	if e := w.Add(8, data(8, 16)); e != api.OK || f.Erases(api.WheelAt+1) != 0 {
		t.Errorf("%d", e)
	}
	f.Program(at(56, 16), recordOf(1, 56, data(56, 16)))
	f.Program(at(63, 16), []byte{0})
	w = open(t, f, 1, 16)
	if w.Room() != 0 || w.Add(1, data(1, 16)) != api.ErrFull || !slices.Equal(ids(w), []uint32{0, 8, 56}) {
		t.Errorf("room %d, %v", w.Room(), ids(w))
	}
}

// P18.1, P18.2: records of another generation, of whatever size, do not count; their sectors are erased as they are needed.
func TestAnotherGeneration(t *testing.T) {
	f := flash.New(3)
	for gen := uint32(1); gen <= 3; gen++ {
		size := []int{0, 16, 5, 16}[gen]
		w := open(t, f, gen, size)
		if len(w.Records()) != 0 || w.Room() != 8*per(size) {
			t.Fatalf("gen %d: %v", gen, ids(w))
		}
		for i := range w.Room() {
			if e := w.Add(uint32(i), data(uint32(i), size)); e != api.OK {
				t.Fatalf("gen %d: %d: %d", gen, i, e)
			}
			for s := range api.Wheel {
				want := int(gen) - 2
				if s <= i/per(size) {
					want++
				}
				if got := f.Erases(api.WheelAt + s); got != max(want, 0) {
					t.Fatalf("gen %d: %d: sector %d: %d erasures", gen, i, s, got)
				}
			}
		}
		if len(open(t, f, gen-1, size).Records()) != 0 || len(open(t, f, gen+1, size).Records()) != 0 {
			t.Errorf("gen %d: others have records", gen)
		}
	}
}

// P18.2: without a ready sector, sector 0 is erased, if one of its bytes is not ff, wherever it is.
func TestErasesWhatIsNotBlank(t *testing.T) {
	for _, place := range []int{0, 100, 255} {
		f := flash.New(3)
		f.Program(first+place, []byte{0x7f})
		w := open(t, f, 1, 16)
		if e := w.Add(4, data(4, 16)); e != api.OK || f.Erases(api.WheelAt) != 1 {
			t.Errorf("%d: %d", place, e)
		}
		w.Add(5, data(5, 16))
		if f.Erases(api.WheelAt) != 1 || !slices.Equal(ids(open(t, f, 1, 16)), []uint32{4, 5}) {
			t.Errorf("%d: the ready sector is not erased", place)
		}
	}
}

// P18.2: behind ErrWorn the wheel is as it was.
func TestWorn(t *testing.T) {
	f := flash.New(1)
	f.Erase(api.WheelAt + 1)
	f.Program(first+256, []byte{0})
	w := open(t, f, 1, 16)
	for i := range uint32(8) {
		w.Add(i, data(i, 16))
	}
	before := f.Bytes()
	for range 2 {
		if e := w.Add(8, data(8, 16)); e != api.ErrWorn || w.Room() != 56 || !slices.Equal(ids(w), up(0, 8)) || !bytes.Equal(f.Bytes(), before) {
			t.Errorf("%d, room %d", e, w.Room())
		}
	}
}

// P18.3: what was added is there behind a cut, wherever power goes, in order; to open twice is to open once.
func TestPowerGoesAnywhere(t *testing.T) {
	for _, torn := range []int{0, 0xff, 0x3c, 10, 200, 256} {
		for n := 0; n < 32*30; n += 1 + n/100 {
			f := flash.New(50)
			old := open(t, f, 1, 15)
			for i := range uint32(30) {
				old.Add(i, data(i, 15))
			}
			w := open(t, f, 2, 16)
			f.Fuse(n, torn)
			added := uint32(0)
			for added < 40 && w.Add(added, data(added, 16)) == api.OK {
				added++
			}
			f.Start()
			f.Fuse(-1, 0)
			once, twice := open(t, f, 2, 16), open(t, f, 2, 16)
			l := ids(once)
			if !slices.Equal(l, up(0, added)) && !slices.Equal(l, up(0, added+1)) {
				t.Fatalf("fuse %d, torn %d: %d were added, there are %v", n, torn, added, l)
			}
			if !same(once.Records(), twice.Records()) || once.Room() != twice.Room() {
				t.Fatalf("fuse %d: opened twice it is another", n)
			}
			for _, r := range once.Records() {
				if !bytes.Equal(r.Data, data(r.Id, 16)) {
					t.Fatalf("fuse %d: record %d has other data", n, r.Id)
				}
			}
			if e := once.Add(99, data(99, 16)); e != api.OK || !slices.Equal(ids(open(t, f, 2, 16)), append(l, 99)) {
				t.Fatalf("fuse %d: it does not go on: %d", n, e)
			}
		}
	}
}

// P18.3: the mark comes last: without it there is no record.
func TestTheMarkComesLast(t *testing.T) {
	f := flash.New(1)
	w := open(t, f, 1, 2)
	f.Fuse(14, 0xff)
	if e := w.Add(1, data(1, 2)); e != api.ErrDown {
		t.Errorf("%d", e)
	}
	f.Start()
	want := recordOf(1, 1, data(1, 2))
	if got, _ := f.Read(first, 15); !bytes.Equal(got[:14], want[:14]) || got[14] != 0xff {
		t.Errorf("%x", got)
	}
	if w := open(t, f, 1, 2); len(w.Records()) != 0 || w.Room() != 8*17 {
		t.Errorf("%v, room %d", ids(w), w.Room())
	}
}

// R2: data that is handed in is not kept, and records are the caller's own.
func TestWheelKeepsToItself(t *testing.T) {
	f := flash.New(1)
	w := open(t, f, 1, 4)
	in := data(3, 4)
	w.Add(3, in)
	w.Add(4, data(4, 4))
	clear(in)
	for range 2 {
		l := w.Records()
		if !bytes.Equal(l[0].Data, data(3, 4)) || !bytes.Equal(l[1].Data, data(4, 4)) {
			t.Error("memory is shared")
		}
		_ = append(l[0].Data, 0xee)
		clear(l[0].Data)
		l[1].Id = 9
		w = open(t, f, 1, 4)
		clear(w.Records()[0].Data)
	}
}

// R3: a nil wheel tells zero values, and ErrArg.
func TestNil(t *testing.T) {
	var w *wheel.Wheel
	if w.Add(0, nil) != api.ErrArg || w.Add(0, []byte{1}) != api.ErrArg || len(w.Records()) != 0 || w.Room() != 0 {
		t.Error("not zero")
	}
}
