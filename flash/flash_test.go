package flash_test

import (
	"bytes"
	"math"
	"slices"
	"testing"

	"downpour/api"
	"downpour/flash"
)

const size = api.Sectors * api.Sector

// zeros is flash whose bytes are all programmed to 00.
func zeros(wear int) *flash.Flash {
	f := flash.New(wear)
	f.Program(0, make([]byte, size))
	return f
}

func expect(t *testing.T, what string, got, want api.Errno) {
	t.Helper()
	if got != want {
		t.Errorf("%s: %d, not %d", what, got, want)
	}
}

// P16.1: new flash is erased, has power, and no steps.
func TestNew(t *testing.T) {
	f := flash.New(5)
	if !bytes.Equal(f.Bytes(), bytes.Repeat([]byte{0xff}, size)) || f.Down() || f.Steps() != 0 {
		t.Error("it is not new")
	}
	for s := -1; s <= api.Sectors; s++ {
		if f.Erases(s) != 0 {
			t.Errorf("sector %d was erased", s)
		}
	}
}

// P16.1, P16.2: wear is brought to 1 to MaxWear; a sector that is worn is not erased.
func TestWear(t *testing.T) {
	for wear, want := range map[int]int{math.MinInt: 1, -1: 1, 0: 1, 1: 1, 2: 2, 9999: 9999, 10000: 10000, 10001: 10000, math.MaxInt: 10000} {
		f := flash.New(wear)
		for i := range want {
			if e := f.Erase(13); e != api.OK || f.Erases(13) != i+1 {
				t.Fatalf("wear %d: erasure %d: %d", wear, i, e)
			}
		}
		f.Program(13*256, []byte{1})
		for range 2 {
			expect(t, "worn", f.Erase(13), api.ErrWorn)
		}
		if f.Erases(13) != want || f.Steps() != want+1 || f.Bytes()[13*256] != 1 {
			t.Errorf("wear %d: %d erasures, %d steps", wear, f.Erases(13), f.Steps())
		}
		expect(t, "another sector", f.Erase(12), api.OK)
	}
}

// ranges are places and lengths, and whether all of these bytes are there.
func ranges() map[[2]int]bool {
	return map[[2]int]bool{
		{0, 0}: true, {0, 1}: true, {0, size}: true, {size, 0}: true, {size - 1, 1}: true, {255, 2}: true, {1, size - 1}: true,
		{0, -1}: false, {-1, 0}: false, {-1, 1}: false, {-1, 5}: false, {size + 1, 0}: false, {size, 1}: false, {0, size + 1}: false, {size - 1, 2}: false,
		{5, math.MaxInt}: false, {math.MaxInt, 5}: false, {math.MaxInt, math.MaxInt}: false, {math.MinInt, 5}: false, {5, math.MinInt}: false, {math.MinInt, math.MinInt}: false, {math.MaxInt, 0}: false, {size + 1, -1}: false,
	}
}

// P16.1: what is there is read, in memory of its own; what is not is refused.
func TestRead(t *testing.T) {
	f := flash.New(1)
	b := make([]byte, size)
	for i := range b {
		b[i] = byte(i * 7)
	}
	f.Program(0, b)
	for r, there := range ranges() {
		got, e := f.Read(r[0], r[1])
		if there && (e != api.OK || !bytes.Equal(got, b[r[0]:r[0]+r[1]])) || !there && (e != api.ErrArg || got != nil) {
			t.Errorf("%v: %d", r, e)
		}
		_ = append(got, 0xee)
		clear(got)
	}
	clear(f.Bytes())
	if !bytes.Equal(f.Bytes(), b) {
		t.Error("memory is shared")
	}
	f.Cut()
	for r := range ranges() {
		if got, e := f.Read(r[0], r[1]); e != api.ErrDown || got != nil {
			t.Errorf("%v without power: %d", r, e)
		}
	}
	if !bytes.Equal(f.Bytes(), b) || f.Steps() != size {
		t.Error("Bytes, power or not; and reading is no step")
	}
}

// P16.1: blank is what can be read, and is ff.
func TestBlank(t *testing.T) {
	f := flash.New(1)
	for r, there := range ranges() {
		if f.Blank(r[0], r[1]) != there {
			t.Errorf("%v", r)
		}
	}
	for _, x := range []byte{0xfe, 0x7f, 0} {
		f := flash.New(1)
		f.Program(100, []byte{x})
		if f.Blank(100, 1) || f.Blank(0, 101) || f.Blank(90, 20) || f.Blank(100, 50) || !f.Blank(0, 100) || !f.Blank(101, 100) || !f.Blank(100, 0) {
			t.Errorf("%x", x)
		}
	}
	f.Cut()
	if f.Blank(0, 1) || f.Blank(0, 0) {
		t.Error("without power")
	}
}

// P16.2, P16.4: the example; programming only clears bits, and only of these bytes.
func TestProgram(t *testing.T) {
	f := flash.New(1)
	expect(t, "0f", f.Program(0, []byte{0x0f}), api.OK)
	expect(t, "f0", f.Program(0, []byte{0xf0}), api.OK)
	if b, e := f.Read(0, 1); e != api.OK || b[0] != 0 {
		t.Errorf("example: %x %d", b, e)
	}
	want := f.Bytes()
	in := []byte{0x12, 0x00, 0xff, 0xa5, 0x5a}
	expect(t, "over the edge of a sector", f.Program(254, in), api.OK)
	expect(t, "once more", f.Program(255, []byte{0x3c, 0x3c}), api.OK)
	copy(want[254:], []byte{0x12, 0x00, 0x3c, 0xa5, 0x5a})
	if !bytes.Equal(f.Bytes(), want) || f.Steps() != 9 {
		t.Errorf("%x, %d steps", f.Bytes()[250:260], f.Steps())
	}
	if !bytes.Equal(in, []byte{0x12, 0x00, 0xff, 0xa5, 0x5a}) {
		t.Error("what was handed in was changed")
	}
	expect(t, "nothing", f.Program(size, nil), api.OK)
	if f.Steps() != 9 {
		t.Error("nothing is no step")
	}
}

// P16.2: what is not there is not programmed, no byte of it; nor without power.
func TestProgramRefuses(t *testing.T) {
	f := flash.New(1)
	for r, there := range ranges() {
		if !there && r[1] >= 0 && r[1] <= size+1 {
			expect(t, "beyond", f.Program(r[0], make([]byte, r[1])), api.ErrArg)
		}
	}
	f.Cut()
	expect(t, "without power", f.Program(0, []byte{0}), api.ErrDown)
	expect(t, "nothing, without power", f.Program(0, nil), api.ErrDown)
	expect(t, "beyond, without power", f.Program(-1, []byte{0}), api.ErrDown)
	f.Start()
	if !f.Blank(0, size) || f.Steps() != 0 {
		t.Error("something was programmed")
	}
}

// P16.2, P16.4: all bytes of one sector, and none of others.
func TestErase(t *testing.T) {
	for s := range api.Sectors {
		f, want := zeros(3), make([]byte, size)
		for i := range 256 {
			want[s*256+i] = 0xff
		}
		expect(t, "sector", f.Erase(s), api.OK)
		if !bytes.Equal(f.Bytes(), want) || f.Steps() != size+1 || f.Erases(s) != 1 || f.Erases(s+1) != 0 || f.Erases(s-1) != 0 {
			t.Errorf("sector %d", s)
		}
	}
	f := zeros(1)
	f.Erase(2)
	for _, s := range []int{-1, api.Sectors, math.MaxInt, math.MinInt} {
		expect(t, "none", f.Erase(s), api.ErrArg)
	}
	f.Cut()
	for _, s := range []int{-1, 0, 2, api.Sectors} {
		expect(t, "without power", f.Erase(s), api.ErrDown)
	}
	if f.Steps() != size+1 || f.Erases(0) != 0 || f.Erases(-1) != 0 || f.Erases(api.Sectors) != 0 {
		t.Error("something was erased")
	}
}

// P16.3: n bytes are programmed whole, the next one is torn, and there is no power.
func TestFuseTearsAByte(t *testing.T) {
	for n := range 4 {
		for _, torn := range []int{0, 0x0f, 0xff, 0x1f3, -1, -2, math.MinInt, math.MaxInt} {
			f := flash.New(1)
			f.Program(10, []byte{0xfc, 0xfc, 0xfc, 0xfc})
			f.Fuse(n, torn)
			expect(t, "torn", f.Program(10, []byte{0x55, 0x55, 0x55, 0x55}), api.ErrDown)
			want := []byte{0xfc, 0xfc, 0xfc, 0xfc}
			for i := range n {
				want[i] = 0x54
			}
			want[n] = 0xfc & (0x55 | byte(torn&255))
			if got := f.Bytes()[10:14]; !bytes.Equal(got, want) || !f.Down() || f.Steps() != 4+n+1 {
				t.Errorf("fuse %d, %d: %x, not %x", n, torn, got, want)
			}
			if _, e := f.Read(0, 1); e != api.ErrDown {
				t.Error("there is power")
			}
		}
	}
	f := flash.New(1)
	f.Fuse(4, 0)
	expect(t, "all of them whole", f.Program(0, []byte{1, 2, 3, 4}), api.OK)
	if f.Down() {
		t.Error("it has blown too soon")
	}
	expect(t, "the one behind", f.Program(4, []byte{5}), api.ErrDown)
}

// P16.3: of a torn sector the first bytes become ff; it counts as erased.
func TestFuseTearsASector(t *testing.T) {
	for torn, first := range map[int]int{0: 0, 1: 1, 100: 100, 255: 255, 256: 256, 257: 0, 258: 1, 1000: 229, -1: 0, -256: 0, math.MinInt: 0, math.MaxInt: math.MaxInt % 257} {
		f, want := zeros(2), make([]byte, size)
		for i := range first {
			want[3*256+i] = 0xff
		}
		f.Fuse(0, torn)
		expect(t, "torn", f.Erase(3), api.ErrDown)
		if !bytes.Equal(f.Bytes(), want) || !f.Down() || f.Erases(3) != 1 || f.Steps() != size+1 {
			t.Errorf("torn %d: %d erasures, %d steps", torn, f.Erases(3), f.Steps())
		}
		f.Start()
		expect(t, "again", f.Erase(3), api.OK)
		expect(t, "worn", f.Erase(3), api.ErrWorn)
	}
}

// P16.3: calls that are refused, and reading, are no steps of a fuse.
func TestFuseCountsSteps(t *testing.T) {
	f := flash.New(1)
	f.Fuse(2, 0)
	f.Erase(0)
	f.Erase(0)
	f.Erase(99)
	f.Read(0, 5)
	f.Blank(0, 5)
	f.Program(-1, []byte{1})
	f.Program(0, nil)
	expect(t, "the second step", f.Program(0, []byte{1}), api.OK)
	expect(t, "the torn one", f.Erase(1), api.ErrDown)
	if f.Steps() != 3 || f.Erases(1) != 1 {
		t.Errorf("%d steps", f.Steps())
	}
}

// P16.3: a fuse that has blown is gone, one that has not stays over Start and Cut; a new one takes its place.
func TestFuseOverStart(t *testing.T) {
	f := flash.New(5)
	f.Fuse(1, 0)
	f.Program(0, []byte{1, 2})
	f.Start()
	if f.Down() {
		t.Error("there is no power")
	}
	expect(t, "the fuse is gone", f.Program(0, make([]byte, 100)), api.OK)

	f.Fuse(3, 0)
	f.Program(0, []byte{0})
	f.Cut()
	f.Start()
	f.Start()
	expect(t, "the fuse stays", f.Program(0, []byte{0, 0}), api.OK)
	expect(t, "it blows", f.Program(0, []byte{0}), api.ErrDown)

	f.Start()
	f.Fuse(0, 0)
	f.Fuse(-1, 0)
	expect(t, "there is no fuse", f.Program(0, make([]byte, 100)), api.OK)
	f.Fuse(0, 0)
	f.Fuse(math.MinInt, 0)
	expect(t, "there is none", f.Erase(0), api.OK)
	f.Fuse(0, 0)
	f.Fuse(1, 0)
	expect(t, "the new one", f.Erase(0), api.OK)
	expect(t, "has blown", f.Erase(0), api.ErrDown)
	f.Fuse(0, 0)
	f.Start()
	expect(t, "set without power, it stays", f.Erase(0), api.ErrDown)
	f.Start()
	f.Fuse(math.MaxInt, 0)
	expect(t, "far away", f.Erase(1), api.OK)
}

// P16.3: Cut and Start.
func TestCut(t *testing.T) {
	f := flash.New(5)
	f.Program(0, []byte{1})
	f.Cut()
	f.Cut()
	if !f.Down() {
		t.Error("there is power")
	}
	f.Start()
	if b, e := f.Read(0, 2); f.Down() || e != api.OK || !bytes.Equal(b, []byte{1, 0xff}) {
		t.Error("there is no power, or bytes are gone")
	}
	if f.Steps() != 1 {
		t.Errorf("%d steps", f.Steps())
	}
}

// P16.4: what is done to one flash makes no difference to another.
func TestFlashKeepsToItself(t *testing.T) {
	f, g := flash.New(5), flash.New(5)
	f.Program(0, []byte{0})
	f.Erase(1)
	f.Cut()
	if g.Down() || g.Steps() != 0 || g.Erases(1) != 0 || !g.Blank(0, size) {
		t.Error("it has changed")
	}
}

// R3: nil flash tells zero values, and ErrArg.
func TestNil(t *testing.T) {
	var f *flash.Flash
	f.Fuse(0, 0)
	f.Cut()
	f.Start()
	b, e := f.Read(0, 0)
	if b != nil || !slices.Equal([]api.Errno{e, f.Program(0, nil), f.Erase(0)}, []api.Errno{api.ErrArg, api.ErrArg, api.ErrArg}) || f.Blank(0, 0) || f.Down() || f.Steps() != 0 || f.Erases(0) != 0 || len(f.Bytes()) != 0 {
		t.Error("not zero")
	}
}
