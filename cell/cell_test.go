package cell_test

import (
	"bytes"
	"encoding/binary"
	"hash/crc32"
	"math"
	"testing"

	"downpour/api"
	"downpour/cell"
	"downpour/flash"
)

func data(n int) []byte {
	b := make([]byte, n)
	for i := range b {
		b[i] = byte(i*11 + n)
	}
	return b
}

// copyOf is the chapter's words of a copy once more.
func copyOf(number uint32, b []byte) []byte {
	c := binary.BigEndian.AppendUint32(nil, number)
	c = binary.BigEndian.AppendUint16(c, uint16(len(b)))
	c = append(c, b...)
	c = binary.BigEndian.AppendUint32(c, crc32.ChecksumIEEE(c))
	return append(c, 0)
}

// with is flash in whose two sectors these stand.
func with(a, b []byte) *flash.Flash {
	f := flash.New(100)
	f.Program(0, a)
	f.Program(256, b)
	return f
}

func expect(t *testing.T, what string, f *flash.Flash, want []byte, e api.Errno) {
	t.Helper()
	got, err := cell.Read(f)
	if err != e || !bytes.Equal(got, want) {
		t.Errorf("%s: %x %d, not %x %d", what, got, err, want, e)
	}
}

// P17.1: the whole one of the greater number; of one number, the first sector's; none, if none is whole.
func TestRead(t *testing.T) {
	old, new := []byte("old"), []byte("new")
	expect(t, "erased", flash.New(1), nil, api.ErrNone)
	expect(t, "the first", with(copyOf(1, old), nil), old, api.OK)
	expect(t, "the second", with(nil, copyOf(1, new)), new, api.OK)
	expect(t, "the second is greater", with(copyOf(1, old), copyOf(2, new)), new, api.OK)
	expect(t, "the first is greater", with(copyOf(300, new), copyOf(299, old)), new, api.OK)
	expect(t, "greater as a number", with(copyOf(0x01000000, new), copyOf(0x00ffffff, old)), new, api.OK)
	expect(t, "of one number", with(copyOf(7, old), copyOf(7, new)), old, api.OK)
	expect(t, "0 and the last", with(copyOf(0, old), copyOf(math.MaxUint32, new)), new, api.OK)
	expect(t, "0 alone", with(nil, copyOf(0, new)), new, api.OK)
	expect(t, "nothing", with(copyOf(1, nil), nil), nil, api.OK)
	expect(t, "245 bytes", with(copyOf(1, data(245)), nil), data(245), api.OK)
	expect(t, "246 bytes", with(copyOf(1, data(246))[:256], nil), nil, api.ErrNone)
	expect(t, "a length beyond", with(copyOf(1, data(245))[:4], nil), nil, api.ErrNone)
	far := binary.BigEndian.AppendUint16([]byte{0, 0, 0, 1}, 0x0105)
	far = append(far, data(5)...)
	far = append(binary.BigEndian.AppendUint32(far, crc32.ChecksumIEEE(far)), 0)
	expect(t, "a length of two bytes", with(far, nil), nil, api.ErrNone)
	f := with(copyOf(1, old), nil)
	f.Cut()
	expect(t, "no power", f, nil, api.ErrDown)
	expect(t, "nil", nil, nil, api.ErrArg)
}

// P17.1: a copy is whole, if its sum is right and the mark is 00; else the other one counts.
func TestReadOfWhatIsNotWhole(t *testing.T) {
	good := copyOf(9, data(20))
	for i := range good {
		for bit := range 8 {
			bad := bytes.Clone(good)
			bad[i] ^= 1 << bit
			expect(t, "alone", with(bad, nil), nil, api.ErrNone)
			expect(t, "the other counts", with(bad, copyOf(1, []byte("x"))), []byte("x"), api.OK)
			expect(t, "the other counts", with(copyOf(1, []byte("x")), bad), []byte("x"), api.OK)
		}
	}
	expect(t, "without the mark", with(good[:len(good)-1], nil), nil, api.ErrNone)
	expect(t, "what lies behind the mark", with(append(bytes.Clone(good), 1, 2, 3), nil), data(20), api.OK)
}

// P17.2: the other copy is written, its number one more, all ahead of the mark and the mark.
func TestWrite(t *testing.T) {
	f := flash.New(100)
	for i := range 6 {
		in := data(i * 49)
		if e := cell.Write(f, in); e != api.OK {
			t.Fatalf("%d: %d", i, e)
		}
		if !bytes.Equal(in, data(i*49)) {
			t.Error("what was handed in was changed")
		}
		want := copyOf(uint32(i+1), data(i*49))
		at := i % 2 * 256
		if got := f.Bytes()[at : at+256]; !bytes.Equal(got[:len(want)], want) || !bytes.Equal(got[len(want):], bytes.Repeat([]byte{0xff}, 256-len(want))) {
			t.Errorf("%d: %x", i, got)
		}
		expect(t, "what was written", f, data(i*49), api.OK)
		if f.Erases(i%2) != i/2+1 {
			t.Errorf("%d: %d erasures", i, f.Erases(i%2))
		}
	}
	for s := 2; s < api.Sectors; s++ {
		if f.Erases(s) != 0 || !f.Blank(s*256, 256) {
			t.Errorf("sector %d is not the cell's", s)
		}
	}
}

// P17.2: which copy is written, and with which number, whatever is there.
func TestWriteBesideWhatIsThere(t *testing.T) {
	b := []byte("now")
	for i, c := range []struct {
		a, b   []byte
		sector int
		number uint32
	}{
		{nil, nil, 0, 1},
		{data(256), data(256), 0, 1},
		{copyOf(1, nil), nil, 1, 2},
		{nil, copyOf(1, nil), 0, 2},
		{copyOf(5, nil), copyOf(4, nil), 1, 6},
		{copyOf(4, nil), copyOf(5, nil), 0, 6},
		{copyOf(4, nil), copyOf(4, nil), 1, 5},
		{copyOf(0, nil), nil, 1, 1},
		{copyOf(math.MaxUint32-1, nil), nil, 1, math.MaxUint32},
		{copyOf(0x01020303, nil), copyOf(0x01020302, nil), 1, 0x01020304},
		{copyOf(0x00fffffe, nil), copyOf(0x00ffffff, nil), 0, 0x01000000},
		{copyOf(0xfedcba97, nil), copyOf(0xfedcba98, nil), 0, 0xfedcba99},
		{copyOf(4, data(9)), copyOf(5, nil)[:10], 1, 5},
	} {
		f := with(c.a, c.b)
		before := f.Bytes()
		if e := cell.Write(f, b); e != api.OK {
			t.Errorf("%d: %d", i, e)
		}
		want := copyOf(c.number, b)
		after, other := f.Bytes(), 1-c.sector
		if !bytes.Equal(after[c.sector*256:c.sector*256+len(want)], want) || !bytes.Equal(after[other*256:other*256+256], before[other*256:other*256+256]) {
			t.Errorf("%d: %x", i, after[:512])
		}
		expect(t, "what was written", f, b, api.OK)
	}
}

// P17.2: its sector is erased, blank or not.
func TestWriteErases(t *testing.T) {
	f := flash.New(1)
	cell.Write(f, nil)
	cell.Write(f, nil)
	if f.Erases(0) != 1 || f.Erases(1) != 1 || f.Steps() != 2+2*11 {
		t.Errorf("%d steps", f.Steps())
	}
	before := f.Bytes()
	for range 2 {
		if e := cell.Write(f, []byte("x")); e != api.ErrWorn || !bytes.Equal(f.Bytes(), before) {
			t.Errorf("worn: %d", e)
		}
	}
	expect(t, "as it was", f, nil, api.OK)
}

// P17.2: what is refused changes nothing; the first sentence that applies is told.
func TestWriteRefuses(t *testing.T) {
	f := with(copyOf(math.MaxUint32, []byte("last")), nil)
	before := f.Bytes()
	refuse := func(what string, b []byte, want api.Errno) {
		t.Helper()
		if e := cell.Write(f, b); e != want || !bytes.Equal(f.Bytes(), before) {
			t.Errorf("%s: %d, not %d", what, e, want)
		}
	}
	refuse("too many bytes", data(246), api.ErrArg)
	refuse("far too many", data(70000), api.ErrArg)
	refuse("no number behind", data(245), api.ErrFull)
	f.Cut()
	refuse("no power", data(245), api.ErrDown)
	refuse("too many, no power", data(246), api.ErrArg)
	if e := cell.Write(nil, nil); e != api.ErrArg {
		t.Errorf("nil: %d", e)
	}
	f = with(nil, copyOf(math.MaxUint32, nil))
	before = f.Bytes()
	refuse("no number behind the second", nil, api.ErrFull)
}

// P17.3: wherever power goes, Read tells what was there, or what was written, whole; and it can be written once more.
func TestPowerGoesAnywhere(t *testing.T) {
	for _, torn := range []int{0, 0xff, 0x5a, 1, 6, 100, 255, 256} {
		for n := 0; ; n++ {
			f := flash.New(100)
			cell.Write(f, []byte("the first"))
			cell.Write(f, []byte("the second"))
			f.Fuse(n, torn)
			e := cell.Write(f, []byte("the third"))
			f.Start()
			got, r := cell.Read(f)
			if e == api.OK {
				if string(got) != "the third" || r != api.OK {
					t.Errorf("fuse %d: %q %d", n, got, r)
				}
				break
			}
			if e != api.ErrDown || r != api.OK || string(got) != "the second" && string(got) != "the third" {
				t.Errorf("fuse %d, torn %d: %d, then %q %d", n, torn, e, got, r)
			}
			again, _ := cell.Read(f)
			if !bytes.Equal(again, got) {
				t.Errorf("fuse %d: to read twice is to read once", n)
			}
			if e := cell.Write(f, []byte("the fourth")); e != api.OK {
				t.Errorf("fuse %d: %d", n, e)
			}
			expect(t, "behind the cut", f, []byte("the fourth"), api.OK)
		}
	}
}

// P17.3: the mark comes last: without it, what was there counts.
func TestTheMarkComesLast(t *testing.T) {
	f := flash.New(100)
	cell.Write(f, []byte("a"))
	f.Fuse(1+11, 0xff)
	if e := cell.Write(f, []byte("b")); e != api.ErrDown || f.Steps() != 13+13 {
		t.Errorf("%d, %d steps", e, f.Steps())
	}
	f.Start()
	want := copyOf(2, []byte("b"))
	if got := f.Bytes()[256 : 256+len(want)]; !bytes.Equal(got[:11], want[:11]) || got[11] != 0xff {
		t.Errorf("%x", got)
	}
	expect(t, "as it was", f, []byte("a"), api.OK)
}

// R2: what is read is the caller's own.
func TestReadIsNewMemory(t *testing.T) {
	f := flash.New(5)
	cell.Write(f, []byte("abc"))
	b, _ := cell.Read(f)
	_ = append(b, 0xee)
	clear(b)
	expect(t, "it", f, []byte("abc"), api.OK)
}
