package frame_test

import (
	"bytes"
	"encoding/binary"
	"hash/crc32"
	"math"
	"slices"
	"testing"

	"downpour/api"
	"downpour/frame"
)

func pattern(n int) []byte {
	b := make([]byte, n)
	for i := range b {
		b[i] = byte(i*13 + n)
	}
	return b
}

// framed is the chapter's words once more, of whatever length and kind.
func framed(kind byte, said int, b []byte) []byte {
	f := append([]byte{'D', 'P', kind, byte(said >> 8), byte(said)}, b...)
	return binary.BigEndian.AppendUint32(f, crc32.ChecksumIEEE(f[2:]))
}

// P13.1: the example, and the words.
func TestWrap(t *testing.T) {
	got, e := frame.Wrap(1, nil)
	if e != api.OK || len(got) != 9 || !bytes.HasPrefix(got, []byte{0x44, 0x50, 1, 0, 0}) {
		t.Errorf("example: %x %d", got, e)
	}
	for _, n := range []int{0, 1, 2, 76, 255, 256, 290, 291} {
		for _, kind := range []int{0, 1, 2, 128, 255} {
			got, e := frame.Wrap(kind, pattern(n))
			if e != api.OK || !bytes.Equal(got, framed(byte(kind), n, pattern(n))) {
				t.Errorf("kind %d, %d bytes: %x %d", kind, n, got, e)
			}
		}
	}
}

// P13.1: a kind of 0 to 255, and at most 291 bytes.
func TestWrapRefuses(t *testing.T) {
	for _, kind := range []int{-1, 256, math.MinInt, math.MaxInt} {
		if got, e := frame.Wrap(kind, []byte{1}); e != api.ErrArg || got != nil {
			t.Errorf("kind %d: %d", kind, e)
		}
	}
	for _, n := range []int{292, 300, 65536, 65537} {
		if got, e := frame.Wrap(1, pattern(n)); e != api.ErrArg || got != nil {
			t.Errorf("%d bytes: %d", n, e)
		}
	}
}

// P13.1, P13.3: what is wrapped is unwrapped, in memory of its own.
func TestUnwrap(t *testing.T) {
	for _, n := range []int{0, 1, 76, 255, 256, 291} {
		for _, kind := range []int{0, 1, 2, 255} {
			f, _ := frame.Wrap(kind, pattern(n))
			k, b, e := frame.Unwrap(f)
			if k != kind || !bytes.Equal(b, pattern(n)) || e != api.OK {
				t.Errorf("kind %d, %d bytes: %d %x %d", kind, n, k, b, e)
			}
			_ = append(b, 0xee)
			clear(b)
			if !bytes.Equal(f, framed(byte(kind), n, pattern(n))) {
				t.Errorf("kind %d, %d bytes: memory is shared", kind, n)
			}
		}
	}
}

// P13.1: what is wrong is told, by the first sentence that applies.
func TestUnwrapRefuses(t *testing.T) {
	good := framed(3, 4, pattern(4))
	for i, c := range []struct {
		b []byte
		e api.Errno
	}{
		{nil, api.ErrShort},
		{[]byte{}, api.ErrShort},
		{[]byte("DP"), api.ErrShort},
		{[]byte("XXXXXXXX"), api.ErrShort},
		{good[:8], api.ErrShort},
		{[]byte("XXXXXXXXX"), api.ErrForm},
		{append([]byte("XP"), good[2:]...), api.ErrForm},
		{append([]byte("DX"), good[2:]...), api.ErrForm},
		{append([]byte("PD"), good[2:]...), api.ErrForm},
		{good[:9], api.ErrForm},
		{good[:12], api.ErrForm},
		{append(bytes.Clone(good), 0), api.ErrForm},
		{framed(3, 3, pattern(4)), api.ErrForm},
		{framed(3, 5, pattern(4)), api.ErrForm},
		{framed(3, 256+4, pattern(4)), api.ErrForm},
		{framed(3, 292, pattern(292)), api.ErrForm},
		{framed(3, 1000, pattern(1000)), api.ErrForm},
		{make([]byte, 301), api.ErrForm},
		{[]byte("DP\x01\x00\x00\x00\x00\x00\x00"), api.ErrCheck},
	} {
		if k, b, e := frame.Unwrap(c.b); k != 0 || b != nil || e != c.e {
			t.Errorf("%d: %x: %d %x %d, not %d", i, c.b, k, b, e, c.e)
		}
	}
	for i := range good {
		want := api.ErrCheck
		if i < 2 || i == 3 || i == 4 {
			want = api.ErrForm
		}
		for bit := range 8 {
			good[i] ^= 1 << bit
			if k, b, e := frame.Unwrap(good); k != 0 || b != nil || e != want {
				t.Errorf("byte %d, bit %d: %d", i, bit, e)
			}
			good[i] ^= 1 << bit
		}
	}
}

// P13.2, P13.3: frames within noise are found, and the bytes of none are counted.
func TestAll(t *testing.T) {
	a, b, c := framed(1, 0, nil), framed(2, 20, pattern(20)), framed(255, 291, pattern(291))
	for i, x := range []struct {
		noise [4][]byte
		none  int
	}{
		{[4][]byte{}, 0},
		{[4][]byte{{1}, {2, 3}, {4, 5, 6}, {7}}, 7},
		{[4][]byte{[]byte("D"), []byte("DP"), []byte("DDP"), []byte("DP")}, 8},
		{[4][]byte{a[:8], b[:20], []byte("DPDPDPDPDP"), a[:8]}, 46},
		{[4][]byte{[]byte("DP\x01\xff\xff"), []byte("DP\x01\x00\x00\x00\x00\x00\x00"), nil, []byte("DP\x00\x01")}, 18},
	} {
		in := slices.Concat(x.noise[0], a, x.noise[1], b, x.noise[2], c, x.noise[3])
		kept := bytes.Clone(in)
		l, none := frame.All(in)
		if !slices.EqualFunc(l, [][]byte{a, b, c}, bytes.Equal) || none != x.none {
			t.Errorf("%d: %x, %d of none", i, l, none)
		}
		for j := range l {
			_ = append(l[j], 0xee)
			clear(l[j])
		}
		if !bytes.Equal(in, kept) {
			t.Errorf("%d: memory is shared", i)
		}
	}
}

// P13.2: a frame within a frame is none of its own; within one that is wrong it is found.
func TestAllWithin(t *testing.T) {
	in := framed(1, 5, pattern(5))
	out := framed(2, len(in), in)
	if l, none := frame.All(out); !slices.EqualFunc(l, [][]byte{out}, bytes.Equal) || none != 0 {
		t.Errorf("%x, %d of none", l, none)
	}
	out[len(out)-1] ^= 1
	if l, none := frame.All(out); !slices.EqualFunc(l, [][]byte{in}, bytes.Equal) || none != 9 {
		t.Errorf("%x, %d of none", l, none)
	}
	long := framed(2, 292, pattern(292))
	if l, none := frame.All(long); len(l) != 0 || none != len(long) {
		t.Errorf("one that is too long: %d of none", none)
	}
}

// P13.2: of nothing, nothing; of noise, no frames; of more than 20000 bytes, nothing.
func TestAllOfNoFrames(t *testing.T) {
	for _, n := range []int{0, 1, 4, 5, 8, 9, 1000, 19999, 20000} {
		if l, none := frame.All(make([]byte, n)); len(l) != 0 || none != n {
			t.Errorf("%d: %d of none", n, none)
		}
	}
	a := framed(1, 0, nil)
	full := append(make([]byte, 20000-9), a...)
	if l, none := frame.All(full); !slices.EqualFunc(l, [][]byte{a}, bytes.Equal) || none != 20000-9 {
		t.Errorf("20000 bytes: %d of none", none)
	}
	for _, b := range [][]byte{append(full, 0), append(bytes.Clone(a), make([]byte, 20000)...)} {
		if l, none := frame.All(b); len(l) != 0 || none != 0 {
			t.Errorf("%d bytes: %d of none", len(b), none)
		}
	}
	if l, none := frame.All(bytes.Repeat(a, 2222)); len(l) != 2222 || none != 0 {
		t.Errorf("%d frames, %d of none", len(l), none)
	}
}
