package packet_test

import (
	"bytes"
	"math"
	"testing"

	"downpour/api"
	"downpour/packet"
)

func data(n int) []byte {
	b := make([]byte, n)
	for i := range b {
		b[i] = byte(0x90 + i)
	}
	return b
}

func symbols() []api.Symbol {
	l := []api.Symbol{{Session: math.MaxUint32, Id: 0, Data: data(5)}, {Session: 0, Id: math.MaxUint32, Data: data(5)}}
	for n := 1; n <= 16; n++ {
		l = append(l, api.Symbol{Session: 0x01020304, Id: 0x0a0b0c0d, Data: data(n)})
	}
	return l
}

func zero(s api.Symbol) bool { return s.Session == 0 && s.Id == 0 && len(s.Data) == 0 }

// P15.1: the example, and the words.
func TestBytes(t *testing.T) {
	if b, e := packet.Bytes(api.Symbol{Session: 1, Id: 2, Data: []byte{3}}); e != api.OK || !bytes.Equal(b, []byte{0, 0, 0, 1, 0, 0, 0, 2, 3}) {
		t.Errorf("example: %x %d", b, e)
	}
	s := api.Symbol{Session: 0x01020304, Id: 0xfafbfcfd, Data: data(16)}
	b, e := packet.Bytes(s)
	if e != api.OK || !bytes.Equal(b, append([]byte{1, 2, 3, 4, 0xfa, 0xfb, 0xfc, 0xfd}, data(16)...)) {
		t.Errorf("%x %d", b, e)
	}
	clear(b)
	if !bytes.Equal(s.Data, data(16)) {
		t.Error("memory is shared")
	}
	for _, n := range []int{0, 17, 18, 300} {
		if b, e := packet.Bytes(api.Symbol{Session: 1, Id: 2, Data: data(n)}); e != api.ErrArg || b != nil {
			t.Errorf("%d bytes: %x %d", n, b, e)
		}
	}
	if b, e := packet.Bytes(api.Symbol{}); e != api.ErrArg || b != nil {
		t.Errorf("nothing: %x %d", b, e)
	}
}

// P15.1, P15.2: what is written is read as it was, in memory of its own.
func TestParse(t *testing.T) {
	for _, s := range symbols() {
		b, e := packet.Bytes(s)
		if e != api.OK {
			t.Errorf("%+v: %d", s, e)
		}
		kept := bytes.Clone(b)
		got, e := packet.Parse(b)
		if e != api.OK || !packet.Same(got, s) {
			t.Errorf("%+v: %+v %d", s, got, e)
		}
		_ = append(got.Data, 0xee)
		clear(got.Data)
		if !bytes.Equal(b, kept) {
			t.Error("memory is shared")
		}
	}
}

// P15.1: less than nine bytes, or more than 24.
func TestParseRefuses(t *testing.T) {
	for n := range 60 {
		want := api.OK
		if n < 9 {
			want = api.ErrShort
		} else if n > 24 {
			want = api.ErrForm
		}
		s, e := packet.Parse(data(n))
		if e != want || e != api.OK && !zero(s) {
			t.Errorf("%d bytes: %+v %d, not %d", n, s, e, want)
		}
	}
	if s, e := packet.Parse(nil); e != api.ErrShort || !zero(s) {
		t.Errorf("nothing: %+v %d", s, e)
	}
}

// P15.1: Same looks at all fields, and at nothing else.
func TestSame(t *testing.T) {
	a := api.Symbol{Session: 1, Id: 2, Data: data(4)}
	if !packet.Same(a, api.Symbol{Session: 1, Id: 2, Data: data(4)}) || !packet.Same(api.Symbol{}, api.Symbol{Data: []byte{}}) {
		t.Error("they are the same")
	}
	for _, b := range []api.Symbol{{}, {Session: 2, Id: 2, Data: data(4)}, {Session: 1, Id: 1, Data: data(4)}, {Session: 1, Id: 2, Data: data(3)}, {Session: 1, Id: 2, Data: data(5)}, {Session: 1, Id: 2, Data: make([]byte, 4)}, {Session: 1, Id: 2}} {
		if packet.Same(a, b) || packet.Same(b, a) {
			t.Errorf("%+v", b)
		}
	}
}

// P15.1: what does not fit is told, by the first sentence that applies.
func TestFits(t *testing.T) {
	p := api.Params{Session: 7, K: 3, P: 2, Size: 5}
	bad := api.Params{Session: 8, K: 0, P: 2, Size: 5}
	for i, c := range []struct {
		s    api.Symbol
		p    api.Params
		want api.Errno
	}{
		{api.Symbol{Session: 7, Id: 0, Data: data(5)}, p, api.OK},
		{api.Symbol{Session: 7, Id: math.MaxUint32, Data: data(5)}, p, api.OK},
		{api.Symbol{Session: 7, Data: data(4)}, p, api.ErrForm},
		{api.Symbol{Session: 7, Data: data(6)}, p, api.ErrForm},
		{api.Symbol{Session: 7}, p, api.ErrForm},
		{api.Symbol{Session: 8, Data: data(5)}, p, api.ErrOther},
		{api.Symbol{Session: 8, Data: data(4)}, p, api.ErrOther},
		{api.Symbol{Session: 8, Data: data(5)}, bad, api.ErrArg},
		{api.Symbol{Session: 7, Data: data(4)}, bad, api.ErrArg},
		{api.Symbol{}, api.Params{}, api.ErrArg},
		{api.Symbol{Session: 7, Data: data(5)}, api.Params{Session: 7, K: 65, P: 0, Size: 5}, api.ErrArg},
		{api.Symbol{Session: 7, Data: data(5)}, api.Params{Session: 7, K: 1, P: 17, Size: 5}, api.ErrArg},
		{api.Symbol{Session: 7, Data: data(17)}, api.Params{Session: 7, K: 1, P: 1, Size: 17}, api.ErrArg},
	} {
		if got := packet.Fits(c.s, c.p); got != c.want {
			t.Errorf("%d: %d, not %d", i, got, c.want)
		}
	}
}
