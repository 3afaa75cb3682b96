package manifest_test

import (
	"bytes"
	"math"
	"slices"
	"testing"

	"downpour/api"
	"downpour/mac"
	"downpour/manifest"
)

func hash(n int) []byte {
	b := make([]byte, n)
	for i := range b {
		b[i] = byte(0x80 + i)
	}
	return b
}

func right() []api.Manifest {
	return []api.Manifest{
		{Session: 1, Version: 2, Length: 3, Size: 4, P: 5, Hash: hash(32)},
		{Session: math.MaxUint32, Version: math.MaxUint32, Length: 512, Size: 16, P: 16, Hash: bytes.Repeat([]byte{0xff}, 32)},
		{Session: 0, Version: 0, Length: 1, Size: 1, P: 0, Hash: make([]byte, 32)},
		{Session: 0x01020304, Version: 0x05060708, Length: 0x0109, Size: 10, P: 11, Hash: hash(32)},
		{Session: 9, Version: 9, Length: 64, Size: 1, P: 0, Hash: hash(32)},
		{Session: 9, Version: 9, Length: 512, Size: 8, P: 1, Hash: hash(32)},
	}
}

func wrong() []api.Manifest {
	return []api.Manifest{
		{},
		{Session: 1, Version: 2, Length: 0, Size: 4, P: 5, Hash: hash(32)},
		{Session: 1, Version: 2, Length: -1, Size: 4, P: 5, Hash: hash(32)},
		{Session: 1, Version: 2, Length: 513, Size: 16, P: 5, Hash: hash(32)},
		{Session: 1, Version: 2, Length: 65536 + 3, Size: 4, P: 5, Hash: hash(32)},
		{Session: 1, Version: 2, Length: 65, Size: 1, P: 5, Hash: hash(32)},
		{Session: 1, Version: 2, Length: 3, Size: 0, P: 5, Hash: hash(32)},
		{Session: 1, Version: 2, Length: 3, Size: 17, P: 5, Hash: hash(32)},
		{Session: 1, Version: 2, Length: 3, Size: 256 + 4, P: 5, Hash: hash(32)},
		{Session: 1, Version: 2, Length: 3, Size: 4, P: -1, Hash: hash(32)},
		{Session: 1, Version: 2, Length: 3, Size: 4, P: 17, Hash: hash(32)},
		{Session: 1, Version: 2, Length: 3, Size: 4, P: 5},
		{Session: 1, Version: 2, Length: 3, Size: 4, P: 5, Hash: hash(31)},
		{Session: 1, Version: 2, Length: 3, Size: 4, P: 5, Hash: hash(33)},
	}
}

// words are the bytes of what stands in the fields, may it or not.
func words(m api.Manifest) []byte {
	b := []byte{}
	for _, x := range []uint32{m.Session, m.Version} {
		b = append(b, byte(x>>24), byte(x>>16&255), byte(x>>8&255), byte(x&255))
	}
	return append(append(b, byte(m.Length/256), byte(m.Length%256), byte(m.Size), byte(m.P)), m.Hash...)
}

// writable tells whether the words of m are those of no other manifest.
func writable(m api.Manifest) bool {
	return m.Length >= 0 && m.Length < 65536 && m.Size >= 0 && m.Size < 256 && m.P >= 0 && m.P < 256
}

func zero(m api.Manifest) bool {
	return m.Session == 0 && m.Version == 0 && m.Length == 0 && m.Size == 0 && m.P == 0 && len(m.Hash) == 0
}

// P14.1: what may be, and what may not.
func TestMay(t *testing.T) {
	for _, m := range right() {
		if !manifest.May(m) {
			t.Errorf("%+v may be", m)
		}
	}
	for _, m := range wrong() {
		if manifest.May(m) {
			t.Errorf("%+v may not be", m)
		}
	}
}

// P14.1: Same looks at all fields, and at nothing else.
func TestSame(t *testing.T) {
	a := right()[0]
	for i, change := range []func(m *api.Manifest){
		func(m *api.Manifest) { m.Session++ },
		func(m *api.Manifest) { m.Version++ },
		func(m *api.Manifest) { m.Length++ },
		func(m *api.Manifest) { m.Size++ },
		func(m *api.Manifest) { m.P++ },
		func(m *api.Manifest) { m.Hash = nil },
		func(m *api.Manifest) { m.Hash = hash(31) },
		func(m *api.Manifest) { m.Hash = slices.Clone(m.Hash); m.Hash[31]++ },
		func(m *api.Manifest) { m.Hash = slices.Clone(m.Hash); m.Hash[0]++ },
	} {
		b := right()[0]
		if !manifest.Same(a, b) {
			t.Fatal("they are the same")
		}
		change(&b)
		if manifest.Same(a, b) || manifest.Same(b, a) || !manifest.Same(b, b) {
			t.Errorf("change %d", i)
		}
	}
	if !manifest.Same(api.Manifest{}, api.Manifest{Hash: []byte{}}) {
		t.Error("nil and empty lists are one")
	}
}

// P14.1: 44 bytes, as the words say.
func TestPlain(t *testing.T) {
	want := append([]byte{1, 2, 3, 4, 5, 6, 7, 8, 1, 9, 10, 11}, hash(32)...)
	if b, e := manifest.Plain(right()[3]); e != api.OK || !bytes.Equal(b, want) {
		t.Errorf("%x %d", b, e)
	}
	for _, m := range right() {
		b, e := manifest.Plain(m)
		if e != api.OK || len(b) != 44 || !bytes.Equal(b, words(m)) {
			t.Errorf("%+v: %x %d", m, b, e)
		}
		kept := bytes.Clone(m.Hash)
		clear(b)
		if !bytes.Equal(m.Hash, kept) {
			t.Error("memory is shared")
		}
	}
	for _, m := range wrong() {
		if b, e := manifest.Plain(m); e != api.ErrArg || b != nil {
			t.Errorf("%+v: %x %d", m, b, e)
		}
	}
}

// P14.1, P14.3: what is written is read as it was, in memory of its own.
func TestRead(t *testing.T) {
	for _, m := range right() {
		b := words(m)
		got, e := manifest.Read(b)
		if e != api.OK || !manifest.Same(got, m) {
			t.Errorf("%+v: %+v %d", m, got, e)
		}
		clear(got.Hash)
		if !bytes.Equal(b, words(m)) {
			t.Error("memory is shared")
		}
	}
}

// P14.1: other lengths, and what may not be, are refused.
func TestReadRefuses(t *testing.T) {
	good := words(right()[0])
	bad := [][]byte{nil, {}, good[:1], good[:43], append(bytes.Clone(good), 0), make([]byte, 44)}
	for _, m := range wrong() {
		if writable(m) {
			bad = append(bad, words(m))
		}
	}
	for _, b := range bad {
		if m, e := manifest.Read(b); e != api.ErrForm || !zero(m) {
			t.Errorf("%x: %+v %d", b, m, e)
		}
	}
}

// P14.2, P14.3: Plain, and the key's tag of it; read back by the same key.
func TestBytesAndParse(t *testing.T) {
	for _, key := range [][]byte{nil, []byte("key"), hash(64), hash(65)} {
		for _, m := range right() {
			b, e := manifest.Bytes(key, m)
			if e != api.OK || !bytes.Equal(b, append(words(m), mac.Tag(key, words(m))...)) || len(b) != 76 {
				t.Errorf("%+v: %x %d", m, b, e)
			}
			kept := bytes.Clone(b)
			got, e := manifest.Parse(key, b)
			if e != api.OK || !manifest.Same(got, m) {
				t.Errorf("%+v: %+v %d", m, got, e)
			}
			clear(got.Hash)
			if !bytes.Equal(b, kept) {
				t.Error("memory is shared")
			}
		}
		for _, m := range wrong() {
			if b, e := manifest.Bytes(key, m); e != api.ErrArg || b != nil {
				t.Errorf("%+v: %x %d", m, b, e)
			}
		}
	}
}

// P14.2: of another length: ErrForm, whatever the tag; then ErrTag; then what Read says.
func TestParseRefuses(t *testing.T) {
	key := []byte("key")
	good, _ := manifest.Bytes(key, right()[0])
	refuse := func(key, b []byte, want api.Errno) {
		t.Helper()
		if m, e := manifest.Parse(key, b); e != want || !zero(m) {
			t.Errorf("%x: %+v %d, not %d", b, m, e, want)
		}
	}
	for _, b := range [][]byte{nil, {}, good[:44], good[:75], append(bytes.Clone(good), 0), append(good[:40:40], mac.Tag(key, good[:40])...)} {
		refuse(key, b, api.ErrForm)
	}
	for i := range good {
		for bit := range 8 {
			good[i] ^= 1 << bit
			refuse(key, good, api.ErrTag)
			good[i] ^= 1 << bit
		}
	}
	refuse([]byte("kez"), good, api.ErrTag)
	refuse(nil, good, api.ErrTag)
	refuse(key, make([]byte, 76), api.ErrTag)
	for _, m := range wrong() {
		if b := words(m); len(b) == 44 && writable(m) {
			refuse(key, append(b, mac.Tag(key, b)...), api.ErrForm)
		}
	}
}
