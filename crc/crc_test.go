package crc_test

import (
	"bytes"
	"encoding/binary"
	"hash/crc32"
	"testing"

	"downpour/crc"
)

// texts are bytes of many lengths and kinds.
func texts() [][]byte {
	l := [][]byte{nil, {}, {0}, {0xff}, []byte("a"), []byte("123456789"), make([]byte, 64), bytes.Repeat([]byte{0xff}, 65)}
	b := []byte{}
	for i := range 300 {
		b = append(b, byte(i*i+7*i))
	}
	return append(l, b)
}

// P1.1: the example, and the known CRC-32 of much else.
func TestSumIsCRC32(t *testing.T) {
	if got := crc.Sum([]byte("123456789")); got != 0xcbf43926 {
		t.Errorf("example: %x", got)
	}
	for _, b := range texts() {
		if got, want := crc.Sum(b), crc32.ChecksumIEEE(b); got != want {
			t.Errorf("%x: %x, not %x", b, got, want)
		}
	}
}

// P1.1: a sum goes on where another ended.
func TestAddGoesOn(t *testing.T) {
	for _, b := range texts() {
		want := crc32.ChecksumIEEE(b)
		if crc.Add(0, b) != want || crc.Add(want, nil) != want {
			t.Errorf("%x: from nothing, or with nothing", b)
		}
		for i := range len(b) + 1 {
			if got := crc.Add(crc.Sum(b[:i]), b[i:]); got != want {
				t.Errorf("%x cut at %d: %x", b, i, got)
			}
		}
	}
}

// P1.2: the sum stands behind, its highest byte first, in memory of its own.
func TestPut(t *testing.T) {
	for _, b := range texts() {
		want := binary.BigEndian.AppendUint32(bytes.Clone(b), crc32.ChecksumIEEE(b))
		if got := crc.Put(b); !bytes.Equal(got, want) {
			t.Errorf("%x: %x", b, got)
		}
	}
	b := []byte{1, 2, 3, 4, 5, 6, 7, 8, 9}
	p := crc.Put(b[:3])
	p[0] = 0xee
	if !bytes.Equal(b, []byte{1, 2, 3, 4, 5, 6, 7, 8, 9}) {
		t.Errorf("what was handed in was changed: %x", b)
	}
}

// P1.2: what was put is right, and told in memory of its own.
func TestRight(t *testing.T) {
	for _, b := range texts() {
		p := crc.Put(b)
		got, ok := crc.Right(p)
		if !ok || !bytes.Equal(got, b) {
			t.Errorf("%x: %x %v", b, got, ok)
		}
		for i := range got {
			got[i]++
		}
		if again, ok := crc.Right(p); !ok || !bytes.Equal(again, b) {
			t.Errorf("%x: memory is shared", b)
		}
	}
	if got, ok := crc.Right([]byte{0, 0, 0, 0}); !ok || len(got) != 0 {
		t.Error("the sum of nothing is 0")
	}
}

// P1.2: what is too short, or has another sum, is not right.
func TestRightRefuses(t *testing.T) {
	for _, b := range [][]byte{nil, {}, {0}, {0, 0, 0}, {0, 0, 0, 1}, {0xff, 0xff, 0xff, 0xff}, []byte("1234567890000"), []byte("a\x43\xbe\xb7\xe8")} {
		if got, ok := crc.Right(b); ok || len(got) != 0 {
			t.Errorf("%x: %x %v", b, got, ok)
		}
	}
}

// P1.3: one byte changed, wherever and however, is told.
func TestOneByteIsTold(t *testing.T) {
	p := crc.Put([]byte("rain from the sky"))
	for i := range p {
		for x := 1; x < 256; x++ {
			p[i] ^= byte(x)
			if got, ok := crc.Right(p); ok || len(got) != 0 {
				t.Errorf("byte %d by %x: %x", i, x, got)
			}
			p[i] ^= byte(x)
		}
	}
}
