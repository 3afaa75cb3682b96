package mac_test

import (
	"bytes"
	"crypto/hmac"
	"crypto/sha256"
	"encoding/hex"
	"testing"

	"downpour/mac"
)

func want(key, b []byte) []byte {
	h := hmac.New(sha256.New, key)
	h.Write(b)
	return h.Sum(nil)
}

func pattern(n, by int) []byte {
	b := make([]byte, n)
	for i := range b {
		b[i] = byte(i*by + n)
	}
	return b
}

// P3.1: the example.
func TestTagOfExample(t *testing.T) {
	got := hex.EncodeToString(mac.Tag([]byte("Jefe"), []byte("what do ya want for nothing?")))
	if got != "5bdcc146bf60754e6a042426089575c75a003f089d2739839dec58b964ec3843" {
		t.Error(got)
	}
}

// P3.1: keys about the edge of 64 bytes, behind which the key is its Sum.
func TestTagOfKeysOfEveryLength(t *testing.T) {
	for _, n := range []int{0, 1, 31, 32, 33, 63, 64, 65, 66, 128, 200} {
		for _, size := range []int{0, 1, 44, 55, 56, 64, 100} {
			key, b := pattern(n, 7), pattern(size, 11)
			if got := mac.Tag(key, b); !bytes.Equal(got, want(key, b)) {
				t.Errorf("key of %d, %d bytes: %x", n, size, got)
			}
			if !bytes.Equal(key, pattern(n, 7)) || !bytes.Equal(b, pattern(size, 11)) {
				t.Error("what was handed in was changed")
			}
		}
	}
	if !bytes.Equal(mac.Tag(nil, nil), want(nil, nil)) {
		t.Error("no key, nothing")
	}
}

// P3.1, R2: what lies behind a key's length is not touched.
func TestTagKeepsToTheLength(t *testing.T) {
	long := pattern(100, 3)
	mac.Tag(long[:10], long[10:20])
	if !bytes.Equal(long, pattern(100, 3)) {
		t.Error("what lies behind was changed")
	}
}

// P3.1, P3.2: what is tagged is right.
func TestRight(t *testing.T) {
	for _, n := range []int{0, 4, 64, 65} {
		key, b := pattern(n, 5), pattern(50, 9)
		if !mac.Right(key, b, mac.Tag(key, b)) {
			t.Errorf("key of %d", n)
		}
	}
}

// P3.2: with another tag, other bytes or another key it is not.
func TestRightRefuses(t *testing.T) {
	key, b := []byte("a key"), []byte("a text")
	tag := mac.Tag(key, b)
	for i := range tag {
		for bit := range 8 {
			tag[i] ^= 1 << bit
			if mac.Right(key, b, tag) {
				t.Errorf("byte %d, bit %d", i, bit)
			}
			tag[i] ^= 1 << bit
		}
	}
	for i := range tag {
		j := (i + 7) % len(tag)
		tag[i], tag[j] = tag[i]^1, tag[j]^1
		if mac.Right(key, b, tag) {
			t.Errorf("bytes %d and %d", i, j)
		}
		tag[i], tag[j] = tag[i]^1, tag[j]^1
	}
	for _, wrong := range [][]byte{nil, {}, tag[:1], tag[:31], append(bytes.Clone(tag), 0), bytes.Repeat(tag, 2), make([]byte, 32)} {
		if mac.Right(key, b, wrong) {
			t.Errorf("%x", wrong)
		}
	}
	if mac.Right([]byte("a kez"), b, tag) || mac.Right(key, []byte("a texu"), tag) || mac.Right(nil, b, tag) {
		t.Error("another key, or other bytes")
	}
}
