package digest_test

import (
	"bytes"
	"crypto/sha256"
	"encoding/hex"
	"testing"

	"downpour/digest"
)

func pattern(n int) []byte {
	b := make([]byte, n)
	for i := range b {
		b[i] = byte(i*31 + i/256 + 5)
	}
	return b
}

// P2.1: the example, and the texts that FIPS 180-4 is known by.
func TestSumOfKnownTexts(t *testing.T) {
	for text, want := range map[string]string{
		"":    "e3b0c44298fc1c149afbf4c8996fb92427ae41e4649b934ca495991b7852b855",
		"abc": "ba7816bf8f01cfea414140de5dae2223b00361a396177a9cb410ff61f20015ad",
		"abcdbcdecdefdefgefghfghighijhijkijkljklmklmnlmnomnopnopq": "248d6a61d20638b8e5c026930c3e6039a33ce45964ff2167f6ecedd419db06c1",
	} {
		if got := hex.EncodeToString(digest.Sum([]byte(text))); got != want {
			t.Errorf("%q: %s", text, got)
		}
	}
}

// P2.1: every length about the edges of a block, where what is filled up differs.
func TestSumOfEveryLength(t *testing.T) {
	for n := range 400 {
		b := pattern(n)
		want := sha256.Sum256(b)
		if got := digest.Sum(b); !bytes.Equal(got, want[:]) {
			t.Errorf("%d bytes: %x", n, got)
		}
	}
	b := pattern(70000)
	want := sha256.Sum256(b)
	if got := digest.Sum(b); !bytes.Equal(got, want[:]) {
		t.Errorf("many bytes: %x", got)
	}
}

// P2.2, P2.3: however it is cut in rows, the sum is the same.
func TestRowsAreOneBehindTheOther(t *testing.T) {
	b := pattern(150)
	want := digest.Sum(b)
	for i := range len(b) + 1 {
		for _, j := range []int{i, min(i+1, len(b)), (i + len(b)) / 2, len(b)} {
			if got := digest.Rows([][]byte{b[:i], nil, b[i:j], {}, b[j:]}); !bytes.Equal(got, want) {
				t.Errorf("cut at %d and %d: %x", i, j, got)
			}
		}
	}
	single := [][]byte{}
	for i := range b {
		single = append(single, b[i:i+1])
	}
	if !bytes.Equal(digest.Rows(single), want) || !bytes.Equal(digest.Rows([][]byte{b}), want) {
		t.Error("rows of one byte, or one row")
	}
}

// P2.2: no rows, or empty ones, are nothing; their order counts.
func TestRowsOfNothing(t *testing.T) {
	nothing := digest.Sum(nil)
	for _, l := range [][][]byte{nil, {}, {nil}, {{}, nil, {}}} {
		if !bytes.Equal(digest.Rows(l), nothing) {
			t.Errorf("%v", l)
		}
	}
	if bytes.Equal(digest.Rows([][]byte{{1}, {2}}), digest.Rows([][]byte{{2}, {1}})) {
		t.Error("order does not count")
	}
}

// P2.1, R2, R6: what is told is the caller's own, and the next call tells the same.
func TestSumIsNewMemory(t *testing.T) {
	b := pattern(80)
	a := digest.Sum(b)
	want := bytes.Clone(a)
	for i := range a {
		a[i] = 0
	}
	if !bytes.Equal(digest.Sum(b), want) || !bytes.Equal(b, pattern(80)) {
		t.Error("memory is shared")
	}
}
