package aes_test

import (
	"testing"

	"bursary/aes"
	"bursary/api"
	"bursary/sha"
	"bursary/testcode"
)

// example are the key and the block of the chapter's example.
func example(t *testing.T) (*aes.Key, aes.Block) {
	t.Helper()
	key := make([]byte, 32)
	for i := range key {
		key[i] = byte(i)
	}
	var b aes.Block
	for i := range b {
		b[i] = byte(i * 0x11)
	}
	k, err := aes.New(key)
	if err != nil {
		t.Fatal(err)
	}
	return k, b
}

// TestAE1 holds blocks and words against those that FIPS 197 lists, and other ciphers make.
func TestAE1(t *testing.T) {
	k, b := example(t)
	got := k.Encrypt(b)
	if testcode.Digits(got[:]) != "8ea2b7ca516745bfeafc49904b496089" {
		t.Errorf("the example: %x", got)
	}
	sum := sha.New()
	for n := range 200 {
		k, err := aes.New(testcode.Some(32, uint32(n)))
		if err != nil {
			t.Fatal(err)
		}
		got := k.Encrypt(aes.Block(testcode.Some(16, uint32(n)+1000)))
		sum.Write(got[:])
		if n == 2 && testcode.Digits(got[:]) != "bc133c338ea15546f929a85062379469" {
			t.Errorf("the third one: %x", got)
		}
	}
	if all := sum.Sum(); testcode.Digits(all[:]) != "112634055aab91417327e60082717e8eadd781ff5159b114c08a74b89d3ce3b3" {
		t.Errorf("two hundred: %x", all)
	}
	// The words of the key in FIPS 197, A.3.
	listed := []byte{
		0x60, 0x3d, 0xeb, 0x10, 0x15, 0xca, 0x71, 0xbe, 0x2b, 0x73, 0xae, 0xf0, 0x85, 0x7d, 0x77, 0x81,
		0x1f, 0x35, 0x2c, 0x07, 0x3b, 0x61, 0x08, 0xd7, 0x2d, 0x98, 0x10, 0xa3, 0x09, 0x14, 0xdf, 0xf4,
	}
	k, err := aes.New(listed)
	if err != nil {
		t.Fatal(err)
	}
	for n, want := range map[int]uint32{
		0: 0x603deb10, 7: 0x0914dff4, 8: 0x9ba35411, 12: 0xa8b09c1a, 16: 0xd59aecb8, 59: 0x706c631e,
		-1: 0, 60: 0, 1 << 40: 0,
	} {
		if got := k.Word(n); got != want {
			t.Errorf("word %d: %x", n, got)
		}
	}
	for _, n := range []int{0, 16, 24, 31, 33} {
		if k, err := aes.New(make([]byte, n)); k != nil || testcode.Of(err) != api.ErrArg {
			t.Errorf("a key of %d bytes: %v", n, err)
		}
	}
}

// TestAE2: of one key unlike blocks are ciphered unlike.
func TestAE2(t *testing.T) {
	k, _ := example(t)
	seen := map[aes.Block]bool{}
	for i := range 16 {
		for x := range 256 {
			var b aes.Block
			b[i] = byte(x)
			if x > 0 || i == 0 {
				seen[k.Encrypt(b)] = true
			}
		}
	}
	if len(seen) != 16*255+1 {
		t.Errorf("%d unlike ones", len(seen))
	}
}

// TestKept: a nil Key is noughts; the key that was handed in stays, and is not looked at any more.
func TestKept(t *testing.T) {
	var none *aes.Key
	if none.Encrypt(aes.Block{1}) != (aes.Block{}) || none.Word(0) != 0 {
		t.Error("a nil Key")
	}
	key := testcode.Some(32, 1)
	k, _ := aes.New(key)
	first := k.Encrypt(aes.Block{1})
	clear(key)
	if k.Encrypt(aes.Block{1}) != first {
		t.Error("the key is kept")
	}
}
