package sha_test

import (
	"bytes"
	"testing"

	"bursary/sha"
	"bursary/testcode"
)

// digits is a sum as hexadecimal digits.
func digits(sum [sha.Size]byte) string { return testcode.Digits(sum[:]) }

// TestHA1 holds sums against those that SHA-256 has, about the ends of blocks above all.
func TestHA1(t *testing.T) {
	for _, c := range []struct {
		n    int
		want string
	}{
		{0, "e3b0c44298fc1c149afbf4c8996fb92427ae41e4649b934ca495991b7852b855"},
		{1, "dabd3aff769f07eb2965401eb029974ebba3407afd02b26ddb564ea5f8efae72"},
		{3, "0040275ff6f0c231032f5ea0b1c89f7b357a41859cd12976dcba4d9f5cb3a761"},
		{55, "fbbd36c94cdeaa393ba2301164cdbc0cd22b2d73e63dfa2cf7c3ea0332a9290f"},
		{56, "d9a584f46d43d951ea0bd222ccdcf7e116ee5482058018f35b76107d5be0a4d1"},
		{57, "88877cfc57a93b2e75773cef85cec201bed54e6421d3d2750a3e9fe4134b1c71"},
		{63, "cbb647c388d0f31dd465dfd7a13f3fd4c48d128b1fff1781ef9af67e5ee6b881"},
		{64, "e4c43bac5d0736d173331ba9f4b2520ec4b822c34976a19ab24c5e3ea2e75541"},
		{65, "a77960926b5775f1d4db76b80b06bc7afeaa8d1cc8892b34eea7d168ab54ab98"},
		{119, "dba1654c6c1d2fba2a05d408c0133dec778102aaf6acb8c6a5c63747046695a4"},
		{120, "0948a2a962a919552388c790f3ff3e3a9a59b9d0cc2150f39d44000f041b819f"},
		{127, "c3a55802b1d5e74e3802178843f2e7b714eaa48806d4dd98838270cd592742f8"},
		{128, "a46949b549b016c00294f674f78eb6895957eefb837bb5becaa97f3fe24d919a"},
		{1000, "f438db7fa7243024503ed9da533e7c3136d5ffa8c9cd321f8004b63c686ff2e9"},
	} {
		if got := digits(sha.Sum(testcode.Some(c.n, uint32(c.n)))); got != c.want {
			t.Errorf("of %d bytes: %s", c.n, got)
		}
	}
	if got := digits(sha.Sum([]byte("abc"))); got != "ba7816bf8f01cfea414140de5dae2223b00361a396177a9cb410ff61f20015ad" {
		t.Errorf("of abc: %s", got)
	}
	if got := digits(sha.Sum(bytes.Repeat([]byte("a"), 1000000))); got != "cdc76e5c9914fb9281a1c7e284d73e67f1809a48a497200e046d39ccc7112cd0" {
		t.Errorf("of a million: %s", got)
	}
	h := sha.New()
	for n := range 300 {
		sum := sha.Sum(testcode.Some(n, uint32(n)))
		h.Write(sum[:])
	}
	if got := digits(h.Sum()); got != "a61cca6caf9f019d24355782101e32fd75ffceaaa5fc2e9407843a140cab7b0a" {
		t.Errorf("of the sums of all lengths: %s", got)
	}
}

// TestWrittenOn: behind a sum more can be written, and a clone goes on by its own.
func TestWrittenOn(t *testing.T) {
	h := sha.New()
	h.Write([]byte("ab"))
	if h.Sum() != sha.Sum([]byte("ab")) || h.Sum() != sha.Sum([]byte("ab")) {
		t.Error("asked twice")
	}
	c := h.Clone()
	h.Write([]byte("c"))
	c.Write([]byte("d"))
	if h.Sum() != sha.Sum([]byte("abc")) || c.Sum() != sha.Sum([]byte("abd")) {
		t.Error("a clone and its like are one")
	}
}

// TestHA2 writes the same bytes in all ways of two and three pieces.
func TestHA2(t *testing.T) {
	all := testcode.Some(200, 9)
	want := sha.Sum(all)
	for i := range all {
		h := sha.New()
		h.Write(all[:i])
		h.Write(nil)
		h.Write(all[i:])
		if h.Sum() != want {
			t.Fatalf("cut at %d", i)
		}
	}
	for step := 1; step < 150; step += 7 {
		h := sha.New()
		for i := 0; i < len(all); i += step {
			h.Write(all[i:min(i+step, len(all))])
		}
		if h.Sum() != want {
			t.Fatalf("in pieces of %d", step)
		}
	}
	if !bytes.Equal(all, testcode.Some(200, 9)) {
		t.Error("what was written is changed")
	}
}

// TestNilHash: a nil Hash does nothing.
func TestNilHash(t *testing.T) {
	var h *sha.Hash
	h.Write([]byte("a"))
	if h.Sum() != [sha.Size]byte{} || h.Clone() != nil {
		t.Error("a nil Hash")
	}
}
