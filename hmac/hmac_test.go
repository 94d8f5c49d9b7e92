package hmac_test

import (
	"bytes"
	"testing"

	"bursary/hmac"
	"bursary/sha"
	"bursary/testcode"
)

// digits is a sum as hexadecimal digits.
func digits(sum [sha.Size]byte) string { return testcode.Digits(sum[:]) }

// TestHM1 holds sums against those of HMAC with SHA-256: keys about the end of a block above all.
func TestHM1(t *testing.T) {
	for _, c := range []struct {
		key, n int
		want   string
	}{
		{0, 0, "b613679a0814d9ec772f95d778c35fc5ff1697c493715653c6c712144292c5ad"},
		{1, 1, "f27759424e33d15fcd174009438e6e9dc6a52275d9b71f5b87fad8dbadfc912b"},
		{32, 100, "67a2640e945a43a962ab4e6ce52634006dbd751b0e63026f233e007d19f465c4"},
		{63, 64, "9700dfb68427661ee17209b7eb8f2d09f746666c86de61a23fdbdf853b65c7e0"},
		{64, 65, "ca6b713323f5ec61b6b006409475009d9ff3fd328e747ef6072f290f6d54c798"},
		{65, 1, "efbd5a24a37c6ab2a03379ad6c4a0c29cd0ba663047635a8f2437dad8f2bfd1b"},
		{131, 54, "389c880a35716a8b6622218c9f53eab12d90773097a8e5d602672bcb6d2d1919"},
		{200, 0, "a96b44142276cdfc4a8d9bb65b1f107dc7580bfd58bc5cb8b3d021a4a2920369"},
	} {
		if got := digits(hmac.Mac(testcode.Some(c.key, 1), testcode.Some(c.n, 2))); got != c.want {
			t.Errorf("a key of %d, %d bytes: %s", c.key, c.n, got)
		}
	}
	if got := digits(hmac.Mac([]byte("Jefe"), []byte("what do ya want for nothing?"))); got != "5bdcc146bf60754e6a042426089575c75a003f089d2739839dec58b964ec3843" {
		t.Errorf("a vector of RFC 4231: %s", got)
	}
	k := hmac.New([]byte("key"))
	if k.Sum() != hmac.Mac([]byte("key"), nil) {
		t.Error("nothing written")
	}
	k.Write([]byte("a"))
	if k.Sum() != hmac.Mac([]byte("key"), []byte("a")) || k.Sum() != hmac.Mac([]byte("key"), []byte("a")) {
		t.Error("asked twice")
	}
	k.Write([]byte("b"))
	if k.Sum() != hmac.Mac([]byte("key"), []byte("ab")) {
		t.Error("more written behind a sum")
	}
	got := digits(hmac.Parts([]byte("k"), []byte("ab"), nil, testcode.Some(258, 3)))
	if got != "94520b1b3cca7d68756d62c39a18b1525c612b87f53ecf0de74448acceffe784" {
		t.Errorf("parts: %s", got)
	}
	for n, head := range map[int][]byte{70000: {0, 1, 0x11, 0x70}, 1<<24 + 2: {1, 0, 0, 2}} {
		long := make([]byte, n)
		if hmac.Parts([]byte("k"), long) != hmac.Mac([]byte("k"), append(head, long...)) {
			t.Errorf("a part of %d bytes", n)
		}
	}
	if hmac.Parts([]byte("k")) != hmac.Mac([]byte("k"), nil) {
		t.Error("no parts")
	}
}

// TestHM2 writes the same bytes in pieces, and cuts the same bytes into unlike parts.
func TestHM2(t *testing.T) {
	key, all := testcode.Some(40, 1), testcode.Some(150, 2)
	for i := range all {
		k := hmac.New(key)
		k.Write(all[:i])
		k.Write(all[i:])
		if k.Sum() != hmac.Mac(key, all) {
			t.Fatalf("cut at %d", i)
		}
	}
	seen := map[[sha.Size]byte]int{}
	for i := range 151 {
		seen[hmac.Parts(key, all[:i], all[i:])] = i
	}
	seen[hmac.Parts(key, all)] = -1
	seen[hmac.Parts(key, all, nil)] = -2
	seen[hmac.Parts(key, nil, nil, all)] = -3
	if len(seen) != 153 { // all and nothing behind it was there
		t.Errorf("unlike parts have one sum: %d", len(seen))
	}
	if !bytes.Equal(key, testcode.Some(40, 1)) || !bytes.Equal(all, testcode.Some(150, 2)) {
		t.Error("what was handed in is changed")
	}
}

// TestNilKeyed: a nil Keyed does nothing.
func TestNilKeyed(t *testing.T) {
	var k *hmac.Keyed
	k.Write([]byte("a"))
	if k.Sum() != [sha.Size]byte{} {
		t.Error("a nil Keyed")
	}
}
