package gcm_test

import (
	"bytes"
	"testing"

	"bursary/api"
	"bursary/gcm"
	"bursary/sha"
	"bursary/testcode"
)

func newKey(t *testing.T, key []byte) *gcm.Key {
	t.Helper()
	k, err := gcm.New(key)
	if err != nil {
		t.Fatal(err)
	}
	return k
}

// TestGC1Sealed holds boxes against those that other ciphers make.
func TestGC1Sealed(t *testing.T) {
	zero := newKey(t, make([]byte, 32))
	box, err := zero.Seal(make([]byte, 12), nil, nil)
	if err != nil || testcode.Digits(box) != "530f8afbc74536b9a963b4f1c4cb738b" {
		t.Errorf("the example: %x %v", box, err)
	}
	box, err = zero.Seal(make([]byte, 12), make([]byte, 16), nil)
	if err != nil || testcode.Digits(box) != "cea7403d4d606b6e074ec5d3baf39d18d0d1c8a799996bf0265b98b5d48ab919" {
		t.Errorf("a block of noughts: %x %v", box, err)
	}
	sum := sha.New()
	for n := range 100 {
		k := newKey(t, testcode.Some(32, uint32(n)))
		box, err := k.Seal(testcode.Some(12, uint32(n)+1), testcode.Some(n, uint32(n)+2), testcode.Some(n*7%40, uint32(n)+3))
		if err != nil {
			t.Fatal(err)
		}
		sum.Write(box)
		if n == 18 && testcode.Digits(box) != "5926fbc031615f0ae58a2ac264c176878a7c0c09d77c7742ee4602d949d001f48d7d" {
			t.Errorf("18 bytes: %x", box)
		}
	}
	if all := sum.Sum(); testcode.Digits(all[:]) != "66242083ed84db3ff565b6efad4a8a308ebaab50d5f3cbc87f30f90085df2ba9" {
		t.Errorf("a hundred boxes: %x", all)
	}
	box, err = newKey(t, testcode.Some(32, 5)).Seal(testcode.Some(12, 6), testcode.Some(2048, 7), testcode.Some(2048, 8))
	if !newKey(t, testcode.Some(32, 5)).Opens(testcode.Some(12, 6), box, testcode.Some(2048, 8)) {
		t.Error("as much as can be sealed is not opened")
	}
	if all := sha.Sum(box); err != nil || testcode.Digits(all[:]) != "a820345caf7809a11abe8324ed7a302053e52a17b56b646145cd8edd76fda3bf" {
		t.Errorf("as much as can be sealed: %x %v", all, err)
	}
}

// TestGC1Refused asks with what may not be.
func TestGC1Refused(t *testing.T) {
	for _, n := range []int{0, 16, 31, 33} {
		if k, err := gcm.New(make([]byte, n)); k != nil || testcode.Of(err) != api.ErrArg {
			t.Errorf("a key of %d bytes: %v", n, err)
		}
	}
	k, nonce := newKey(t, testcode.Some(32, 1)), testcode.Some(12, 2)
	for name, c := range map[string]struct{ nonce, plain, aad []byte }{
		"no nonce": {nil, nil, nil}, "a nonce of 11": {testcode.Some(11, 1), nil, nil}, "a nonce of 13": {testcode.Some(13, 1), nil, nil},
		"long bytes": {nonce, make([]byte, 2049), nil}, "long bytes beside": {nonce, nil, make([]byte, 2049)},
	} {
		if box, err := k.Seal(c.nonce, c.plain, c.aad); box != nil || testcode.Of(err) != api.ErrArg {
			t.Errorf("Seal, %s: %x %v", name, box, err)
		}
	}
	for name, c := range map[string]struct {
		nonce, box, aad []byte
		want            api.Errno
	}{
		"no nonce": {nil, nil, nil, api.ErrArg}, "a nonce of 13": {testcode.Some(13, 1), make([]byte, 15), nil, api.ErrArg},
		"a long box": {nonce, make([]byte, 2065), nil, api.ErrArg}, "long bytes beside": {nonce, nil, make([]byte, 2049), api.ErrArg},
		"a short box": {nonce, make([]byte, 15), nil, api.ErrIntegrity}, "no box": {nonce, nil, nil, api.ErrIntegrity},
		"another tag": {nonce, make([]byte, 16), nil, api.ErrIntegrity}, "the longest box": {nonce, make([]byte, 2064), nil, api.ErrIntegrity},
	} {
		if out, err := k.Open(c.nonce, c.box, c.aad); out != nil || testcode.Of(err) != c.want {
			t.Errorf("Open, %s: %x %v", name, out, err)
		}
		if k.Opens(c.nonce, c.box, c.aad) {
			t.Errorf("Opens, %s", name)
		}
	}
	var none *gcm.Key
	if _, err := none.Seal(nonce, nil, nil); testcode.Of(err) != api.ErrArg {
		t.Error("Seal of a nil Key")
	}
	if _, err := none.Open(nonce, make([]byte, 16), nil); testcode.Of(err) != api.ErrArg || none.Opens(nonce, make([]byte, 16), nil) {
		t.Error("Open of a nil Key")
	}
}

// TestGC2 opens what was sealed, and nothing else.
func TestGC2(t *testing.T) {
	k, nonce, aad := newKey(t, testcode.Some(32, 1)), testcode.Some(12, 2), testcode.Some(21, 3)
	for _, n := range []int{0, 1, 15, 16, 17, 33, 100, 2048} {
		plain := testcode.Some(n, uint32(n))
		box, err := k.Seal(nonce, plain, aad)
		if err != nil || len(box) != n+16 {
			t.Fatalf("Seal of %d: %v", n, err)
		}
		out, err := k.Open(nonce, box, aad)
		if err != nil || !bytes.Equal(out, plain) || !k.Opens(nonce, box, aad) {
			t.Fatalf("Open of %d: %x %v", n, out, err)
		}
	}
	box, _ := k.Seal(nonce, testcode.Some(20, 4), aad)
	for i := range box {
		for bit := range 8 {
			other := bytes.Clone(box)
			other[i] ^= 1 << bit
			if k.Opens(nonce, other, aad) {
				t.Fatalf("byte %d, bit %d turned", i, bit)
			}
		}
	}
	for i := range nonce {
		other := bytes.Clone(nonce)
		other[i] ^= 1
		if k.Opens(other, box, aad) {
			t.Fatalf("another nonce at %d", i)
		}
	}
	for i := range aad {
		other := bytes.Clone(aad)
		other[i] ^= 1
		if k.Opens(nonce, box, other) || k.Opens(nonce, box, aad[:i]) {
			t.Fatalf("other bytes beside at %d", i)
		}
	}
	if k.Opens(nonce, box[1:], aad) || k.Opens(nonce, box[:len(box)-1], aad) || newKey(t, testcode.Some(32, 9)).Opens(nonce, box, aad) {
		t.Error("cut, or with another key")
	}
}

// TestKept: arguments stay as they were.
func TestKept(t *testing.T) {
	k, nonce, plain, aad := newKey(t, testcode.Some(32, 1)), testcode.Some(12, 2), testcode.Some(30, 3), testcode.Some(40, 4)
	box, _ := k.Seal(nonce, plain, aad)
	like := bytes.Clone(box)
	out, _ := k.Open(nonce, box, aad)
	clear(out)
	_ = append(out, 1, 2, 3)
	if !bytes.Equal(nonce, testcode.Some(12, 2)) || !bytes.Equal(plain, testcode.Some(30, 3)) || !bytes.Equal(aad, testcode.Some(40, 4)) || !bytes.Equal(box, like) {
		t.Error("what was handed in is changed")
	}
}
