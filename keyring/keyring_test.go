package keyring_test

import (
	"bytes"
	"reflect"
	"strings"
	"testing"

	"bursary/api"
	"bursary/hkdf"
	"bursary/keyring"
	"bursary/testcode"
)

// key is one of the same byte, over and over.
func key(x byte) [32]byte { return [32]byte(bytes.Repeat([]byte{x}, 32)) }

// ring has so many terms, whose keys are of 1, 2, and so on.
func ring(t *testing.T, n int) keyring.Ring {
	t.Helper()
	r := keyring.First(key(1))
	for i := 2; i <= n; i++ {
		next, err := keyring.Rotate(r, key(byte(i)))
		if err != nil {
			t.Fatal(err)
		}
		r = next
	}
	return r
}

// wrong are rings that may not be.
func wrong() map[string]keyring.Ring {
	long := keyring.Ring{}
	for i := range 17 {
		long.L = append(long.L, keyring.Term{N: uint32(i + 1)})
	}
	return map[string]keyring.Ring{
		"none": {}, "from 0": {L: []keyring.Term{{N: 0}}}, "from 2": {L: []keyring.Term{{N: 2}}},
		"a gap": {L: []keyring.Term{{N: 1}, {N: 3}}}, "twice": {L: []keyring.Term{{N: 1}, {N: 1}}}, "17": long,
	}
}

// TestKR1 makes rings, finds their keys, and tells them as bytes.
func TestKR1(t *testing.T) {
	r := ring(t, 2)
	want := keyring.Ring{L: []keyring.Term{{N: 1, Key: key(1)}, {N: 2, Key: key(2)}}}
	b, err := keyring.Encode(r)
	if !reflect.DeepEqual(r, want) || err != nil || len(b) != 67 {
		t.Fatalf("the example: %v %d %v", r, len(b), err)
	}
	one, two := key(1), key(2)
	if !bytes.Equal(b, append(append([]byte{'k', 'r', 2}, one[:]...), two[:]...)) {
		t.Errorf("Encode: %x", b)
	}
	if k, err := keyring.Find(r, 2); err != nil || k != key(2) {
		t.Errorf("Find: %x %v", k, err)
	}
	for _, n := range []uint32{0, 3, 1 << 31} {
		if k, err := keyring.Find(r, n); k != [32]byte{} || testcode.Of(err) != api.ErrNone {
			t.Errorf("Find(%d): %x %v", n, k, err)
		}
	}
	if a, err := keyring.Active(r); err != nil || a != (keyring.Term{N: 2, Key: key(2)}) {
		t.Errorf("Active: %v %v", a, err)
	}
	full := ring(t, 16)
	if err := keyring.Check(full); err != nil {
		t.Errorf("16 terms: %v", err)
	}
	if x, err := keyring.Rotate(full, key(9)); x.L != nil || testcode.Of(err) != api.ErrQuota {
		t.Errorf("17 terms: %v", err)
	}
	for name, x := range wrong() {
		_, err1 := keyring.Rotate(x, key(1))
		_, err2 := keyring.Find(x, 1)
		_, err3 := keyring.Active(x)
		_, err4 := keyring.Encode(x)
		for i, err := range []error{keyring.Check(x), err1, err2, err3, err4} {
			if testcode.Of(err) != api.ErrArg {
				t.Errorf("%s, call %d: %v", name, i, err)
			}
		}
	}
	for name, x := range map[string][]byte{
		"nothing": nil, "cut": b[:66], "longer": append(bytes.Clone(b), 0), "no terms": {'k', 'r', 0}, "another letter": append([]byte{'x'}, b[1:]...),
		"one too many": append([]byte{'k', 'r', 3}, b[3:]...), "one too few": append([]byte{'k', 'r', 1}, b[3:]...),
		"17 terms": append([]byte{'k', 'r', 17}, make([]byte, 17*32)...), "its head": {'k', 'r'},
	} {
		if r, err := keyring.Decode(x); r.L != nil || testcode.Of(err) != api.ErrForm {
			t.Errorf("Decode of %s: %v", name, err)
		}
	}
}

// TestKR2 makes keys of a term for uses.
func TestKR2(t *testing.T) {
	k := key(5)
	want, _ := hkdf.Key(k[:], "barrier", 3)
	if got, err := keyring.Use(keyring.Term{N: 3, Key: k}, "barrier"); err != nil || !bytes.Equal(got, want) {
		t.Errorf("Use: %x %v", got, err)
	}
	for _, use := range []string{"", strings.Repeat("x", 33)} {
		if got, err := keyring.Use(keyring.Term{N: 1, Key: k}, use); got != nil || testcode.Of(err) != api.ErrArg {
			t.Errorf("a use of %d bytes: %v", len(use), err)
		}
	}
}

// TestKR3: rings come back, and keys stay.
func TestKR3(t *testing.T) {
	for n := 1; n <= 16; n++ {
		r := ring(t, n)
		b, err := keyring.Encode(r)
		if err != nil {
			t.Fatal(err)
		}
		back, err := keyring.Decode(b)
		if err != nil || !reflect.DeepEqual(back, r) {
			t.Fatalf("%d terms: %v %v", n, back, err)
		}
		for i := 1; i <= n; i++ {
			if k, err := keyring.Find(r, uint32(i)); err != nil || k != key(byte(i)) {
				t.Fatalf("of %d terms the key of %d: %x %v", n, i, k, err)
			}
		}
	}
	r := ring(t, 3)
	one, _ := keyring.Rotate(r, key(8))
	two, _ := keyring.Rotate(r, key(9))
	one.L[0].Key = key(7)
	if r.L[0].Key != key(1) || one.L[3].Key != key(8) || two.L[3].Key != key(9) || two.L[0].Key != key(1) {
		t.Error("memory is shared")
	}
}
