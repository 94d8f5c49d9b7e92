package hkdf_test

import (
	"bytes"
	"math"
	"strings"
	"testing"

	"bursary/api"
	"bursary/hkdf"
	"bursary/sha"
	"bursary/testcode"
)

// upFrom are so many bytes, from one on.
func upFrom(first byte, n int) []byte {
	b := make([]byte, n)
	for i := range b {
		b[i] = first + byte(i)
	}
	return b
}

// TestHK1 holds keys against the vectors of RFC 5869.
func TestHK1(t *testing.T) {
	from := bytes.Repeat([]byte{0x0b}, 22)
	key := hkdf.Extract(upFrom(0, 13), from)
	if got := testcode.Digits(key); got != "077709362c2e32df0ddc3f0dc47bba6390b6c73bb50f9c3122ec844ad7c2b3e5" {
		t.Errorf("Extract: %s", got)
	}
	out, err := hkdf.Expand(key, upFrom(0xf0, 10), 42)
	if got := testcode.Digits(out); err != nil || got != "3cb25f25faacd57a90434f64d0362f2a2d2d0a90cf1a5a4c5db02d56ecc4c5bf34007208d5b887185865" {
		t.Errorf("Expand: %s %v", got, err)
	}
	key = hkdf.Extract(nil, from)
	if got := testcode.Digits(key); got != "19ef24a32c717b167f33a91d6f648bdf96596776afdb6377ac434c1c293ccb04" {
		t.Errorf("Extract without salt: %s", got)
	}
	out, err = hkdf.Expand(key, nil, 42)
	if got := testcode.Digits(out); err != nil || got != "8da4e775a563c18f715f802a063c5a31b8a11f5c5ee1879ec3454e5f3c738d2d9d201395faa4b61a96c8" {
		t.Errorf("Expand without a use: %s %v", got, err)
	}
	if out, err := hkdf.Expand(nil, nil, 0); err != nil || len(out) != 0 {
		t.Errorf("nothing: %v %v", out, err)
	}
	out, err = hkdf.Expand(testcode.Some(32, 1), testcode.Some(10, 2), 8160)
	if sum := sha.Sum(out); err != nil || len(out) != 8160 || testcode.Digits(sum[:]) != "5c76d0a16dba1b001257075ad8d021dce73a2710ac109601fa36b1a953c15bb3" {
		t.Errorf("as many as there can be: %d %v", len(out), err)
	}
	for _, n := range []int{-1, 8161, math.MaxInt, math.MinInt} {
		if out, err := hkdf.Expand(key, nil, n); out != nil || testcode.Of(err) != api.ErrArg {
			t.Errorf("%d bytes: %v", n, err)
		}
	}
}

// TestHK2 holds keys for uses against Expand, and asks with wrong arguments.
func TestHK2(t *testing.T) {
	key := testcode.Some(32, 1)
	got, err := hkdf.Key(key, "token", 0x01020304)
	if err != nil || testcode.Digits(got) != "00f26ed4d438857b6a0ec818b06e1e807fe6c79555ec89d20ef8da45e35db03d" {
		t.Errorf("a key: %s %v", testcode.Digits(got), err)
	}
	for _, use := range []string{"a", strings.Repeat("u", 32)} {
		want, _ := hkdf.Expand(key, []byte(use+"\x00\x00\x00\x01\x00"), 32)
		if got, err := hkdf.Key(key, use, 256); err != nil || !bytes.Equal(got, want) {
			t.Errorf("%q: %x %v", use, got, err)
		}
	}
	for _, use := range []string{"", strings.Repeat("u", 33)} {
		if got, err := hkdf.Key(key, use, 0); got != nil || testcode.Of(err) != api.ErrArg {
			t.Errorf("a use of %d: %x %v", len(use), got, err)
		}
	}
	for _, n := range []int{0, 31, 33} {
		if got, err := hkdf.Key(testcode.Some(n, 1), "a", 0); got != nil || testcode.Of(err) != api.ErrArg {
			t.Errorf("a key of %d: %x %v", n, got, err)
		}
	}
}

// TestHK3: fewer bytes are the first ones of more, and have no room behind them that another answer has.
func TestHK3(t *testing.T) {
	all, _ := hkdf.Expand(testcode.Some(32, 1), testcode.Some(5, 2), 300)
	for n := range all {
		out, err := hkdf.Expand(testcode.Some(32, 1), testcode.Some(5, 2), n)
		if err != nil || len(out) != n || !bytes.Equal(out, all[:n]) {
			t.Fatalf("%d bytes: %x %v", n, out, err)
		}
		if cap(out) != n {
			t.Fatalf("%d bytes have room for %d", n, cap(out))
		}
	}
}
