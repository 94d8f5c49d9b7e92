package chain_test

import (
	"bytes"
	"math"
	"strconv"
	"testing"

	"bursary/api"
	"bursary/chain"
	"bursary/hmac"
	"bursary/testcode"
)

var key = []byte("the key of a chain")

// entries are so many.
func entries(n int) [][]byte {
	var l [][]byte
	for i := range n {
		l = append(l, []byte("entry "+strconv.Itoa(i)))
	}
	return l
}

// TestCH1 makes heads, and tells them as bytes.
func TestCH1(t *testing.T) {
	if h := chain.Of(key, nil); h != (chain.Head{}) || !bytes.Equal(chain.Encode(h), make([]byte, 40)) {
		t.Errorf("the example: %v", h)
	}
	h := chain.Head{}
	for i, e := range entries(5) {
		next, err := chain.Next(key, h, e)
		if err != nil || next.N != h.N+1 || next.Sum != hmac.Mac(key, append(bytes.Clone(h.Sum[:]), e...)) {
			t.Fatalf("entry %d: %v %v", i, next, err)
		}
		h = next
		if chain.Of(key, entries(i+1)) != h || !chain.Verify(key, entries(i+1), h) {
			t.Errorf("of %d entries", i+1)
		}
		if chain.Verify(key, entries(i), h) || chain.Verify(key, entries(i+2), h) || chain.Verify([]byte("k"), entries(i+1), h) {
			t.Errorf("other entries lead to the head of %d", i+1)
		}
	}
	other := h
	other.N++
	if chain.Verify(key, entries(5), other) {
		t.Error("another N")
	}
	if next, err := chain.Next(key, chain.Head{N: math.MaxUint64}, nil); next != (chain.Head{}) || testcode.Of(err) != api.ErrOver {
		t.Errorf("no number any more: %v", err)
	}
	if next, err := chain.Next(key, chain.Head{N: math.MaxUint64 - 1}, nil); err != nil || next.N != math.MaxUint64 {
		t.Errorf("the last number: %v", err)
	}
	x := chain.Head{N: 0x0102, Sum: [32]byte{3, 4}}
	b := chain.Encode(x)
	if want := append([]byte{0, 0, 0, 0, 0, 0, 1, 2, 3, 4}, make([]byte, 30)...); !bytes.Equal(b, want) {
		t.Errorf("Encode: %x", b)
	}
	if y, err := chain.Decode(b); err != nil || y != x {
		t.Errorf("Decode: %v %v", y, err)
	}
	for _, n := range []int{0, 39, 41} {
		if y, err := chain.Decode(make([]byte, n)); y != (chain.Head{}) || testcode.Of(err) != api.ErrForm {
			t.Errorf("Decode of %d: %v", n, err)
		}
	}
}

// TestCH2: lists that are the same, or have unlike heads, are not told apart by texts.
func TestCH2(t *testing.T) {
	changed := entries(4)
	changed[1] = []byte("another one")
	moved := [][]byte{[]byte("entry 0e"), []byte("ntry 1")}
	for name, c := range map[string][2][][]byte{
		"none": {nil, nil}, "the same": {entries(4), entries(4)}, "one more": {entries(4), entries(5)}, "one changed": {entries(4), changed},
		"none, and one": {nil, entries(1)}, "cut otherwise": {entries(2), moved}, "an empty one": {[][]byte{nil}, [][]byte{{}}},
	} {
		for _, pair := range [][2][][]byte{c, {c[1], c[0]}} {
			if a, b, ok := chain.Apart(key, pair[0], pair[1]); ok || a != nil || b != nil {
				t.Errorf("%s: %q %q", name, a, b)
			}
		}
	}
}

// TestCH3: lists that are unlike in any way lead to unlike heads, or are told apart.
func TestCH3(t *testing.T) {
	lists := map[chain.Head][][]byte{}
	var all func(l [][]byte, depth int)
	all = func(l [][]byte, depth int) {
		h := chain.Of(key, l)
		if other, ok := lists[h]; ok {
			if a, b, apart := chain.Apart(key, l, other); !apart || bytes.Equal(a, b) || hmac.Mac(key, a) != hmac.Mac(key, b) {
				t.Fatalf("%q and %q lead to one head", l, other)
			}
		}
		lists[h] = l
		if depth == 0 {
			return
		}
		for _, e := range []string{"", "a", "aa", "b"} {
			all(append(l[:len(l):len(l)], []byte(e)), depth-1)
		}
	}
	all(nil, 4)
	if len(lists) != 1+4+16+64+256 {
		t.Errorf("%d lists", len(lists))
	}
}
