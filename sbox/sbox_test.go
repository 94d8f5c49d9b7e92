package sbox_test

import (
	"sync"
	"testing"

	"bursary/gf"
	"bursary/sbox"
)

// listed are the bytes that FIPS 197 lists for those from 0x00 to 0x0f, 0x50 to 0x5f, and 0xf0 to 0xff.
var listed = map[int][16]byte{
	0x00: {0x63, 0x7c, 0x77, 0x7b, 0xf2, 0x6b, 0x6f, 0xc5, 0x30, 0x01, 0x67, 0x2b, 0xfe, 0xd7, 0xab, 0x76},
	0x50: {0x53, 0xd1, 0x00, 0xed, 0x20, 0xfc, 0xb1, 0x5b, 0x6a, 0xcb, 0xbe, 0x39, 0x4a, 0x4c, 0x58, 0xcf},
	0xf0: {0x8c, 0xa1, 0x89, 0x0d, 0xbf, 0xe6, 0x42, 0x68, 0x41, 0x99, 0x2d, 0x0f, 0xb0, 0x54, 0xbb, 0x16},
}

// slow is what stands for a byte as the chapter says it: bit by bit.
func slow(x byte) byte {
	v, _ := gf.New().Inv(x)
	bit := func(i int) byte { return v >> (i % 8) & 1 }
	var sum byte
	for i := range 8 {
		one := bit(i) ^ bit(i+4) ^ bit(i+5) ^ bit(i+6) ^ bit(i+7) ^ 0x63>>i&1
		sum |= one << i
	}
	return sum
}

// TestSB1 holds all bytes against the chapter's words, and some against those that are listed.
func TestSB1(t *testing.T) {
	b := sbox.New()
	if b.Sub(0) != 0x63 || b.Sub(0x53) != 0xed {
		t.Fatalf("the examples: %x %x", b.Sub(0), b.Sub(0x53))
	}
	for x := range 256 {
		if b.Sub(byte(x)) != slow(byte(x)) {
			t.Fatalf("Sub(%x): %x", x, b.Sub(byte(x)))
		}
		if b.Back(b.Sub(byte(x))) != byte(x) || b.Sub(b.Back(byte(x))) != byte(x) {
			t.Fatalf("Back of %x", x)
		}
	}
	for first, row := range listed {
		for i, want := range row {
			if got := b.Sub(byte(first + i)); got != want {
				t.Errorf("Sub(%x): %x", first+i, got)
			}
		}
	}
	if w := b.Word(0x530001ff); w != 0xed637c16 {
		t.Errorf("Word: %x", w)
	}
	if sbox.New().Back(0xed) != 0x53 || sbox.New().Word(0x53000000) != 0xed636363 {
		t.Error("asked first")
	}
}

// TestSB2: each byte stands for just one, and none for itself.
func TestSB2(t *testing.T) {
	b := sbox.New()
	var seen [256]bool
	for x := range 256 {
		s := b.Sub(byte(x))
		if seen[s] || s == byte(x) {
			t.Errorf("Sub(%x): %x", x, s)
		}
		seen[s] = true
	}
}

// TestNilBox: 0 of a nil Box.
func TestNilBox(t *testing.T) {
	var b *sbox.Box
	if b.Sub(1) != 0 || b.Back(1) != 0 || b.Word(1) != 0 {
		t.Error("a nil Box")
	}
}

// TestFirstAskedAtOnce asks a new Box from many places.
func TestFirstAskedAtOnce(t *testing.T) {
	b := sbox.New()
	var wait sync.WaitGroup
	for range 8 {
		wait.Go(func() {
			if b.Sub(0x53) != 0xed {
				t.Error("Sub, asked at once")
			}
		})
	}
	wait.Wait()
}
