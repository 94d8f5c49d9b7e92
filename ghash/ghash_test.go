package ghash_test

import (
	"bytes"
	"strconv"
	"testing"

	"bursary/aes"
	"bursary/ghash"
)

// block is the one of hexadecimal digits.
func block(t *testing.T, digits string) aes.Block {
	t.Helper()
	b := read(t, digits)
	return aes.Block(b)
}

// read are the bytes of hexadecimal digits.
func read(t *testing.T, digits string) []byte {
	t.Helper()
	var b []byte
	for i := 0; i < len(digits); i += 2 {
		x, err := strconv.ParseUint(digits[i:i+2], 16, 8)
		if err != nil {
			t.Fatal(err)
		}
		b = append(b, byte(x))
	}
	return b
}

// some is a block that looks drawn, the same for a seed each time.
func some(seed uint32) aes.Block {
	var b aes.Block
	for i := range b {
		seed = seed*1664525 + 1013904223
		b[i] = byte(seed >> 24)
	}
	return b
}

// one is the number with bit 0 alone.
var one = aes.Block{0x80}

// TestGH1 holds products and sums against the vectors of GCM's specification.
func TestGH1(t *testing.T) {
	h := block(t, "66e94bd4ef8a2c3b884cfa59ca342b2e")
	if got := ghash.Mul(block(t, "0388dace60b6a392f328c2b971b2fe78"), h); got != block(t, "5e2ec746917062882c85b0685353deb7") {
		t.Errorf("a product: %x", got)
	}
	if got := ghash.Add(aes.Block{0xff, 1}, aes.Block{0x0f, 1, 2}); got != (aes.Block{0xf0, 0, 2}) {
		t.Errorf("a sum: %x", got)
	}
	if got := ghash.Hash(h, nil, nil); got != (aes.Block{}) {
		t.Errorf("of nothing: %x", got)
	}
	if got := ghash.Hash(h, nil, read(t, "0388dace60b6a392f328c2b971b2fe78")); got != block(t, "f38cbb1ad69223dcc3457ae5b6b0f885") {
		t.Errorf("of a block: %x", got)
	}
	h = block(t, "b83b533708bf535d0aa6e52980d53b78")
	aad := read(t, "feedfacedeadbeeffeedfacedeadbeefabaddad2")
	c := read(t, "42831ec2217774244b7221b784d0d49ce3aa212f2c02a4e035c17e2329aca12e"+
		"21d514b25466931c7d8f6a5aac84aa051ba30b396a0aac973d58e091")
	if got := ghash.Hash(h, aad, c); got != block(t, "698e57f70e6ecc7fd9463b7260a9ae5f") {
		t.Errorf("of blocks that are not whole: %x", got)
	}
	// The definition once more, for bytes beside alone, of a block and one byte.
	long := append(bytesOf(some(1)), 7)
	sum := ghash.Mul(some(1), h)
	sum = ghash.Mul(ghash.Add(sum, aes.Block{7}), h)
	last := aes.Block{}
	last[7] = 17 * 8
	if got := ghash.Hash(h, long, nil); got != ghash.Mul(ghash.Add(sum, last), h) {
		t.Errorf("of bytes beside: %x", got)
	}
	// So many bytes that their bits need three bytes.
	many := bytes.Repeat([]byte{1, 2, 3, 4, 5, 6, 7, 8}, 1<<10)
	want := aes.Block{}
	for i := 0; i < 2*len(many); i += 16 {
		at := i % len(many)
		want = ghash.Mul(ghash.Add(want, aes.Block(many[at:at+16])), h)
	}
	want = ghash.Mul(ghash.Add(want, aes.Block{5: 1, 13: 1}), h)
	if got := ghash.Hash(h, many, many); got != want {
		t.Errorf("of many bytes: %x", got)
	}
	if !bytes.Equal(long[:16], bytesOf(some(1))) {
		t.Error("what was handed in is changed")
	}
}

// TestGH2 looks for a place in which the numbers are no field.
func TestGH2(t *testing.T) {
	for i := range uint32(60) {
		a, b, c := some(i), some(i+100), some(i+200)
		if ghash.Mul(a, one) != a || ghash.Mul(one, a) != a {
			t.Fatalf("%x times 1", a)
		}
		if ghash.Mul(a, b) != ghash.Mul(b, a) || ghash.Mul(a, ghash.Mul(b, c)) != ghash.Mul(ghash.Mul(a, b), c) {
			t.Fatalf("the order of products of %x %x %x matters", a, b, c)
		}
		if ghash.Mul(a, ghash.Add(b, c)) != ghash.Add(ghash.Mul(a, b), ghash.Mul(a, c)) {
			t.Fatalf("%x does not go through the sum of %x and %x", a, b, c)
		}
		if ghash.Add(a, b) != ghash.Add(b, a) || ghash.Add(a, a) != (aes.Block{}) || ghash.Mul(a, aes.Block{}) != (aes.Block{}) {
			t.Fatalf("sums and noughts of %x", a)
		}
		// In a field of 2^128 numbers a number 128 times squared is itself.
		x := a
		for range 128 {
			x = ghash.Mul(x, x)
		}
		if x != a {
			t.Fatalf("%x, 128 times squared: %x", a, x)
		}
	}
}

// bytesOf are a block's bytes.
func bytesOf(b aes.Block) []byte { return b[:] }
