package poly_test

import (
	"bytes"
	"slices"
	"testing"

	"bursary/api"
	"bursary/gf"
	"bursary/poly"
	"bursary/testcode"
)

// upTo are the places from 1 to n.
func upTo(n int) []byte {
	xs := make([]byte, n)
	for i := range xs {
		xs[i] = byte(i + 1)
	}
	return xs
}

// powers is a polynomial's value, power by power.
func powers(g *gf.Table, c []byte, x byte) byte {
	var sum byte
	for i, a := range c {
		p, _ := g.Pow(x, i)
		sum ^= g.Mul(a, p)
	}
	return sum
}

// TestPY1 holds values and products against sums of powers.
func TestPY1(t *testing.T) {
	g := gf.New()
	if v := poly.Eval(g, []byte{5, 3}, 2); v != 3 {
		t.Fatalf("the example: %d", v)
	}
	if poly.Eval(g, nil, 9) != 0 || poly.Eval(g, []byte{7}, 0) != 7 {
		t.Fatal("of none, and of one number")
	}
	for n := range 12 {
		c := testcode.Some(n, uint32(n))
		for x := range 256 {
			if poly.Eval(g, c, byte(x)) != powers(g, c, byte(x)) {
				t.Fatalf("%x at %x", c, x)
			}
		}
	}
	if got := poly.Mul(g, []byte{1, 2}, []byte{3, 4, 5}); !bytes.Equal(got, []byte{3, 2, 13, 10}) {
		t.Fatalf("a product: %v", got)
	}
	if len(poly.Mul(g, nil, []byte{1})) != 0 || len(poly.Mul(g, []byte{1}, nil)) != 0 {
		t.Fatal("a product with none")
	}
	if got := poly.Mul(g, []byte{0, 0}, []byte{0, 0}); !bytes.Equal(got, []byte{0, 0, 0}) {
		t.Fatalf("noughts stay: %v", got)
	}
}

// TestPY2 asks for weights and values of places that may be, and that may not.
func TestPY2(t *testing.T) {
	g := gf.New()
	w, err := poly.Weights(g, []byte{1, 2}, 0)
	if err != nil || !bytes.Equal(w, []byte{g.Mul(2, inverse(g, 3)), inverse(g, 3)}) {
		t.Fatalf("weights of 1 and 2 at 0: %v %v", w, err)
	}
	if w, err := poly.Weights(g, []byte{9}, 4); err != nil || !bytes.Equal(w, []byte{1}) {
		t.Fatalf("one place: %v %v", w, err)
	}
	if w, err := poly.Weights(g, []byte{3, 5, 0}, 5); err != nil || !bytes.Equal(w, []byte{0, 1, 0}) {
		t.Fatalf("at a place of its own: %v %v", w, err)
	}
	all := append(upTo(255), 0)
	for name, xs := range map[string][]byte{"none": nil, "two alike": {4, 7, 4}, "256": all} {
		if w, err := poly.Weights(g, xs, 1); testcode.Of(err) != api.ErrArg || w != nil {
			t.Errorf("weights of %s: %v %v", name, w, err)
		}
		if v, err := poly.Interp(g, xs, xs, 1); testcode.Of(err) != api.ErrArg || v != 0 {
			t.Errorf("value of %s: %v %v", name, v, err)
		}
	}
	if _, err := poly.Weights(g, all[:255], 0); err != nil {
		t.Errorf("255 places: %v", err)
	}
	for _, ys := range [][]byte{nil, {1}, {1, 2, 3}} {
		if v, err := poly.Interp(g, []byte{1, 2}, ys, 0); testcode.Of(err) != api.ErrArg || v != 0 {
			t.Errorf("%d values of two places: %v %v", len(ys), v, err)
		}
	}
	if v, err := poly.Interp(g, []byte{1, 2}, []byte{6, 3}, 0); err != nil || v != 5 {
		t.Errorf("through 6 and 3: %d %v", v, err)
	}
}

func inverse(g *gf.Table, a byte) byte {
	v, _ := g.Inv(a)
	return v
}

// TestPY3 finds polynomials again from as many places as they have numbers.
func TestPY3(t *testing.T) {
	g := gf.New()
	for n := 1; n <= 255; n += 23 {
		c, xs := testcode.Some(n, uint32(n)), upTo(n)
		slices.Reverse(xs)
		ys := make([]byte, n)
		for i, x := range xs {
			ys[i] = poly.Eval(g, c, x)
		}
		for x := 0; x < 256; x += 5 {
			if v, err := poly.Interp(g, xs, ys, byte(x)); err != nil || v != poly.Eval(g, c, byte(x)) {
				t.Fatalf("%d places at %d: %d %v", n, x, v, err)
			}
		}
	}
	c, d := testcode.Some(6, 1), testcode.Some(9, 2)
	p := poly.Mul(g, c, d)
	if len(p) != 14 {
		t.Fatalf("a product of 6 and 9 numbers has %d", len(p))
	}
	for x := range 256 {
		if poly.Eval(g, p, byte(x)) != g.Mul(poly.Eval(g, c, byte(x)), poly.Eval(g, d, byte(x))) {
			t.Fatalf("the product at %d", x)
		}
	}
}

// TestNilAndKept: a nil Table, and arguments that stay as they were.
func TestNilAndKept(t *testing.T) {
	if poly.Eval(nil, []byte{5}, 0) != 0 || poly.Mul(nil, []byte{1}, []byte{1}) != nil {
		t.Error("Eval and Mul of a nil Table")
	}
	if _, err := poly.Weights(nil, []byte{1}, 0); testcode.Of(err) != api.ErrArg {
		t.Error("Weights of a nil Table")
	}
	if _, err := poly.Interp(nil, []byte{1}, []byte{1}, 0); testcode.Of(err) != api.ErrArg {
		t.Error("Interp of a nil Table")
	}
	g, c, d := gf.New(), []byte{1, 2}, []byte{3, 4}
	poly.Mul(g, c, d)
	poly.Interp(g, c, d, 9)
	if !bytes.Equal(c, []byte{1, 2}) || !bytes.Equal(d, []byte{3, 4}) {
		t.Error("what was handed in is changed")
	}
}
