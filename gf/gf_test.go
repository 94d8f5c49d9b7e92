package gf_test

import (
	"math"
	"sync"
	"testing"

	"bursary/api"
	"bursary/gf"
	"bursary/testcode"
)

// slow is a product as the chapter says it: power by power, then less the polynomial.
func slow(a, b byte) byte {
	product := 0
	for i := range 8 {
		if b>>i&1 == 1 {
			product ^= int(a) << i
		}
	}
	for i := 14; i >= 8; i-- {
		if product>>i&1 == 1 {
			product ^= 0x11b << (i - 8)
		}
	}
	return byte(product)
}

// TestGF1 holds sums, products, inverses and quotients against the chapter's words, for all numbers.
func TestGF1(t *testing.T) {
	g := gf.New()
	if n := g.Mul(0x57, 0x83); n != 0xc1 {
		t.Fatalf("the example: %x", n)
	}
	for i := range 256 {
		for j := range 256 {
			a, b := byte(i), byte(j)
			if gf.Add(a, b) != a^b {
				t.Fatalf("Add(%x, %x)", a, b)
			}
			if g.Mul(a, b) != slow(a, b) {
				t.Fatalf("Mul(%x, %x): %x", a, b, g.Mul(a, b))
			}
			q, err := g.Div(a, b)
			if b == 0 {
				if testcode.Of(err) != api.ErrArg || q != 0 {
					t.Fatalf("Div(%x, 0): %x %v", a, q, err)
				}
				continue
			}
			if err != nil || slow(q, b) != a {
				t.Fatalf("Div(%x, %x): %x %v", a, b, q, err)
			}
		}
		v, err := g.Inv(byte(i))
		if i == 0 {
			if testcode.Of(err) != api.ErrArg || v != 0 {
				t.Fatalf("Inv(0): %x %v", v, err)
			}
		} else if err != nil || slow(v, byte(i)) != 1 {
			t.Fatalf("Inv(%x): %x %v", i, v, err)
		}
	}
}

// TestGF2 holds powers and logarithms against products one behind the other.
func TestGF2(t *testing.T) {
	g := gf.New()
	for i := range 256 {
		want := byte(1)
		for n := range 600 {
			got, err := g.Pow(byte(i), n)
			if err != nil || got != want {
				t.Fatalf("Pow(%x, %d): %x %v", i, n, got, err)
			}
			want = slow(want, byte(i))
		}
	}
	if p, err := g.Pow(3, -1); testcode.Of(err) != api.ErrArg || p != 0 {
		t.Fatalf("Pow(3, -1): %x %v", p, err)
	}
	if _, err := g.Pow(3, math.MinInt); testcode.Of(err) != api.ErrArg {
		t.Fatal("Pow of the least number")
	}
	if p, err := g.Pow(0, math.MaxInt); err != nil || p != 0 {
		t.Fatalf("Pow(0, most): %x %v", p, err)
	}
	most, _ := g.Pow(7, math.MaxInt)
	rest, _ := g.Pow(7, math.MaxInt%255)
	if most != rest {
		t.Fatalf("Pow(7, most): %x, not %x", most, rest)
	}
	power := byte(1)
	for n := range 255 {
		if l, err := g.Log(power); err != nil || l != n {
			t.Fatalf("Log(%x): %d %v", power, l, err)
		}
		power = slow(power, 3)
	}
	if l, err := g.Log(0); testcode.Of(err) != api.ErrArg || l != 0 {
		t.Fatalf("Log(0): %d %v", l, err)
	}
}

// TestGF3 looks for a place in which the numbers are no field.
func TestGF3(t *testing.T) {
	g := gf.New()
	for i := range 256 {
		a := byte(i)
		if g.Mul(a, 1) != a || gf.Add(a, 0) != a || gf.Add(a, a) != 0 {
			t.Fatalf("1, 0 and itself with %x", a)
		}
		for j := range 256 {
			b := byte(j)
			if g.Mul(a, b) != g.Mul(b, a) || gf.Add(a, b) != gf.Add(b, a) {
				t.Fatalf("the order of %x and %x matters", a, b)
			}
			for k := 0; k < 256; k += 7 {
				c := byte(k)
				if g.Mul(a, g.Mul(b, c)) != g.Mul(g.Mul(a, b), c) {
					t.Fatalf("the order of products of %x, %x, %x matters", a, b, c)
				}
				if g.Mul(a, gf.Add(b, c)) != gf.Add(g.Mul(a, b), g.Mul(a, c)) {
					t.Fatalf("%x does not go through the sum of %x and %x", a, b, c)
				}
			}
		}
	}
}

// TestNilTable: 0 and ErrArg of a nil Table.
func TestNilTable(t *testing.T) {
	var g *gf.Table
	if g.Mul(2, 3) != 0 {
		t.Error("Mul")
	}
	if v, err := g.Inv(2); v != 0 || testcode.Of(err) != api.ErrArg {
		t.Error("Inv")
	}
	if v, err := g.Div(0, 2); v != 0 || testcode.Of(err) != api.ErrArg {
		t.Error("Div")
	}
	if v, err := g.Pow(2, 0); v != 0 || testcode.Of(err) != api.ErrArg {
		t.Error("Pow")
	}
	if v, err := g.Log(2); v != 0 || testcode.Of(err) != api.ErrArg {
		t.Error("Log")
	}
}

// TestFirstAsked: each call reckons the powers, where it is the first one.
func TestFirstAsked(t *testing.T) {
	if n := gf.New().Mul(2, 3); n != 6 {
		t.Errorf("Mul: %d", n)
	}
	if n, err := gf.New().Div(6, 3); err != nil || n != 2 {
		t.Errorf("Div: %d %v", n, err)
	}
	if n, err := gf.New().Inv(3); err != nil || slow(n, 3) != 1 {
		t.Errorf("Inv: %d %v", n, err)
	}
	if n, err := gf.New().Pow(2, 3); err != nil || n != 8 {
		t.Errorf("Pow: %d %v", n, err)
	}
	if n, err := gf.New().Log(3); err != nil || n != 1 {
		t.Errorf("Log: %d %v", n, err)
	}
}

// TestFirstAskedAtOnce asks a new Table from many places.
func TestFirstAskedAtOnce(t *testing.T) {
	g := gf.New()
	var wait sync.WaitGroup
	for range 8 {
		wait.Go(func() {
			if g.Mul(0x57, 0x83) != 0xc1 {
				t.Error("Mul, asked at once")
			}
		})
	}
	wait.Wait()
}
