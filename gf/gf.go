// Package gf is layer 1: numbers of eight bits that can be divided: see shared/doc/01-gf.md.
package gf

import (
	"sync"

	"bursary/api"
)

// order is how many numbers there are but 0: so often 3 goes into itself till it is 1 again.
const order = 255

// low is what x^8 is, less the polynomial by which products are taken: x^4 + x^3 + x + 1.
const low = 0x1b

// Table are the numbers' powers, which are reckoned when one is asked for first.
type Table struct {
	once   sync.Once
	powers [order]byte
	logs   [order + 1]int
}

// New is one.
func New() *Table { return &Table{} }

// Add is a sum, and a difference.
func Add(a, b byte) byte { return a ^ b }

// triple is a number times 3: itself, and itself times x.
func triple(a byte) byte {
	double := a << 1
	if a&0x80 != 0 {
		double ^= low
	}
	return double ^ a
}

func (t *Table) reckon() {
	power := byte(1)
	for i := range order {
		t.powers[i] = power
		t.logs[power] = i
		power = triple(power)
	}
}

func (t *Table) ready() { t.once.Do(t.reckon) }

// Mul is a product.
func (t *Table) Mul(a, b byte) byte {
	if t == nil || a == 0 || b == 0 {
		return 0
	}
	t.ready()
	return t.powers[(t.logs[a]+t.logs[b])%order]
}

// Inv is what times a number is 1.
func (t *Table) Inv(a byte) (byte, error) { return t.Div(1, a) }

// Div is a quotient.
func (t *Table) Div(a, b byte) (byte, error) {
	if t == nil || b == 0 {
		return 0, api.ErrArg
	}
	if a == 0 {
		return 0, nil
	}
	t.ready()
	return t.powers[(t.logs[a]+order-t.logs[b])%order], nil
}

// Pow is a power.
func (t *Table) Pow(a byte, n int) (byte, error) {
	if t == nil || n < 0 {
		return 0, api.ErrArg
	}
	if n == 0 {
		return 1, nil
	}
	if a == 0 {
		return 0, nil
	}
	t.ready()
	return t.powers[t.logs[a]*(n%order)%order], nil
}

// Log is to what power 3 is a number.
func (t *Table) Log(a byte) (int, error) {
	if t == nil || a == 0 {
		return 0, api.ErrArg
	}
	t.ready()
	return t.logs[a], nil
}
