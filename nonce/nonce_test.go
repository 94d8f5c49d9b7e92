package nonce_test

import (
	"bytes"
	"math"
	"sync"
	"testing"

	"bursary/api"
	"bursary/nonce"
	"bursary/testcode"
)

func counter(t *testing.T, mark, limit uint64) *nonce.Counter {
	t.Helper()
	c, err := nonce.New(mark, limit)
	if err != nil {
		t.Fatal(err)
	}
	return c
}

// TestNO1 takes numbers, and sets more aside, up to the limit.
func TestNO1(t *testing.T) {
	for _, x := range [][2]uint64{{1, 0}, {0, 1<<48 + 1}, {1<<48 + 1, 1<<48 + 1}, {math.MaxUint64, math.MaxUint64}, {math.MaxUint64, 5}} {
		if c, err := nonce.New(x[0], x[1]); c != nil || testcode.Of(err) != api.ErrArg {
			t.Errorf("New(%d, %d): %v", x[0], x[1], err)
		}
	}
	c := counter(t, 0, 1<<48)
	if n, err := c.Take(); n != 0 || testcode.Of(err) != api.ErrShort || c.Mark() != 0 || c.Left() != 0 {
		t.Errorf("nothing is set aside: %d %v", n, err)
	}
	if n, err := c.Extend(); n != 16 || err != nil || c.Mark() != 16 || c.Left() != 16 {
		t.Errorf("Extend: %d %v", n, err)
	}
	for want := range uint64(16) {
		if n, err := c.Take(); n != want || err != nil || c.Left() != 15-want {
			t.Errorf("the number %d: %d %v", want, n, err)
		}
	}
	if n, err := c.Take(); n != 0 || testcode.Of(err) != api.ErrShort {
		t.Errorf("at the mark: %d %v", n, err)
	}
	c = counter(t, 100, 120)
	c.Extend()
	if n, err := c.Extend(); n != 120 || err != nil || c.Left() != 20 {
		t.Errorf("up to the limit: %d %v", n, err)
	}
	if n, err := c.Extend(); n != 0 || testcode.Of(err) != api.ErrNonce || c.Mark() != 120 {
		t.Errorf("at the limit: %d %v", n, err)
	}
	if n, err := c.Take(); n != 100 || err != nil {
		t.Errorf("from a mark on: %d %v", n, err)
	}
	if _, err := counter(t, 1<<48, 1<<48).Extend(); testcode.Of(err) != api.ErrNonce {
		t.Error("at the greatest limit")
	}
	if _, err := counter(t, 0, 0).Extend(); testcode.Of(err) != api.ErrNonce {
		t.Error("a limit of 0")
	}
	var none *nonce.Counter
	_, err1 := none.Take()
	_, err2 := none.Extend()
	if testcode.Of(err1) != api.ErrArg || testcode.Of(err2) != api.ErrArg || none.Mark() != 0 || none.Left() != 0 {
		t.Error("a nil Counter")
	}
}

// TestNO2 tells nonces as bytes, and reads them.
func TestNO2(t *testing.T) {
	b := nonce.Bytes(0x01020304, 0x05060708090a0b0c)
	if !bytes.Equal(b, []byte{1, 2, 3, 4, 5, 6, 7, 8, 9, 10, 11, 12}) {
		t.Errorf("Bytes: %x", b)
	}
	for _, c := range []struct {
		term uint32
		n    uint64
	}{{0, 0}, {math.MaxUint32, math.MaxUint64}, {7, 1 << 47}} {
		term, n, err := nonce.Parse(nonce.Bytes(c.term, c.n))
		if err != nil || term != c.term || n != c.n {
			t.Errorf("%v comes back as %d %d %v", c, term, n, err)
		}
	}
	for _, size := range []int{0, 11, 13} {
		if term, n, err := nonce.Parse(bytes.Repeat([]byte{1}, size)); term != 0 || n != 0 || testcode.Of(err) != api.ErrForm {
			t.Errorf("%d bytes: %v", size, err)
		}
	}
}

// TestNO3: no number comes twice, asked from many places, or gone on at a mark.
func TestNO3(t *testing.T) {
	seen := map[uint64]bool{}
	var lock sync.Mutex
	mark := uint64(0)
	for round := range 3 {
		c := counter(t, mark, 5000)
		var wait sync.WaitGroup
		for range 8 {
			wait.Go(func() {
				for range 150 {
					n, err := c.Take()
					if err != nil {
						c.Extend()
						continue
					}
					lock.Lock()
					if seen[n] || n >= c.Mark() {
						t.Errorf("round %d: %d", round, n)
					}
					seen[n] = true
					lock.Unlock()
				}
			})
		}
		wait.Wait()
		mark = c.Mark()
	}
	if len(seen) < 100 {
		t.Errorf("%d numbers", len(seen))
	}
}
