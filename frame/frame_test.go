package frame_test

import (
	"bytes"
	"math"
	"testing"

	"bursary/api"
	"bursary/frame"
	"bursary/testcode"
)

// some are bytes that look drawn, the same for a seed each time.
func some(n int, seed uint32) []byte {
	b := make([]byte, n)
	for i := range b {
		seed = seed*1664525 + 1013904223
		b[i] = byte(seed>>24) | 1
	}
	return b
}

func split(t *testing.T, seq uint32, b []byte) [][]byte {
	t.Helper()
	l, err := frame.Split(seq, b)
	if err != nil {
		t.Fatal(err)
	}
	return l
}

// TestFR1 counts sectors, and looks at their bytes.
func TestFR1(t *testing.T) {
	for size, want := range map[int]int{
		0: 1, 1: 1, 56: 1, 57: 2, 112: 2, 113: 3, 14280: 255, 14281: 0, -1: 0, math.MaxInt: 0, math.MinInt: 0,
	} {
		if got := frame.Sectors(size); got != want {
			t.Errorf("Sectors(%d): %d", size, got)
		}
	}
	b := some(57, 1)
	l := split(t, 0x01020304, b)
	first := append([]byte{1, 2, 3, 4, 0, 2, 0, 57}, b[:56]...)
	second := append([]byte{1, 2, 3, 4, 1, 2, 0, 57, b[56]}, make([]byte, 55)...)
	if len(l) != 2 || !bytes.Equal(l[0], first) || !bytes.Equal(l[1], second) {
		t.Fatalf("57 bytes: %x", l)
	}
	if l := split(t, 1, nil); len(l) != 1 || !bytes.Equal(l[0][:8], []byte{0, 0, 0, 1, 0, 1, 0, 0}) || !bytes.Equal(l[0][8:], make([]byte, 56)) {
		t.Errorf("no bytes: %x", l)
	}
	if l := split(t, 1, make([]byte, 14280)); len(l) != 255 || !bytes.Equal(l[254][:8], []byte{0, 0, 0, 1, 254, 255, 0x37, 0xc8}) {
		t.Errorf("most bytes: %x", l[254])
	}
	if l, err := frame.Split(0, nil); l != nil || testcode.Of(err) != api.ErrArg {
		t.Errorf("number 0: %v", err)
	}
	if l, err := frame.Split(1, make([]byte, 14281)); l != nil || testcode.Of(err) != api.ErrArg {
		t.Errorf("too many bytes: %v", err)
	}
	if n, err := frame.Seq(l[0]); err != nil || n != 0x01020304 {
		t.Errorf("Seq: %d %v", n, err)
	}
	if n, err := frame.Seq(make([]byte, 64)); err != nil || n != 0 {
		t.Errorf("Seq of noughts: %d %v", n, err)
	}
	for _, n := range []int{0, 63, 65} {
		if n, err := frame.Seq(bytes.Repeat([]byte{1}, n)); n != 0 || testcode.Of(err) != api.ErrForm {
			t.Errorf("Seq of no sector: %d %v", n, err)
		}
	}
}

// TestFR2 turns each bit that counts of a record's sectors.
func TestFR2(t *testing.T) {
	l := split(t, 7, some(150, 1))
	refused := func(name string, l [][]byte) {
		t.Helper()
		if seq, b, n, err := frame.Join(l); seq != 0 || b != nil || n != 0 || testcode.Of(err) != api.ErrForm {
			t.Fatalf("%s: %d %x %d %v", name, seq, b, n, err)
		}
	}
	clone := func() [][]byte {
		return [][]byte{bytes.Clone(l[0]), bytes.Clone(l[1]), bytes.Clone(l[2])}
	}
	for i := range l {
		for at := range 8 {
			for bit := range 8 {
				other := clone()
				other[i][at] ^= 1 << bit
				refused("a head's bit turned", other)
			}
		}
	}
	for at := 8 + 150 - 112; at < 64; at++ {
		other := clone()
		other[2][at] = 1
		refused("no nought behind the end", other)
	}
	refused("none", nil)
	refused("noughts", [][]byte{make([]byte, 64)})
	refused("cut", l[:2])
	refused("out of order", [][]byte{l[1], l[0], l[2]})
	refused("from the second on", l[1:])
	refused("a short sector", [][]byte{l[0], l[1][:63], l[2]})
	refused("an empty sector", [][]byte{nil})
	zero := clone()
	for _, s := range zero {
		s[3] = 0
	}
	refused("number 0", zero)
	more := make([]byte, 64)
	copy(more, []byte{0, 0, 0, 1, 0, 0, 0x37, 0xc9})
	refused("too many bytes", [][]byte{more})
	behind := append(clone(), nil, []byte{1})
	if seq, b, n, err := frame.Join(behind); err != nil || seq != 7 || !bytes.Equal(b, some(150, 1)) || n != 3 {
		t.Errorf("what stands behind: %d %x %d %v", seq, b, n, err)
	}
}

// TestFR3: records come back; sectors of two never make one.
func TestFR3(t *testing.T) {
	for _, size := range []int{0, 1, 55, 56, 57, 112, 113, 1000, 14279, 14280} {
		b := some(size, uint32(size))
		l := split(t, math.MaxUint32, b)
		seq, got, n, err := frame.Join(l)
		if err != nil || seq != math.MaxUint32 || !bytes.Equal(got, b) || n != len(l) {
			t.Fatalf("%d bytes back: %d %v", size, seq, err)
		}
		for i, s := range l {
			if len(l) < 2 {
				break
			}
			mixed := append([][]byte{}, l...)
			mixed[i] = split(t, 5, b)[i]
			if _, _, _, err := frame.Join(mixed); testcode.Of(err) != api.ErrForm {
				t.Fatalf("%d bytes, sector %d of another record", size, i)
			}
			if len(s) != 64 {
				t.Fatal("a sector's bytes")
			}
		}
	}
}

// TestKept: memory is not shared.
func TestKept(t *testing.T) {
	b := some(60, 1)
	l := split(t, 1, b)
	l[0][10] ^= 1
	_ = append(l[0], 9)
	l[0][10] ^= 1
	_, got, _, _ := frame.Join(l)
	got[0] ^= 1
	_ = append(got, 9)
	if !bytes.Equal(b, some(60, 1)) || !bytes.Equal(l[0][8:], b[:56]) || l[1][8+4] != 0 {
		t.Error("memory is shared")
	}
}
