package wire_test

import (
	"bytes"
	"math"
	"slices"
	"strings"
	"testing"

	"bursary/api"
	"bursary/testcode"
	"bursary/wire"
)

// of are fields of texts.
func of(texts ...string) [][]byte {
	var l [][]byte
	for _, s := range texts {
		l = append(l, []byte(s))
	}
	return l
}

// TestWI1 tells fields as bytes, and reads what is none.
func TestWI1(t *testing.T) {
	if b, err := wire.Encode([][]byte{[]byte("a"), nil}); err != nil || !bytes.Equal(b, []byte{2, 0, 1, 0x61, 0, 0}) {
		t.Errorf("the example: %x %v", b, err)
	}
	if b, err := wire.Encode(nil); err != nil || !bytes.Equal(b, []byte{0}) {
		t.Errorf("no fields: %x %v", b, err)
	}
	if b, err := wire.Encode(of(strings.Repeat("x", 0x0102))); err != nil || !bytes.HasPrefix(b, []byte{1, 1, 2, 'x'}) {
		t.Errorf("the highest byte first: %x %v", b, err)
	}
	for name, c := range map[string]struct {
		l    [][]byte
		want api.Errno
	}{
		"16": {make([][]byte, 16), 0}, "17": {make([][]byte, 17), api.ErrLong}, "1024 bytes": {of(strings.Repeat("x", 1021)), 0},
		"1025 bytes": {of(strings.Repeat("x", 1022)), api.ErrLong}, "1025 in two": {of(strings.Repeat("x", 1018), "yy"), api.ErrLong},
		"1024 in two": {of(strings.Repeat("x", 1018), "y"), 0},
	} {
		b, err := wire.Encode(c.l)
		if testcode.Of(err) != c.want || (b == nil) != (err != nil) || len(b) > 1024 {
			t.Errorf("Encode of %s: %d %v", name, len(b), err)
		}
	}
	whole := "\x02\x00\x01a\x00\x02bc"
	for n := range len(whole) {
		if l, err := wire.Decode([]byte(whole[:n])); l != nil || testcode.Of(err) != api.ErrForm {
			t.Errorf("cut to %d: %q %v", n, l, err)
		}
	}
	for s, want := range map[string]api.Errno{
		whole: 0, whole + "\x00": api.ErrForm, "\x01\x00\x01ab": api.ErrForm, "\x11" + strings.Repeat("\x00\x00", 17): api.ErrForm, "\x10" + strings.Repeat("\x00\x00", 16): 0,
		"\x01\x03\xfd" + strings.Repeat("x", 1021): 0, "\x01\x03\xfe" + strings.Repeat("x", 1022): api.ErrLong, strings.Repeat("x", 1025): api.ErrLong,
		strings.Repeat("\xff", 1024): api.ErrForm, "\x00": 0, "\x01\xff\xff": api.ErrForm,
	} {
		if l, err := wire.Decode([]byte(s)); testcode.Of(err) != want || err != nil && l != nil {
			t.Errorf("Decode(%q): %q %v", s, l, err)
		}
	}
}

// TestWI2 tells numbers as bytes.
func TestWI2(t *testing.T) {
	if b := wire.Number(0x0102030405060708); !bytes.Equal(b, []byte{1, 2, 3, 4, 5, 6, 7, 8}) {
		t.Errorf("Number: %x", b)
	}
	for _, size := range []int{0, 1, 7, 9} {
		if n, err := wire.Read(bytes.Repeat([]byte{1}, size)); n != 0 || testcode.Of(err) != api.ErrForm {
			t.Errorf("Read of %d: %d %v", size, n, err)
		}
	}
}

// TestWI3: fields come back, and numbers.
func TestWI3(t *testing.T) {
	for _, n := range []uint64{0, 1, 255, 256, 1 << 40, math.MaxUint64} {
		if got, err := wire.Read(wire.Number(n)); err != nil || got != n {
			t.Errorf("%d comes back as %d, %v", n, got, err)
		}
	}
	for _, l := range [][][]byte{nil, of(""), of("a", "", "bc"), of(strings.Repeat("x", 1021)), make([][]byte, 16)} {
		b, err := wire.Encode(l)
		if err != nil {
			t.Fatal(err)
		}
		if got, err := wire.Decode(b); err != nil || !slices.EqualFunc(got, l, bytes.Equal) {
			t.Errorf("%q comes back as %q, %v", l, got, err)
		}
	}
}

// TestKept: no memory is shared.
func TestKept(t *testing.T) {
	b := []byte("\x02\x00\x01a\x00\x01b")
	l, _ := wire.Decode(b)
	_ = append(l[0], 1, 2, 3, 4)
	l[0][0] = 'z'
	if string(b) != "\x02\x00\x01a\x00\x01b" || string(l[1]) != "b" {
		t.Error("memory is shared")
	}
}
