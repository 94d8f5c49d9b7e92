// Package packed tells numbers and texts as bytes, and reads them, and tells bytes as digits: what several layers have in common.
package packed

import "strings"

// digits are the hexadecimal ones, each in its place.
const digits = "0123456789abcdef"

// Hex are bytes' hexadecimal digits, small letters, two a byte.
func Hex(b []byte) string {
	var text strings.Builder
	for _, x := range b {
		text.WriteByte(digits[x>>4])
		text.WriteByte(digits[x&15])
	}
	return text.String()
}

// Number is one as so many bytes, the highest first.
func Number(n uint64, size int) []byte {
	b := make([]byte, max(0, size))
	for i := size - 1; i >= 0; i-- {
		b[i] = byte(n)
		n >>= 8
	}
	return b
}

// Bytes are some of at most 255, behind how many there are.
func Bytes(b []byte) []byte { return append([]byte{byte(len(b))}, b...) }

// Text is one of at most 255 bytes, behind how many it has.
func Text(s string) []byte { return Bytes([]byte(s)) }

// Join are bytes, one behind the other.
func Join(parts ...[]byte) []byte {
	var b []byte
	for _, p := range parts {
		b = append(b, p...)
	}
	return b
}

// Reader takes what stands in bytes off their begin.
type Reader struct {
	rest []byte
	bad  bool
}

// Read is one of bytes: they stay as they are.
func Read(b []byte) *Reader { return &Reader{rest: b} }

// Take are so many bytes, in new memory: noughts, where they are too few.
func (r *Reader) Take(n int) []byte {
	out := make([]byte, max(0, n))
	if n > len(r.rest) {
		r.bad, r.rest = true, nil
	}
	r.rest = r.rest[copy(out, r.rest):]
	return out
}

// Mark takes bytes that must be there.
func (r *Reader) Mark(s string) {
	if string(r.Take(len(s))) != s {
		r.bad = true
	}
}

// Number is one of so many bytes, the highest first.
func (r *Reader) Number(size int) uint64 {
	n := uint64(0)
	for _, x := range r.Take(size) {
		n = n<<8 | uint64(x)
	}
	return n
}

// Bytes are some behind how many there are.
func (r *Reader) Bytes() []byte { return r.Take(int(r.Number(1))) }

// Text is one behind how many bytes it has.
func (r *Reader) Text() string { return string(r.Bytes()) }

// Done tells whether all was there, and nothing is left.
func (r *Reader) Done() bool { return !r.bad && len(r.rest) == 0 }
