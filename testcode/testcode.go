// Package testcode is what the tests of all layers have in common: errors' numbers, bytes that look drawn, and digits.
package testcode

import (
	"errors"
	"strconv"
	"strings"

	"bursary/api"
)

// Other is told of an error that is none of package api's.
const Other api.Errno = -1

// Of is an error's number: 0, if it is nil.
func Of(err error) api.Errno {
	if err == nil {
		return 0
	}
	var e api.Errno
	if errors.As(err, &e) {
		return e
	}
	return Other
}

// Some are bytes that look drawn, the same for a seed each time.
func Some(n int, seed uint32) []byte {
	b := make([]byte, n)
	for i := range b {
		seed = seed*1664525 + 1013904223
		b[i] = byte(seed >> 24)
	}
	return b
}

// Digits are bytes' hexadecimal ones, small letters, two a byte.
func Digits(b []byte) string {
	var text strings.Builder
	for _, x := range b {
		text.WriteString(strconv.FormatUint(uint64(x)|0x100, 16)[1:])
	}
	return text.String()
}
