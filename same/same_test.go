package same_test

import (
	"bytes"
	"testing"

	"bursary/same"
)

// TestSM1 holds bytes against others.
func TestSM1(t *testing.T) {
	for _, c := range []struct {
		a, b  string
		want  bool
		steps int
	}{
		{"ab", "abc", false, 3}, {"abc", "ab", false, 3}, {"", "", true, 0}, {"", "x", false, 1}, {"abc", "abc", true, 3},
		{"abc", "xbc", false, 3}, {"abc", "abx", false, 3}, {"ab", "ab\x00", false, 3}, {"\x00", "", false, 1},
	} {
		if got, steps := same.Equal([]byte(c.a), []byte(c.b)); got != c.want || steps != c.steps {
			t.Errorf("Equal(%q, %q): %v %d", c.a, c.b, got, steps)
		}
	}
	l := [][]byte{[]byte("a"), []byte("bc"), nil, []byte("a"), []byte("abc")}
	for _, c := range []struct {
		b            string
		place, steps int
	}{{"a", 3, 1 + 2 + 1 + 1 + 3}, {"bc", 1, 2 + 2 + 2 + 2 + 3}, {"", 2, 1 + 2 + 0 + 1 + 3}, {"x", -1, 8}} {
		if place, steps := same.Find(l, []byte(c.b)); place != c.place || steps != c.steps {
			t.Errorf("Find(%q): %d %d", c.b, place, steps)
		}
	}
	if place, steps := same.Find(nil, []byte("a")); place != -1 || steps != 0 {
		t.Errorf("Find in none: %d %d", place, steps)
	}
	b := []byte("abc")
	same.Clear(b[:2])
	if !bytes.Equal(b, []byte{0, 0, 'c'}) {
		t.Errorf("Clear: %q", b)
	}
	same.Clear(nil)
}

// TestSM2: bytes of the same lengths take as many steps, whatever they are.
func TestSM2(t *testing.T) {
	for n := range 20 {
		for m := range 20 {
			like, unlike := bytes.Repeat([]byte{7}, n), bytes.Repeat([]byte{9}, n)
			b := bytes.Repeat([]byte{7}, m)
			_, s1 := same.Equal(like, b)
			_, s2 := same.Equal(unlike, b)
			_, s3 := same.Find([][]byte{like, like}, b)
			_, s4 := same.Find([][]byte{unlike, like}, b)
			if s1 != s2 || s1 != max(n, m) || s3 != s4 || s3 != 2*s1 {
				t.Fatalf("%d and %d bytes: %d %d %d %d", n, m, s1, s2, s3, s4)
			}
		}
	}
}
