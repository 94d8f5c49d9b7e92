package lease_test

import (
	"math"
	"slices"
	"strconv"
	"strings"
	"testing"

	"bursary/api"
	"bursary/clock"
	"bursary/lease"
	"bursary/testcode"
)

const never = 1<<64 - 1

// of is a lease that ends, and that never has to.
func of(id string, until uint64) lease.Lease {
	return lease.Lease{ID: id, Token: "t", Path: "kv/" + id, Until: until, Most: never}
}

// many are so many leases.
func many(n int) []lease.Lease {
	var l []lease.Lease
	for i := range n {
		l = append(l, of("l"+strconv.Itoa(100+i), 5))
	}
	return l
}

// ids are leases' IDs, as a text.
func ids(l []lease.Lease) string {
	var s []string
	for _, x := range l {
		s = append(s, x.ID)
	}
	return strings.Join(s, " ")
}

// wrong are leases that may not be.
func wrong() map[string]lease.Lease {
	return map[string]lease.Lease{
		"no ID": {Token: "t", Path: "p"}, "an ID of two names": {ID: "a/b", Token: "t", Path: "p"}, "an ID of 17": {ID: strings.Repeat("a", 17), Token: "t", Path: "p"},
		"no token": {ID: "a", Path: "p"}, "a token of capitals": {ID: "a", Token: "T", Path: "p"}, "no path": {ID: "a", Token: "t"},
		"a pattern": {ID: "a", Token: "t", Path: "p/*"}, "longer than most": {ID: "a", Token: "t", Path: "p", Until: 6, Most: 5},
	}
}

// lists are lists of leases that may not be.
func lists() map[string][]lease.Lease {
	l := map[string][]lease.Lease{"33": many(33), "descending": {of("b", 1), of("a", 1)}, "twice": {of("a", 1), of("a", 2)}}
	for name, x := range wrong() {
		l[name] = []lease.Lease{x}
	}
	return l
}

// TestLE1 issues, renews and revokes.
func TestLE1(t *testing.T) {
	if lease.Check(nil) != nil || lease.Check(many(32)) != nil || lease.Check([]lease.Lease{{ID: "a", Token: "t", Path: "a/b/c", Until: 5, Most: 5}}) != nil {
		t.Error("leases that may be")
	}
	for name, l := range lists() {
		_, err1 := lease.Issue(l, of("zz", 1))
		_, err2 := lease.Renew(l, "a", 0, 1)
		_, err3 := lease.Revoke(l, "a")
		for i, err := range []error{lease.Check(l), err1, err2, err3} {
			if testcode.Of(err) != api.ErrArg {
				t.Errorf("%s, call %d: %v", name, i, err)
			}
		}
		left1, gone1 := lease.Prefix(l, "")
		left2, gone2 := lease.Of(l, []string{"t", ""})
		left3, gone3 := lease.Sweep(l, never-1, 99)
		if !slices.Equal(left1, l) || !slices.Equal(left2, l) || !slices.Equal(left3, l) || gone1 != nil || gone2 != nil || gone3 != nil {
			t.Errorf("%s: some go", name)
		}
	}
	l := []lease.Lease{of("b", 10), of("d", never)}
	for name, c := range map[string]struct {
		l    []lease.Lease
		x    lease.Lease
		want string
		err  api.Errno
	}{
		"first": {l, of("a", 1), "a b d", 0}, "between": {l, of("c", 1), "b c d", 0}, "last": {l, of("e", 1), "b d e", 0}, "of none": {nil, of("a", 1), "a", 0},
		"there": {l, of("b", 3), "", api.ErrTwice}, "33": {many(32), of("z", 1), "", api.ErrQuota}, "33, there": {many(32), of("l101", 1), "", api.ErrTwice},
	} {
		if got, err := lease.Issue(c.l, c.x); ids(got) != c.want || testcode.Of(err) != c.err {
			t.Errorf("%s: %s %v", name, ids(got), err)
		}
	}
	for name, x := range wrong() {
		if got, err := lease.Issue(nil, x); got != nil || testcode.Of(err) != api.ErrArg {
			t.Errorf("%s: %v", name, err)
		}
	}
	l[0].Most = 50
	for _, c := range []struct {
		id             string
		now, ttl, want uint64
		err            api.Errno
	}{
		{"b", 9, 5, 14, 0}, {"b", 9, 60, 50, 0}, {"b", 9, 0, 0, api.ErrArg}, {"b", 9, never, 0, api.ErrOver}, {"b", 10, 5, 0, api.ErrGone}, {"b", 10, 0, 0, api.ErrGone},
		{"x", 9, 0, 0, api.ErrNone}, {"b", 5, 1, 6, 0},
	} {
		got, err := lease.Renew(l, c.id, c.now, c.ttl)
		if testcode.Of(err) != c.err || err == nil && got[0].Until != c.want || (got == nil) != (err != nil) {
			t.Errorf("Renew at %d for %d: %v %v", c.now, c.ttl, got, err)
		}
	}
	if got, err := lease.Revoke(l, "b"); err != nil || ids(got) != "d" {
		t.Errorf("Revoke: %s %v", ids(got), err)
	}
	if got, err := lease.Revoke(l, "c"); got != nil || testcode.Of(err) != api.ErrNone {
		t.Errorf("none is revoked: %v", err)
	}
	if ids(l) != "b d" || l[0].Until != 10 {
		t.Error("what was handed in is changed")
	}
}

// TestLE2 takes leases away, by paths, tokens and times.
func TestLE2(t *testing.T) {
	l := []lease.Lease{of("a", 9), of("b", 3), of("c", never), of("d", 3), of("e", 5)}
	l[1].Path, l[3].Path, l[2].Token, l[3].Token = "kv/ab", "x", "u", "v"
	for prefix, want := range map[string][2]string{"kv/a": {"c d e", "a b"}, "": {"", "a b c d e"}, "kv/ab/": {"a b c d e", ""}, "x": {"a b c e", "d"}} {
		if left, gone := lease.Prefix(l, prefix); ids(left) != want[0] || strings.Join(gone, " ") != want[1] {
			t.Errorf("Prefix(%q): %s, %v", prefix, ids(left), gone)
		}
	}
	for tokens, want := range map[string][2]string{"u v": {"a b e", "c d"}, "t": {"c d", "a b e"}, "x": {"a b c d e", ""}, "": {"a b c d e", ""}} {
		if left, gone := lease.Of(l, strings.Fields(tokens)); ids(left) != want[0] || strings.Join(gone, " ") != want[1] {
			t.Errorf("Of(%q): %s, %v", tokens, ids(left), gone)
		}
	}
	for _, c := range []struct {
		now        uint64
		most       int
		left, gone string
	}{
		{9, 1, "a c d e", "b"}, {9, 2, "a c e", "b d"}, {9, 3, "a c", "b d e"}, {9, 4, "c", "a b d e"}, {9, 99, "c", "a b d e"}, {9, 0, "a b c d e", ""},
		{9, -1, "a b c d e", ""}, {9, math.MinInt, "a b c d e", ""}, {9, math.MaxInt, "c", "a b d e"}, {8, 9, "a c", "b d e"}, {2, 9, "a b c d e", ""}, {never, 9, "c", "a b d e"},
	} {
		if left, gone := lease.Sweep(l, c.now, c.most); ids(left) != c.left || strings.Join(gone, " ") != c.gone {
			t.Errorf("Sweep(%d, %d): %s, %v", c.now, c.most, ids(left), gone)
		}
	}
	example := []lease.Lease{of("a", 5), of("b", 3)}
	if left, gone := lease.Sweep(example, 9, 1); ids(left) != "a" || strings.Join(gone, " ") != "b" {
		t.Errorf("the example: %s", ids(left))
	}
}

// TestLE3 tells leases as bytes, and reads what is none.
func TestLE3(t *testing.T) {
	x := lease.Lease{ID: "ab", Token: "t", Path: "kv/a", Until: 0x0102, Most: never}
	want := "le\x02ab\x01t\x04kv/a\x00\x00\x00\x00\x00\x00\x01\x02" + strings.Repeat("\xff", 8)
	b, err := lease.Encode(x)
	if err != nil || string(b) != want {
		t.Fatalf("Encode: %q %v", b, err)
	}
	for n := range b {
		if y, err := lease.Decode(b[:n]); y != (lease.Lease{}) || testcode.Of(err) != api.ErrForm {
			t.Fatalf("cut to %d: %v", n, err)
		}
	}
	for _, s := range []string{
		want + "\x00", "lx" + want[2:], strings.Replace(want, "\x02ab", "\x02a/", 1), strings.Replace(want, "\x01t", "\x01T", 1),
		strings.Replace(want, "kv/a", "kv//", 1), strings.Replace(want, strings.Repeat("\xff", 8), strings.Repeat("\x00", 8), 1), strings.Replace(want, "\x02ab", "\xffab", 1),
	} {
		if y, err := lease.Decode([]byte(s)); y != (lease.Lease{}) || testcode.Of(err) != api.ErrForm {
			t.Errorf("Decode(%q): %v %v", s, y, err)
		}
	}
	for name, x := range wrong() {
		if b, err := lease.Encode(x); b != nil || testcode.Of(err) != api.ErrArg {
			t.Errorf("Encode of %s: %v", name, err)
		}
	}
}

// TestLE4: what is not over is never swept; swept often enough, nothing that is over is left; leases come back.
func TestLE4(t *testing.T) {
	var l []lease.Lease
	for i := range 32 {
		l = append(l, of("l"+strconv.Itoa(100+i), uint64(i*7%20)))
	}
	for round := range 5 {
		before := l
		var gone []string
		l, gone = lease.Sweep(l, 12, 6)
		for _, x := range before {
			if slices.Contains(gone, x.ID) && !clock.Over(12, x.Until) {
				t.Fatalf("round %d: %v is swept", round, x)
			}
		}
	}
	for _, x := range l {
		if clock.Over(12, x.Until) {
			t.Fatalf("%v is left", x)
		}
		b, err := lease.Encode(x)
		if err != nil {
			t.Fatal(err)
		}
		if y, err := lease.Decode(b); err != nil || y != x {
			t.Fatalf("%v comes back as %v, %v", x, y, err)
		}
	}
	if len(l) == 0 {
		t.Error("none is left")
	}
}

// TestKept: no memory is shared.
func TestKept(t *testing.T) {
	l := []lease.Lease{of("a", 5), of("b", 5)}
	one, _ := lease.Issue(l, of("c", 5))
	two, _ := lease.Renew(l, "a", 0, 9)
	three, _ := lease.Revoke(l, "b")
	four, _ := lease.Sweep(l, 0, 4)
	wrong, _ := lease.Prefix([]lease.Lease{l[1], l[0]}, "")
	for _, m := range [][]lease.Lease{one, two, three, four, wrong} {
		m[0].Path = "spoilt"
		_ = append(m, of("z", 1))
	}
	if l[0].Path != "kv/a" || l[1].Path != "kv/b" {
		t.Error("memory is shared")
	}
}
