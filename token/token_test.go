package token_test

import (
	"bytes"
	"reflect"
	"slices"
	"strconv"
	"strings"
	"testing"

	"bursary/api"
	"bursary/hmac"
	"bursary/testcode"
	"bursary/token"
)

const never = 1<<64 - 1

// of is a token that never ends.
func of(accessor, parent string) token.Token {
	return token.Token{Sum: token.Sum(nil, []byte(accessor)), Accessor: accessor, Parent: parent, Until: never, Most: never}
}

// until is a token that ends.
func until(accessor, parent string, end uint64) token.Token {
	t := of(accessor, parent)
	t.Until = end
	return t
}

// names are accessors of tokens, as a text.
func names(l []token.Token) string {
	var s []string
	for _, t := range l {
		s = append(s, t.Accessor)
	}
	return strings.Join(s, " ")
}

// many are so many tokens.
func many(n int) []token.Token {
	var l []token.Token
	for i := range n {
		l = append(l, of("t"+strconv.Itoa(100+i), ""))
	}
	return l
}

// changed is a token that something is done to.
func changed(f func(*token.Token)) token.Token {
	t := of("m", "")
	f(&t)
	return t
}

// wrong are tokens that may not be.
func wrong() map[string]token.Token {
	return map[string]token.Token{
		"no accessor": of("", ""), "a path": of("a/b", ""), "capitals": of("A", ""), "17 bytes": of(strings.Repeat("a", 17), ""),
		"its own parent": of("a", "a"), "a parent of two names": of("a", "b/c"), "a parent of a blank": of("a", " "),
		"five policies":         changed(func(t *token.Token) { t.Policies = []string{"a", "b", "c", "d", "e"} }),
		"policies twice":        changed(func(t *token.Token) { t.Policies = []string{"a", "b", "a"} }),
		"no policy's name":      changed(func(t *token.Token) { t.Policies = []string{""} }),
		"a policy of two names": changed(func(t *token.Token) { t.Policies = []string{"a/b"} }),
		"uses below 0":          changed(func(t *token.Token) { t.Uses = -1 }), "too many uses": changed(func(t *token.Token) { t.Uses = 65536 }),
		"longer than most": changed(func(t *token.Token) { t.Until, t.Most = 6, 5 }),
	}
}

// right are tokens that may be.
func right() []token.Token {
	return []token.Token{
		of("m", ""), of(strings.Repeat("a", 16), "b"), changed(func(t *token.Token) { t.Policies = []string{"a", "b", "root", "-"} }),
		changed(func(t *token.Token) { t.Uses = 65535 }), changed(func(t *token.Token) { t.Until, t.Most = 5, 5 }),
		changed(func(t *token.Token) { t.Until, t.Most, t.Uses = 0, 1<<40, 1 }),
	}
}

// lists are lists of tokens that may not be.
func lists() map[string][]token.Token {
	twin := of("b", "")
	twin.Sum = of("a", "").Sum
	again := of("a", "")
	again.Sum = of("b", "").Sum
	l := map[string][]token.Token{"33": many(33), "an accessor twice": {of("a", ""), again}, "descending": {of("b", ""), of("a", "")}, "twice": {of("a", ""), of("a", "")}, "one sum": {of("a", ""), twin}}
	for name, t := range wrong() {
		l[name] = []token.Token{t}
	}
	return l
}

// TestTK1Checked tells what may be, and makes sums.
func TestTK1Checked(t *testing.T) {
	for i, x := range right() {
		if err := token.Check([]token.Token{x}); err != nil {
			t.Errorf("token %d: %v", i, err)
		}
	}
	if token.Check(nil) != nil || token.Check(many(32)) != nil || token.Check([]token.Token{of("a", "z"), of("b", "a")}) != nil {
		t.Error("tokens that may be")
	}
	for name, l := range lists() {
		_, err1 := token.Create(l, of("zz", ""), 0)
		_, err2 := token.Find(l, [32]byte{}, 0)
		_, err3 := token.Use(l, "a")
		_, err4 := token.Renew(l, "a", 0, 0)
		_, gone, err5 := token.Revoke(l, "a")
		for i, err := range []error{token.Check(l), err1, err2, err3, err4, err5} {
			if testcode.Of(err) != api.ErrArg {
				t.Errorf("%s, call %d: %v", name, i, err)
			}
		}
		if left, swept := token.Sweep(l, never); !reflect.DeepEqual(left, l) || swept != nil || gone != nil {
			t.Errorf("%s: swept", name)
		}
	}
	if token.Sum([]byte("salt"), []byte("id")) != hmac.Mac([]byte("salt"), []byte("id")) {
		t.Error("Sum")
	}
}

// TestTK1Created makes one more, or does not.
func TestTK1Created(t *testing.T) {
	l := []token.Token{until("b", "", 10), of("d", "b")}
	twin := of("c", "")
	twin.Sum = l[0].Sum
	for name, c := range map[string]struct {
		l    []token.Token
		t    token.Token
		now  uint64
		want string
		err  api.Errno
	}{
		"first": {l, of("a", ""), 0, "a b d", 0}, "between": {l, of("c", "b"), 9, "b c d", 0}, "last": {l, of("e", "d"), 99, "b d e", 0},
		"of none": {nil, of("a", ""), 0, "a", 0}, "there": {l, of("b", "x"), 0, "", api.ErrTwice}, "its sum is there": {l, twin, 0, "", api.ErrTwice},
		"no parent": {l, of("c", "x"), 0, "", api.ErrToken}, "a parent that is over": {l, of("c", "b"), 10, "", api.ErrToken},
		"33": {many(32), of("z", ""), 0, "", api.ErrQuota}, "33, there": {many(32), of("t105", ""), 0, "", api.ErrTwice},
		"33, no parent": {many(32), of("z", "x"), 0, "", api.ErrToken}, "32": {many(31), of("z", "t100"), 0, names(many(31)) + " z", 0},
	} {
		got, err := token.Create(c.l, c.t, c.now)
		if names(got) != c.want || testcode.Of(err) != c.err {
			t.Errorf("%s: %s %v", name, names(got), err)
		}
	}
	for name, x := range wrong() {
		if got, err := token.Create(nil, x, 0); got != nil || testcode.Of(err) != api.ErrArg {
			t.Errorf("%s: %v", name, err)
		}
	}
}

// TestTK1Asked finds, uses and renews.
func TestTK1Asked(t *testing.T) {
	l := []token.Token{until("a", "", 10), of("b", "a"), of("c", "")}
	l[0].Policies = []string{"p"}
	l[1].Uses = 2
	if x, err := token.Find(l, l[0].Sum, 9); err != nil || !reflect.DeepEqual(x, l[0]) {
		t.Errorf("Find: %v %v", x, err)
	}
	for _, c := range []struct {
		sum [32]byte
		now uint64
	}{{l[0].Sum, 10}, {[32]byte{}, 0}, {token.Sum(nil, []byte("x")), 0}} {
		if x, err := token.Find(l, c.sum, c.now); !reflect.DeepEqual(x, token.Token{}) || testcode.Of(err) != api.ErrToken {
			t.Errorf("Find at %d: %v %v", c.now, x, err)
		}
	}
	one, err := token.Use(l, "b")
	if err != nil || one[1].Uses != 1 || l[1].Uses != 2 {
		t.Fatalf("used: %v %v", one, err)
	}
	if two, err := token.Use(one, "b"); err != nil || names(two) != "a c" {
		t.Errorf("used up: %s %v", names(two), err)
	}
	if got, err := token.Use(l, "c"); err != nil || !reflect.DeepEqual(got, l) {
		t.Errorf("as often as one likes: %v %v", got, err)
	}
	l[0].Uses = 1
	if got, err := token.Use(l, "a"); err != nil || names(got) != "c" {
		t.Errorf("what came of it goes: %s %v", names(got), err)
	}
	if got, err := token.Use(l, "x"); got != nil || testcode.Of(err) != api.ErrToken {
		t.Errorf("none is used: %v", err)
	}
	l[0].Most = 50
	for _, c := range []struct {
		accessor string
		now, ttl uint64
		want     uint64
		err      api.Errno
	}{
		{"a", 9, 5, 14, 0}, {"a", 9, 60, 50, 0}, {"a", 9, 0, 0, api.ErrArg}, {"a", 9, never, 0, api.ErrOver}, {"a", 10, 5, 0, api.ErrToken},
		{"x", 9, 0, 0, api.ErrToken}, {"a", 9, 1, 10, 0}, {"a", 5, 1, 6, 0},
	} {
		got, err := token.Renew(l, c.accessor, c.now, c.ttl)
		if testcode.Of(err) != c.err || err == nil && got[0].Until != c.want || (got == nil) != (err != nil) {
			t.Errorf("Renew at %d for %d: %v %v", c.now, c.ttl, got, err)
		}
	}
}

// TestTK2 takes tokens away, and all that came of them.
func TestTK2(t *testing.T) {
	l := []token.Token{of("a", ""), of("b", "e"), until("c", "a", 5), of("d", "b"), of("e", "c"), of("f", ""), of("g", "x")}
	for accessor, want := range map[string][2]string{
		"a": {"f g", "a b c d e"}, "e": {"a c f g", "b d e"}, "d": {"a b c e f g", "d"}, "g": {"a b c d e f", "g"},
	} {
		left, gone, err := token.Revoke(l, accessor)
		if err != nil || names(left) != want[0] || strings.Join(gone, " ") != want[1] {
			t.Errorf("Revoke(%s): %s, %v, %v", accessor, names(left), gone, err)
		}
	}
	if left, gone, err := token.Revoke(l, "x"); left != nil || gone != nil || testcode.Of(err) != api.ErrToken {
		t.Errorf("none is revoked: %v", err)
	}
	if left, gone := token.Sweep(l, 4); names(left) != "a b c d e f g" || len(gone) != 0 {
		t.Errorf("none is over: %v", gone)
	}
	if left, gone := token.Sweep(l, 5); names(left) != "a f g" || strings.Join(gone, " ") != "b c d e" {
		t.Errorf("Sweep: %s, %v", names(left), gone)
	}
	round := []token.Token{of("a", "b"), of("b", "a"), of("c", "b")}
	if left, gone, err := token.Revoke(round, "a"); err != nil || len(left) != 0 || strings.Join(gone, " ") != "a b c" {
		t.Errorf("parents that go round: %v %v", gone, err)
	}
}

// TestTK3 tells tokens as bytes, and reads what is none.
func TestTK3(t *testing.T) {
	x := token.Token{Sum: [32]byte{1, 2}, Accessor: "ab", Parent: "c", Policies: []string{"p", "root"}, Until: 0x0102, Most: never, Uses: 0x0304}
	want := "tk\x01\x02" + strings.Repeat("\x00", 30) + "\x02ab\x01c\x02\x01p\x04root" + "\x00\x00\x00\x00\x00\x00\x01\x02" + strings.Repeat("\xff", 8) + "\x03\x04"
	b, err := token.Encode(x)
	if err != nil || string(b) != want {
		t.Fatalf("Encode: %q %v", b, err)
	}
	for n := range b {
		if y, err := token.Decode(b[:n]); !reflect.DeepEqual(y, token.Token{}) || testcode.Of(err) != api.ErrForm {
			t.Fatalf("cut to %d: %v %v", n, y, err)
		}
	}
	for _, s := range []string{
		want + "\x00", "tx" + want[2:], strings.Replace(want, "\x02ab", "\x02a ", 1), strings.Replace(want, "\x01c", "\x02ab", 1),
		strings.Replace(want, "\x04root", "\x01p", 1), strings.Replace(want, strings.Repeat("\xff", 8), strings.Repeat("\x00", 8), 1),
		strings.Replace(want, "\x02\x01p", "\xff\x01p", 1), strings.Replace(want, "\x02ab", "\x00", 1),
	} {
		if y, err := token.Decode([]byte(s)); !reflect.DeepEqual(y, token.Token{}) || testcode.Of(err) != api.ErrForm {
			t.Errorf("Decode(%q): %v %v", s, y, err)
		}
	}
	for name, x := range wrong() {
		if b, err := token.Encode(x); b != nil || testcode.Of(err) != api.ErrArg {
			t.Errorf("Encode of %s: %v", name, err)
		}
	}
}

// TestTK4: who has no parent any more is not there; tokens come back from their bytes.
func TestTK4(t *testing.T) {
	for i, x := range right() {
		b, err := token.Encode(x)
		if err != nil {
			t.Fatal(err)
		}
		if y, err := token.Decode(b); err != nil || !reflect.DeepEqual(y, x) {
			t.Errorf("token %d comes back as %v, %v", i, y, err)
		}
	}
	seed := uint32(5)
	draw := func(n int) int {
		seed = seed*1664525 + 1013904223
		return int(seed>>16) % n
	}
	var l []token.Token
	for i := range 3000 {
		var next []token.Token
		switch draw(5) {
		case 0, 1:
			parent := ""
			if len(l) > 0 && draw(4) > 0 {
				parent = l[draw(len(l))].Accessor
			}
			x := until("t"+strconv.Itoa(i), parent, uint64(i+draw(60)))
			x.Uses = draw(3)
			next, _ = token.Create(l, x, uint64(i))
		case 2:
			if len(l) > 0 {
				next, _ = token.Use(l, l[draw(len(l))].Accessor)
			}
		case 3:
			if len(l) > 0 && draw(3) == 0 {
				next, _, _ = token.Revoke(l, l[draw(len(l))].Accessor)
			}
		case 4:
			next, _ = token.Sweep(l, uint64(i))
		}
		if next == nil {
			continue
		}
		l = next
		for _, x := range l {
			if x.Parent != "" && !slices.ContainsFunc(l, func(p token.Token) bool { return p.Accessor == x.Parent }) {
				t.Fatalf("%s has no parent %s", x.Accessor, x.Parent)
			}
		}
		if err := token.Check(l); err != nil {
			t.Fatal(err)
		}
	}
}

// TestKept: no memory is shared.
func TestKept(t *testing.T) {
	l := []token.Token{of("a", ""), of("b", "")}
	l[0].Policies = []string{"p"}
	x := of("c", "")
	x.Policies = []string{"q"}
	spoil := func(l []token.Token) {
		for i := range l {
			for j := range l[i].Policies {
				l[i].Policies[j] = "spoilt"
			}
			l[i].Uses = 7
		}
	}
	m, _ := token.Create(l, x, 0)
	spoil(m)
	m, _ = token.Use(l, "a")
	spoil(m)
	m, _ = token.Renew(l, "a", 0, 1)
	spoil(m)
	m, _, _ = token.Revoke(l, "b")
	spoil(m)
	m, _ = token.Sweep(l, 0)
	spoil(m)
	f, _ := token.Find(l, l[0].Sum, 0)
	spoil([]token.Token{f})
	if l[0].Policies[0] != "p" || l[0].Uses != 0 || l[1].Uses != 0 || x.Policies[0] != "q" {
		t.Error("memory is shared")
	}
	b, _ := token.Encode(l[0])
	c := bytes.Clone(b)
	y, _ := token.Decode(b)
	spoil([]token.Token{y})
	if !bytes.Equal(b, c) {
		t.Error("bytes are changed")
	}
}
