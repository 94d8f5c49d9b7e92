package path_test

import (
	"slices"
	"strings"
	"testing"

	"bursary/api"
	"bursary/path"
	"bursary/testcode"
)

var (
	name16 = strings.Repeat("a", 16)
	name17 = strings.Repeat("a", 17)
	long64 = strings.Repeat(strings.Repeat("b", 12)+"/", 4) + strings.Repeat("c", 12)
	long65 = strings.Repeat(strings.Repeat("b", 12)+"/", 4) + strings.Repeat("c", 13)
)

// TestPT1Paths tells what is a path, and what is a pattern.
func TestPT1Paths(t *testing.T) {
	for _, p := range []string{"a", "kv/a", "a/b/c/d/e/f", "0-_z/9", name16, long64, "-", "_/_"} {
		l, err := path.Split(p)
		if err != nil || path.Check(p) != nil || !slices.Equal(l, strings.Split(p, "/")) {
			t.Errorf("%q: %v %v", p, l, err)
		}
		if path.CheckPattern(p) != nil {
			t.Errorf("%q is no pattern", p)
		}
	}
	none := []string{
		"", "/", "/a", "a/", "a//b", "a/b/c/d/e/f/g", "A", "a b", "a.b", "ä", "a\n", name17, "a/" + name17, long65, "a`", "a{", "a:", "\x00",
	}
	for _, p := range append([]string{"+", "*", "a*", "a/*", "a/+/b"}, none...) {
		l, err := path.Split(p)
		if l != nil || testcode.Of(err) != api.ErrForm || testcode.Of(path.Check(p)) != api.ErrForm {
			t.Errorf("%q: %v %v", p, l, err)
		}
	}
	for _, p := range []string{"+", "*", "a*", "a/*", "+/+", "+/*", "+/a*", "a/+/b", "+/+/+/+/+/+", "+/+/+/+/+/*", name16 + "*", "a/+", long64[:63] + "*"} {
		if err := path.CheckPattern(p); err != nil {
			t.Errorf("pattern %q: %v", p, err)
		}
	}
	for _, p := range append([]string{"+*", "a/+*", "**", "*a", "a*b", "*/a", "a*/b", "a+", "+a", "++", name17 + "*", long64 + "*", "+/+/+/+/+/+/*", "a/", "A*"}, none...) {
		if err := path.CheckPattern(p); testcode.Of(err) != api.ErrForm {
			t.Errorf("pattern %q: %v", p, err)
		}
	}
}

// TestPT1Match holds patterns against paths.
func TestPT1Match(t *testing.T) {
	for _, c := range []struct {
		pattern string
		means   []string
		not     []string
	}{
		{"kv/a", []string{"kv/a"}, []string{"kv/b", "kv", "kv/a/b", "kv/ab", "x/a"}},
		{"kv/+/x", []string{"kv/a/x", "kv/x/x"}, []string{"kv/a/y", "kv/x", "kv/a/x/y", "kv/a/b/x"}},
		{"kv/a*", []string{"kv/a", "kv/ab", "kv/ab/c", "kv/a/b/c/d"}, []string{"kv/b", "kv", "x/a", "kv/ba"}},
		{"kv/*", []string{"kv/a", "kv/a/b"}, []string{"kv", "kw/a"}},
		{"*", []string{"a", "a/b/c/d/e/f"}, nil},
		{"+", []string{"a"}, []string{"a/b"}},
		{"+/+", []string{"a/b"}, []string{"a", "a/b/c"}},
		{"+/b*", []string{"a/b", "a/bc/d"}, []string{"a/c", "b"}},
		{"+*", nil, []string{"a", "+*"}},
		{"a/", nil, []string{"a", "a/", "a/b"}},
	} {
		for _, p := range c.means {
			if !path.Match(c.pattern, p) {
				t.Errorf("%q does not mean %q", c.pattern, p)
			}
		}
		for _, p := range append([]string{"", "A", "a//b", "kv/+", "kv/a/", "*"}, c.not...) {
			if path.Match(c.pattern, p) {
				t.Errorf("%q means %q", c.pattern, p)
			}
		}
	}
}

// TestPT2 tells which of two patterns says more.
func TestPT2(t *testing.T) {
	for _, c := range []struct {
		a, b string
		want int
	}{
		{"kv/+/x", "kv/a*", 1}, {"kv/a/x", "kv/+/x", 1}, {"kv/+/x", "kv/*", 1}, {"kv/ab*", "kv/a*", 1}, {"kv/a", "kv/ab*", 1},
		{"kv/*", "kv", 1}, {"kv/+", "kv", 1}, {"kv/a", "kv", 1}, {"a/b", "+/b", 1}, {"a", "+/b/c", 1}, {"+/b", "+/+", 1}, {"+/+", "+/*", 1},
		{"a", "b", 0}, {"a/b", "c/d", 0}, {"+", "+", 0}, {"a*", "b*", 0}, {"*", "*", 0}, {"a*", "*", 1}, {"a", "a", 0},
		{"longer/a*", "s/bc*", -1}, {"+/a", "a*", 1}, {"a/b", "a*", 1}, {"+", "*", 1},
		{"", "a", 0}, {"a", "", 0}, {"+*", "a", 0}, {"a", "A", 0}, {"a/b", "a*/b", 0},
	} {
		if got := path.More(c.a, c.b); got != c.want {
			t.Errorf("More(%q, %q): %d", c.a, c.b, got)
		}
		if got := path.More(c.b, c.a); got != -c.want {
			t.Errorf("More(%q, %q): %d", c.b, c.a, got)
		}
	}
}

// all are all texts of up to so many places, each one of some.
func all(places []string, n int) []string {
	var l []string
	for _, p := range places {
		l = append(l, p)
		if n > 1 {
			for _, rest := range all(places, n-1) {
				l = append(l, p+"/"+rest)
			}
		}
	}
	return l
}

// TestPT3: of patterns that mean one path each two unlike ones say more one than the other, and so in a row.
func TestPT3(t *testing.T) {
	patterns := slices.DeleteFunc(all([]string{"a", "ab", "+", "*", "a*", "ab*", "b"}, 3), func(s string) bool { return path.CheckPattern(s) != nil })
	for _, p := range all([]string{"a", "ab", "b"}, 3) {
		var l []string
		for _, s := range patterns {
			if path.Match(s, p) {
				l = append(l, s)
			}
		}
		for _, a := range l {
			for _, b := range l {
				more := path.More(a, b)
				if (a == b) != (more == 0) || more != -path.More(b, a) {
					t.Fatalf("of %q: %q and %q: %d", p, a, b, more)
				}
				for _, c := range l {
					if more > 0 && path.More(b, c) > 0 && path.More(a, c) <= 0 {
						t.Fatalf("of %q: %q, %q, %q go round", p, a, b, c)
					}
				}
			}
		}
	}
}
