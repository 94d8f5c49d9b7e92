package acl_test

import (
	"slices"
	"strings"
	"testing"

	"bursary/acl"
	"bursary/path"
	"bursary/policy"
)

// read are policies, each of a text.
func read(t *testing.T, texts ...string) [][]policy.Rule {
	t.Helper()
	var l [][]policy.Rule
	for _, s := range texts {
		rules, _, err := policy.Parse(s)
		if err != nil {
			t.Fatal(err)
		}
		l = append(l, rules)
	}
	return l
}

// TestAC1 asks what policies say of paths.
func TestAC1(t *testing.T) {
	l := read(t, "kv/* = read\nkv/a = deny", "kv/* = list write\nkv/a = read sudo\nkv/b/+ = delete", "+ = list")
	for _, c := range []struct {
		p, pattern string
		caps       uint8
		ok         bool
	}{
		{"kv/b", "kv/*", 11, true}, {"kv/a", "kv/a", 32, true}, {"kv/b/c", "kv/b/+", 4, true}, {"kv/b/c/d", "kv/*", 11, true},
		{"x", "+", 8, true}, {"x/y", "", 0, false}, {"", "", 0, false}, {"KV/b", "", 0, false}, {"kv/", "", 0, false}, {"kv/*", "", 0, false},
	} {
		pattern, caps, ok := acl.Says(l, c.p)
		if pattern != c.pattern || caps != c.caps || ok != c.ok {
			t.Errorf("Says(%q): %q %d %v", c.p, pattern, caps, ok)
		}
		for bit := 0; bit < 256; bit++ {
			want := c.ok && slices.Contains([]int{1, 2, 4, 8, 16}, bit) && int(c.caps)&bit != 0
			if got := acl.Allows(l, c.p, uint8(bit)); got != want {
				t.Errorf("Allows(%q, %d): %v", c.p, bit, got)
			}
		}
	}
	if _, _, ok := acl.Says(nil, "a"); ok || acl.Allows(nil, "a", 1) {
		t.Error("no policies")
	}
	wrong := []policy.Rule{{Pattern: "a", Caps: 1}, {Pattern: "a", Caps: 2}}
	if _, _, ok := acl.Says([][]policy.Rule{wrong}, "a"); ok {
		t.Error("rules that may not be are looked at")
	}
	if s, caps, ok := acl.Says([][]policy.Rule{wrong, {{Pattern: "*", Caps: 4}}}, "a"); !ok || s != "*" || caps != 4 {
		t.Errorf("beside rules that may not be: %q %d %v", s, caps, ok)
	}
}

// TestAC2 asks for the rules that allow all, and for paths of which nothing is allowed.
func TestAC2(t *testing.T) {
	root := acl.Root()
	if !slices.Equal(root, []policy.Rule{{Pattern: "*", Caps: 31}}) || policy.Check(root) != nil {
		t.Errorf("Root: %v", root)
	}
	root[0].Caps = 0
	if acl.Root()[0].Caps != 31 {
		t.Error("Root is handed out")
	}
	l := read(t, "kv/* = read\nkv/a = deny")
	paths := []string{"x", "kv/b", "kv/a", "", "kv/c", "kv/a", "+"}
	if got := acl.Denied(l, paths); !slices.Equal(got, []string{"x", "kv/a", "", "kv/a", "+"}) {
		t.Errorf("Denied: %q", got)
	}
	if got := acl.Denied(nil, []string{"a"}); !slices.Equal(got, []string{"a"}) {
		t.Errorf("Denied by none: %q", got)
	}
	if got := acl.Denied(l, nil); len(got) != 0 {
		t.Errorf("Denied of none: %q", got)
	}
}

// TestAC3: one policy more allows more, but where it says more, or denies; the order does not matter.
func TestAC3(t *testing.T) {
	texts := []string{"kv/* = read", "kv/* = write\nkv/a = deny", "kv/a = sudo", "kv/+/b = list", "* = delete", "kv/a* = read list\n+ = sudo", "kv/* = deny"}
	paths := []string{"kv/a", "kv/ab", "kv/b", "kv/a/b", "x", "kv/c/d"}
	for mask := range 1 << len(texts) {
		var some []string
		for i, s := range texts {
			if mask>>i&1 == 1 {
				some = append(some, s)
			}
		}
		l := read(t, some...)
		back := slices.Clone(l)
		slices.Reverse(back)
		for _, p := range paths {
			s, caps, ok := acl.Says(l, p)
			s2, caps2, ok2 := acl.Says(back, p)
			if s != s2 || caps != caps2 || ok != ok2 {
				t.Fatalf("%s of %q: the order matters", strings.Join(some, ";"), p)
			}
			for _, more := range texts {
				all := append(read(t, more), l...)
				s3, caps3, _ := acl.Says(all, p)
				if ok && s3 == s && caps3 != policy.Deny && caps3&caps != caps {
					t.Fatalf("%s and %s of %q: %d, not %d", more, strings.Join(some, ";"), p, caps3, caps)
				}
				if ok && s3 == s && caps == policy.Deny && caps3 != policy.Deny {
					t.Fatalf("%s and %s of %q: what denies does not win", more, strings.Join(some, ";"), p)
				}
				if ok && s3 != s && path.More(s3, s) <= 0 {
					t.Fatalf("%s and %s of %q: %s, not %s", more, strings.Join(some, ";"), p, s3, s)
				}
			}
		}
	}
}
