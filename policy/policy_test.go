package policy_test

import (
	"slices"
	"strconv"
	"strings"
	"testing"

	"bursary/api"
	"bursary/policy"
	"bursary/testcode"
)

// many are so many rules.
func many(n int) []policy.Rule {
	var l []policy.Rule
	for i := range n {
		l = append(l, policy.Rule{Pattern: "p" + strconv.Itoa(i), Caps: 1})
	}
	return l
}

// TestPO1Parsed reads texts of rules, and texts that are none.
func TestPO1Parsed(t *testing.T) {
	lines := func(n int) string {
		var s strings.Builder
		for i := range n {
			s.WriteString("p" + strconv.Itoa(i) + " = read\n")
		}
		return s.String()
	}
	for _, c := range []struct {
		s    string
		want []policy.Rule
		line int
		err  api.Errno
	}{
		{"kv/* = list read", []policy.Rule{{"kv/*", 9}}, 0, 0},
		{"", nil, 0, 0}, {"\n\n # nothing\n\t \n", nil, 0, 0},
		{"a = read write delete list sudo\nb = deny\n", []policy.Rule{{"a", 31}, {"b", 32}}, 0, 0},
		{" \ta \t= \t sudo\t read \t# a note = x", []policy.Rule{{"a", 17}}, 0, 0},
		{"a = read#x", []policy.Rule{{"a", 1}}, 0, 0},
		{"\n\n+ = write\n#\n* = deny", []policy.Rule{{"+", 2}, {"*", 32}}, 0, 0},
		{"# " + strings.Repeat("x", 510), nil, 0, 0}, {"# " + strings.Repeat("x", 511), nil, 0, api.ErrLong},
		{"a=read", nil, 1, api.ErrForm}, {"a = read\nb= read", nil, 2, api.ErrForm}, {"a =read", nil, 1, api.ErrForm},
		{"a", nil, 1, api.ErrForm}, {"a =", nil, 1, api.ErrForm}, {"a = ", nil, 1, api.ErrForm}, {"= read", nil, 1, api.ErrForm},
		{"a = = read", nil, 1, api.ErrForm}, {"a read", nil, 1, api.ErrForm}, {"a : read", nil, 1, api.ErrForm},
		{"a = read read", nil, 1, api.ErrForm}, {"a = deny read", nil, 1, api.ErrForm}, {"a = deny deny", nil, 1, api.ErrForm},
		{"a = Read", nil, 1, api.ErrForm}, {"a = reads", nil, 1, api.ErrForm}, {"a = read,list", nil, 1, api.ErrForm},
		{"A = read", nil, 1, api.ErrForm}, {"+* = read", nil, 1, api.ErrForm}, {"a b = read", nil, 1, api.ErrForm},
		{"a = read\r\n", nil, 1, api.ErrForm}, {"a\u00a0= read", nil, 1, api.ErrForm}, {"a = # read", nil, 1, api.ErrForm},
		{"a = read\xff", nil, 1, api.ErrForm},
		{"a = read\n\na = list", nil, 3, api.ErrTwice}, {"a = read\na = none", nil, 2, api.ErrForm},
		{lines(16), many(16), 0, 0}, {lines(17), nil, 17, api.ErrQuota},
		{lines(16) + "p3 = read", nil, 17, api.ErrTwice}, {lines(16) + "p3 = x", nil, 17, api.ErrForm}, {lines(16) + "\n# x\n", many(16), 0, 0},
	} {
		l, line, err := policy.Parse(c.s)
		if !slices.Equal(l, c.want) || line != c.line || testcode.Of(err) != c.err {
			t.Errorf("Parse(%q): %v %d %v", c.s, l, line, err)
		}
	}
}

// TestPO1Printed prints rules, and tells words.
func TestPO1Printed(t *testing.T) {
	if s, err := policy.Print([]policy.Rule{{"kv/*", 9}, {"a", 32}, {"b", 31}}); err != nil || s != "kv/* = read list\na = deny\nb = read write delete list sudo\n" {
		t.Errorf("Print: %q %v", s, err)
	}
	if s, err := policy.Print(nil); err != nil || s != "" {
		t.Errorf("Print of none: %q %v", s, err)
	}
	for i, l := range [][]policy.Rule{
		{{"a", 0}}, {{"a", 33}}, {{"a", 64}}, {{"a", 255}}, {{"", 1}}, {{"+*", 1}}, {{"a", 1}, {"b", 1}, {"a", 2}}, many(17),
	} {
		s, err := policy.Print(l)
		if s != "" || testcode.Of(err) != api.ErrArg || testcode.Of(policy.Check(l)) != api.ErrArg {
			t.Errorf("rules %d: %q %v", i, s, err)
		}
	}
	if s, err := policy.Print(many(16)); err != nil || strings.Count(s, "\n") != 16 || policy.Check(many(16)) != nil {
		t.Errorf("16 rules: %v", err)
	}
	// Each line has 64 - 4 bytes of pattern at most, " = read", and its end.
	var l []policy.Rule
	for i := range 8 {
		l = append(l, policy.Rule{Pattern: strings.Repeat("x", 15) + "/" + strings.Repeat("y", 15) + "/" + strings.Repeat("z", 15) + "/" + strings.Repeat("w", 7) + string(rune('a'+i)), Caps: 1})
	}
	if s, err := policy.Print(l); err != nil || len(s) != 512 {
		t.Errorf("a text of 512: %d %v", len(s), err)
	}
	l[0].Pattern += "x"
	if s, err := policy.Print(l); s != "" || testcode.Of(err) != api.ErrLong || policy.Check(l) != nil {
		t.Errorf("a text of 513: %d %v", len(s), err)
	}
	for caps, want := range map[uint8]string{0: "", 1: "read", 2: "write", 4: "delete", 8: "list", 16: "sudo", 32: "deny", 255: "read write delete list sudo deny", 64: "", 192: "", 33: "read deny"} {
		if got := strings.Join(policy.Words(caps), " "); got != want {
			t.Errorf("Words(%d): %s", caps, got)
		}
		if !strings.Contains(want, " ") && policy.Cap(want) != caps&63 {
			t.Errorf("Cap(%q): %d", want, policy.Cap(want))
		}
	}
	if policy.Cap("Read") != 0 || policy.Cap("reads") != 0 {
		t.Error("Cap of no word")
	}
	if policy.Read != 1 || policy.Write != 2 || policy.Delete != 4 || policy.List != 8 || policy.Sudo != 16 || policy.Deny != 32 {
		t.Error("the numbers")
	}
}

// TestPO2: what is printed is read as it was.
func TestPO2(t *testing.T) {
	for caps := 1; caps <= 32; caps++ {
		l := []policy.Rule{{"kv/+/a*", uint8(caps)}, {"*", uint8(33 - caps)}, {"b", 4}}
		s, err := policy.Print(l)
		if err != nil {
			t.Fatal(err)
		}
		if got, line, err := policy.Parse(s); err != nil || line != 0 || !slices.Equal(got, l) {
			t.Fatalf("%q is read as %v, %d %v", s, got, line, err)
		}
	}
}
