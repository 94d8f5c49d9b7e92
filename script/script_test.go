package script_test

import (
	"reflect"
	"slices"
	"strings"
	"testing"

	"bursary/api"
	"bursary/script"
	"bursary/testcode"
)

// of is a command of words.
func of(line string) script.Command {
	w := strings.Fields(line)
	return script.Command{Word: w[0], Args: w[1:]}
}

// right are commands' lines, wrong lines that are none.
var (
	right = []string{
		"disk 5", "limit 18446744073709551615", "open 0", "arm 1", "crash 010", "crash -", "tamper 3 00ff", "tick 9", "draw ~", "as !", "do a b", "do a b c", "do a b c d e f",
		"keep 0 name", "show", "sectors", "journal", "as " + strings.Repeat("x", 600), "crash x=y*z",
	}
	wrong = []string{
		"disk", "disk x", "disk 5 6", "disk 05", "disk -1", "disk 18446744073709551616", "disk +5", "limit", "open 1 2", "arm", "arm x", "crash", "crash a b", "tamper 3", "tamper x 00", "tamper 3 00 1",
		"tick 1.0", "draw", "draw a b", "as", "as a b", "do", "do a", "do a b c d e f g", "keep 0", "keep x y", "keep 0 a b", "show 1", "sectors x", "journal x", "Show", "shows", "none", "5",
		"as " + strings.Repeat("x", 601), "as \xc3\xa4", "as \x7f", "as \x01", "as a\rb", "as \u00a0",
	}
)

// TestSR1 reads scripts, and numbers.
func TestSR1(t *testing.T) {
	for _, line := range right {
		if err := script.Check(of(line)); err != nil {
			t.Errorf("Check(%q): %v", line, err)
		}
		if l, n, err := script.Parse("\n" + line); err != nil || n != 0 || len(l) != 1 || !reflect.DeepEqual(l[0], of(line)) && len(l[0].Args) > 0 {
			t.Errorf("Parse(%q): %v %d %v", line, l, n, err)
		}
	}
	for _, line := range wrong {
		w := strings.Split(line, " ")
		if err := script.Check(script.Command{Word: w[0], Args: w[1:]}); testcode.Of(err) != api.ErrScript {
			t.Errorf("Check(%q): %v", line, err)
		}
		if l, n, err := script.Parse("show\n\n" + line + "\nnone"); l != nil || n != 3 || testcode.Of(err) != api.ErrScript {
			t.Errorf("Parse(%q): %v %d %v", line, l, n, err)
		}
	}
	for _, c := range []script.Command{{}, {Word: ""}, {Word: "as", Args: []string{""}}, {Word: "as", Args: []string{"a b"}}, {Word: "as", Args: []string{"a#"}}, {Word: "show", Args: []string{""}}, {Word: "do", Args: []string{"a", "b", ""}}} {
		if testcode.Of(script.Check(c)) != api.ErrScript {
			t.Errorf("Check(%v)", c)
		}
	}
	for s, want := range map[string]string{
		"": "", "\n\n": "", "# show": "", " \tshow\t ": "show", "show#x": "show", "tick 5 # five": "tick 5", "tick \t 5": "tick 5", "show\nsectors\n": "show;sectors", "show\n # x\n\nas a": "show;as a",
		strings.Repeat("#", 65536): "", strings.Repeat("show\n", 2000): strings.Repeat(";show", 2000)[1:], strings.Repeat("show\n", 2000) + "\n#": strings.Repeat(";show", 2000)[1:],
	} {
		l, n, err := script.Parse(s)
		var got []string
		for _, c := range l {
			got = append(got, strings.Join(append([]string{c.Word}, c.Args...), " "))
		}
		if err != nil || n != 0 || strings.Join(got, ";") != want {
			t.Errorf("Parse of %d bytes: %q %d %v", len(s), got, n, err)
		}
	}
	if l, n, err := script.Parse(strings.Repeat("#", 65537)); l != nil || n != 0 || testcode.Of(err) != api.ErrLong {
		t.Errorf("a text too long: %d %v", n, err)
	}
	if l, n, err := script.Parse("\n" + strings.Repeat("show\n", 2000) + "\nshow"); l != nil || n != 2003 || testcode.Of(err) != api.ErrScript {
		t.Errorf("a command too many: %d %v", n, err)
	}
	if _, n, err := script.Parse("show\r\n"); n != 1 || testcode.Of(err) != api.ErrScript {
		t.Errorf("a byte 13: %d %v", n, err)
	}
	for s, want := range map[string]uint64{"0": 0, "7": 7, "10": 10, "18446744073709551615": 1<<64 - 1} {
		if n, err := script.Number(s); err != nil || n != want {
			t.Errorf("Number(%q): %d %v", s, n, err)
		}
	}
	for _, s := range []string{"", "00", "01", "-1", "+1", "1 ", " 1", "1_0", "0x1", "1e3", "18446744073709551616", strings.Repeat("9", 999), "a", "\u0661"} {
		if n, err := script.Number(s); n != 0 || testcode.Of(err) != api.ErrForm {
			t.Errorf("Number(%q): %d %v", s, n, err)
		}
	}
}

// TestSR2 prints scripts.
func TestSR2(t *testing.T) {
	if s, err := script.Print([]script.Command{of("tick 5"), of("do a b c"), of("show")}); err != nil || s != "tick 5\ndo a b c\nshow\n" {
		t.Errorf("Print: %q %v", s, err)
	}
	if s, err := script.Print(nil); err != nil || s != "" {
		t.Errorf("Print of none: %q %v", s, err)
	}
	long := of("as " + strings.Repeat("x", 600)) // 604 bytes a line
	for name, c := range map[string]struct {
		l    []script.Command
		want api.Errno
	}{
		"2000": {slices.Repeat([]script.Command{of("show")}, 2000), 0}, "2001": {slices.Repeat([]script.Command{of("show")}, 2001), api.ErrScript}, "one that may not be": {[]script.Command{of("show"), of("none")}, api.ErrScript},
		"as long as may be":                 {append(slices.Repeat([]script.Command{long}, 108), of("as "+strings.Repeat("x", 65536-108*604-4))), 0},
		"too long":                          {append(slices.Repeat([]script.Command{long}, 108), of("as "+strings.Repeat("x", 65536-108*604-3))), api.ErrLong},
		"too long, and one that may not be": {append(slices.Repeat([]script.Command{long}, 109), of("none")), api.ErrScript},
	} {
		s, err := script.Print(c.l)
		if testcode.Of(err) != c.want || (s == "") != (err != nil) || len(s) > 65536 {
			t.Errorf("%s: %d bytes, %v", name, len(s), err)
		}
	}
}

// TestSR3: what is printed is read as it was.
func TestSR3(t *testing.T) {
	var l []script.Command
	for _, line := range right {
		l = append(l, of(line))
	}
	s, err := script.Print(l)
	if err != nil {
		t.Fatal(err)
	}
	got, n, err := script.Parse(s)
	if err != nil || n != 0 || len(got) != len(l) {
		t.Fatalf("%d commands, %d %v", len(got), n, err)
	}
	for i, c := range got {
		if c.Word != l[i].Word || !slices.Equal(c.Args, l[i].Args) {
			t.Errorf("%v is read as %v", l[i], c)
		}
	}
	again, err := script.Print(got)
	if err != nil || again != s {
		t.Errorf("printed again: %v", err)
	}
}

// TestKept: no memory is shared.
func TestKept(t *testing.T) {
	l, _, _ := script.Parse("do a b c\ndo d e f")
	_ = append(l[0].Args, "spoilt")
	l[0].Args[0] = "spoilt"
	if !slices.Equal(l[1].Args, []string{"d", "e", "f"}) {
		t.Error("memory is shared")
	}
}
