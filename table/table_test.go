package table_test

import (
	"bytes"
	"slices"
	"strconv"
	"strings"
	"testing"

	"bursary/api"
	"bursary/table"
	"bursary/testcode"
)

// of is a table of names, each with its own bytes.
func of(names ...string) table.Table {
	var t table.Table
	for _, n := range names {
		t.L = append(t.L, table.Entry{Name: n, Data: []byte(n)})
	}
	return t
}

// many is a table of so many entries.
func many(n int) table.Table {
	var t table.Table
	for i := range n {
		t.L = append(t.L, table.Entry{Name: "n" + strconv.Itoa(1000+i)})
	}
	return t
}

// told is a table as a text.
func told(t table.Table) string {
	var s strings.Builder
	for _, e := range t.L {
		s.WriteString(e.Name + "=" + string(e.Data) + ";")
	}
	return s.String()
}

func put(name, data string) table.Op { return table.Op{Name: name, Data: []byte(data)} }
func take(name string) table.Op      { return table.Op{Del: true, Name: name} }

// wrong are tables that may not be.
func wrong() map[string]table.Table {
	long := of("a")
	long.L[0].Data = make([]byte, 2049)
	return map[string]table.Table{
		"no name": of(""), "a blank": of("a b"), "a byte of 32": of(" "), "a byte of 127": of("a\x7f"), "a byte of 200": of("\xc8"),
		"65 bytes": of(strings.Repeat("a", 65)), "descending": of("b", "a"), "twice": of("a", "a"), "257 entries": many(257),
		"2049 bytes": long,
	}
}

// TestTA1 asks for names, bytes, and whether tables may be.
func TestTA1(t *testing.T) {
	big := of("a")
	big.L[0].Data = make([]byte, 2048)
	for i, x := range []table.Table{{}, of("!", "~"), of("B", "a", "aa", "b"), of(strings.Repeat("a", 64)), many(256), big} {
		if err := table.Check(x); err != nil {
			t.Errorf("table %d: %v", i, err)
		}
	}
	for name, x := range wrong() {
		if testcode.Of(table.Check(x)) != api.ErrArg {
			t.Errorf("Check of %s", name)
		}
		if b, err := table.Get(x, "zz"); b != nil || testcode.Of(err) != api.ErrArg {
			t.Errorf("Get of %s", name)
		}
		if table.Names(x, "") != nil || table.Ops(x) != nil {
			t.Errorf("Names and Ops of %s", name)
		}
		if y, err := table.Apply(x, nil); y.L != nil || testcode.Of(err) != api.ErrArg {
			t.Errorf("Apply to %s", name)
		}
	}
	x := of("a", "b/1", "b/2", "c")
	if b, err := table.Get(x, "b/2"); err != nil || string(b) != "b/2" {
		t.Errorf("Get: %q %v", b, err)
	}
	for _, name := range []string{"", "b", "b/3", "d", "a b"} {
		if b, err := table.Get(x, name); b != nil || testcode.Of(err) != api.ErrNone {
			t.Errorf("Get(%q): %q %v", name, b, err)
		}
	}
	for prefix, want := range map[string][]string{"": {"a", "b/1", "b/2", "c"}, "b": {"b/1", "b/2"}, "b/2": {"b/2"}, "b/22": nil, "x": nil} {
		if got := table.Names(x, prefix); !slices.Equal(got, want) {
			t.Errorf("Names(%q): %v", prefix, got)
		}
	}
}

// TestTA2Applied puts and takes away, one by one.
func TestTA2Applied(t *testing.T) {
	x := of("b", "d")
	for _, c := range []struct {
		l    []table.Op
		want string
		err  api.Errno
	}{
		{nil, "b=b;d=d;", 0},
		{[]table.Op{put("a", "1"), put("c", "2"), put("e", "3")}, "a=1;b=b;c=2;d=d;e=3;", 0},
		{[]table.Op{put("b", "1"), put("b", "")}, "b=;d=d;", 0},
		{[]table.Op{take("b"), take("d")}, "", 0},
		{[]table.Op{put("a", "1"), take("a")}, "b=b;d=d;", 0},
		{[]table.Op{take("a"), put("a", "1")}, "", api.ErrNone},
		{[]table.Op{take("b"), take("b")}, "", api.ErrNone},
		{[]table.Op{take("x"), put("", "")}, "", api.ErrArg},
		{[]table.Op{take("x"), put("a\n", "")}, "", api.ErrArg},
		{[]table.Op{put("a", strings.Repeat("x", 2049))}, "", api.ErrArg},
		{[]table.Op{{Del: true, Name: "b", Data: []byte("x")}}, "", api.ErrArg},
	} {
		got, err := table.Apply(x, c.l)
		if testcode.Of(err) != c.err || told(got) != c.want {
			t.Errorf("Apply(%v): %s %v", c.l, told(got), err)
		}
	}
	if told(x) != "b=b;d=d;" {
		t.Error("the table that was handed in is changed")
	}
	if got, err := table.Apply(table.Table{}, []table.Op{put("a", strings.Repeat("x", 2048))}); err != nil || len(got.L[0].Data) != 2048 {
		t.Errorf("2048 bytes: %v", err)
	}
}

// TestTA2Full: there are 256 at most behind all changes, whatever there was between them.
func TestTA2Full(t *testing.T) {
	for i, c := range []struct {
		n    int
		l    []table.Op
		want int
		err  api.Errno
	}{
		{255, []table.Op{put("x", "")}, 256, 0},
		{256, nil, 256, 0},
		{256, []table.Op{put("n1000", "y")}, 256, 0},
		{256, []table.Op{take("n1000"), put("x", ""), put("x", "y")}, 256, 0},
		{256, []table.Op{put("x", ""), take("n1000")}, 256, 0},
		{256, []table.Op{put("x", ""), take("x")}, 256, 0},
		{256, []table.Op{put("x", ""), put("y", ""), take("n1000"), take("n1255")}, 256, 0},
		{256, []table.Op{put("x", "")}, 0, api.ErrFull},
		{255, []table.Op{put("x", ""), put("y", "")}, 0, api.ErrFull},
		{256, []table.Op{put("x", ""), put("y", ""), take("n1000")}, 0, api.ErrFull},
		{256, []table.Op{put("x", ""), take("x"), put("y", "")}, 0, api.ErrFull},
		{256, []table.Op{put("x", ""), take("y")}, 0, api.ErrNone},
		{256, []table.Op{put("x", ""), take("x"), take("x")}, 0, api.ErrNone},
		{256, []table.Op{take("y"), put("x", "")}, 0, api.ErrNone},
		{256, []table.Op{put("x", ""), take("y"), put("", "")}, 0, api.ErrArg},
	} {
		got, err := table.Apply(many(c.n), c.l)
		if testcode.Of(err) != c.err || len(got.L) != c.want || table.Check(got) != nil {
			t.Errorf("changes %d: %d entries, %v", i, len(got.L), err)
		}
	}
	got, err := table.Apply(of("b"), append(table.Ops(many(256)), take("n1000"), put("a", "1")))
	if testcode.Of(err) != api.ErrFull || got.L != nil {
		t.Errorf("one more than 256: %d entries, %v", len(got.L), err)
	}
	got, err = table.Apply(of("b"), append(table.Ops(many(256)), take("n1000"), put("b", "1")))
	if err != nil || len(got.L) != 256 || string(got.L[0].Data) != "1" || got.L[1].Name != "n1001" || got.L[255].Name != "n1255" {
		t.Errorf("256 again: %d entries, %v", len(got.L), err)
	}
	// As many changes as can be told as bytes.
	var l []table.Op
	for i := range 32767 {
		l = append(l, put("m"+strconv.Itoa(i), ""))
	}
	for i := range 32767 {
		l = append(l, take("m"+strconv.Itoa(i)))
	}
	if got, err := table.Apply(many(256), l); err != nil || told(got) != told(many(256)) {
		t.Errorf("32767 names put and taken away: %d entries, %v", len(got.L), err)
	}
}

// TestTA2Bytes tells changes as bytes, and reads bytes that are none.
func TestTA2Bytes(t *testing.T) {
	l := []table.Op{put("ab", "xyz"), take("c"), put("d", "")}
	want := "\x00\x03\x01\x02ab\x00\x03xyz\x02\x01c\x01\x01d\x00\x00"
	b, err := table.EncodeOps(l)
	if err != nil || string(b) != want {
		t.Fatalf("EncodeOps: %q %v", b, err)
	}
	long := put("a", strings.Repeat("x", 0x0203))
	if b, err := table.EncodeOps([]table.Op{long}); err != nil || !bytes.HasPrefix(b, []byte("\x00\x01\x01\x01a\x02\x03x")) {
		t.Errorf("the highest byte first: %q %v", b, err)
	} else if l, err := table.DecodeOps(b); err != nil || len(l) != 1 || len(l[0].Data) != 0x0203 {
		t.Errorf("the highest byte first: %v", err)
	}
	if l, err := table.DecodeOps([]byte("\x01\x02" + strings.Repeat("\x02\x01c", 0x0102))); err != nil || len(l) != 0x0102 {
		t.Errorf("the highest byte first: %d %v", len(l), err)
	}
	if b, err := table.EncodeOps(nil); err != nil || string(b) != "\x00\x00" {
		t.Errorf("no changes: %q %v", b, err)
	}
	got, err := table.DecodeOps(b)
	if err != nil || len(got) != 3 || got[0].Name != "ab" || string(got[0].Data) != "xyz" || !got[1].Del || got[2].Del || len(got[2].Data) != 0 {
		t.Fatalf("DecodeOps: %v %v", got, err)
	}
	for n := range b {
		if l, err := table.DecodeOps(b[:n]); l != nil || testcode.Of(err) != api.ErrForm {
			t.Errorf("cut to %d: %v %v", n, l, err)
		}
	}
	for _, s := range []string{
		want + "\x00", "\x00\x01", "\x00\x02\x02\x01c", "\x00\x01\x00\x01c", "\x00\x01\x03\x01c", "\x00\x01\x02\x00", "\x00\x01\x02\x01 ",
		"\x00\x01\x02\x01\x7f", "\x00\x01\x01\x01a\x00", "\x00\x01\x01\x01a\x00\x01", "\x00\x01\x02\x01c\x00\x00", "\x01\x00\x02\x01c",
		"\x00\x01\x02\x41" + strings.Repeat("a", 65), "\x00\x01\x01\x01a\x08\x01" + strings.Repeat("x", 2049),
	} {
		if l, err := table.DecodeOps([]byte(s)); l != nil || testcode.Of(err) != api.ErrForm {
			t.Errorf("DecodeOps(%q): %v %v", s, l, err)
		}
	}
	if _, err := table.DecodeOps([]byte("\x00\x01\x01\x01a\x08\x00" + strings.Repeat("x", 2048))); err != nil {
		t.Errorf("2048 bytes: %v", err)
	}
	for name, l := range map[string][]table.Op{
		"no name": {put("", "")}, "long": {put("a", strings.Repeat("x", 2049))}, "taken with bytes": {{Del: true, Name: "a", Data: []byte("x")}},
		"65536": slices.Repeat([]table.Op{take("a")}, 65536),
	} {
		if b, err := table.EncodeOps(l); b != nil || testcode.Of(err) != api.ErrArg {
			t.Errorf("EncodeOps of %s: %v", name, err)
		}
	}
	if b, err := table.EncodeOps(slices.Repeat([]table.Op{take("a")}, 65535)); err != nil || len(b) != 2+3*65535 || b[0] != 255 || b[1] != 255 {
		t.Errorf("65535 changes: %d %v", len(b), err)
	}
}

// TestTA3: a table comes back from its changes; changes behind each other are all of them at once.
func TestTA3(t *testing.T) {
	seed := uint32(3)
	draw := func(n int) int {
		seed = seed*1664525 + 1013904223
		return int(seed>>16) % n
	}
	changes := func() []table.Op {
		var l []table.Op
		for range draw(4) {
			name := string(rune('a' + draw(5)))
			if draw(3) == 0 {
				l = append(l, take(name))
			} else {
				l = append(l, put(name, strconv.Itoa(draw(9))))
			}
		}
		return l
	}
	var x table.Table
	for range 3000 {
		l, m := changes(), changes()
		one, err1 := table.Apply(x, l)
		two, err2 := table.Apply(one, m)
		both, err := table.Apply(x, append(slices.Clone(l), m...))
		if err1 == nil && err2 == nil && (err != nil || told(both) != told(two)) {
			t.Fatalf("%v and %v: %s, not %s", l, m, told(both), told(two))
		}
		if (err1 != nil || err2 != nil) != (err != nil) {
			t.Fatalf("%v and %v: %v %v, but %v", l, m, err1, err2, err)
		}
		if err == nil {
			x = both
		}
		b, err := table.EncodeOps(table.Ops(x))
		if err != nil {
			t.Fatal(err)
		}
		back, err := table.DecodeOps(b)
		if err != nil {
			t.Fatal(err)
		}
		y, err := table.Apply(table.Table{}, back)
		if err != nil || told(y) != told(x) {
			t.Fatalf("%s comes back as %s: %v", told(x), told(y), err)
		}
	}
}

// TestTA3Full: of tables that are full, or nearly: where the first changes tell no error, the others tell the same behind them as all at once.
func TestTA3Full(t *testing.T) {
	seed := uint32(7)
	draw := func(n int) int {
		seed = seed*1664525 + 1013904223
		return int(seed>>16) % n
	}
	changes := func() []table.Op {
		var l []table.Op
		for range draw(6) {
			name := "n" + strconv.Itoa(1250+draw(10))
			if draw(2) == 0 {
				l = append(l, take(name))
			} else {
				l = append(l, put(name, strconv.Itoa(draw(9))))
			}
		}
		return l
	}
	seen := map[api.Errno]int{}
	x := many(255)
	for range 2000 {
		l, m := changes(), changes()
		one, err := table.Apply(x, l)
		if err != nil {
			seen[testcode.Of(err)]++
			continue
		}
		two, err2 := table.Apply(one, m)
		both, err := table.Apply(x, append(slices.Clone(l), m...))
		if testcode.Of(err) != testcode.Of(err2) || told(both) != told(two) {
			t.Fatalf("%v and %v: %v, not %v", l, m, err, err2)
		}
		seen[testcode.Of(err)]++
		x = one
	}
	if len(seen) != 3 || seen[0] == 0 || seen[api.ErrNone] == 0 || seen[api.ErrFull] == 0 {
		t.Errorf("what was told: %v", seen)
	}
}

// TestKept: no memory is shared.
func TestKept(t *testing.T) {
	x, data := of("a", "b"), []byte("new")
	y, _ := table.Apply(x, []table.Op{{Name: "c", Data: data}})
	for i := range y.L {
		clear(y.L[i].Data)
		_ = append(y.L[i].Data, 1)
	}
	y.L[0].Name = "z"
	b, _ := table.Get(x, "a")
	clear(b)
	clear(table.Ops(x)[0].Data)
	if told(x) != "a=a;b=b;" || !bytes.Equal(data, []byte("new")) {
		t.Error("memory is shared")
	}
	s := []byte("\x00\x01\x01\x01a\x00\x01x")
	l, _ := table.DecodeOps(s)
	clear(l[0].Data)
	if s[7] != 'x' {
		t.Error("memory is shared with bytes that were read")
	}
}
