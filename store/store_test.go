package store_test

import (
	"bytes"
	"math"
	"slices"
	"strconv"
	"strings"
	"testing"

	"bursary/api"
	"bursary/disk"
	"bursary/frame"
	"bursary/store"
	"bursary/table"
	"bursary/testcode"
)

func newDisk(t *testing.T, n int) *disk.Disk {
	t.Helper()
	d, err := disk.New(n)
	if err != nil {
		t.Fatal(err)
	}
	return d
}

func open(t *testing.T, d *disk.Disk) *store.Store {
	t.Helper()
	s, err := store.Open(d)
	if err != nil {
		t.Fatal(err)
	}
	return s
}

func commit(t *testing.T, s *store.Store, l ...table.Op) {
	t.Helper()
	if err := s.Commit(l); err != nil {
		t.Fatal(err)
	}
}

func put(name, data string) table.Op { return table.Op{Name: name, Data: []byte(data)} }
func take(name string) table.Op      { return table.Op{Del: true, Name: name} }

// told is a table as a text.
func told(t table.Table) string {
	var s strings.Builder
	for _, e := range t.L {
		s.WriteString(e.Name + "=" + string(e.Data) + ";")
	}
	return s.String()
}

// lay puts a record's sectors from a place on, safe.
func lay(t *testing.T, d *disk.Disk, at int, seq uint32, b string) {
	t.Helper()
	l, err := frame.Split(seq, []byte(b))
	if err != nil {
		t.Fatal(err)
	}
	for i, s := range l {
		if err := d.Tamper(at+i, s); err != nil {
			t.Fatal(err)
		}
	}
}

// Records of the tests: all of a table with a, one with b, and changes.
const (
	none  = "S\x00\x00"
	withA = "S\x00\x01\x01\x01a\x00\x01x"
	withB = "S\x00\x01\x01\x01b\x00\x01y"
	putC  = "B\x00\x01\x01\x01c\x00\x01z"
	takeA = "B\x00\x01\x02\x01a"
)

// TestSO1 opens disks that hold tables, none, and what is none.
func TestSO1(t *testing.T) {
	for _, n := range []int{2, 3, 11} {
		d := newDisk(t, n)
		s := open(t, d)
		if s.Half() != 0 || s.Last() != 1 || told(s.Table()) != "" || d.Waits() != 0 {
			t.Errorf("a new disk of %d: %d %d", n, s.Half(), s.Last())
		}
		want := append([]byte{0, 0, 0, 1, 0, 1, 0, 3, 'S'}, make([]byte, 64*n-9)...)
		if !bytes.Equal(d.Safe(), want) {
			t.Errorf("a new disk's bytes: %x", d.Safe()[:64])
		}
		if s := open(t, d); s.Last() != 1 {
			t.Errorf("opened again: %d", s.Last())
		}
	}
	type laid struct {
		at  int
		seq uint32
		b   string
	}
	for name, c := range map[string]struct {
		l    []laid
		want string
		half int
		last uint32
		err  api.Errno
	}{
		"first half":                {[]laid{{0, 3, withA}, {1, 4, putC}}, "a=x;c=z;", 0, 4, 0},
		"second half":               {[]laid{{5, 3, withB}}, "b=y;", 1, 3, 0},
		"the second is newer":       {[]laid{{0, 3, withA}, {1, 4, putC}, {5, 5, withB}}, "b=y;", 1, 5, 0},
		"the first is newer":        {[]laid{{0, 6, withA}, {5, 5, withB}, {6, 9, putC}}, "a=x;", 0, 9, 0},
		"seen behind the records":   {[]laid{{0, 3, withA}, {2, 77, "x"}, {8, 88, "y"}}, "a=x;", 0, 88, 0},
		"seen in no half":           {[]laid{{0, 3, withA}, {10, 99, "x"}}, "a=x;", 0, 3, 0},
		"older ones behind":         {[]laid{{0, 3, withA}, {1, 2, putC}}, "a=x;", 0, 3, 0},
		"one taken away":            {[]laid{{0, 3, withA}, {1, 4, takeA}}, "", 0, 4, 0},
		"the first begins none":     {[]laid{{0, 7, putC}, {5, 5, withB}}, "b=y;", 1, 7, 0},
		"it does not hold one":      {[]laid{{0, 7, withA}, {1, 8, "x"}, {5, 5, withB}}, "", 0, 0, api.ErrForm},
		"S behind S":                {[]laid{{0, 7, withA}, {1, 8, withA}}, "", 0, 0, api.ErrForm},
		"an empty record behind":    {[]laid{{0, 7, withA}, {1, 8, ""}}, "", 0, 0, api.ErrForm},
		"what can't be applied":     {[]laid{{0, 7, withB}, {1, 8, takeA}}, "", 0, 0, api.ErrForm},
		"no changes' bytes":         {[]laid{{0, 7, withB}, {1, 8, putC + "\x00"}}, "", 0, 0, api.ErrForm},
		"none begins one":           {[]laid{{0, 7, putC}}, "", 0, 0, api.ErrForm},
		"S that can't be applied":   {[]laid{{0, 7, "S\x00\x01\x02\x01a"}}, "", 0, 0, api.ErrForm},
		"a byte behind both halves": {[]laid{{10, 1, "x"}}, "", 0, 0, api.ErrForm},
		"an empty table":            {[]laid{{5, 9, none}}, "", 1, 9, 0},
	} {
		d := newDisk(t, 11)
		for _, x := range c.l {
			lay(t, d, x.at, x.seq, x.b)
		}
		like := d.Safe()
		s, err := store.Open(d)
		if testcode.Of(err) != c.err || (s == nil) != (err != nil) {
			t.Errorf("%s: %v", name, err)
		} else if told(s.Table()) != c.want || s.Half() != c.half || s.Last() != c.last {
			t.Errorf("%s: %s in %d, %d", name, told(s.Table()), s.Half(), s.Last())
		}
		if !bytes.Equal(like, d.Safe()) {
			t.Errorf("%s: the disk is changed", name)
		}
	}
}

// TestSO1Refused: disks that are none, too small, or down.
func TestSO1Refused(t *testing.T) {
	for _, d := range []*disk.Disk{nil, newDisk(t, 1)} {
		if s, err := store.Open(d); s != nil || testcode.Of(err) != api.ErrArg {
			t.Errorf("%v: %v", d, err)
		}
	}
	for n := 1; n <= 2; n++ {
		d := newDisk(t, 4)
		d.Arm(n)
		if s, err := store.Open(d); s != nil || testcode.Of(err) != api.ErrDown {
			t.Errorf("down at step %d: %v", n, err)
		}
		if s, err := store.Open(d); s != nil || testcode.Of(err) != api.ErrDown {
			t.Errorf("down: %v", err)
		}
	}
}

// TestSO2 commits, moves from half to half, and is refused.
func TestSO2(t *testing.T) {
	d := newDisk(t, 8)
	s := open(t, d)
	commit(t, s, put("a", "1"))
	commit(t, s)
	if s.Half() != 0 || s.Last() != 3 || told(s.Table()) != "a=1;" {
		t.Fatalf("two commits: %d %d", s.Half(), s.Last())
	}
	sector := d.Safe()[64:128]
	if !bytes.HasPrefix(sector, []byte("\x00\x00\x00\x02\x00\x01\x00\x09B\x00\x01\x01\x01a\x00\x011")) {
		t.Errorf("a commit's bytes: %q", sector)
	}
	like := d.Safe()
	for i, c := range []struct {
		l    []table.Op
		want api.Errno
	}{
		{[]table.Op{take("b")}, api.ErrNone}, {[]table.Op{put("", "")}, api.ErrArg}, {[]table.Op{put("b", strings.Repeat("x", 300))}, api.ErrFull},
	} {
		if err := s.Commit(c.l); testcode.Of(err) != c.want || told(s.Table()) != "a=1;" || !bytes.Equal(like, d.Safe()) || s.Dead() || s.Last() != 3 {
			t.Errorf("commit %d: %v", i, err)
		}
	}
	commit(t, s, put("b", "2"))
	commit(t, s, put("c", strings.Repeat("x", 100)))
	if s.Half() != 1 || s.Last() != 5 {
		t.Errorf("moved to the other half: %d %d", s.Half(), s.Last())
	}
	want := "a=1;b=2;c=" + strings.Repeat("x", 100) + ";"
	if told(s.Table()) != want || told(open(t, d).Table()) != want {
		t.Errorf("moved: %s", told(s.Table()))
	}
	commit(t, s, put("d", ""))
	commit(t, s, take("c"))
	if s.Half() != 0 || s.Last() != 7 || told(open(t, d).Table()) != "a=1;b=2;d=;" {
		t.Errorf("moved back: %d %d", s.Half(), s.Last())
	}
	// What has no room is told ahead of a disk that is down.
	d.Arm(1)
	d.Sync()
	if err := s.Commit([]table.Op{put("b", strings.Repeat("x", 300))}); testcode.Of(err) != api.ErrFull || s.Dead() {
		t.Errorf("no room, down: %v", err)
	}
	if err := s.Commit([]table.Op{take("none")}); testcode.Of(err) != api.ErrNone || s.Dead() {
		t.Errorf("none is taken, down: %v", err)
	}
	if err := s.Commit(nil); testcode.Of(err) != api.ErrDown || !s.Dead() {
		t.Errorf("down: %v", err)
	}
	if err := s.Commit([]table.Op{take("none")}); testcode.Of(err) != api.ErrDown {
		t.Errorf("dead: %v", err)
	}
	var nilStore *store.Store
	if testcode.Of(nilStore.Commit(nil)) != api.ErrArg {
		t.Error("Commit of a nil Store")
	}
}

// TestSO2Long: changes that are more than a record, or than can be told as bytes at all.
func TestSO2Long(t *testing.T) {
	d := newDisk(t, 600)
	s := open(t, d)
	big := strings.Repeat("x", 2048)
	commit(t, s, put("a", big), put("a", big), put("a", big), put("a", big), put("a", big), put("a", big), put("a", big))
	if s.Half() != 1 || s.Last() != 2 || told(open(t, d).Table()) != "a="+big+";" {
		t.Errorf("changes of more than a record: %d %d", s.Half(), s.Last())
	}
	commit(t, s, slices.Repeat([]table.Op{put("a", "y")}, 65536)...)
	if s.Half() != 0 || s.Last() != 3 || told(open(t, d).Table()) != "a=y;" {
		t.Errorf("65536 changes: %d %d", s.Half(), s.Last())
	}
	for i := range 6 {
		commit(t, s, put("b"+strconv.Itoa(i), big))
	}
	// As many bytes as a record has: S, how many, six of big names, one of a, and one more.
	rest := 14280 - 3 - 6*(2+2+2+2048) - (2 + 1 + 2 + 1) - (2 + 1 + 2)
	if err := s.Commit([]table.Op{put("c", strings.Repeat("z", rest))}); err != nil {
		t.Fatal(err)
	}
	half := s.Half()
	for s.Half() == half {
		commit(t, s, put("b0", big))
	}
	for {
		err := s.Commit([]table.Op{put("c", strings.Repeat("z", rest+1))})
		if err != nil {
			if testcode.Of(err) != api.ErrFull || s.Dead() {
				t.Errorf("a table of more than a record: %v", err)
			}
			break
		}
	}
	if b, err := s.Get("c"); err != nil || len(b) < rest {
		t.Errorf("as it was: %d %v", len(b), err)
	}
}

// TestSO2Names: changes with more names between them than a table has, and a table that is full.
func TestSO2Names(t *testing.T) {
	d := newDisk(t, 400)
	s := open(t, d)
	var l []table.Op
	for i := range 256 {
		l = append(l, put("n"+strconv.Itoa(1000+i), ""))
	}
	commit(t, s, l...)
	commit(t, s, put("x", "1"), take("n1000"))
	if got := open(t, d).Table(); s.Last() != 3 || len(got.L) != 256 || told(got) != told(s.Table()) || got.L[255].Name != "x" {
		t.Errorf("one more between the changes: %d, %s", s.Last(), told(got))
	}
	like := d.Safe()
	for i, c := range []struct {
		l    []table.Op
		want api.Errno
	}{
		{[]table.Op{put("y", "")}, api.ErrFull},
		{[]table.Op{put("y", ""), put("z", ""), take("n1001")}, api.ErrFull},
		{[]table.Op{put("y", ""), take("z")}, api.ErrNone},
	} {
		if err := s.Commit(c.l); testcode.Of(err) != c.want || len(s.Table().L) != 256 || !bytes.Equal(like, d.Safe()) || s.Last() != 3 || s.Dead() {
			t.Errorf("commit %d: %v", i, err)
		}
	}
}

// TestSO2Numbers: numbers that are used up.
func TestSO2Numbers(t *testing.T) {
	d := newDisk(t, 8)
	lay(t, d, 0, math.MaxUint32-1, withA)
	s := open(t, d)
	commit(t, s, put("b", "1"))
	if s.Last() != math.MaxUint32 || testcode.Of(s.Commit(nil)) != api.ErrFull || s.Dead() {
		t.Errorf("no number any more: %d", s.Last())
	}
}

// TestSO3 asks what a store has.
func TestSO3(t *testing.T) {
	s := open(t, newDisk(t, 20))
	commit(t, s, put("a/1", "x"), put("a/2", "y"), put("b", "z"))
	if b, err := s.Get("a/2"); err != nil || string(b) != "y" {
		t.Errorf("Get: %q %v", b, err)
	}
	if b, err := s.Get("c"); b != nil || testcode.Of(err) != api.ErrNone {
		t.Errorf("Get of none: %q %v", b, err)
	}
	if got := s.Names("a/"); !slices.Equal(got, []string{"a/1", "a/2"}) {
		t.Errorf("Names: %v", got)
	}
	x := s.Table()
	clear(x.L[0].Data)
	x.L[1].Name = "q"
	b, _ := s.Get("b")
	clear(b)
	if told(s.Table()) != "a/1=x;a/2=y;b=z;" {
		t.Error("memory is shared")
	}
	var none *store.Store
	if _, err := none.Get("a"); testcode.Of(err) != api.ErrArg {
		t.Error("Get of a nil Store")
	}
	if none.Names("") != nil || none.Table().L != nil || none.Half() != 0 || none.Last() != 0 || none.Dead() {
		t.Error("what a nil Store has")
	}
}

// keeps are all choices of some writes.
func keeps(n int) [][]bool {
	var l [][]bool
	for mask := range 1 << n {
		keep := make([]bool, n)
		for i := range keep {
			keep[i] = mask>>i&1 == 1
		}
		l = append(l, keep)
	}
	return l
}

// TestSO4 goes down at each step of a row of commits, with each choice of what is kept.
func TestSO4(t *testing.T) {
	var rows [][]table.Op
	for i := range 9 {
		rows = append(rows, []table.Op{put("k"+strconv.Itoa(i%3), strings.Repeat(strconv.Itoa(i), 20+13*i))})
	}
	for step := 1; step < 60; step++ {
		d := newDisk(t, 17)
		d.Arm(step)
		s, err := store.Open(d)
		if err != nil {
			crashed(t, d, []string{""})
			continue
		}
		before, after := "", ""
		for _, l := range rows {
			before = told(s.Table())
			next, err := table.Apply(s.Table(), l)
			if err != nil {
				t.Fatal(err)
			}
			after = told(next)
			if err := s.Commit(l); err != nil {
				if testcode.Of(err) != api.ErrDown || !s.Dead() || told(s.Table()) != before {
					t.Fatalf("step %d: %v", step, err)
				}
				break
			}
			before = after
		}
		if s.Dead() && testcode.Of(s.Commit(nil)) != api.ErrDown {
			t.Fatal("what is dead commits")
		}
		crashed(t, d, []string{before, after})
		if s.Dead() {
			d.Crash(nil)
			if testcode.Of(s.Commit(nil)) != api.ErrDown {
				t.Fatal("what is dead comes back")
			}
		}
	}
}

// crashed opens a disk behind each crash that there can be: it has one of some tables, and goes on.
func crashed(t *testing.T, d *disk.Disk, want []string) {
	t.Helper()
	for _, keep := range keeps(d.Waits()) {
		c := d.Clone()
		c.Crash(keep)
		s, err := store.Open(c)
		if err != nil {
			// The first record of all, kept by half, is no empty disk, and no table.
			if testcode.Of(err) == api.ErrForm && slices.Equal(want, []string{""}) {
				continue
			}
			t.Fatalf("kept %v: %v", keep, err)
		}
		if got := told(s.Table()); !slices.Contains(want, got) {
			t.Fatalf("kept %v: %s, not of %v", keep, got, want)
		}
		commit(t, s, put("new", "1"))
		if told(open(t, c).Table()) != told(s.Table()) {
			t.Fatal("gone on, it is another one")
		}
	}
}
