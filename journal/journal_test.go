package journal_test

import (
	"bytes"
	"math"
	"reflect"
	"testing"

	"bursary/api"
	"bursary/disk"
	"bursary/frame"
	"bursary/journal"
	"bursary/testcode"
)

func newDisk(t *testing.T, n int) *disk.Disk {
	t.Helper()
	d, err := disk.New(n)
	if err != nil {
		t.Fatal(err)
	}
	return d
}

func start(t *testing.T, d *disk.Disk, from, to int, last uint32) *journal.Journal {
	t.Helper()
	j, err := journal.Start(d, from, to, last)
	if err != nil {
		t.Fatal(err)
	}
	return j
}

func appended(t *testing.T, j *journal.Journal, b []byte) {
	t.Helper()
	if err := j.Append(b); err != nil {
		t.Fatal(err)
	}
}

func read(t *testing.T, d *disk.Disk, from, to int) []journal.Record {
	t.Helper()
	l, err := journal.Read(d, from, to)
	if err != nil {
		t.Fatal(err)
	}
	return l
}

// lay puts a record's sectors from a place on, safe.
func lay(t *testing.T, d *disk.Disk, at int, seq uint32, b []byte) {
	t.Helper()
	l, err := frame.Split(seq, b)
	if err != nil {
		t.Fatal(err)
	}
	for i, s := range l {
		if err := d.Tamper(at+i, s); err != nil {
			t.Fatal(err)
		}
	}
}

// TestJO1 reads records and numbers, and goes on behind them.
func TestJO1(t *testing.T) {
	d := newDisk(t, 20)
	lay(t, d, 4, 3, []byte("a"))
	lay(t, d, 5, 5, make([]byte, 100))
	lay(t, d, 7, 6, nil)
	lay(t, d, 8, 6, []byte("not above"))
	lay(t, d, 9, 40, []byte("behind the end"))
	want := []journal.Record{{3, []byte("a")}, {5, make([]byte, 100)}, {6, nil}}
	got := read(t, d, 4, 20)
	if len(got) != 3 || !reflect.DeepEqual(got[:2], want[:2]) || got[2].Seq != 6 || len(got[2].Data) != 0 {
		t.Fatalf("Read: %v", got)
	}
	if got := read(t, d, 4, 6); len(got) != 1 {
		t.Errorf("a record that goes over the end: %v", got)
	}
	if got := read(t, d, 6, 20); len(got) != 0 {
		t.Errorf("from the middle of a record on: %v", got)
	}
	if got := read(t, d, 9, 10); len(got) != 1 || got[0].Seq != 40 {
		t.Errorf("a first record of any number: %v", got)
	}
	for _, c := range []struct {
		from, to int
		want     uint32
	}{{0, 4, 0}, {4, 9, 6}, {0, 20, 40}, {6, 7, 5}} {
		if n, err := journal.Seen(d, c.from, c.to); err != nil || n != c.want {
			t.Errorf("Seen(%d, %d): %d %v", c.from, c.to, n, err)
		}
	}
	j, l, err := journal.Open(d, 4, 20, 0)
	if err != nil || len(l) != 3 || j.Last() != 6 || j.Free() != 12 {
		t.Fatalf("Open: %v %d %d", err, j.Last(), j.Free())
	}
	j, _, err = journal.Open(d, 4, 20, 40)
	if err != nil || j.Last() != 40 || j.Free() != 12 {
		t.Fatalf("Open with a greater number: %v %d %d", err, j.Last(), j.Free())
	}
	appended(t, j, []byte("next"))
	if got := read(t, d, 4, 20); len(got) != 4 || got[3].Seq != 41 || string(got[3].Data) != "next" {
		t.Errorf("written behind: %v", got)
	}
	j = start(t, d, 4, 20, 50)
	if j.Free() != 16 || j.Last() != 50 {
		t.Errorf("Start: %d %d", j.Free(), j.Last())
	}
	appended(t, j, []byte("first"))
	if got := read(t, d, 4, 20); len(got) != 1 || got[0].Seq != 51 {
		t.Errorf("written at the first sector: %v", got)
	}
}

// TestJO1Refused: sectors that there are not, and a disk that is down.
func TestJO1Refused(t *testing.T) {
	d := newDisk(t, 10)
	asked := func(d *disk.Disk, from, to int) []error {
		_, e1 := journal.Read(d, from, to)
		_, e2 := journal.Seen(d, from, to)
		j3, e3 := journal.Start(d, from, to, 1)
		j4, _, e4 := journal.Open(d, from, to, 1)
		if (j3 != nil) != (e3 == nil) || (j4 != nil) != (e4 == nil) {
			t.Errorf("a journal beside an error")
		}
		return []error{e1, e2, e3, e4}
	}
	for _, c := range [][2]int{{-1, 5}, {5, 5}, {6, 5}, {0, 11}, {10, 11}, {math.MinInt, math.MaxInt}, {math.MaxInt, math.MinInt}} {
		for i, err := range asked(d, c[0], c[1]) {
			if testcode.Of(err) != api.ErrArg {
				t.Errorf("call %d from %d to %d: %v", i, c[0], c[1], err)
			}
		}
	}
	for i, err := range asked(nil, 0, 1) {
		if testcode.Of(err) != api.ErrArg {
			t.Errorf("call %d of a nil disk: %v", i, err)
		}
	}
	for i, err := range asked(d, 0, 10) {
		if err != nil {
			t.Errorf("call %d of all sectors: %v", i, err)
		}
	}
	d.Arm(1)
	d.Sync()
	for i, err := range asked(d, 0, 10) {
		if testcode.Of(err) != api.ErrDown {
			t.Errorf("call %d of a disk that is down: %v", i, err)
		}
	}
	for i, err := range asked(d, 0, 11) {
		if testcode.Of(err) != api.ErrArg {
			t.Errorf("call %d of too many sectors, down: %v", i, err)
		}
	}
}

// TestJO2 appends till there is no room, and with numbers that are used up.
func TestJO2(t *testing.T) {
	d := newDisk(t, 10)
	j := start(t, d, 4, 10, 0)
	appended(t, j, []byte("1"))
	appended(t, j, []byte("2"))
	if s, _ := d.Read(6); !bytes.Equal(s, make([]byte, 64)) || j.Free() != 4 || j.Last() != 2 || d.Waits() != 0 {
		t.Fatalf("two of one sector each: %d %d", j.Free(), j.Last())
	}
	if testcode.Of(j.Append(make([]byte, 14281))) != api.ErrArg {
		t.Error("too many bytes")
	}
	if testcode.Of(j.Append(make([]byte, 225))) != api.ErrFull || j.Free() != 4 || j.Last() != 2 {
		t.Error("more sectors than are free")
	}
	appended(t, j, make([]byte, 224))
	if j.Free() != 0 || testcode.Of(j.Append(nil)) != api.ErrFull {
		t.Error("all are full")
	}
	j = start(t, d, 0, 4, math.MaxUint32-1)
	appended(t, j, nil)
	if j.Last() != math.MaxUint32 || testcode.Of(j.Append(nil)) != api.ErrFull || j.Free() != 3 {
		t.Error("no number any more")
	}
	if testcode.Of(j.Append(make([]byte, 14281))) != api.ErrArg {
		t.Error("too many bytes, and no number any more")
	}
	j = start(t, d, 0, 4, 0)
	for n := 1; n <= 3; n++ {
		d.Arm(n)
		if testcode.Of(j.Append(make([]byte, 100))) != api.ErrDown || j.Free() != 4 || j.Last() != 0 {
			t.Errorf("down at step %d", n)
		}
		d.Crash(nil)
	}
	appended(t, j, []byte("later"))
	d = newDisk(t, 256)
	j = start(t, d, 0, 256, 0)
	appended(t, j, make([]byte, 14280))
	if j.Free() != 1 || len(read(t, d, 0, 256)) != 1 {
		t.Errorf("most bytes: %d", j.Free())
	}
	var none *journal.Journal
	if testcode.Of(none.Append(nil)) != api.ErrArg || none.Free() != 0 || none.Last() != 0 {
		t.Error("a nil Journal")
	}
}

// TestJO3 goes down at each step, with each choice of what is kept: all of a record is there, or nothing.
func TestJO3(t *testing.T) {
	old, three := []byte("old"), bytes.Repeat([]byte{7}, 150)
	for step := 1; step <= 4; step++ {
		for mask := range 8 {
			d := newDisk(t, 12)
			lay(t, d, 2, 8, bytes.Repeat([]byte{3}, 300)) // of an older journal
			j := start(t, d, 1, 12, 9)
			appended(t, j, old)
			d.Arm(step)
			if testcode.Of(j.Append(three)) != api.ErrDown {
				t.Fatalf("step %d goes over", step)
			}
			d.Crash([]bool{mask&1 != 0, mask&2 != 0, mask&4 != 0})
			got := read(t, d, 1, 12)
			if len(got) < 1 || !bytes.Equal(got[0].Data, old) || len(got) > 2 || len(got) == 2 && !bytes.Equal(got[1].Data, three) {
				t.Fatalf("step %d, kept %b: %v", step, mask, got)
			}
			if whole := step == 4 && mask == 7; whole != (len(got) == 2) {
				t.Fatalf("step %d, kept %b: %d records", step, mask, len(got))
			}
			seen, _ := journal.Seen(d, 1, 12)
			j, _, err := journal.Open(d, 1, 12, seen)
			if err != nil {
				t.Fatal(err)
			}
			appended(t, j, []byte("new"))
			d.Crash(nil)
			got = read(t, d, 1, 12)
			if last := got[len(got)-1]; string(last.Data) != "new" || last.Seq <= seen {
				t.Fatalf("step %d, kept %b, gone on: %v", step, mask, got)
			}
		}
	}
}
