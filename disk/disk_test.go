package disk_test

import (
	"bytes"
	"math"
	"testing"

	"bursary/api"
	"bursary/disk"
	"bursary/testcode"
)

// full is a sector of one byte, over and over.
func full(x byte) []byte { return bytes.Repeat([]byte{x}, 64) }

func newDisk(t *testing.T, n int) *disk.Disk {
	t.Helper()
	d, err := disk.New(n)
	if err != nil {
		t.Fatal(err)
	}
	return d
}

// write writes a sector of one byte.
func write(t *testing.T, d *disk.Disk, i int, x byte) {
	t.Helper()
	if err := d.Write(i, full(x)); err != nil {
		t.Fatalf("Write(%d): %v", i, err)
	}
}

// holds fails unless a sector reads as one byte, over and over.
func holds(t *testing.T, d *disk.Disk, i int, x byte) {
	t.Helper()
	b, err := d.Read(i)
	if err != nil || !bytes.Equal(b, full(x)) {
		t.Fatalf("Read(%d): %x %v, not of %x", i, b, err, x)
	}
}

// TestDK1 writes, reads and syncs, in places that there are, and others.
func TestDK1(t *testing.T) {
	for _, n := range []int{0, -1, 2049, math.MaxInt, math.MinInt} {
		if d, err := disk.New(n); d != nil || testcode.Of(err) != api.ErrArg {
			t.Errorf("New(%d): %v", n, err)
		}
	}
	if newDisk(t, 1).Size() != 1 || newDisk(t, 2048).Size() != 2048 {
		t.Error("Size")
	}
	d := newDisk(t, 3)
	holds(t, d, 2, 0)
	write(t, d, 1, 5)
	write(t, d, 2, 6)
	write(t, d, 1, 7)
	holds(t, d, 1, 7)
	holds(t, d, 2, 6)
	if d.Waits() != 3 || !bytes.Equal(d.Safe(), make([]byte, 192)) {
		t.Errorf("three wait: %d", d.Waits())
	}
	if err := d.Sync(); err != nil || d.Waits() != 0 {
		t.Fatalf("Sync: %v", err)
	}
	if want := append(append(full(0), full(7)...), full(6)...); !bytes.Equal(d.Safe(), want) {
		t.Errorf("Safe: %x", d.Safe())
	}
	for _, i := range []int{-1, 3, math.MaxInt, math.MinInt} {
		if b, err := d.Read(i); b != nil || testcode.Of(err) != api.ErrArg {
			t.Errorf("Read(%d): %v", i, err)
		}
		if testcode.Of(d.Write(i, full(1))) != api.ErrArg || testcode.Of(d.Tamper(i, full(1))) != api.ErrArg {
			t.Errorf("Write and Tamper of %d", i)
		}
	}
	for _, n := range []int{0, 63, 65} {
		if testcode.Of(d.Write(0, make([]byte, n))) != api.ErrArg || testcode.Of(d.Tamper(0, make([]byte, n))) != api.ErrArg {
			t.Errorf("Write and Tamper of %d bytes", n)
		}
	}
}

// TestDK2Armed: the n-th step finds the disk down, and all behind.
func TestDK2Armed(t *testing.T) {
	d := newDisk(t, 2)
	if err := d.Arm(3); err != nil {
		t.Fatal(err)
	}
	write(t, d, 0, 1)
	d.Write(9, full(1)) // refused by its arguments: no step
	d.Read(0)
	if err := d.Sync(); err != nil || d.Down() {
		t.Fatalf("the second step: %v", err)
	}
	holds(t, d, 0, 1)
	if err := d.Write(1, full(2)); testcode.Of(err) != api.ErrDown || !d.Down() || d.Waits() != 0 {
		t.Fatalf("the third step: %v", err)
	}
	if b, err := d.Read(0); b != nil || testcode.Of(err) != api.ErrDown {
		t.Errorf("Read of what is down: %v", err)
	}
	if _, err := d.Read(7); testcode.Of(err) != api.ErrArg {
		t.Error("Read of no sector, down")
	}
	if testcode.Of(d.Write(7, full(1))) != api.ErrArg || testcode.Of(d.Sync()) != api.ErrDown {
		t.Error("steps behind")
	}
	if err := d.Arm(0); err != nil || !d.Down() || testcode.Of(d.Sync()) != api.ErrDown {
		t.Error("Arm(0) brings nothing up")
	}
	if err := d.Arm(5); err != nil || testcode.Of(d.Write(0, full(9))) != api.ErrDown {
		t.Error("Arm brings nothing up")
	}
	d.Crash(nil)
	if d.Down() {
		t.Error("up behind a crash")
	}
	for range 9 {
		write(t, d, 0, 3)
	}
	if err := d.Arm(1); err != nil || testcode.Of(d.Sync()) != api.ErrDown {
		t.Error("a Sync is a step")
	}
	d.Crash(nil)
	holds(t, d, 0, 1)
	d.Arm(1)
	d.Arm(0)
	write(t, d, 0, 4)
	d.Arm(1)
	d.Crash(nil)
	write(t, d, 0, 5)
	if testcode.Of(d.Arm(-1)) != api.ErrArg {
		t.Error("Arm(-1)")
	}
}

// TestDK2Kept: a crash keeps just the writes that it is told, in order.
func TestDK2Kept(t *testing.T) {
	for mask := range 16 {
		d := newDisk(t, 3)
		write(t, d, 0, 9)
		if err := d.Sync(); err != nil {
			t.Fatal(err)
		}
		want := [3]byte{9, 0, 0}
		var keep []bool
		for i, w := range []struct {
			at int
			x  byte
		}{{0, 1}, {1, 2}, {0, 3}, {2, 4}} {
			write(t, d, w.at, w.x)
			keep = append(keep, mask>>i&1 == 1)
			if keep[i] {
				want[w.at] = w.x
			}
		}
		d.Crash(keep)
		for i, x := range want {
			holds(t, d, i, x)
		}
		if d.Waits() != 0 {
			t.Fatal("some wait still")
		}
	}
	d := newDisk(t, 2)
	write(t, d, 0, 1)
	write(t, d, 1, 2)
	d.Crash([]bool{true})
	holds(t, d, 0, 1)
	holds(t, d, 1, 0)
	write(t, d, 1, 2)
	d.Crash([]bool{true, true, true})
	holds(t, d, 1, 2)
}

// TestDK3: what is tampered with is safe, and a clone goes on by its own.
func TestDK3(t *testing.T) {
	d := newDisk(t, 3)
	write(t, d, 0, 1)
	write(t, d, 1, 2)
	write(t, d, 0, 3)
	if err := d.Tamper(0, full(8)); err != nil || d.Waits() != 1 {
		t.Fatalf("Tamper: %v, %d wait", err, d.Waits())
	}
	holds(t, d, 0, 8)
	holds(t, d, 1, 2)
	d.Arm(1)
	d.Sync()
	if err := d.Tamper(2, full(7)); err != nil || !d.Down() {
		t.Fatalf("Tamper of what is down: %v", err)
	}
	c := d.Clone()
	if !c.Down() || c.Waits() != 1 || !bytes.Equal(c.Safe(), d.Safe()) {
		t.Error("a clone of what is down")
	}
	c.Crash([]bool{true})
	holds(t, c, 1, 2)
	if !d.Down() || d.Waits() != 1 {
		t.Error("a clone's crash is told to its like")
	}
	d.Crash(nil)
	holds(t, d, 1, 0)
	holds(t, d, 2, 7)
	d.Arm(2)
	c = d.Clone()
	write(t, c, 0, 1)
	if testcode.Of(c.Sync()) != api.ErrDown {
		t.Error("a clone is armed")
	}
	write(t, d, 0, 1)
	if d.Down() {
		t.Error("a clone's steps count for its like")
	}
}

// TestDK4: what was synced stays, whatever crash comes; of what waits each sector has that, or what was safe.
func TestDK4(t *testing.T) {
	seed := uint32(1)
	draw := func(n int) int {
		seed = seed*1664525 + 1013904223
		return int(seed>>16) % n
	}
	d := newDisk(t, 4)
	var safe [4]byte
	may := [4]map[byte]bool{{}, {}, {}, {}}
	for range 5000 {
		switch draw(4) {
		case 0, 1:
			i, x := draw(4), byte(draw(250)+1)
			write(t, d, i, x)
			may[i][x] = true
		case 2:
			if err := d.Sync(); err != nil {
				t.Fatal(err)
			}
		case 3:
			d.Crash([]bool{draw(2) == 0, draw(2) == 0, draw(2) == 0})
		}
		if d.Waits() > 0 {
			continue
		}
		for i := range safe {
			b, err := d.Read(i)
			if err != nil || b[0] != safe[i] && !may[i][b[0]] {
				t.Fatalf("sector %d has %d", i, b[0])
			}
			safe[i], may[i] = b[0], map[byte]bool{}
		}
	}
	write(t, d, 0, 77)
	d.Sync()
	d.Crash(nil)
	d.Crash([]bool{false, true})
	holds(t, d, 0, 77)
}

// TestNilAndKept: a nil Disk, and memory that is not shared.
func TestNilAndKept(t *testing.T) {
	var none *disk.Disk
	none.Crash([]bool{true})
	if none.Size() != 0 || none.Down() || none.Waits() != 0 || none.Safe() != nil || none.Clone() != nil {
		t.Error("what a nil Disk has")
	}
	_, err := none.Read(0)
	for i, err := range []error{err, none.Write(0, full(1)), none.Sync(), none.Arm(0), none.Tamper(0, full(1))} {
		if testcode.Of(err) != api.ErrArg {
			t.Errorf("call %d of a nil Disk: %v", i, err)
		}
	}
	d := newDisk(t, 1)
	b := full(1)
	d.Write(0, b)
	b[0] = 9
	holds(t, d, 0, 1)
	got, _ := d.Read(0)
	got[0] = 9
	holds(t, d, 0, 1)
	d.Sync()
	d.Safe()[0] = 9
	got, _ = d.Read(0)
	got[0] = 9
	holds(t, d, 0, 1)
}
