package barrier_test

import (
	"bytes"
	"math"
	"slices"
	"strconv"
	"strings"
	"testing"

	"bursary/api"
	"bursary/barrier"
	"bursary/disk"
	"bursary/gcm"
	"bursary/keyring"
	"bursary/nonce"
	"bursary/store"
	"bursary/table"
	"bursary/testcode"
)

const limit = 1 << 40

func newDisk(t *testing.T, n int) *disk.Disk {
	t.Helper()
	d, err := disk.New(n)
	if err != nil {
		t.Fatal(err)
	}
	return d
}

func newStore(t *testing.T, d *disk.Disk) *store.Store {
	t.Helper()
	s, err := store.Open(d)
	if err != nil {
		t.Fatal(err)
	}
	return s
}

func open(t *testing.T, s *store.Store, r keyring.Ring, limit uint64) *barrier.Barrier {
	t.Helper()
	b, err := barrier.Open(s, r, limit)
	if err != nil {
		t.Fatal(err)
	}
	return b
}

// ring has so many terms, whose keys are of 1, 2, and so on.
func ring(t *testing.T, n int) keyring.Ring {
	t.Helper()
	key := func(x int) [32]byte { return [32]byte(bytes.Repeat([]byte{byte(x)}, 32)) }
	r := keyring.First(key(1))
	for i := 2; i <= n; i++ {
		next, err := keyring.Rotate(r, key(i))
		if err != nil {
			t.Fatal(err)
		}
		r = next
	}
	return r
}

func put(name, plain string) barrier.Change {
	return barrier.Change{Name: name, Plain: []byte(plain)}
}
func take(name string) barrier.Change { return barrier.Change{Del: true, Name: name} }

func write(t *testing.T, b *barrier.Barrier, l ...barrier.Change) {
	t.Helper()
	if err := b.Write(l, nil); err != nil {
		t.Fatal(err)
	}
}

// entry is what the chapter says lies in the store.
func entry(t *testing.T, r keyring.Ring, term uint32, n uint64, name, plain string) []byte {
	t.Helper()
	key, err := keyring.Find(r, term)
	if err != nil {
		t.Fatal(err)
	}
	used, err := keyring.Use(keyring.Term{N: term, Key: key}, "barrier")
	if err != nil {
		t.Fatal(err)
	}
	k, err := gcm.New(used)
	if err != nil {
		t.Fatal(err)
	}
	aad := append([]byte(name), 0, byte(term>>24), byte(term>>16), byte(term>>8), byte(term))
	box, err := k.Seal(nonce.Bytes(term, n), []byte(plain), aad)
	if err != nil {
		t.Fatal(err)
	}
	return append(nonce.Bytes(term, n), box...)
}

func holds(t *testing.T, s *store.Store, name string, want []byte) {
	t.Helper()
	if got, err := s.Get(name); err != nil || !bytes.Equal(got, want) {
		t.Errorf("%s lies as %x, %v, not %x", name, got, err, want)
	}
}

// TestBA1 opens barriers over marks that may be, and others.
func TestBA1(t *testing.T) {
	r := ring(t, 2)
	s := newStore(t, newDisk(t, 40))
	for name, c := range map[string]struct {
		s     *store.Store
		r     keyring.Ring
		limit uint64
	}{
		"no store": {nil, r, limit}, "no ring": {s, keyring.Ring{}, limit}, "limit 0": {s, r, 0}, "limit too great": {s, r, 1<<48 + 1},
		"limit much too great": {s, r, math.MaxUint64},
	} {
		if b, err := barrier.Open(c.s, c.r, c.limit); b != nil || testcode.Of(err) != api.ErrArg {
			t.Errorf("%s: %v", name, err)
		}
	}
	open(t, s, r, 1)
	open(t, s, r, 1<<48)
	for name, c := range map[string]struct {
		mark []byte
		next uint64
		err  api.Errno
	}{
		"of the term in use":      {nonce.Bytes(2, 32), 32, 0},
		"at the limit":            {nonce.Bytes(2, 50), 50, 0},
		"above the limit":         {nonce.Bytes(2, 51), 0, api.ErrIntegrity},
		"of a term ahead":         {nonce.Bytes(1, 99), 0, 0},
		"of term 0":               {nonce.Bytes(0, 99), 0, 0},
		"of a term that is not":   {nonce.Bytes(3, 0), 0, api.ErrIntegrity},
		"too short":               {nonce.Bytes(2, 32)[:11], 0, api.ErrIntegrity},
		"too long":                {append(nonce.Bytes(2, 32), 0), 0, api.ErrIntegrity},
		"empty":                   {nil, 0, api.ErrIntegrity},
		"a greatest number above": {nonce.Bytes(2, math.MaxUint64), 0, api.ErrIntegrity},
	} {
		s := newStore(t, newDisk(t, 40))
		if err := s.Commit([]table.Op{{Name: "core/mark", Data: c.mark}}); err != nil {
			t.Fatal(err)
		}
		b, err := barrier.Open(s, r, 50)
		if testcode.Of(err) != c.err || (b == nil) != (err != nil) {
			t.Errorf("%s: %v", name, err)
			continue
		}
		if err != nil || c.next == 50 {
			continue
		}
		write(t, b, put("a", "x"))
		holds(t, s, "a", entry(t, r, 2, c.next, "a", "x"))
	}
}

// TestBA2 reads entries that are sealed, and others.
func TestBA2(t *testing.T) {
	r, s := ring(t, 3), newStore(t, newDisk(t, 200))
	whole := entry(t, r, 2, 7, "a", "secret")
	turned := bytes.Clone(whole)
	turned[len(turned)-1] ^= 1
	if err := s.Commit([]table.Op{
		{Name: "a", Data: whole}, {Name: "b", Data: whole}, {Name: "c", Data: turned}, {Name: "d", Data: whole[:27]},
		{Name: "e", Data: entry(t, r, 3, 1<<47, "e", "")}, {Name: "f", Data: entry(t, ring(t, 4), 4, 0, "f", "x")},
		{Name: "g", Data: append(nonce.Bytes(0, 0), whole[12:]...)}, {Name: "h", Data: append(nonce.Bytes(1, 7), whole[12:]...)},
		{Name: "i", Data: append(nonce.Bytes(2, 8), whole[12:]...)}, {Name: "j"}, {Name: "k", Data: make([]byte, 2048)},
	}); err != nil {
		t.Fatal(err)
	}
	b := open(t, s, r, limit)
	for name, want := range map[string]string{"a": "secret", "e": ""} {
		if got, err := b.Read(name); err != nil || string(got) != want {
			t.Errorf("Read(%s): %q %v", name, got, err)
		}
	}
	for _, name := range []string{"b", "c", "d", "f", "g", "h", "i", "j", "k"} {
		if got, err := b.Read(name); got != nil || testcode.Of(err) != api.ErrIntegrity {
			t.Errorf("Read(%s): %q %v", name, got, err)
		}
	}
	for _, name := range []string{"x", "", "a b"} {
		if got, err := b.Read(name); got != nil || testcode.Of(err) != api.ErrNone {
			t.Errorf("Read(%q): %q %v", name, got, err)
		}
	}
}

// TestBA3Written writes changes, and looks at what lies there.
func TestBA3Written(t *testing.T) {
	r, d := ring(t, 1), newDisk(t, 400)
	s := newStore(t, d)
	b := open(t, s, r, limit)
	if err := b.Write([]barrier.Change{put("b", "1"), put("a", "2"), take("b")}, []table.Op{{Name: "plain", Data: []byte("p")}}); err != nil {
		t.Fatal(err)
	}
	// The mark's commit, and that of all the rest.
	if s.Last() != 3 || b.Left() != 14 {
		t.Errorf("%d commits, %d numbers left", s.Last(), b.Left())
	}
	holds(t, s, "a", entry(t, r, 1, 1, "a", "2"))
	holds(t, s, "plain", []byte("p"))
	holds(t, s, "core/mark", nonce.Bytes(1, 16))
	if got := b.Names(""); !slices.Equal(got, []string{"a", "core/mark", "plain"}) {
		t.Errorf("Names: %v", got)
	}
	var l []barrier.Change
	for i := range 40 {
		l = append(l, put("n"+strconv.Itoa(i), strings.Repeat("x", i)))
	}
	write(t, b, l...)
	if s.Last() != 6 || b.Left() != 6 {
		t.Errorf("%d commits, %d numbers left", s.Last(), b.Left())
	}
	holds(t, s, "core/mark", nonce.Bytes(1, 48))
	holds(t, s, "n39", entry(t, r, 1, 41, "n39", strings.Repeat("x", 39)))
	write(t, b, put("a", strings.Repeat("x", 1024)))
	if got, err := b.Read("a"); err != nil || len(got) != 1024 {
		t.Errorf("1024 bytes: %d %v", len(got), err)
	}
	write(t, b)
	if s.Last() != 8 || b.Left() != 5 {
		t.Errorf("nothing is a commit, too: %d, %d left", s.Last(), b.Left())
	}
}

// TestBA3Refused writes what may not be, and what has no room.
func TestBA3Refused(t *testing.T) {
	r := ring(t, 1)
	s := newStore(t, newDisk(t, 60))
	b := open(t, s, r, limit)
	write(t, b, put("a", "x"))
	for name, c := range map[string]struct {
		l     []barrier.Change
		plain []table.Op
		want  api.Errno
	}{
		"no name":             {[]barrier.Change{put("", "x")}, nil, api.ErrArg},
		"a blank":             {[]barrier.Change{put("a b", "x")}, nil, api.ErrArg},
		"a long name":         {[]barrier.Change{put(strings.Repeat("a", 65), "x")}, nil, api.ErrArg},
		"1025 bytes":          {[]barrier.Change{put("a", strings.Repeat("x", 1025))}, nil, api.ErrArg},
		"taken with bytes":    {[]barrier.Change{{Del: true, Name: "a", Plain: []byte("x")}}, nil, api.ErrArg},
		"the mark":            {[]barrier.Change{put("core/mark", "x")}, nil, api.ErrArg},
		"the mark, taken":     {[]barrier.Change{take("core/mark")}, nil, api.ErrArg},
		"begins as the mark":  {[]barrier.Change{put("core/marks", "x")}, nil, api.ErrArg},
		"the mark, plain":     {nil, []table.Op{{Name: "core/mark"}}, api.ErrArg},
		"plain begins so":     {nil, []table.Op{{Del: true, Name: "core/mark2"}}, api.ErrArg},
		"plain without name":  {nil, []table.Op{{Name: ""}}, api.ErrArg},
		"what is not there":   {[]barrier.Change{take("b")}, nil, api.ErrNone},
		"more than there fit": {[]barrier.Change{put("b", strings.Repeat("x", 1024)), put("c", strings.Repeat("x", 1024))}, nil, api.ErrFull},
	} {
		like := s.Last()
		if err := b.Write(c.l, c.plain); testcode.Of(err) != c.want || s.Last() != like {
			t.Errorf("%s: %v", name, err)
		}
		if got, err := b.Read("a"); err != nil || string(got) != "x" {
			t.Errorf("%s: a is %q %v", name, got, err)
		}
	}
	write(t, b, put("core/mar", "x"))
}

// TestBA3Limit: numbers are used up to the limit, and not beyond.
func TestBA3Limit(t *testing.T) {
	s := newStore(t, newDisk(t, 100))
	b := open(t, s, ring(t, 1), 18)
	for range 17 {
		write(t, b, put("a", "x"))
	}
	last := s.Last()
	if err := b.Write([]barrier.Change{put("a", "y"), put("b", "y")}, nil); testcode.Of(err) != api.ErrNonce || s.Last() != last {
		t.Errorf("two, where one is left: %v", err)
	}
	write(t, b, put("a", "z"))
	if err := b.Write([]barrier.Change{put("a", "y")}, nil); testcode.Of(err) != api.ErrNonce {
		t.Errorf("none is left: %v", err)
	}
	write(t, b, take("a"))
	holds(t, s, "core/mark", nonce.Bytes(1, 18))
}

// TestBA3MarkRefused: where the mark can't be written down, the numbers that were left are lost.
func TestBA3MarkRefused(t *testing.T) {
	r, d := ring(t, 1), newDisk(t, 8)
	s := newStore(t, d)
	b := open(t, s, r, limit)
	write(t, b, put("a", "x"))
	if b.Left() != 15 {
		t.Fatalf("%d left", b.Left())
	}
	d.Arm(1)
	var l []barrier.Change
	for range 17 {
		l = append(l, put("a", "y"))
	}
	if err := b.Write(l, nil); testcode.Of(err) != api.ErrDown || b.Left() != 0 {
		t.Errorf("down at the mark's commit: %v, %d left", err, b.Left())
	}
	if got, err := b.Read("a"); err != nil || string(got) != "x" {
		t.Errorf("a is %q %v", got, err)
	}
	// One sector a half: a mark goes beside 20 bytes, and not beside 21.
	for size, want := range map[int]api.Errno{20: 0, 21: api.ErrFull} {
		s := newStore(t, newDisk(t, 2))
		if err := s.Commit([]table.Op{{Name: "fill", Data: make([]byte, size)}}); err != nil {
			t.Fatal(err)
		}
		b := open(t, s, r, limit)
		if err := b.Write([]barrier.Change{put("a", "")}, nil); testcode.Of(err) != api.ErrFull || b.Left() != 0 && want != 0 {
			t.Errorf("%d bytes: %v, %d left", size, err, b.Left())
		}
		if _, err := s.Get("core/mark"); (err == nil) != (want == 0) {
			t.Errorf("%d bytes: the mark: %v", size, err)
		}
		if err := s.Commit([]table.Op{{Del: true, Name: "fill"}}); err != nil {
			t.Fatal(err)
		}
		if err := b.Write(nil, nil); err != nil {
			t.Errorf("%d bytes: %v", size, err)
		}
	}
}

// TestBA3Turn goes on with a ring of one term more, and with no other one.
func TestBA3Turn(t *testing.T) {
	s := newStore(t, newDisk(t, 200))
	b := open(t, s, ring(t, 2), limit)
	write(t, b, put("a", "old"))
	other := ring(t, 3)
	other.L[0].Key[0] ^= 1
	last := s.Last()
	for name, r := range map[string]keyring.Ring{"the same": ring(t, 2), "two more": ring(t, 4), "fewer": ring(t, 1), "none": {}, "another key": other} {
		if err := b.Turn(r, nil); testcode.Of(err) != api.ErrArg || s.Last() != last {
			t.Errorf("%s: %v", name, err)
		}
	}
	if err := b.Turn(ring(t, 3), []table.Op{{Del: true, Name: "none"}}); testcode.Of(err) != api.ErrNone || len(b.Ring().L) != 2 || b.Left() != 15 {
		t.Errorf("a commit that is refused: %v", err)
	}
	if err := b.Turn(ring(t, 3), []table.Op{{Name: "plain", Data: []byte("p")}}); err != nil || s.Last() != last+1 {
		t.Fatalf("Turn: %v", err)
	}
	holds(t, s, "core/mark", nonce.Bytes(3, 0))
	holds(t, s, "plain", []byte("p"))
	if len(b.Ring().L) != 3 || b.Left() != 0 {
		t.Errorf("%d terms, %d left", len(b.Ring().L), b.Left())
	}
	if got, err := b.Read("a"); err != nil || string(got) != "old" {
		t.Errorf("what was sealed ahead: %q %v", got, err)
	}
	write(t, b, put("a", "new"))
	holds(t, s, "a", entry(t, ring(t, 3), 3, 0, "a", "new"))
}

// TestBA4 asks what a barrier has.
func TestBA4(t *testing.T) {
	if got := barrier.Aad("a", 1); !bytes.Equal(got, []byte{0x61, 0, 0, 0, 0, 1}) {
		t.Errorf("the example: %x", got)
	}
	if got := barrier.Aad("", 0x01020304); !bytes.Equal(got, []byte{0, 1, 2, 3, 4}) {
		t.Errorf("Aad: %x", got)
	}
	b := open(t, newStore(t, newDisk(t, 100)), ring(t, 2), limit)
	write(t, b, put("s/1", ""), put("s/2", ""), put("t/1", ""))
	if got := b.Names("s/"); !slices.Equal(got, []string{"s/1", "s/2"}) {
		t.Errorf("Names: %v", got)
	}
	r := b.Ring()
	r.L[0].Key[0] ^= 1
	if got := b.Ring(); !slices.Equal(got.L, ring(t, 2).L) {
		t.Error("the ring is handed out")
	}
	var none *barrier.Barrier
	_, err := none.Read("a")
	for i, err := range []error{err, none.Write(nil, nil), none.Turn(ring(t, 1), nil)} {
		if testcode.Of(err) != api.ErrArg {
			t.Errorf("call %d of a nil Barrier: %v", i, err)
		}
	}
	if none.Names("") != nil || none.Ring().L != nil || none.Left() != 0 {
		t.Error("what a nil Barrier has")
	}
}

// TestBA5 goes down at each step of a row of writes: what is read is what was written last, and no nonce is used twice.
func TestBA5(t *testing.T) {
	r := ring(t, 1)
	used := func(d *disk.Disk) []string {
		var l []string
		c := d.Clone()
		keep := slices.Repeat([]bool{true}, c.Waits())
		c.Crash(keep)
		s, err := store.Open(c)
		if err != nil {
			return nil
		}
		for _, e := range s.Table().L {
			if len(e.Data) > 12 {
				l = append(l, string(e.Data))
			}
		}
		return l
	}
	for step := 3; step < 120; step++ {
		d := newDisk(t, 80)
		boxes := map[string]string{} // what each nonce sealed
		value := ""
		d.Arm(step)
		s, err := store.Open(d)
		if err != nil {
			continue
		}
		b := open(t, s, r, limit)
		down := 0
		for i := 0; i < 40 && down < 3; i++ {
			next := "v" + strconv.Itoa(i)
			err := b.Write([]barrier.Change{put("a", next)}, nil)
			for _, box := range used(d) {
				if old, ok := boxes[box[:12]]; ok && old != box {
					t.Fatalf("step %d: the nonce %x sealed two", step, box[:12])
				}
				boxes[box[:12]] = box
			}
			if err == nil {
				value = next
				continue
			}
			if testcode.Of(err) != api.ErrDown {
				t.Fatal(err)
			}
			down++
			keep := make([]bool, d.Waits())
			for k := range keep {
				keep[k] = (i+k+step)%2 == 0
			}
			d.Crash(keep)
			d.Arm(step)
			s = newStore(t, d)
			b = open(t, s, r, limit)
			got, err := b.Read("a")
			if value == "" && testcode.Of(err) == api.ErrNone {
				continue
			}
			if err != nil || string(got) != value && string(got) != next {
				t.Fatalf("step %d: %q %v, not %q or %q", step, got, err, value, next)
			}
			value = string(got)
		}
	}
}

// TestBA5Tampered turns bytes of all sectors: nothing else is read than what was written.
func TestBA5Tampered(t *testing.T) {
	r, d := ring(t, 1), newDisk(t, 12)
	b := open(t, newStore(t, d), r, limit)
	write(t, b, put("a", "the secret"))
	for i := range 12 {
		for at := 0; at < 64; at += 3 {
			c := d.Clone()
			sector, err := c.Read(i)
			if err != nil {
				t.Fatal(err)
			}
			sector[at] ^= 1
			if err := c.Tamper(i, sector); err != nil {
				t.Fatal(err)
			}
			s, err := store.Open(c)
			if err != nil {
				continue
			}
			b, err := barrier.Open(s, r, limit)
			if err != nil {
				continue
			}
			got, err := b.Read("a")
			if err == nil && string(got) != "the secret" {
				t.Fatalf("sector %d, byte %d: %q", i, at, got)
			}
		}
	}
}
