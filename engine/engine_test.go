package engine_test

import (
	"bytes"
	"math"
	"reflect"
	"strconv"
	"strings"
	"testing"

	"bursary/api"
	"bursary/engine"
	"bursary/testcode"
)

// of is a secret of so many versions, all live, that ends with a number.
func of(most, n int, last uint32) engine.Secret {
	s := engine.Secret{Last: last, Max: most}
	for i := range n {
		number := last - uint32(n) + 1 + uint32(i)
		s.L = append(s.L, engine.Version{N: number, Data: []byte(strconv.Itoa(int(number))), At: uint64(i)})
	}
	return s
}

// changed is a secret of three versions that something is done to.
func changed(f func(*engine.Secret)) engine.Secret {
	s := of(4, 3, 5)
	f(&s)
	return s
}

// wrong are secrets that may not be.
func wrong() map[string]engine.Secret {
	return map[string]engine.Secret{
		"Max 0": {}, "Max 9": of(9, 1, 1), "Max below 0": of(-1, 0, 0), "more than Max": of(2, 3, 3), "Last without versions": of(2, 0, 3),
		"versions without Last": changed(func(s *engine.Secret) { s.Last = 0 }), "below 1": of(8, 3, 2), "another number": changed(func(s *engine.Secret) { s.L[1].N = 7 }),
		"descending": changed(func(s *engine.Secret) { s.L[0].N, s.L[1].N = 4, 3 }), "not up to Last": changed(func(s *engine.Secret) { s.Last = 6 }),
		"101 bytes": changed(func(s *engine.Secret) { s.L[2].Data = make([]byte, 101) }), "State 3": changed(func(s *engine.Secret) { s.L[2].State = 3 }),
		"State below 0": changed(func(s *engine.Secret) { s.L[2].State = -1 }), "destroyed, with bytes": changed(func(s *engine.Secret) { s.L[0].State = engine.Destroyed }),
	}
}

// right are secrets that may be.
func right() []engine.Secret {
	return []engine.Secret{
		of(1, 0, 0), of(8, 8, 8), of(8, 2, math.MaxUint32), changed(func(s *engine.Secret) { s.L[1].State = engine.Deleted }),
		changed(func(s *engine.Secret) { s.L[1].State, s.L[1].Data = engine.Destroyed, nil }), changed(func(s *engine.Secret) { s.L[0].Data = make([]byte, 100) }),
		changed(func(s *engine.Secret) { s.L[0].At = math.MaxUint64 }),
	}
}

// numbers are a secret's versions' numbers and states, as a text.
func numbers(s engine.Secret) string {
	var l []string
	for _, v := range s.L {
		l = append(l, strconv.Itoa(int(v.N))+"rdx"[v.State:v.State+1])
	}
	return strings.Join(l, " ")
}

// TestEN1 puts and gets versions.
func TestEN1(t *testing.T) {
	for i, s := range right() {
		if err := engine.Check(s); err != nil {
			t.Errorf("secret %d: %v", i, err)
		}
	}
	for name, s := range wrong() {
		_, err1 := engine.Put(s, nil, -1, 0)
		_, err2 := engine.Get(s, 0)
		_, err3 := engine.Delete(s, 0)
		_, err4 := engine.Undelete(s, 0)
		_, err5 := engine.Destroy(s, 0)
		_, err6 := engine.Encode(s)
		for i, err := range []error{engine.Check(s), err1, err2, err3, err4, err5, err6} {
			if testcode.Of(err) != api.ErrArg {
				t.Errorf("%s, call %d: %v", name, i, err)
			}
		}
	}
	for most, want := range map[int]api.Errno{0: api.ErrArg, 9: api.ErrArg, -1: api.ErrArg, math.MaxInt: api.ErrArg, 1: 0, 8: 0} {
		s, err := engine.New(most)
		if testcode.Of(err) != want || err == nil && s.Max != most || err != nil && s.Max != 0 {
			t.Errorf("New(%d): %v %v", most, s, err)
		}
	}
	s, _ := engine.New(2)
	for i := range 3 {
		next, err := engine.Put(s, []byte{byte(i)}, i, uint64(10+i))
		if err != nil {
			t.Fatal(err)
		}
		s = next
	}
	if want := (engine.Secret{L: []engine.Version{{2, []byte{1}, 11, 0}, {3, []byte{2}, 12, 0}}, Last: 3, Max: 2}); !reflect.DeepEqual(s, want) {
		t.Errorf("the example: %v", s)
	}
	for _, c := range []struct {
		s    engine.Secret
		size int
		cas  int
		want api.Errno
	}{
		{s, 100, -1, 0}, {s, 0, 3, 0}, {s, 0, math.MinInt, 0}, {s, 0, 2, api.ErrVersion}, {s, 0, 0, api.ErrVersion}, {s, 0, math.MaxInt, api.ErrVersion},
		{s, 0, 1<<32 + 3, api.ErrVersion}, {s, 101, 2, api.ErrArg}, {of(2, 1, math.MaxUint32), 0, -1, api.ErrOver}, {of(2, 1, math.MaxUint32), 0, 5, api.ErrVersion},
		{of(2, 1, math.MaxUint32), 0, math.MaxUint32, api.ErrOver}, {of(2, 1, math.MaxUint32-1), 0, -1, 0}, {of(1, 0, 0), 0, 0, 0}, {of(1, 0, 0), 0, 1, api.ErrVersion},
	} {
		got, err := engine.Put(c.s, make([]byte, c.size), c.cas, 1)
		if testcode.Of(err) != c.want || err == nil && got.Last != c.s.Last+1 || err != nil && got.L != nil {
			t.Errorf("Put of %d with %d: %v %v", c.size, c.cas, got, err)
		}
	}
	s.L[1].State = engine.Deleted
	for n, want := range map[uint32]api.Errno{2: 0, 3: api.ErrGone, 0: api.ErrGone, 1: api.ErrNone, 4: api.ErrNone, math.MaxUint32: api.ErrNone} {
		v, err := engine.Get(s, n)
		if testcode.Of(err) != want || err == nil && !reflect.DeepEqual(v, s.L[0]) || err != nil && v.N != 0 {
			t.Errorf("Get(%d): %v %v", n, v, err)
		}
	}
	if _, err := engine.Get(of(2, 0, 0), 0); testcode.Of(err) != api.ErrNone {
		t.Errorf("Get of none: %v", err)
	}
}

// TestEN2 deletes, undeletes and destroys.
func TestEN2(t *testing.T) {
	s := changed(func(s *engine.Secret) {
		s.L[0].State, s.L[0].Data = engine.Destroyed, nil
		s.L[1].State = engine.Deleted
	})
	for _, c := range []struct {
		name string
		f    func(engine.Secret, uint32) (engine.Secret, error)
		n    uint32
		want string
		err  api.Errno
	}{
		{"delete", engine.Delete, 5, "3x 4d 5d", 0}, {"delete", engine.Delete, 4, "3x 4d 5r", 0}, {"delete", engine.Delete, 3, "", api.ErrGone}, {"delete", engine.Delete, 2, "", api.ErrNone},
		{"delete", engine.Delete, 0, "3x 4d 5d", 0}, {"undelete", engine.Undelete, 4, "3x 4r 5r", 0}, {"undelete", engine.Undelete, 0, "3x 4d 5r", 0},
		{"undelete", engine.Undelete, 3, "", api.ErrGone}, {"undelete", engine.Undelete, 6, "", api.ErrNone}, {"destroy", engine.Destroy, 4, "3x 4x 5r", 0},
		{"destroy", engine.Destroy, 3, "3x 4d 5r", 0}, {"destroy", engine.Destroy, 0, "3x 4d 5x", 0}, {"destroy", engine.Destroy, 9, "", api.ErrNone},
	} {
		got, err := c.f(s, c.n)
		if numbers(got) != c.want || testcode.Of(err) != c.err {
			t.Errorf("%s %d: %s %v", c.name, c.n, numbers(got), err)
		}
		for _, v := range got.L {
			if v.State == engine.Destroyed && len(v.Data) > 0 || v.State == engine.Deleted && len(v.Data) == 0 {
				t.Errorf("%s %d: version %d has %d bytes", c.name, c.n, v.N, len(v.Data))
			}
		}
	}
	if numbers(s) != "3x 4d 5r" {
		t.Error("what was handed in is changed")
	}
	if engine.Live != 0 || engine.Deleted != 1 || engine.Destroyed != 2 {
		t.Error("the numbers")
	}
}

// TestEN3 tells secrets as bytes, and reads what is none.
func TestEN3(t *testing.T) {
	s := engine.Secret{L: []engine.Version{{0x0103, []byte("ab"), 0x0506, 1}, {0x0104, nil, 7, 2}}, Last: 0x0104, Max: 3}
	want := "se\x03\x00\x00\x01\x04\x02" + "\x00\x00\x00\x00\x00\x00\x05\x06\x01\x02ab" + "\x00\x00\x00\x00\x00\x00\x00\x07\x02\x00"
	b, err := engine.Encode(s)
	if err != nil || string(b) != want {
		t.Fatalf("Encode: %q %v", b, err)
	}
	for n := range b {
		if s, err := engine.Decode(b[:n]); s.L != nil || s.Max != 0 || testcode.Of(err) != api.ErrForm {
			t.Fatalf("cut to %d: %v", n, err)
		}
	}
	for _, x := range []string{
		want + "\x00", "sx" + want[2:], "se\x00" + want[3:], "se\x09" + want[3:], "se\x01" + want[3:], "se\x03\x00\x00\x00\x01" + want[7:], "se\x03\x00\x00\x00\x00" + want[7:],
		"se\x03\x00\x00\x01\x04\x00", "se\x03\x00\x00\x00\x00\x01" + "\x00\x00\x00\x00\x00\x00\x05\x06\x01\x02ab",
		strings.Replace(want, "\x02\x00", "\x02\x01x", 1), strings.Replace(want, "\x01\x02ab", "\x03\x02ab", 1), "se\x03\x00\x00\x01\x04\xff" + want[8:],
		"se\x01\x00\x00\x00\x01\x01" + "\x00\x00\x00\x00\x00\x00\x05\x06\x00\x65" + strings.Repeat("x", 101),
	} {
		if s, err := engine.Decode([]byte(x)); s.L != nil || s.Max != 0 || testcode.Of(err) != api.ErrForm {
			t.Errorf("Decode(%q): %v %v", x, s, err)
		}
	}
	if s, err := engine.Decode([]byte("se\x01\x00\x00\x00\x00\x00")); err != nil || s.Max != 1 {
		t.Errorf("no versions: %v %v", s, err)
	}
}

// TestEN4: what was put is got, while it is among the last Max and Live; secrets come back.
func TestEN4(t *testing.T) {
	for i, s := range right() {
		b, err := engine.Encode(s)
		if err != nil {
			t.Fatal(err)
		}
		back, err := engine.Decode(b)
		again, err2 := engine.Encode(back)
		if err != nil || err2 != nil || !bytes.Equal(again, b) || numbers(back) != numbers(s) || back.Last != s.Last {
			t.Errorf("secret %d comes back as %v, %v", i, back, err)
		}
	}
	seed := uint32(5)
	draw := func(n int) int {
		seed = seed*1664525 + 1013904223
		return int(seed>>16) % n
	}
	s, _ := engine.New(3)
	put, destroyed := map[uint32]string{}, map[uint32]bool{}
	for i := range 2000 {
		n := uint32(max(0, int(s.Last)-draw(4)))
		next, err := s, error(nil)
		switch draw(5) {
		case 0, 1:
			next, err = engine.Put(s, []byte(strconv.Itoa(i)), -1, 0)
			put[next.Last] = strconv.Itoa(i)
		case 2:
			next, err = engine.Delete(s, n)
		case 3:
			next, err = engine.Undelete(s, n)
		case 4:
			if next, err = engine.Destroy(s, n); err == nil {
				destroyed[max(n, 0)] = true
				if n == 0 {
					destroyed[s.Last] = true
				}
			}
		}
		if err == nil {
			s = next
		}
		for _, v := range s.L {
			got, err := engine.Get(s, v.N)
			if (err == nil) != (v.State == engine.Live) || err == nil && (string(got.Data) != put[v.N] || destroyed[v.N]) {
				t.Fatalf("version %d: %q %v", v.N, got.Data, err)
			}
			if destroyed[v.N] && v.State != engine.Destroyed {
				t.Fatalf("version %d was destroyed", v.N)
			}
		}
		if len(s.L) != min(3, int(s.Last)) {
			t.Fatalf("%d versions of %d", len(s.L), s.Last)
		}
	}
}

// TestKept: no memory is shared.
func TestKept(t *testing.T) {
	s, data := of(4, 3, 3), []byte("data")
	one, _ := engine.Put(s, data, -1, 0)
	two, _ := engine.Delete(s, 1)
	three, _ := engine.Destroy(s, 2)
	v, _ := engine.Get(s, 3)
	for _, x := range []engine.Secret{one, two, three, {L: []engine.Version{v}}} {
		for i := range x.L {
			clear(x.L[i].Data)
		}
		x.L[0].State = 1
	}
	if numbers(s) != "1r 2r 3r" || string(s.L[0].Data) != "1" || string(s.L[2].Data) != "3" || string(data) != "data" {
		t.Error("memory is shared")
	}
	b, _ := engine.Encode(s)
	back, _ := engine.Decode(b)
	clear(back.L[0].Data)
	if again, _ := engine.Decode(b); string(again.L[0].Data) != "1" {
		t.Error("bytes are shared")
	}
}
