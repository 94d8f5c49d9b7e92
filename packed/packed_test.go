package packed_test

import (
	"bytes"
	"testing"

	"bursary/packed"
)

// TestTold tells numbers and texts as bytes.
func TestTold(t *testing.T) {
	got := packed.Join(packed.Number(0x0102, 4), packed.Text("ab"), packed.Bytes(nil), packed.Number(0x010203, 1))
	if !bytes.Equal(got, []byte{0, 0, 1, 2, 2, 'a', 'b', 0, 3}) {
		t.Errorf("%x", got)
	}
	if s := packed.Hex([]byte{0, 0x1f, 0xa0}); s != "001fa0" || packed.Hex(nil) != "" {
		t.Errorf("digits: %q", s)
	}
	if len(packed.Number(1, -1)) != 0 {
		t.Error("fewer bytes than none")
	}
}

// TestRead reads what was told, and what is cut.
func TestRead(t *testing.T) {
	b := packed.Join([]byte("mk"), packed.Number(1<<40, 8), packed.Text("abc"))
	for n := range len(b) + 2 {
		r := packed.Read(append(bytes.Clone(b), 0)[:n])
		r.Mark("mk")
		number, text := r.Number(8), r.Text()
		if n == len(b) && (number != 1<<40 || text != "abc") {
			t.Errorf("%d %q", number, text)
		}
		if r.Done() != (n == len(b)) {
			t.Errorf("%d bytes: %v", n, r.Done())
		}
	}
	r := packed.Read([]byte("mx"))
	r.Mark("mk")
	if r.Done() {
		t.Error("another mark")
	}
	if r = packed.Read(nil); len(r.Take(-1)) != 0 || !r.Done() {
		t.Error("nothing is taken")
	}
}

// TestMemory: what is taken is new.
func TestMemory(t *testing.T) {
	b := []byte{1, 7}
	clear(packed.Read(b).Bytes())
	if b[1] != 7 {
		t.Error("memory is shared")
	}
}
