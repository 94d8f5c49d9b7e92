package view_test

import (
	"bytes"
	"strings"
	"testing"

	"bursary/api"
	"bursary/disk"
	"bursary/request"
	"bursary/server"
	"bursary/testcode"
	"bursary/view"
	"bursary/wire"
)

const never = 1<<64 - 1

func num(n uint64) string { return string(wire.Number(n)) }

// newDisk is one of so many sectors.
func newDisk(t *testing.T, n int) *disk.Disk {
	t.Helper()
	d, err := disk.New(n)
	if err != nil {
		t.Fatal(err)
	}
	return d
}

func open(t *testing.T, d *disk.Disk, now uint64) *server.Server {
	t.Helper()
	s, err := server.Open(d, now, 1<<40)
	if err != nil {
		t.Fatal(err)
	}
	return s
}

// ask asks, and fails unless that is answered with 0: the fields.
func ask(t *testing.T, s *server.Server, seed uint32, op int, who, path string, args ...string) []string {
	t.Helper()
	r := request.Request{Op: op, Token: []byte(who), Path: path}
	for _, a := range args {
		r.Args = append(r.Args, []byte(a))
	}
	b, err := request.Encode(r)
	if err != nil {
		t.Fatal(err)
	}
	answer, _ := s.Step(b, testcode.Some(300, seed))
	x, err := request.Parse(answer)
	if err != nil || x.Code != 0 {
		t.Fatalf("%s: %d %v", request.Name(op), x.Code, err)
	}
	var fields []string
	for _, f := range x.Fields {
		fields = append(fields, string(f))
	}
	return fields
}

// opened is a server that is open, with a root token.
func opened(t *testing.T) (*server.Server, string) {
	t.Helper()
	s := open(t, newDisk(t, 400), 5)
	parts := ask(t, s, 1, request.Init, "", "", num(2), num(2))
	ask(t, s, 1, request.Unseal, "", "", parts[0])
	ask(t, s, 1, request.Unseal, "", "", parts[1])
	mark := ask(t, s, 1, request.RootStart, "", "")[0]
	ask(t, s, 1, request.RootShare, "", "", mark, parts[0])
	return s, ask(t, s, 2, request.RootShare, "", "", mark, parts[1])[0]
}

// TestVW1 tells bytes and disks.
func TestVW1(t *testing.T) {
	for s, b := range map[string][]byte{"-": nil, "00": {0}, "0aff10": {0x0a, 0xff, 0x10}} {
		if got := view.Hex(b); got != s {
			t.Errorf("Hex(%x): %q", b, got)
		}
		if got, err := view.Bytes(s); err != nil || !bytes.Equal(got, b) {
			t.Errorf("Bytes(%q): %x %v", s, got, err)
		}
	}
	for _, s := range []string{"", "0", "000", "0A", "0g", "0x", "+1", "-1", "--", "- ", " 00", "00 ", "00-", "0_", "ä", "\x00\x00"} {
		if got, err := view.Bytes(s); got != nil || testcode.Of(err) != api.ErrForm {
			t.Errorf("Bytes(%q): %x %v", s, got, err)
		}
	}
	d := newDisk(t, 12)
	if view.Disk(d) != "" || view.Disk(nil) != "" {
		t.Error("a disk of noughts, and none")
	}
	last := append(make([]byte, 63), 1)
	d.Tamper(11, last)
	d.Tamper(0, bytes.Repeat([]byte{0xab}, 64))
	d.Write(5, last)
	want := "sector 0 " + strings.Repeat("ab", 64) + "\nsector 11 " + strings.Repeat("00", 63) + "01\n"
	if got := view.Disk(d); got != want {
		t.Errorf("as it is safe: %s", got)
	}
	d.Arm(1)
	d.Sync()
	if got := view.Disk(d); got != want {
		t.Errorf("as it is down: %s", got)
	}
}

// TestVW2 tells servers.
func TestVW2(t *testing.T) {
	d := newDisk(t, 400)
	s := open(t, d, 5)
	if got := view.Server(s); got != "server 0 1 0 5\n" {
		t.Errorf("the example: %q", got)
	}
	if view.Server(nil) != "" {
		t.Error("a nil server")
	}
	s.Tick(never)
	if got := view.Server(s); got != "server 0 1 0 never\n" {
		t.Errorf("never: %q", got)
	}
	ask(t, s, 1, request.Init, "", "", num(2), num(2))
	if got := view.Server(s); got != "server 1 1 0 never\n" {
		t.Errorf("ready: %q", got)
	}
	d = newDisk(t, 20)
	s = open(t, d, 7)
	d.Arm(1)
	r, _ := request.Encode(request.Request{Op: request.Init, Args: [][]byte{wire.Number(2), wire.Number(2)}})
	s.Step(r, testcode.Some(200, 1))
	if got := view.Server(s); got != "server 0 1 1 7\n" {
		t.Errorf("dead: %q", got)
	}
	s, root := opened(t)
	ask(t, s, 1, request.PolicyPut, root, "pol", "kv/* = read")
	ask(t, s, 1, request.PolicyPut, root, "none", "")
	ask(t, s, 1, request.Put, root, "kv/b", "\x01\x02", num(never))
	ask(t, s, 1, request.Put, root, "kv/b", "", num(never))
	ask(t, s, 1, request.Put, root, "kv/b", "x", num(never))
	ask(t, s, 1, request.Delete, root, "kv/b", num(1))
	ask(t, s, 1, request.Destroy, root, "kv/b", num(3))
	ask(t, s, 1, request.Put, root, "kv/a", "y", num(never))
	made := ask(t, s, 3, request.TokenCreate, root, "", "pol,none", num(50), num(7))
	lent := ask(t, s, 4, request.LeaseIssue, made[0], "kv/b", num(20))
	free := ask(t, s, 5, request.LeaseIssue, root, "kv/c", num(0))
	s.Tick(2)
	st, err1 := s.State()
	h, err2 := s.Head()
	if err1 != nil || err2 != nil {
		t.Fatal(err1, err2)
	}
	rootAccessor := st.Tokens[0].Accessor
	if rootAccessor == made[1] {
		rootAccessor = st.Tokens[1].Accessor
	}
	tokens := "token " + rootAccessor + " - never never 0 root\n"
	child := "token " + made[1] + " " + rootAccessor + " 55 55 6 pol none\n"
	leases := "lease " + lent[0] + " " + made[1] + " kv/b 25 55\n"
	second := "lease " + free[0] + " " + rootAccessor + " kv/c never never\n"
	want := "server 1 0 0 7\npolicy none -\npolicy pol " + view.Hex([]byte("kv/* = read")) + "\n" + ordered(tokens, child) + ordered(leases, second) +
		"secret kv/a 1 079\nsecret kv/b 3 10102 0- 2-\nlog 12 " + view.Hex(h.Sum[:]) + "\n"
	if got := view.Server(s); got != want {
		t.Errorf("open:\n%s, not\n%s", got, want)
	}
}

// ordered are two lines, the lesser one first.
func ordered(a, b string) string {
	if a < b {
		return a + b
	}
	return b + a
}

// TestVW3: what is told hangs on what there is, alone.
func TestVW3(t *testing.T) {
	a, root := opened(t)
	b, _ := opened(t)
	if !view.Same(a, b) || !view.Same(a, a) || view.Server(a) != view.Server(a) || !view.Same(nil, nil) || view.Same(a, nil) || view.Same(nil, b) {
		t.Error("two that are the same")
	}
	ask(t, b, 1, request.TokenSelf, root, "")
	if view.Same(a, b) {
		t.Error("the log is another one")
	}
	ask(t, a, 1, request.TokenSelf, root, "")
	if !view.Same(a, b) {
		t.Error("the same again")
	}
	a.Tick(1)
	if view.Same(a, b) {
		t.Error("the time is another one")
	}
}
