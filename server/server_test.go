package server_test

import (
	"bytes"
	"strconv"
	"strings"
	"testing"

	"bursary/api"
	"bursary/audit"
	"bursary/ceremony"
	"bursary/chain"
	"bursary/config"
	"bursary/gf"
	"bursary/keyring"
	"bursary/request"
	"bursary/server"
	"bursary/store"
	"bursary/table"
	"bursary/testcode"
	"bursary/wire"
)

// TestSV1 opens servers over stores that may be, and others.
func TestSV1(t *testing.T) {
	d := newDisk(t, 40)
	for _, limit := range []uint64{0, 1<<48 + 1, never} {
		if s, err := server.Open(d, 0, limit); s != nil || testcode.Of(err) != api.ErrArg {
			t.Errorf("a limit of %d: %v", limit, err)
		}
	}
	if !bytes.Equal(d.Safe(), make([]byte, 40*64)) {
		t.Error("refused, and written")
	}
	for _, d := range []int{1} {
		if s, err := server.Open(newDisk(t, d), 0, 1); s != nil || testcode.Of(err) != api.ErrArg {
			t.Errorf("a disk of %d: %v", d, err)
		}
	}
	if s, err := server.Open(nil, 0, 1); s != nil || testcode.Of(err) != api.ErrArg {
		t.Errorf("no disk: %v", err)
	}
	full := newDisk(t, 4)
	full.Tamper(0, bytes.Repeat([]byte{1}, 64))
	if s, err := server.Open(full, 0, 1); s != nil || testcode.Of(err) != api.ErrForm {
		t.Errorf("no store: %v", err)
	}
	armed := newDisk(t, 4)
	armed.Arm(1)
	if s, err := server.Open(armed, 0, 1); s != nil || testcode.Of(err) != api.ErrDown {
		t.Errorf("a disk that goes down: %v", err)
	}
	c, _ := config.Encode(mustConfig(t))
	for name, x := range map[string]struct {
		l    []table.Op
		told uint64
		now  uint64
		err  api.Errno
	}{
		"nothing": {nil, 5, 5, 0}, "an earlier time": {[]table.Op{{Name: "core/clock", Data: wire.Number(9)}}, 5, 9, 0}, "a later time": {[]table.Op{{Name: "core/clock", Data: wire.Number(3)}}, 5, 5, 0},
		"a short clock": {[]table.Op{{Name: "core/clock", Data: make([]byte, 7)}}, 5, 0, api.ErrIntegrity}, "an empty clock": {[]table.Op{{Name: "core/clock"}}, 5, 0, api.ErrIntegrity},
		"no config's bytes": {[]table.Op{{Name: "core/config", Data: []byte("cf")}, {Name: "core/envelope"}, {Name: "core/ring"}}, 5, 0, api.ErrIntegrity},
		"no envelope":       {[]table.Op{{Name: "core/config", Data: c}, {Name: "core/ring"}}, 5, 0, api.ErrIntegrity},
		"no ring":           {[]table.Op{{Name: "core/config", Data: c}, {Name: "core/envelope"}}, 5, 0, api.ErrIntegrity},
		"all of them":       {[]table.Op{{Name: "core/config", Data: c}, {Name: "core/envelope"}, {Name: "core/ring"}}, 5, 5, 0},
		"without a config":  {[]table.Op{{Name: "core/ring", Data: []byte("x")}}, 5, 5, 0},
	} {
		d := newDisk(t, 40)
		st, err := store.Open(d)
		if err != nil || st.Commit(x.l) != nil {
			t.Fatal(err)
		}
		s, err := server.Open(d, x.told, 1<<48)
		if testcode.Of(err) != x.err || (s == nil) != (err != nil) {
			t.Errorf("%s: %v", name, err)
		} else if s.Now() != x.now || !s.Sealed() && s != nil || s.Dead() || s.Ready() != (name == "all of them") {
			t.Errorf("%s: %d %v %v", name, s.Now(), s.Sealed(), s.Ready())
		}
	}
}

func mustConfig(t *testing.T) config.Config {
	t.Helper()
	c, err := config.New(2, 3)
	if err != nil {
		t.Fatal(err)
	}
	return c
}

// TestSV1Asked lets time go on, and asks for what there is.
func TestSV1Asked(t *testing.T) {
	x := newRig(t, 400)
	x.s.Tick(5)
	if x.s.Now() != 105 {
		t.Errorf("%d", x.s.Now())
	}
	closed := func() {
		t.Helper()
		_, err1 := x.s.State()
		_, err2 := x.s.Head()
		l, ok, err3 := x.s.Log()
		for i, err := range []error{err1, err2, err3} {
			if testcode.Of(err) != api.ErrSealed {
				t.Errorf("call %d: %v", i, err)
			}
		}
		if l != nil || ok || !x.s.Sealed() {
			t.Error("a log of what is not open")
		}
	}
	closed()
	x.made(2, 3)
	st, err := x.s.State()
	if err != nil || st.Now != 105 || len(st.Salt) != 32 || len(st.Tokens) != 0 {
		t.Errorf("State: %v %v", st, err)
	}
	x.leads(0)
	x.granted(2)
	x.leads(1)
	x.does(request.TokenCreate, x.root, "", "", num(10), num(0))
	if st, _ = x.s.State(); len(st.Tokens) != 2 {
		t.Errorf("two tokens: %d", len(st.Tokens))
	}
	st.Tokens[0].Policies[0] = "spoilt"
	x.s.Tick(9)
	if st, _ = x.s.State(); len(st.Tokens) != 2 || st.Tokens[0].Policies[0] == "spoilt" {
		t.Error("memory is shared")
	}
	x.s.Tick(1)
	if st, _ = x.s.State(); len(st.Tokens) != 1 || st.Now != 115 || x.s.Now() != 115 {
		t.Errorf("one is over: %v", st)
	}
	x.s.Tick(never)
	if st, _ = x.s.State(); st.Now != never || x.s.Now() != never {
		t.Errorf("time goes over: %d", st.Now)
	}
	x.does(request.Seal, x.root, "")
	closed()
	var none *server.Server
	none.Tick(1)
	b, taken := none.Step(asked(t, request.Status, "", ""), nil)
	if b != nil || taken != 0 || none.Ready() || none.Sealed() || none.Dead() || none.Now() != 0 {
		t.Error("what a nil Server has")
	}
	_, err1 := none.State()
	_, err2 := none.Head()
	_, _, err3 := none.Log()
	for i, err := range []error{err1, err2, err3} {
		if testcode.Of(err) != api.ErrArg {
			t.Errorf("call %d of a nil Server: %v", i, err)
		}
	}
}

// TestSV2 asks what can't be read, and what is dead.
func TestSV2(t *testing.T) {
	x := newRig(t, 400)
	for s, want := range map[string]string{"": "\x00\x04", "\x03\x00\x01\x1e\x00\x00\x00\x00": "\x00\x04", strings.Repeat("x", 1025): "\x00\x03", "\x03\x00\x01\x04\x00\x01x\x00\x00": "\x00\x04"} {
		b, taken := x.s.Step([]byte(s), testcode.Some(100, 1))
		if string(b) != "\x01\x00\x02"+want || taken != 0 {
			t.Errorf("%q: %x, %d taken", s, b, taken)
		}
	}
	x.d.Arm(1)
	x.refuses(api.ErrDown, request.Init, "", "", num(2), num(3))
	if !x.s.Dead() || x.s.Ready() {
		t.Error("not dead")
	}
	x.refuses(api.ErrDown, request.Status, "", "")
	if b, _ := x.s.Step(nil, nil); string(b) != "\x01\x00\x02\x00\x17" {
		t.Errorf("dead, and what can't be read: %x", b)
	}
	x.d.Crash(nil)
	x.refuses(api.ErrDown, request.Status, "", "")
	x.reopen(100, limit)
	x.made(2, 3).granted(2)
	x.d.Arm(1)
	before := x.told()
	if code, _, _ := x.ask(nil, request.Put, x.root, "kv/a", "x", num(never)); code != api.ErrDown || !x.s.Dead() || x.told() != before || x.s.Sealed() {
		t.Errorf("a put, as the disk goes down: %d", code)
	}
	x.leadsDead()
}

// leadsDead fails unless the log is as it was, with what is dead.
func (x *rig) leadsDead() {
	x.t.Helper()
	x.leads(1)
	x.refuses(api.ErrDown, request.TokenSelf, x.root, "")
}

// TestSV3Status tells how the server is.
func TestSV3Status(t *testing.T) {
	x := newRig(t, 400)
	equal(t, "an empty disk", x.does(request.Status, "", ""), []string{"\x00", "\x01", "\x00", "\x00", "\x00"})
	x.parts = x.does(request.Init, "", "", num(2), num(3))
	equal(t, "made", x.does(request.Status, "", ""), []string{"\x01", "\x01", "\x02", "\x03", "\x00"})
	x.does(request.Unseal, "", "", x.parts[1])
	equal(t, "one handed in", x.does(request.Status, "", ""), []string{"\x01", "\x01", "\x02", "\x03", "\x01"})
	x.does(request.Unseal, "", "", x.parts[0])
	equal(t, "open", x.does(request.Status, "", ""), []string{"\x01", "\x00", "\x02", "\x03", "\x00"})
	x.reopen(0, limit)
	equal(t, "opened anew", x.does(request.Status, "", ""), []string{"\x01", "\x01", "\x02", "\x03", "\x00"})
	for _, op := range []int{request.Status, request.RootStart, request.RootCancel} {
		x.refuses(api.ErrForm, op, "", "p")
	}
	x.refuses(api.ErrForm, request.Init, "", "p", num(2), num(3))
	x.refuses(api.ErrForm, request.Unseal, "", "p", x.parts[0])
	x.refuses(api.ErrForm, request.RootShare, "", "p", "", "")
}

// TestSV3Init makes vaults, and looks at what lies on the disk.
func TestSV3Init(t *testing.T) {
	x := newRig(t, 400)
	for _, c := range []struct {
		k, n string
		want api.Errno
	}{
		{"", num(3), api.ErrForm}, {num(2), "3", api.ErrForm}, {num(256), num(3), api.ErrArg}, {num(2), num(256), api.ErrArg}, {num(never), "", api.ErrForm}, {num(1), num(3), api.ErrArg},
		{num(2), num(13), api.ErrArg}, {num(4), num(3), api.ErrArg}, {num(0), num(0), api.ErrArg},
	} {
		x.refuses(c.want, request.Init, "", "", c.k, c.n)
	}
	if code, _, _ := x.ask(testcode.Some(127, 1), request.Init, "", "", num(2), num(3)); code != api.ErrShort {
		t.Errorf("too few drawn: %d", code)
	}
	draws := testcode.Some(200, 7)
	code, fields, taken := x.ask(draws, request.Init, "", "", num(2), num(3))
	if code != 0 || taken != 128 || len(fields) != 3 || !x.s.Ready() {
		t.Fatalf("Init: %d %d", code, taken)
	}
	m, err := ceremony.Init(gf.New(), 2, 3, draws)
	if err != nil {
		t.Fatal(err)
	}
	c, _ := config.Encode(m.Config)
	want := []table.Op{{Name: "core/config", Data: c}, {Name: "core/envelope", Data: m.Envelope}, {Name: "core/ring", Data: m.Ring}, {Name: "core/clock", Data: wire.Number(100)}}
	equal(t, "the commit", x.last(), want)
	for i, f := range fields {
		if len(f) != 40 || f[6] != byte(i+1) || !bytes.Equal([]byte(f[8:]), m.Shares[i].Data) {
			t.Errorf("part %d: %x", i, f)
		}
	}
	x.refuses(api.ErrInit, request.Init, "", "", "", "")
	small := newRig(t, 4)
	small.refuses(api.ErrFull, request.Init, "", "", num(2), num(3))
	if small.s.Ready() || small.s.Dead() {
		t.Error("no room, and ready")
	}
}

// TestSV3Unseal hands parts in.
func TestSV3Unseal(t *testing.T) {
	x := newRig(t, 400)
	x.refuses(api.ErrInit, request.Unseal, "", "", "x")
	x.parts = x.does(request.Init, "", "", num(3), num(4))
	x.refuses(api.ErrForm, request.Unseal, "", "", "x")
	x.refuses(api.ErrForm, request.Unseal, "", "", x.parts[0]+"x")
	other := []byte(x.parts[0])
	other[5]++
	x.refuses(api.ErrGen, request.Unseal, "", "", string(other))
	other[5]--
	other[6] = 5
	x.refuses(api.ErrShare, request.Unseal, "", "", string(other))
	x.refuses(api.ErrShare, request.Unseal, "", "", "sh\x00\x00\x00\x01\x01\x01x")
	equal(t, "one", x.does(request.Unseal, "", "", x.parts[3]), []string{num(1)})
	x.refuses(api.ErrShare, request.Unseal, "", "", x.parts[3])
	equal(t, "two", x.does(request.Unseal, "", "", x.parts[1]), []string{num(2)})
	wrong := []byte(x.parts[0])
	wrong[20] ^= 1
	x.refuses(api.ErrKey, request.Unseal, "", "", string(wrong))
	equal(t, "none is left", x.does(request.Status, "", "")[4], "\x00")
	for i, want := range []string{num(1), num(2), num(3)} {
		equal(t, "handed in", x.does(request.Unseal, "", "", x.parts[i]), []string{want})
	}
	x.refuses(api.ErrOpen, request.Unseal, "", "", "x")
	if x.s.Sealed() {
		t.Error("not open")
	}
}

// TestSV3Integrity opens vaults whose entries are not what they should be.
func TestSV3Integrity(t *testing.T) {
	for name, f := range map[string]func(x *rig, st *store.Store) []table.Op{
		"nothing done":       func(x *rig, st *store.Store) []table.Op { return nil },
		"a mark too great":   func(x *rig, st *store.Store) []table.Op { return put("core/mark", make([]byte, 13)) },
		"a policy cut":       func(x *rig, st *store.Store) []table.Op { return put("p/pol", make([]byte, 20)) },
		"a token of another": func(x *rig, st *store.Store) []table.Op { return moved(st, "p/pol", "p/poll") },
		"the head cut":       func(x *rig, st *store.Store) []table.Op { return put("h", nil) },
		"a secret elsewhere": func(x *rig, st *store.Store) []table.Op { return moved(st, "s/a", "s/b") },
		"another ring":       func(x *rig, st *store.Store) []table.Op { return put("core/ring", make([]byte, 63)) },
		"what is not sealed": func(x *rig, st *store.Store) []table.Op { return put("other", []byte("x")) },
	} {
		x := newRig(t, 400).made(2, 3).granted(2)
		x.does(request.PolicyPut, x.root, "pol", "a = read")
		x.does(request.Put, x.root, "kv/a", "x", num(never))
		st, err := store.Open(x.d)
		if err != nil {
			t.Fatal(err)
		}
		if err := st.Commit(f(x, st)); err != nil {
			t.Fatal(err)
		}
		x.reopen(0, limit)
		x.does(request.Unseal, "", "", x.parts[0])
		code, _, _ := x.ask(nil, request.Unseal, "", "", x.parts[2])
		want := api.ErrIntegrity
		if name == "nothing done" || name == "what is not sealed" {
			want = 0
		}
		if code != want || x.s.Sealed() != (want != 0) {
			t.Errorf("%s: %d", name, code)
		}
		equal(t, name, x.does(request.Status, "", "")[4], "\x00")
	}
	// What is sealed rightly, and still may not be.
	for name, l := range map[string][]entry{
		"no rules": {{"p/pol", "x"}}, "the policy root": {{"p/root", ""}}, "a token's bytes": {{"t/a", "tk"}}, "no name": {{"p/", ""}}, "no path": {{"s/A", "se\x08\x00\x00\x00\x00\x00"}},
		"a lease's bytes": {{"l/a", "le"}}, "a secret's bytes": {{"s/a", "se"}}, "a head's bytes": {{"h", "x"}}, "a token of another name": {{"t/b", token1}},
		"a lease of another name": {{"l/b", lease1}}, "right": {{"t/a", token1}, {"l/a", lease1}, {"s/a", "se\x08\x00\x00\x00\x00\x00"}, {"p/pol", ""}},
	} {
		x := newRig(t, 400).made(2, 3)
		x.lay(l)
		x.reopen(0, limit)
		x.does(request.Unseal, "", "", x.parts[0])
		code, _, _ := x.ask(nil, request.Unseal, "", "", x.parts[2])
		if want := name == "right"; want != (code == 0) || !want && code != api.ErrIntegrity {
			t.Errorf("%s: %d", name, code)
		}
	}
}

// TestSV1Log asks for logs whose entries are not what they should be: the vault is opened all the same.
func TestSV1Log(t *testing.T) {
	for name, c := range map[string]struct {
		f     func(st *store.Store) []table.Op
		n     int
		leads bool
		err   api.Errno
	}{
		"nothing done":       {func(st *store.Store) []table.Op { return nil }, 3, true, 0},
		"one cut":            {func(st *store.Store) []table.Op { return put("a/000002", make([]byte, 20)) }, 0, false, api.ErrIntegrity},
		"one that is none":   {func(st *store.Store) []table.Op { return put("a/000002", make([]byte, 60)) }, 0, false, api.ErrIntegrity},
		"one renamed":        {func(st *store.Store) []table.Op { return moved(st, "a/000001", "a/000009") }, 0, false, api.ErrIntegrity},
		"one taken away":     {func(st *store.Store) []table.Op { return []table.Op{{Del: true, Name: "a/000002"}} }, 2, false, 0},
		"the last one, too":  {func(st *store.Store) []table.Op { return []table.Op{{Del: true, Name: "a/000003"}} }, 2, false, 0},
		"the head, and none": {func(st *store.Store) []table.Op { return []table.Op{{Del: true, Name: "h"}} }, 3, false, 0},
	} {
		x := newRig(t, 400).made(2, 3).granted(2)
		x.does(request.TokenSelf, x.root, "")
		x.does(request.TokenSelf, x.root, "")
		st := mustStore(t, x)
		if err := st.Commit(c.f(st)); err != nil {
			t.Fatal(err)
		}
		x.reopen(0, limit)
		x.open(2)
		l, leads, err := x.s.Log()
		if len(l) != c.n || leads != c.leads || testcode.Of(err) != c.err {
			t.Errorf("%s: %d entries, leads %v, %v", name, len(l), leads, err)
		}
	}
}

// TestSV4 hands parts in for root tokens.
func TestSV4(t *testing.T) {
	x := newRig(t, 400)
	for _, op := range []int{request.RootStart, request.RootCancel} {
		x.refuses(api.ErrInit, op, "", "")
	}
	x.refuses(api.ErrInit, request.RootShare, "", "", "", "")
	x.parts = x.does(request.Init, "", "", num(2), num(3))
	for _, op := range []int{request.RootStart, request.RootCancel} {
		x.refuses(api.ErrSealed, op, "", "")
	}
	x.refuses(api.ErrSealed, request.RootShare, "", "", "", "")
	x.open(2)
	x.refuses(api.ErrState, request.RootCancel, "", "")
	x.refuses(api.ErrState, request.RootShare, "", "", "", "")
	if code, _, _ := x.ask(testcode.Some(3, 1), request.RootStart, "", ""); code != api.ErrShort {
		t.Errorf("too few drawn: %d", code)
	}
	code, fields, taken := x.ask([]byte{0x01, 0xab, 0xff, 0x00, 9}, request.RootStart, "", "")
	if code != 0 || taken != 4 || fields[0] != "01abff00" {
		t.Fatalf("root-start: %d %q %d", code, fields, taken)
	}
	if code, fields, taken := x.ask([]byte{1, 2, 3, 4}, request.RootStart, "", ""); code != 0 || taken != 4 || fields[0] != "01020304" {
		t.Errorf("four drawn: %d %q", code, fields)
	}
	_, fields, _ = x.ask([]byte{0x01, 0xab, 0xff, 0x00}, request.RootStart, "", "")
	mark := fields[0]
	x.refuses(api.ErrForm, request.RootShare, "", "", "other", "x")
	x.refuses(api.ErrState, request.RootShare, "", "", "01abff01", x.parts[0])
	equal(t, "one", x.does(request.RootShare, "", "", mark, x.parts[0]), []string{num(1)})
	x.refuses(api.ErrShare, request.RootShare, "", "", mark, x.parts[0])
	wrong := []byte(x.parts[1])
	wrong[30] ^= 1
	x.refuses(api.ErrKey, request.RootShare, "", "", mark, string(wrong))
	equal(t, "one again", x.does(request.RootShare, "", "", mark, x.parts[2]), []string{num(1)})
	if code, _, _ := x.ask(testcode.Some(21, 1), request.RootShare, "", "", mark, x.parts[0]); code != api.ErrShort {
		t.Errorf("too few drawn: %d", code)
	}
	x.leads(0)
	draws := testcode.Some(40, 5)
	code, fields, taken = x.ask(draws, request.RootShare, "", "", mark, x.parts[0])
	if code != 0 || taken != 22 || len(fields) != 2 || fields[0] != testcode.Digits(draws[:16]) || fields[1] != "t"+testcode.Digits(draws[16:22]) {
		t.Fatalf("a root token: %d %q %d", code, fields, taken)
	}
	x.leads(1)
	equal(t, "the commit", names(x.last()), "t/"+fields[1]+" a/000001 h core/clock")
	l, _, _ := x.s.Log()
	e, err := audit.Decode(l[0])
	if err != nil || e.N != 1 || e.At != 100 || e.Op != request.RootShare || e.Accessor != "" || e.Code != 0 || len(e.Args) != 2 || !e.Args[1].Masked || string(e.Args[0].Data) != mark {
		t.Errorf("the entry: %v %v", e, err)
	}
	x.refuses(api.ErrState, request.RootShare, "", "", mark, x.parts[0])
	x.does(request.TokenSelf, fields[0], "")
	first := x.does(request.RootStart, "", "")[0]
	x.does(request.RootShare, "", "", first, x.parts[0])
	second := x.does(request.RootStart, "", "")[0]
	x.refuses(api.ErrState, request.RootShare, "", "", first, x.parts[1])
	equal(t, "in the place of one that there was", x.does(request.RootShare, "", "", second, x.parts[0]), []string{num(1)})
	equal(t, "cancelled", len(x.does(request.RootCancel, "", "")), 0)
	x.refuses(api.ErrState, request.RootShare, "", "", second, x.parts[1])
	x.leads(2)
}

// TestSV4Refused: where the token can't be granted or committed, the progress stays.
func TestSV4Refused(t *testing.T) {
	x := newRig(t, 400).made(2, 3).granted(2)
	for range 63 {
		x.does(request.TokenSelf, x.root, "")
	}
	x.leads(64)
	mark := x.does(request.RootStart, "", "")[0]
	x.does(request.RootShare, "", "", mark, x.parts[0])
	x.refuses(api.ErrLog, request.RootShare, "", "", mark, x.parts[1])
	x.refuses(api.ErrLog, request.RootShare, "", "", mark, x.parts[1])
	x.refuses(api.ErrShare, request.RootShare, "", "", mark, x.parts[0])
	x = newRig(t, 400).made(2, 3).granted(2)
	mark = x.does(request.RootStart, "", "")[0]
	x.does(request.RootShare, "", "", mark, x.parts[0])
	x.d.Arm(1)
	x.refuses(api.ErrDown, request.RootShare, "", "", mark, x.parts[1])
	if !x.s.Dead() {
		t.Error("not dead")
	}
	x.leads(1)
}

// auditKey is the key of a vault's log, that was made of drawn bytes.
func auditKey(t *testing.T, draws []byte) []byte {
	t.Helper()
	key, err := keyring.Use(keyring.Term{N: 1, Key: [32]byte(draws[64:96])}, "audit")
	if err != nil {
		t.Fatal(err)
	}
	return key
}

// TestSV5 asks, and looks at what is committed, and written down.
func TestSV5(t *testing.T) {
	x := newRig(t, 800)
	x.refuses(api.ErrInit, request.TokenSelf, "x", "")
	draws := testcode.Some(200, 2)
	_, x.parts, _ = x.ask(draws, request.Init, "", "", num(2), num(3))
	x.refuses(api.ErrSealed, request.TokenSelf, "x", "")
	x.open(2)
	x.granted(2)
	x.refuses(api.ErrToken, request.Put, "nobody", "kv/a", "x", num(never))
	x.refuses(api.ErrToken, request.Seal, "", "")
	x.leads(1)
	x.s.Tick(7)
	equal(t, "a put", x.does(request.Put, x.root, "kv/b/c", "secret", num(never)), []string{num(1)})
	equal(t, "its commit", names(x.last()), "s/b/c a/000002 h core/clock")
	equal(t, "the time", plain(x.last(), "core/clock"), wire.Number(107))
	x.refuses(api.ErrVersion, request.Put, x.root, "kv/b/c", "x", num(5))
	equal(t, "what is refused", names(x.last()), "a/000003 h core/clock")
	x.does(request.PolicyPut, x.root, "pol", "kv/* = read")
	made := x.does(request.TokenCreate, x.root, "", "pol", num(50), num(2))
	equal(t, "a token", names(x.last()), "t/"+made[1]+" a/000005 h core/clock")
	lent := x.does(request.LeaseIssue, made[0], "kv/b", num(40))
	equal(t, "a lease, and a use", names(x.last()), "l/"+lent[0]+" t/"+made[1]+" a/000006 h core/clock")
	x.does(request.Get, made[0], "kv/b/c", num(0))
	equal(t, "used up", names(x.last()), "-l/"+lent[0]+" -t/"+made[1]+" a/000007 h core/clock")
	x.refuses(api.ErrToken, request.Get, made[0], "kv/b/c", num(0))
	x.leads(7)
	l, _, _ := x.s.Log()
	key := auditKey(t, draws)
	if h, _ := x.s.Head(); h != chain.Of(key, l) {
		t.Error("the head")
	}
	e, err := audit.Decode(l[2])
	r := request.Request{Op: request.Put, Token: []byte(x.root), Path: "kv/b/c", Args: [][]byte{[]byte("x"), []byte(num(5))}}
	st, _ := x.s.State()
	if err != nil || e.Code != int(api.ErrVersion) || e.N != 3 || e.At != 107 || e.Accessor != st.Tokens[0].Accessor || !audit.Told(key, e, r) {
		t.Errorf("the entry of what was refused: %v %v", e, err)
	}
	if e, _ := audit.Decode(l[6]); e.Accessor != made[1] || e.Op != request.Get {
		t.Errorf("the entry of the last use: %v", e)
	}
	// The sweep of what is over is committed with the next request.
	made = x.does(request.TokenCreate, x.root, "", "pol", num(50), num(0))
	x.s.Tick(50)
	x.does(request.TokenSelf, x.root, "")
	equal(t, "swept", names(x.last()), "-t/"+made[1]+" a/000009 h core/clock")
	code, _, taken := x.ask(testcode.Some(30, 1), request.TokenCreate, x.root, "", "", num(0), num(0))
	if code != 0 || taken != 22 {
		t.Errorf("taken: %d %d", code, taken)
	}
	code, _, taken = x.ask(testcode.Some(30, 2), request.LeaseIssue, x.root, "p", num(0))
	if code != 0 || taken != 6 {
		t.Errorf("taken: %d %d", code, taken)
	}
	// Opened anew at a later time, what is over is gone at once.
	before := x.told()
	short := x.does(request.TokenCreate, x.root, "", "", num(30), num(0))
	x.reopen(187, limit)
	x.open(2)
	if x.told() != before || x.s.Now() != 187 {
		t.Errorf("later: %s, not %s, without %s", x.told(), before, short[1])
	}
	x.does(request.TokenSelf, x.root, "")
	equal(t, "swept as it was opened", names(x.last()), "-t/"+short[1]+" a/000013 h core/clock")
	// Behind an opening anew all is as it was.
	x.reopen(0, limit)
	x.open(2)
	if x.told() != before || x.s.Now() != 187 {
		t.Errorf("opened anew: %s, not %s", x.told(), before)
	}
	x.leads(13)
	x.does(request.TokenSelf, x.root, "")
	equal(t, "what was found is not written again", names(x.last()), "a/000014 h core/clock")
}

// TestSV5Refused: a log that is full, nonces that are used up, no room, and a disk that goes down.
func TestSV5Refused(t *testing.T) {
	x := newRig(t, 800).made(2, 3).granted(2)
	for range 63 {
		x.does(request.TokenSelf, x.root, "")
	}
	x.refuses(api.ErrLog, request.TokenSelf, x.root, "")
	x.refuses(api.ErrLog, request.Put, x.root, "", "x", "")
	x.refuses(api.ErrLog, request.Rotate, x.root, "")
	x.refuses(api.ErrLog, request.Seal, x.root, "")
	x.refuses(api.ErrToken, request.TokenSelf, "nobody", "")
	x.leads(64)
	st, _ := store.Open(x.d)
	if ring, _ := st.Get("core/ring"); len(ring) != 63 {
		t.Error("the log is full, and the ring turned")
	}
	x = newRig(t, 800)
	x.reopen(100, 20)
	x.made(2, 3).granted(2)
	for range 8 {
		x.does(request.TokenSelf, x.root, "")
	}
	x.refuses(api.ErrNonce, request.TokenSelf, x.root, "")
	x.leads(9)
	// A turned ring has nonces of its own.
	x.does(request.Rotate, x.root, "")
	x.leads(10)
	x = newRig(t, 60).made(2, 3).granted(2)
	before := x.told()
	for i := 0; ; i++ {
		code, _, _ := x.ask(nil, request.Put, x.root, "kv/s"+strconv.Itoa(i), strings.Repeat("x", 100), num(never))
		if code == api.ErrFull {
			break
		}
		if code != 0 || i > 30 {
			t.Fatalf("put %d: %d", i, code)
		}
		before = x.told()
		x.leads(i + 2)
	}
	if x.told() != before || x.s.Dead() {
		t.Errorf("no room, and changed: %s", x.told())
	}
}
