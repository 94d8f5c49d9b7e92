package server_test

import (
	"bytes"
	"testing"

	"bursary/api"
	"bursary/audit"
	"bursary/barrier"
	"bursary/ceremony"
	"bursary/chain"
	"bursary/config"
	"bursary/disk"
	"bursary/gf"
	"bursary/lease"
	"bursary/request"
	"bursary/shamir"
	"bursary/sharecode"
	"bursary/store"
	"bursary/table"
	"bursary/testcode"
	"bursary/token"
)

// entry is one that is to be sealed.
type entry struct{ name, data string }

// Bytes of a token, and of a lease.
var (
	token1 = must(token.Encode(token.Token{Accessor: "a"}))
	lease1 = must(lease.Encode(lease.Lease{ID: "a", Token: "a", Path: "p", Until: 1 << 40, Most: 1 << 40}))
)

func must(b []byte, err error) string {
	if err != nil {
		panic(err)
	}
	return string(b)
}

// put is a change that puts bytes.
func put(name string, data []byte) []table.Op { return []table.Op{{Name: name, Data: data}} }

// moved are changes that put an entry's bytes by another name.
func moved(st *store.Store, from, to string) []table.Op {
	b, _ := st.Get(from)
	return []table.Op{{Del: true, Name: from}, {Name: to, Data: b}}
}

// shares are those of fields.
func shares(t *testing.T, fields []string) []shamir.Share {
	t.Helper()
	var l []shamir.Share
	for _, f := range fields {
		s, err := sharecode.Decode([]byte(f))
		if err != nil {
			t.Fatal(err)
		}
		l = append(l, s)
	}
	return l
}

// vaultOf is the vault that lies in a store, with parts.
func vaultOf(t *testing.T, st *store.Store, parts []string) ceremony.Made {
	t.Helper()
	c, _ := st.Get("core/config")
	conf, err := config.Decode(c)
	if err != nil {
		t.Fatal(err)
	}
	m := ceremony.Made{Config: conf, Shares: shares(t, parts)}
	m.Envelope, _ = st.Get("core/envelope")
	m.Ring, _ = st.Get("core/ring")
	return m
}

// lay puts entries, sealed, into the store.
func (x *rig) lay(l []entry) {
	x.t.Helper()
	st, err := store.Open(x.d)
	if err != nil {
		x.t.Fatal(err)
	}
	_, ring, err := ceremony.Open(gf.New(), vaultOf(x.t, st, x.parts))
	if err != nil {
		x.t.Fatal(err)
	}
	b, err := barrier.Open(st, ring, limit)
	if err != nil {
		x.t.Fatal(err)
	}
	var changes []barrier.Change
	for _, e := range l {
		changes = append(changes, barrier.Change{Name: e.name, Plain: []byte(e.data)})
	}
	if err := b.Write(changes, nil); err != nil {
		x.t.Fatal(err)
	}
}

// denied is a token that may nothing.
func (x *rig) denied() string {
	x.t.Helper()
	return x.does(request.TokenCreate, x.root, "", "", num(0), num(0))[0]
}

// TestSV6Seal seals the vault, and asks for the log's head.
func TestSV6Seal(t *testing.T) {
	x := newRig(t, 800).made(2, 3).granted(2)
	h, _ := x.s.Head()
	equal(t, "the head", x.does(request.AuditHead, x.root, ""), []string{string(chain.Encode(h))})
	x.leads(2)
	poor := x.denied()
	for _, op := range []int{request.Seal, request.AuditHead, request.Rotate, request.RekeyCancel} {
		x.refuses(api.ErrDenied, op, poor, "")
		x.refuses(api.ErrForm, op, x.root, "p")
	}
	x.refuses(api.ErrDenied, request.RekeyStart, poor, "", "", "")
	x.refuses(api.ErrDenied, request.RekeyShare, poor, "", "", "")
	mark := x.does(request.RootStart, "", "")[0]
	x.does(request.RootShare, "", "", mark, x.parts[0])
	again := x.does(request.RekeyStart, x.root, "", num(2), num(2))[0]
	x.does(request.RekeyShare, x.root, "", again, x.parts[0])
	equal(t, "sealed", len(x.does(request.Seal, x.root, "")), 0)
	equal(t, "status", x.does(request.Status, "", ""), []string{"\x01", "\x01", "\x02", "\x03", "\x00"})
	x.refuses(api.ErrSealed, request.TokenSelf, x.root, "")
	x.open(2)
	x.leads(16)
	l, _, _ := x.s.Log()
	if e, _ := audit.Decode(l[15]); e.Op != request.Seal || e.Code != 0 {
		t.Errorf("the entry: %v", e)
	}
	// No progress has parts: the first one is one again.
	equal(t, "for a root token", x.does(request.RootShare, "", "", mark, x.parts[0]), []string{num(1)})
	equal(t, "for new parts", x.does(request.RekeyShare, x.root, "", again, x.parts[0]), []string{num(1)})
}

// TestSV6Rotate lets the ring have a term more.
func TestSV6Rotate(t *testing.T) {
	x := newRig(t, 800).made(2, 3).granted(2)
	x.does(request.Put, x.root, "kv/a", "old", num(never))
	if code, _, _ := x.ask(testcode.Some(31, 1), request.Rotate, x.root, ""); code != api.ErrShort {
		t.Errorf("too few drawn: %d", code)
	}
	x.leads(3)
	draws := testcode.Some(40, 8)
	before := len(x.records())
	code, fields, taken := x.ask(draws, request.Rotate, x.root, "")
	if code != 0 || taken != 32 || len(fields) != 0 {
		t.Fatalf("rotate: %d %d", code, taken)
	}
	l := x.records()
	if len(l) != before+3 {
		t.Fatalf("%d commits", len(l)-before)
	}
	turned, err := table.DecodeOps(l[before][1:])
	if err != nil || names(turned) != "core/ring core/mark" || !bytes.Equal(turned[1].Data, []byte{0, 0, 0, 2, 0, 0, 0, 0, 0, 0, 0, 0}) {
		t.Errorf("the turn: %v %v", turned, err)
	}
	equal(t, "the commit behind", names(x.last()), "a/000004 h core/clock")
	equal(t, "of the new term", x.last()[0].Data[:12], []byte{0, 0, 0, 2, 0, 0, 0, 0, 0, 0, 0, 0})
	st, _ := store.Open(x.d)
	_, ring, err := ceremony.Open(gf.New(), vaultOf(t, st, x.parts))
	if err != nil || len(ring.L) != 2 || ring.L[1].Key != [32]byte(draws[:32]) {
		t.Errorf("the ring: %v", err)
	}
	equal(t, "what was sealed ahead", x.does(request.Get, x.root, "kv/a", num(0))[1], "old")
	x.reopen(0, limit)
	x.open(2)
	x.leads(5)
	equal(t, "opened anew", x.does(request.Get, x.root, "kv/a", num(0))[1], "old")
	for range 14 {
		x.does(request.Rotate, x.root, "")
	}
	x.refuses(api.ErrQuota, request.Rotate, x.root, "")
	x.leads(21)
	// What is refused by the server is no use of the token that asks.
	x = newRig(t, 800).made(2, 3).granted(2)
	some2 := x.does(request.TokenCreate, x.root, "", "root", num(0), num(2))[0]
	for range 3 {
		x.refuses(api.ErrState, request.RekeyCancel, some2, "")
		x.refuses(api.ErrState, request.RekeyShare, some2, "", "", "")
		x.refuses(api.ErrArg, request.RekeyStart, some2, "", num(0), num(0))
	}
	x.leads(11)
	x.does(request.AuditHead, some2, "")
	x.does(request.Rotate, some2, "")
	x.refuses(api.ErrToken, request.AuditHead, some2, "")
	// The turn stays, also if the commit behind tells an error.
	x = newRig(t, 800).made(2, 3).granted(2)
	x.d.Arm(5)
	code, _, taken = x.ask(draws, request.Rotate, x.root, "")
	if code != api.ErrDown || taken != 0 || !x.s.Dead() {
		t.Fatalf("down behind the turn: %d %d", code, taken)
	}
	x.d.Crash(nil)
	x.reopen(0, limit)
	x.open(2)
	x.leads(1)
	if ring, _ := mustStore(t, x).Get("core/ring"); len(ring) != 95 {
		t.Errorf("the ring has %d bytes", len(ring))
	}
	x.does(request.TokenSelf, x.root, "")
}

func mustStore(t *testing.T, x *rig) *store.Store {
	t.Helper()
	st, err := store.Open(x.d)
	if err != nil {
		t.Fatal(err)
	}
	return st
}

// TestSV6Rekey makes parts anew.
func TestSV6Rekey(t *testing.T) {
	x := newRig(t, 800).made(2, 3).granted(2)
	old := x.parts
	x.refuses(api.ErrState, request.RekeyShare, x.root, "", "", "")
	x.refuses(api.ErrState, request.RekeyCancel, x.root, "")
	for _, c := range []struct {
		k, n string
		want api.Errno
	}{{"", num(2), api.ErrForm}, {num(1), "x", api.ErrForm}, {num(1), num(2), api.ErrArg}, {num(2), num(13), api.ErrArg}, {num(256), num(256), api.ErrArg}, {num(3), num(2), api.ErrArg}, {num(never), num(never), api.ErrArg}} {
		x.refuses(c.want, request.RekeyStart, x.root, "", c.k, c.n)
	}
	if code, _, _ := x.ask(testcode.Some(3, 1), request.RekeyStart, x.root, "", num(2), num(2)); code != api.ErrShort {
		t.Errorf("too few drawn: %d", code)
	}
	code, fields, taken := x.ask([]byte{1, 2, 0xa3, 4, 5}, request.RekeyStart, x.root, "", num(3), num(4))
	if code != 0 || taken != 4 || fields[0] != "0102a304" {
		t.Fatalf("rekey-start: %d %q %d", code, fields, taken)
	}
	if code, _, taken := x.ask([]byte{1, 2, 3, 4}, request.RekeyStart, x.root, "", num(12), num(12)); code != 0 || taken != 4 {
		t.Errorf("12 of 12: %d %d", code, taken)
	}
	code, fields, _ = x.ask([]byte{1, 2, 0xa3, 4, 5}, request.RekeyStart, x.root, "", num(3), num(4))
	if code != 0 {
		t.Fatalf("in the place of one that there was: %d", code)
	}
	mark := fields[0]
	x.refuses(api.ErrForm, request.RekeyShare, x.root, "", "other", "x")
	x.refuses(api.ErrState, request.RekeyShare, x.root, "", "other", old[0])
	equal(t, "one", x.does(request.RekeyShare, x.root, "", mark, old[0]), []string{num(1)})
	x.refuses(api.ErrShare, request.RekeyShare, x.root, "", mark, old[0])
	wrong := []byte(old[1])
	wrong[30] ^= 1
	x.refuses(api.ErrKey, request.RekeyShare, x.root, "", mark, string(wrong))
	equal(t, "one again", x.does(request.RekeyShare, x.root, "", mark, old[2]), []string{num(1)})
	if code, _, _ := x.ask(testcode.Some(95, 1), request.RekeyShare, x.root, "", mark, old[0]); code != api.ErrShort {
		t.Errorf("too few drawn: %d", code)
	}
	root := x.does(request.RootStart, "", "")[0]
	draws := testcode.Some(120, 9)
	ahead := vaultOf(t, mustStore(t, x), old)
	key, _, _ := ceremony.Open(gf.New(), ahead)
	want, err := ceremony.Rekey(gf.New(), ahead, key, 3, 4, draws)
	if err != nil {
		t.Fatal(err)
	}
	code, fields, taken = x.ask(draws, request.RekeyShare, x.root, "", mark, old[0])
	if code != 0 || taken != 96 || len(fields) != 4 {
		t.Fatalf("rekey-share: %d %d", code, taken)
	}
	equal(t, "the parts", shares(t, fields), want.Shares)
	c, _ := config.Encode(want.Config)
	ops := x.last()
	equal(t, "the commit", names(ops), names(ops)[:8]+" h core/clock core/config core/envelope")
	equal(t, "the config", plain(ops, "core/config"), c)
	equal(t, "the envelope", plain(ops, "core/envelope"), want.Envelope)
	equal(t, "status", x.does(request.Status, "", ""), []string{"\x01", "\x00", "\x03", "\x04", "\x00"})
	x.refuses(api.ErrState, request.RootShare, "", "", root, fields[0])
	x.refuses(api.ErrState, request.RekeyShare, x.root, "", mark, fields[0])
	x.parts = fields
	again := x.does(request.RekeyStart, x.root, "", num(2), num(2))[0]
	x.refuses(api.ErrGen, request.RekeyShare, x.root, "", again, old[0])
	x.does(request.RekeyCancel, x.root, "")
	x.refuses(api.ErrState, request.RekeyShare, x.root, "", again, fields[0])
	x.granted(3)
	for _, reopened := range []bool{false, true} {
		if reopened {
			x.reopen(0, limit)
		} else {
			x.does(request.Seal, x.root, "")
		}
		x.refuses(api.ErrGen, request.Unseal, "", "", old[0])
		x.open(3)
	}
}

// TestSV6NotCommitted: what is said of a progress holds as soon as the commit is done, and not ahead of it.
func TestSV6NotCommitted(t *testing.T) {
	x := newRig(t, 800)
	x.reopen(100, 20)
	x.made(2, 3).granted(2)
	mark := x.does(request.RekeyStart, x.root, "", num(2), num(2))[0]
	x.does(request.RekeyShare, x.root, "", mark, x.parts[0])
	for range 6 {
		x.does(request.TokenSelf, x.root, "")
	}
	// No nonce any more: nothing holds.
	x.refuses(api.ErrNonce, request.RekeyShare, x.root, "", mark, x.parts[1])
	x.refuses(api.ErrNonce, request.RekeyCancel, x.root, "")
	x.refuses(api.ErrNonce, request.Seal, x.root, "")
	x.refuses(api.ErrNonce, request.RekeyStart, x.root, "", num(2), num(2))
	wrong := []byte(x.parts[1])
	wrong[30] ^= 1
	x.refuses(api.ErrNonce, request.RekeyShare, x.root, "", mark, string(wrong))
	if x.s.Sealed() {
		t.Fatal("sealed without a commit")
	}
	// A new term has some; the progress is as it was.
	x.does(request.Rotate, x.root, "")
	fields := x.does(request.RekeyShare, x.root, "", mark, x.parts[1])
	equal(t, "the parts", len(fields), 2)
}

// crashing are requests that change all that there is, each by the tokens that are there by then.
func crashing(x *rig, i int) (int, string, string, []string) {
	switch i % 12 {
	case 0:
		return request.Put, x.root, "kv/a", []string{"v" + num(uint64(i))[7:], num(never)}
	case 1:
		return request.PolicyPut, x.root, "pol", []string{"kv/* = read # " + string(rune('a'+i%26))}
	case 2:
		return request.TokenCreate, x.root, "", []string{"pol", num(60), num(3)}
	case 3:
		return request.LeaseIssue, x.root, "kv/a", []string{num(9)}
	case 4:
		return request.Get, x.root, "kv/none", []string{num(0)}
	case 5:
		return request.Rotate, x.root, "", nil
	case 6:
		return request.Put, x.root, "kv/b", []string{"w", num(never)}
	case 7:
		return request.LeasePrefix, x.root, "kv/", nil
	case 8:
		return request.Delete, x.root, "kv/a", []string{num(0)}
	case 9:
		return request.PolicyDel, x.root, "pol", nil
	case 10:
		return request.TokenSelf, x.root, "", nil
	}
	return request.Destroy, x.root, "kv/b", []string{num(0)}
}

// TestSV7 goes down at each step of many requests, with some choices of what is kept: the state is that behind the last answer, or behind the request that was not answered.
func TestSV7(t *testing.T) {
	for step := 1; step < 90; step++ {
		x := newRig(t, 120).made(2, 3).granted(2)
		x.d.Arm(step)
		var before, after string
		logged := uint64(0)
		for i := range 40 {
			op, who, path, args := crashing(x, i)
			draws := testcode.Some(100, uint32(i+50))
			before = x.told()
			h, _ := x.s.Head()
			logged = h.N
			// What it would be, on a disk that stays up.
			like := &rig{t: t, d: x.d.Clone(), seed: 1, parts: x.parts, root: x.root}
			like.d.Crash(nil)
			like.reopen(x.s.Now(), limit)
			like.open(2)
			if like.told() != before {
				t.Fatalf("step %d, request %d: opened anew it is %s, not %s", step, i, like.told(), before)
			}
			like.ask(draws, op, who, path, args...)
			after = like.told()
			if code, _, _ := x.ask(draws, op, who, path, args...); code == api.ErrDown {
				break
			}
			if x.told() != after {
				t.Fatalf("step %d, request %d: %s, not %s", step, i, x.told(), after)
			}
		}
		if !x.s.Dead() {
			break
		}
		for choice := range 6 {
			y := &rig{t: t, d: x.d.Clone(), parts: x.parts, root: x.root}
			keep := make([]bool, y.d.Waits())
			for k := range keep {
				keep[k] = choice == 1 || choice > 1 && (k*7+choice)%choice == 0
			}
			y.d.Crash(keep)
			y.reopen(x.s.Now(), limit)
			if !y.s.Sealed() || !y.s.Ready() {
				t.Fatalf("step %d, choice %d: open", step, choice)
			}
			y.open(2)
			h, _ := y.s.Head()
			if got := y.told(); got != before && got != after || h.N != logged && h.N != logged+1 {
				t.Fatalf("step %d, choice %d: %s, not %s or %s; %d entries, not %d", step, choice, got, before, after, h.N, logged)
			}
			y.leads(int(h.N))
			y.does(request.TokenSelf, y.root, "")
		}
	}
}

// TestSV7Rekey goes down at each step of a rekey: just one generation of parts opens the vault.
func TestSV7Rekey(t *testing.T) {
	for step := 1; ; step++ {
		x := newRig(t, 200).made(2, 3).granted(2)
		mark := x.does(request.RekeyStart, x.root, "", num(2), num(4))[0]
		x.does(request.RekeyShare, x.root, "", mark, x.parts[0])
		x.d.Arm(step)
		draws := testcode.Some(64, 77)
		code, fields, _ := x.ask(draws, request.RekeyShare, x.root, "", mark, x.parts[1])
		if code == 0 {
			if step < 3 || len(fields) != 4 {
				t.Fatalf("step %d: %d parts", step, len(fields))
			}
			return
		}
		if code != api.ErrDown {
			t.Fatalf("step %d: %d", step, code)
		}
		ahead := vaultOf(t, mustStore(t, &rig{t: t, d: crashed(x, nil)}), x.parts)
		key, _, err := ceremony.Open(gf.New(), ahead)
		if err != nil {
			t.Fatal(err)
		}
		next, err := ceremony.Rekey(gf.New(), ahead, key, 2, 4, draws)
		if err != nil {
			t.Fatal(err)
		}
		for mask := range 1 << min(x.d.Waits(), 10) {
			keep := make([]bool, x.d.Waits())
			for k := range keep {
				keep[k] = mask>>min(k, 9)&1 == 1
			}
			y := &rig{t: t, d: crashed(x, keep)}
			opens := 0
			for _, parts := range [][]shamir.Share{ahead.Shares, next.Shares} {
				y.reopen(0, limit)
				for _, part := range parts[:2] {
					b, _ := sharecode.Encode(part)
					y.ask(nil, request.Unseal, "", "", string(b))
				}
				if !y.s.Sealed() {
					opens++
					y.leads(int(headN(t, y)))
				}
			}
			if opens != 1 {
				t.Fatalf("step %d, kept %b: %d generations open it", step, mask, opens)
			}
		}
	}
}

// crashed is the disk of a rig behind a crash.
func crashed(x *rig, keep []bool) *disk.Disk {
	d := x.d.Clone()
	d.Crash(keep)
	return d
}

func headN(t *testing.T, x *rig) uint64 {
	t.Helper()
	h, err := x.s.Head()
	if err != nil {
		t.Fatal(err)
	}
	return h.N
}
