package ceremony_test

import (
	"bytes"
	"math"
	"reflect"
	"testing"

	"bursary/api"
	"bursary/ceremony"
	"bursary/config"
	"bursary/envelope"
	"bursary/gf"
	"bursary/keyring"
	"bursary/shamir"
	"bursary/testcode"
)

// made is a vault of k of n.
func made(t *testing.T, k, n int, seed uint32) ceremony.Made {
	t.Helper()
	need, _ := ceremony.Need(k)
	m, err := ceremony.Init(gf.New(), k, n, testcode.Some(need, seed))
	if err != nil {
		t.Fatal(err)
	}
	return m
}

// isNone tells whether nothing was made.
func isNone(m ceremony.Made) bool { return reflect.DeepEqual(m, ceremony.Made{}) }

// TestCE1 makes vaults of drawn bytes.
func TestCE1(t *testing.T) {
	for k, want := range map[int][2]int{2: {128, 64}, 3: {160, 96}, 12: {448, 384}, 1: {}, 0: {}, -1: {}, 13: {}, math.MaxInt: {}, math.MinInt: {}} {
		if a, b := ceremony.Need(k); a != want[0] || b != want[1] {
			t.Errorf("Need(%d): %d %d", k, a, b)
		}
	}
	g, draws := gf.New(), testcode.Some(128, 1)
	m, err := ceremony.Init(g, 2, 3, draws)
	if err != nil {
		t.Fatal(err)
	}
	unseal, root, term := draws[:32], draws[32:64], draws[64:96]
	shares, _ := shamir.Split(g, unseal, shamir.Plan{K: 2, N: 3, Gen: 1}, draws[96:])
	box, _ := envelope.Seal(unseal, root, 1)
	ring, _ := envelope.SealRing(root, keyring.First([32]byte(term)))
	want := ceremony.Made{Config: config.Config{Plan: shamir.Plan{K: 2, N: 3, Gen: 1}}, Envelope: box, Ring: ring, Shares: shares}
	if !reflect.DeepEqual(m, want) {
		t.Errorf("Init: %v", m)
	}
	if more, err := ceremony.Init(g, 2, 3, append(bytes.Clone(draws), 1, 2, 3)); err != nil || !reflect.DeepEqual(more, want) {
		t.Errorf("more drawn: %v", err)
	}
	for _, c := range []struct {
		t    *gf.Table
		k, n int
		size int
		want api.Errno
	}{
		{g, 12, 12, 448, 0}, {g, 2, 12, 128, 0}, {g, 2, 13, 128, api.ErrArg}, {g, 1, 3, 128, api.ErrArg}, {g, 4, 3, 500, api.ErrArg}, {g, 0, 0, 0, api.ErrArg}, {g, 13, 13, 999, api.ErrArg},
		{g, 2, 2, 127, api.ErrShort}, {g, 3, 3, 159, api.ErrShort}, {g, 3, 3, 160, 0}, {g, 2, 2, 0, api.ErrShort}, {nil, 2, 2, 128, api.ErrArg}, {nil, 2, 2, 0, api.ErrArg},
	} {
		m, err := ceremony.Init(c.t, c.k, c.n, testcode.Some(c.size, 1))
		if testcode.Of(err) != c.want || isNone(m) != (err != nil) {
			t.Errorf("Init %d of %d with %d: %v", c.k, c.n, c.size, err)
		}
	}
}

// TestCE2 opens vaults, with parts that fit and others.
func TestCE2(t *testing.T) {
	g, m := gf.New(), made(t, 2, 3, 1)
	root, r, err := ceremony.Open(g, m)
	if err != nil || !bytes.Equal(root, testcode.Some(128, 1)[32:64]) || !reflect.DeepEqual(r, keyring.First([32]byte(testcode.Some(128, 1)[64:96]))) {
		t.Fatalf("Open: %x %v %v", root, r, err)
	}
	with := func(f func(*ceremony.Made)) ceremony.Made {
		x := made(t, 2, 3, 1)
		f(&x)
		return x
	}
	other := made(t, 2, 3, 2)
	for name, c := range map[string]struct {
		m    ceremony.Made
		want api.Errno
	}{
		"no config": {with(func(m *ceremony.Made) { m.Config = config.Config{} }), api.ErrArg}, "generation 0": {with(func(m *ceremony.Made) { m.Config.Plan.Gen = 0 }), api.ErrArg},
		"one part": {with(func(m *ceremony.Made) { m.Shares = m.Shares[:1] }), api.ErrShort}, "no parts": {with(func(m *ceremony.Made) { m.Shares = nil }), api.ErrShort},
		"another generation": {with(func(m *ceremony.Made) { m.Shares[1].Gen = 2 }), api.ErrGen}, "one twice": {with(func(m *ceremony.Made) { m.Shares[1] = m.Shares[0] }), api.ErrShare},
		"of another vault": {with(func(m *ceremony.Made) { m.Shares[1] = other.Shares[1] }), api.ErrKey}, "all of another vault": {with(func(m *ceremony.Made) { m.Shares = other.Shares }), api.ErrKey},
		"parts of 31 bytes": {with(func(m *ceremony.Made) {
			for i := range m.Shares {
				m.Shares[i].Data = m.Shares[i].Data[:31]
			}
		}), api.ErrKey},
		"another envelope": {with(func(m *ceremony.Made) { m.Envelope = other.Envelope }), api.ErrKey}, "no envelope": {with(func(m *ceremony.Made) { m.Envelope = nil }), api.ErrKey},
		"a later generation": {with(func(m *ceremony.Made) {
			m.Config.Plan.Gen = 2
			for i := range m.Shares {
				m.Shares[i].Gen = 2
			}
		}), api.ErrKey},
		"another ring": {with(func(m *ceremony.Made) { m.Ring = other.Ring }), api.ErrIntegrity}, "no ring": {with(func(m *ceremony.Made) { m.Ring = nil }), api.ErrIntegrity},
	} {
		root, r, err := ceremony.Open(g, c.m)
		if testcode.Of(err) != c.want || root != nil || r.L != nil {
			t.Errorf("%s: %x %v", name, root, err)
		}
	}
	if _, _, err := ceremony.Open(nil, m); testcode.Of(err) != api.ErrArg {
		t.Errorf("no table: %v", err)
	}
}

// TestCE3 makes parts anew, and terms.
func TestCE3(t *testing.T) {
	g, m := gf.New(), made(t, 2, 3, 1)
	root, ring, _ := ceremony.Open(g, m)
	draws := testcode.Some(96, 3)
	next, err := ceremony.Rekey(g, m, root, 3, 5, draws)
	if err != nil {
		t.Fatal(err)
	}
	plan := shamir.Plan{K: 3, N: 5, Gen: 2}
	box, _ := envelope.Seal(draws[:32], root, 2)
	shares, _ := shamir.Split(g, draws[:32], plan, draws[32:])
	if want := (ceremony.Made{Config: config.Config{Plan: plan}, Envelope: box, Ring: m.Ring, Shares: shares}); !reflect.DeepEqual(next, want) {
		t.Errorf("Rekey: %v", next)
	}
	last := m
	last.Config.Plan.Gen = math.MaxUint32
	for name, c := range map[string]struct {
		t    *gf.Table
		m    ceremony.Made
		root []byte
		k, n int
		size int
		want api.Errno
	}{
		"no table": {nil, m, root, 2, 2, 64, api.ErrArg}, "no config": {g, ceremony.Made{}, root, 2, 2, 64, api.ErrArg}, "a root key of 31": {g, m, root[:31], 2, 2, 64, api.ErrArg},
		"no plan": {g, m, root, 1, 2, 64, api.ErrArg}, "13 parts": {g, m, root, 2, 13, 64, api.ErrArg}, "too few drawn": {g, m, root, 2, 2, 63, api.ErrShort}, "more drawn": {g, m, root, 2, 2, 65, 0},
		"the last generation": {g, last, root, 2, 2, 64, api.ErrQuota}, "the last one, too few drawn": {g, last, root, 2, 2, 63, api.ErrShort}, "12 of 12": {g, m, root, 12, 12, 384, 0},
	} {
		x, err := ceremony.Rekey(c.t, c.m, c.root, c.k, c.n, testcode.Some(c.size, 1))
		if testcode.Of(err) != c.want || isNone(x) != (err != nil) {
			t.Errorf("Rekey, %s: %v", name, err)
		}
	}
	turned, two, err := ceremony.Rotate(m, root, ring, testcode.Some(40, 5))
	want, _ := keyring.Rotate(ring, [32]byte(testcode.Some(32, 5)))
	sealed, _ := envelope.SealRing(root, want)
	if err != nil || !reflect.DeepEqual(two, want) || !bytes.Equal(turned.Ring, sealed) || !reflect.DeepEqual(turned.Shares, m.Shares) || !bytes.Equal(turned.Envelope, m.Envelope) || turned.Config != m.Config {
		t.Errorf("Rotate: %v %v", turned, err)
	}
	full := ring
	for len(full.L) < 16 {
		full, _ = keyring.Rotate(full, [32]byte{})
	}
	for name, c := range map[string]struct {
		root []byte
		r    keyring.Ring
		size int
		want api.Errno
	}{
		"a root key of 33": {testcode.Some(33, 1), ring, 32, api.ErrArg}, "too few drawn": {root, ring, 31, api.ErrShort}, "no ring, too few drawn": {root, keyring.Ring{}, 31, api.ErrShort},
		"no ring": {root, keyring.Ring{}, 32, api.ErrArg}, "17 terms": {root, full, 32, api.ErrQuota}, "17 terms, too few drawn": {root, full, 31, api.ErrShort},
	} {
		x, r, err := ceremony.Rotate(m, c.root, c.r, testcode.Some(c.size, 1))
		if testcode.Of(err) != c.want || !isNone(x) || r.L != nil {
			t.Errorf("Rotate, %s: %v", name, err)
		}
	}
	if x, r, err := ceremony.Rotate(ceremony.Made{}, root, ring, testcode.Some(32, 1)); err != nil || len(r.L) != 2 || len(x.Ring) != 95 {
		t.Errorf("Rotate of a vault that is not looked at: %v", err)
	}
}

// TestCE4: K parts open a vault, fewer don't, and those ahead of a rekey are refused.
func TestCE4(t *testing.T) {
	g := gf.New()
	for k := 2; k <= 5; k++ {
		m := made(t, k, 5, uint32(k))
		all := m.Shares
		for mask := range 32 {
			m.Shares = nil
			for i := range all {
				if mask>>i&1 == 1 {
					m.Shares = append(m.Shares, all[len(all)-1-i])
				}
			}
			root, r, err := ceremony.Open(g, m)
			if enough := len(m.Shares) >= k; enough != (err == nil) {
				t.Fatalf("%d of %d parts: %v", len(m.Shares), k, err)
			} else if enough && (!bytes.Equal(root, testcode.Some(64, uint32(k))[32:]) || len(r.L) != 1) {
				t.Fatalf("%d of %d parts: %x %v", len(m.Shares), k, root, r)
			}
		}
		m.Shares = all
		root, r, _ := ceremony.Open(g, m)
		m, r, err := ceremony.Rotate(m, root, r, testcode.Some(32, 9))
		if err != nil {
			t.Fatal(err)
		}
		next, err := ceremony.Rekey(g, m, root, 2, 4, testcode.Some(64, 7))
		if err != nil {
			t.Fatal(err)
		}
		again, same, err := ceremony.Open(g, next)
		if err != nil || !bytes.Equal(again, root) || !reflect.DeepEqual(same, r) {
			t.Fatalf("behind a rekey: %v %v", same, err)
		}
		old := next
		old.Shares = all
		if _, _, err := ceremony.Open(g, old); testcode.Of(err) != api.ErrGen {
			t.Fatalf("parts ahead of the rekey: %v", err)
		}
		for i := range old.Shares {
			old.Shares[i].Gen = 2
		}
		if _, _, err := ceremony.Open(g, old); testcode.Of(err) != api.ErrKey {
			t.Fatalf("parts ahead of the rekey, told to be of it: %v", err)
		}
	}
}

// TestKept: no memory is shared.
func TestKept(t *testing.T) {
	g, m := gf.New(), made(t, 2, 3, 1)
	root, r, _ := ceremony.Open(g, m)
	next, _ := ceremony.Rekey(g, m, root, 2, 2, testcode.Some(64, 2))
	clear(next.Ring)
	turned, two, _ := ceremony.Rotate(m, root, r, testcode.Some(32, 3))
	clear(turned.Ring)
	clear(turned.Envelope)
	clear(turned.Shares[0].Data)
	two.L[0].N = 9
	if !reflect.DeepEqual(m, made(t, 2, 3, 1)) || r.L[0].N != 1 {
		t.Error("memory is shared")
	}
}
