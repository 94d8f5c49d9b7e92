package vault_test

import (
	"bytes"
	"reflect"
	"strconv"
	"strings"
	"testing"

	"bursary/api"
	"bursary/engine"
	"bursary/lease"
	"bursary/request"
	"bursary/testcode"
	"bursary/token"
	"bursary/vault"
	"bursary/wire"
)

const never = 1<<64 - 1

// salt is that of the tests.
var salt = string(bytes.Repeat([]byte{7}, 32))

// tok is a token whose secret is its accessor, that never ends.
func tok(accessor, parent string, policies ...string) token.Token {
	return token.Token{Sum: token.Sum([]byte(salt), []byte(accessor)), Accessor: accessor, Parent: parent, Policies: policies, Until: never, Most: never}
}

// secret has versions of texts.
func secret(path string, texts ...string) vault.Stored {
	s, _ := engine.New(8)
	for i, text := range texts {
		s, _ = engine.Put(s, []byte(text), -1, uint64(i))
	}
	return vault.Stored{Path: path, S: s}
}

// house is the state of the tests.
func house() vault.State {
	return vault.State{
		Salt: []byte(salt), Now: 100,
		Policies: []vault.Named{{"boss", "* = read write delete list sudo\n"}, {"none", ""}, {"reader", "kv/* = read list\nkv/a/deny = deny\nlent/* = read\n"}, {"writer", "kv/* = write delete\nsys/token = write"}},
		Tokens:   []token.Token{tok("all", "", "root"), tok("boss", "all", "boss"), tok("idle", "", "none", "gone"), tok("read", "boss", "reader"), tok("write", "boss", "writer", "reader")},
		Leases:   []lease.Lease{{ID: "l1", Token: "read", Path: "lent/a", Until: 200, Most: 300}, {ID: "l2", Token: "boss", Path: "lent/b", Until: 150, Most: never}},
		Secrets:  []vault.Stored{secret("kv/a", "one", "two"), secret("kv/a/deny", "x"), secret("kv/b", "three")},
	}
}

// with is the state of the tests that something is done to.
func with(f func(*vault.State)) vault.State {
	s := house()
	f(&s)
	return s
}

// num is a number as an arg.
func num(n uint64) string { return string(wire.Number(n)) }

// asked is a request by a token.
func asked(op int, who, path string, args ...string) request.Request {
	r := request.Request{Op: op, Token: []byte(who), Path: path}
	for _, a := range args {
		r.Args = append(r.Args, []byte(a))
	}
	return r
}

// step is a request, and what is answered.
type step struct {
	op     int
	who    string
	path   string
	args   []string
	code   api.Errno
	fields []string
	taken  int
}

// draws are those of the tests.
var draws = string(testcode.Some(30, 9))

// digits are bytes' hexadecimal ones.
func digits(b string) string { return testcode.Digits([]byte(b)) }

// play asks a state, and looks at the answer: the state behind it.
func play(t *testing.T, s vault.State, x step) vault.State {
	t.Helper()
	before := vault.Copy(s)
	r := asked(x.op, x.who, x.path, x.args...)
	next, answer, taken := vault.Do(s, r, []byte(draws))
	var got []string
	for _, f := range answer.Fields {
		got = append(got, string(f))
	}
	if answer.Code != int(x.code) || !reflect.DeepEqual(got, x.fields) && len(got)+len(x.fields) > 0 || taken != x.taken {
		t.Errorf("%s of %q by %q with %q: %d %q, took %d", request.Name(x.op), x.path, x.who, x.args, answer.Code, got, taken)
	}
	if !reflect.DeepEqual(s, before) {
		t.Errorf("%s of %q: the state that was handed in is changed", request.Name(x.op), x.path)
	}
	if x.code != 0 && told(next) != told(s) {
		t.Errorf("%s of %q: refused, and changed: %s", request.Name(x.op), x.path, told(next))
	}
	if vault.Check(s) == nil && vault.Check(next) != nil {
		t.Errorf("%s of %q: the state may not be", request.Name(x.op), x.path)
	}
	return next
}

// told is a state as a text.
func told(s vault.State) string {
	var l []string
	for _, p := range s.Policies {
		l = append(l, "policy "+p.Name+" "+p.Text)
	}
	for _, t := range s.Tokens {
		l = append(l, "token "+t.Accessor+" "+t.Parent+" "+strings.Join(t.Policies, ",")+" "+strconv.FormatUint(t.Until, 10)+" "+strconv.FormatUint(t.Most, 10)+" "+strconv.Itoa(t.Uses))
	}
	for _, x := range s.Leases {
		l = append(l, "lease "+x.ID+" "+x.Token+" "+x.Path+" "+strconv.FormatUint(x.Until, 10)+" "+strconv.FormatUint(x.Most, 10))
	}
	for _, x := range s.Secrets {
		line := "secret " + x.Path + " " + strconv.Itoa(int(x.S.Last))
		for _, v := range x.S.L {
			line += " " + strconv.Itoa(v.State) + string(v.Data)
		}
		l = append(l, line)
	}
	return strconv.FormatUint(s.Now, 10) + "\n" + strings.Join(l, "\n")
}

// has fails unless a state as a text has a line, or has not.
func has(t *testing.T, s vault.State, line string, want bool) {
	t.Helper()
	if strings.Contains(told(s)+"\n", "\n"+line+"\n") != want {
		t.Errorf("%q is there: %v: %s", line, !want, told(s))
	}
}

// wrong are states that may not be.
func wrong() map[string]vault.State {
	var policies []vault.Named
	for i := range 17 {
		policies = append(policies, vault.Named{Name: "p" + strconv.Itoa(100+i)})
	}
	var secrets []vault.Stored
	for i := range 65 {
		secrets = append(secrets, secret("kv/s"+strconv.Itoa(100+i)))
	}
	return map[string]vault.State{
		"nothing": {}, "a salt of 31": with(func(s *vault.State) { s.Salt = s.Salt[:31] }), "a salt of 33": with(func(s *vault.State) { s.Salt = append(s.Salt, 0) }),
		"17 policies": with(func(s *vault.State) { s.Policies = policies }), "65 secrets": with(func(s *vault.State) { s.Secrets = secrets }),
		"policies descend": with(func(s *vault.State) { s.Policies[0], s.Policies[1] = s.Policies[1], s.Policies[0] }), "a policy twice": with(func(s *vault.State) { s.Policies[1] = s.Policies[0] }),
		"no policy's name": with(func(s *vault.State) { s.Policies[0].Name = "a/b" }), "the policy root": with(func(s *vault.State) { s.Policies[2].Name = "root" }), "no rules": with(func(s *vault.State) { s.Policies[0].Text = "a = b" }),
		"tokens descend": with(func(s *vault.State) { s.Tokens[0], s.Tokens[1] = s.Tokens[1], s.Tokens[0] }), "a token that may not be": with(func(s *vault.State) { s.Tokens[0].Uses = -1 }),
		"a lease that may not be": with(func(s *vault.State) { s.Leases[0].Until = 301 }), "a secret elsewhere": with(func(s *vault.State) { s.Secrets[0].Path = "a/kv" }),
		"secrets descend": with(func(s *vault.State) { s.Secrets[0], s.Secrets[1] = s.Secrets[1], s.Secrets[0] }), "a secret at kv": with(func(s *vault.State) { s.Secrets[0].Path = "kv" }),
		"no path": with(func(s *vault.State) { s.Secrets[0].Path = "kv//" }), "a secret that may not be": with(func(s *vault.State) { s.Secrets[0].S.Max = 0 }),
	}
}

// TestVA1Checked tells which states may be, who asks, and what they may.
func TestVA1Checked(t *testing.T) {
	if err := vault.Check(house()); err != nil {
		t.Fatal(err)
	}
	for name, s := range wrong() {
		_, err1 := vault.Who(s, []byte("all"))
		_, _, _, err2 := vault.Grant(s, []byte(draws))
		for i, err := range []error{vault.Check(s), err1, err2} {
			if testcode.Of(err) != api.ErrArg {
				t.Errorf("%s, call %d: %v", name, i, err)
			}
		}
		if vault.May(s, tok("all", "", "root"), "kv/a", 1) {
			t.Errorf("%s: something may be done", name)
		}
		if next := vault.Tick(s, 50); told(next) != told(s) {
			t.Errorf("%s: time goes on", name)
		}
		play(t, s, step{op: request.Get, who: "all", path: "kv/a", args: []string{num(0)}, code: api.ErrArg})
	}
	s := house()
	s.Tokens[3].Until = 100
	for id, want := range map[string]api.Errno{"all": 0, "idle": 0, "read": api.ErrToken, "": api.ErrToken, "nobody": api.ErrToken} {
		x, err := vault.Who(s, []byte(id))
		if testcode.Of(err) != want || err == nil && x.Accessor != id || err != nil && x.Accessor != "" {
			t.Errorf("Who(%q): %v %v", id, x, err)
		}
	}
	empty := house()
	empty.Tokens[0].Sum = token.Sum([]byte(salt), nil)
	if _, err := vault.Who(empty, nil); testcode.Of(err) != api.ErrToken {
		t.Errorf("an empty one asks: %v", err)
	}
	for _, c := range []struct {
		policies string
		p        string
		c        uint8
		want     bool
	}{
		{"root", "x/y", 16, true}, {"root", "x/y", 32, false}, {"root", "X", 1, false}, {"reader", "kv/a", 1, true}, {"reader", "kv/a", 2, false}, {"reader", "kv/a/deny", 1, false},
		{"reader root", "kv/a/deny", 1, false}, {"writer reader", "kv/a", 2, true}, {"writer reader", "kv/a", 1, true}, {"gone", "kv/a", 1, false}, {"none", "kv/a", 1, false},
		{"gone reader", "kv/a", 1, true}, {"", "kv/a", 1, false},
	} {
		if got := vault.May(house(), token.Token{Policies: strings.Fields(c.policies)}, c.p, c.c); got != c.want {
			t.Errorf("%s may %d of %s: %v", c.policies, c.c, c.p, got)
		}
	}
}

// TestVA1Granted makes a token that nobody asked for.
func TestVA1Granted(t *testing.T) {
	s, id, accessor, err := vault.Grant(house(), []byte(draws[:22]))
	if err != nil || id != digits(draws[:16]) || accessor != "t"+digits(draws[16:22]) {
		t.Fatalf("Grant: %q %q %v", id, accessor, err)
	}
	has(t, s, "token "+accessor+"  root 18446744073709551615 18446744073709551615 0", true)
	if x, err := vault.Who(s, []byte(id)); err != nil || x.Accessor != accessor || x.Sum != token.Sum([]byte(salt), []byte(id)) {
		t.Errorf("Who: %v %v", x, err)
	}
	for n, want := range map[int]api.Errno{0: api.ErrShort, 21: api.ErrShort, 30: 0} {
		s, id, accessor, err := vault.Grant(house(), []byte(draws[:n]))
		if testcode.Of(err) != want || err != nil && (id != "" || accessor != "" || s.Salt != nil) {
			t.Errorf("%d bytes drawn: %q %q %v", n, id, accessor, err)
		}
	}
	if _, _, _, err := vault.Grant(s, []byte(draws)); testcode.Of(err) != api.ErrTwice {
		t.Errorf("granted twice: %v", err)
	}
	full := house()
	full.Tokens = nil
	for i := range 32 {
		full.Tokens = append(full.Tokens, tok("t"+strconv.Itoa(100+i), ""))
	}
	if _, _, _, err := vault.Grant(full, []byte(draws)); testcode.Of(err) != api.ErrQuota {
		t.Errorf("33 tokens: %v", err)
	}
}

// TestVA1Tick lets time go on: what is over goes.
func TestVA1Tick(t *testing.T) {
	s := house()
	s.Tokens[1].Until = 120 // boss, of whom read and write came
	for i := range 6 {
		s.Leases = append(s.Leases, lease.Lease{ID: "l3" + strconv.Itoa(i), Token: "idle", Path: "p", Until: 110, Most: 110})
	}
	if next := vault.Tick(s, 9); told(next) != strings.Replace(told(s), "100\n", "109\n", 1) {
		t.Errorf("nothing is over: %s", told(next))
	}
	next := vault.Tick(s, 15)
	if len(next.Leases) != 4 || len(next.Tokens) != 5 {
		t.Errorf("four leases at most: %s", told(next))
	}
	has(t, next, "lease l34 idle p 110 110", true)
	has(t, next, "lease l33 idle p 110 110", false)
	next = vault.Tick(next, 5)
	has(t, next, "token all  root 18446744073709551615 18446744073709551615 0", true)
	if len(next.Tokens) != 2 || len(next.Leases) != 0 || next.Now != 120 {
		t.Errorf("a token over, and what came of it: %s", told(next))
	}
	if next := vault.Tick(next, never); next.Now != never {
		t.Errorf("time goes over: %d", next.Now)
	}
	if next := vault.Tick(s, 100); len(next.Leases) != 2 {
		// The leases of tokens that went do not count among the four.
		t.Errorf("at once: %s", told(next))
	}
}

// TestVA1Copy: a copy is its own memory, whatever the state.
func TestVA1Copy(t *testing.T) {
	spoil := func(s vault.State) {
		clear(s.Salt)
		for i := range s.Policies {
			s.Policies[i].Text = "spoilt"
		}
		for i := range s.Tokens {
			for j := range s.Tokens[i].Policies {
				s.Tokens[i].Policies[j] = "spoilt"
			}
			s.Tokens[i].Uses = 9
		}
		for i := range s.Leases {
			s.Leases[i].Path = "spoilt"
		}
		for i := range s.Secrets {
			for j := range s.Secrets[i].S.L {
				clear(s.Secrets[i].S.L[j].Data)
				s.Secrets[i].S.L[j].At = 77
			}
			s.Secrets[i].Path = "spoilt"
		}
	}
	s := house()
	if !reflect.DeepEqual(vault.Copy(s), s) || !reflect.DeepEqual(vault.Copy(vault.State{Now: 5}), vault.State{Now: 5}) {
		t.Error("a copy is another one")
	}
	spoil(vault.Copy(s))
	spoil(vault.Tick(s, 1))
	granted, _, _, _ := vault.Grant(s, []byte(draws))
	spoil(granted)
	for _, r := range []request.Request{asked(request.Get, "all", "kv/a", num(0)), asked(request.Put, "all", "kv/a", "x", num(never)), asked(request.Get, "nobody", "kv/a", num(0)), {}} {
		next, answer, _ := vault.Do(s, r, nil)
		spoil(next)
		for _, f := range answer.Fields {
			clear(f)
		}
	}
	if !reflect.DeepEqual(s, house()) {
		t.Error("memory is shared")
	}
}

// TestVA2 asks as nobody, as somebody who is over, and as often as one may.
func TestVA2(t *testing.T) {
	s := house()
	play(t, s, step{op: request.Get, who: "nobody", path: "kv/a", args: []string{num(0)}, code: api.ErrToken})
	play(t, s, step{op: request.Get, who: "", path: "kv/a", args: []string{num(0)}, code: api.ErrToken})
	play(t, s, step{op: 0, who: "all", code: api.ErrForm})
	play(t, s, step{op: request.Ops, who: "all", code: api.ErrForm})
	play(t, s, step{op: request.Get, who: "all", path: "kv/a", code: api.ErrForm})
	play(t, s, step{op: request.Get, who: strings.Repeat("x", 33), path: "kv/a", args: []string{num(0)}, code: api.ErrForm})
	play(t, s, step{op: request.Put, who: "all", path: "kv/a", args: []string{strings.Repeat("x", 1100), num(0)}, code: api.ErrForm})
	for _, op := range []int{request.Status, request.RootStart, request.RootCancel} {
		play(t, s, step{op: op, who: "", code: api.ErrForm})
		play(t, s, step{op: op, who: "all", code: api.ErrForm})
	}
	s.Tokens[3].Until = 100
	play(t, s, step{op: request.Get, who: "read", path: "kv/a", args: []string{num(0)}, code: api.ErrToken})
	s = house()
	s.Tokens[1].Uses = 2 // boss, of whom read and write came; l2 is lent to it, l1 to read
	play(t, s, step{op: request.Get, who: "boss", path: "kv/c", args: []string{num(0)}, code: api.ErrNone})
	s = play(t, s, step{op: request.Get, who: "boss", path: "kv/b", args: []string{num(0)}, fields: []string{num(1), "three", num(0)}})
	has(t, s, "token boss all boss 18446744073709551615 18446744073709551615 1", true)
	s = play(t, s, step{op: request.Get, who: "boss", path: "kv/b", args: []string{num(0)}, fields: []string{num(1), "three", num(0)}})
	if len(s.Tokens) != 2 || len(s.Leases) != 0 {
		t.Errorf("used up: %s", told(s))
	}
	play(t, s, step{op: request.Get, who: "boss", path: "kv/b", args: []string{num(0)}, code: api.ErrToken})
	// A lease of a token that is not there stays, when another one is used up.
	s = house()
	s.Leases[0].Token, s.Tokens[1].Uses = "other", 1
	s = play(t, s, step{op: request.TokenSelf, who: "boss", fields: []string{"boss", num(never), num(1), "boss"}})
	has(t, s, "lease l1 other lent/a 200 300", true)
	has(t, s, "lease l2 boss lent/b 150 18446744073709551615", false)
	// What is made by the last use comes of it, and goes at once.
	s = house()
	s.Tokens[1].Uses = 1
	s = play(t, s, step{op: request.TokenCreate, who: "boss", args: []string{"", num(0), num(0)}, fields: []string{digits(draws[:16]), "t" + digits(draws[16:22])}, taken: 22})
	if len(s.Tokens) != 2 {
		t.Errorf("made by the last use: %s", told(s))
	}
}

// TestVA3Put writes versions.
func TestVA3Put(t *testing.T) {
	s := house()
	for _, x := range []step{
		{path: "kv/a", args: []string{"x", num(never)}, fields: []string{num(3)}}, {path: "kv/a", args: []string{"x", num(2)}, fields: []string{num(3)}},
		{path: "kv/new/one", args: []string{"", num(0)}, fields: []string{num(1)}}, {path: "kv/a", args: []string{strings.Repeat("x", 100), num(2)}, fields: []string{num(3)}},
		{path: "kv/a", args: []string{"x", num(1)}, code: api.ErrVersion}, {path: "kv/new", args: []string{"x", num(1)}, code: api.ErrVersion}, {path: "kv/a", args: []string{"x", num(1 << 32)}, code: api.ErrVersion},
		{path: "kv/a", args: []string{"x", num(never - 1)}, code: api.ErrVersion}, {path: "kv/a", args: []string{"x", ""}, code: api.ErrForm}, {path: "kv/a", args: []string{"x", num(0) + "x"}, code: api.ErrForm},
		{path: "kv/a", args: []string{strings.Repeat("x", 101), num(2)}, code: api.ErrArg}, {path: "kv/a", args: []string{strings.Repeat("x", 101), num(1)}, code: api.ErrArg},
		{path: "kv", args: []string{"x", num(never)}, code: api.ErrForm}, {path: "kv/", args: []string{"x", num(never)}, code: api.ErrForm}, {path: "a/b", args: []string{"x", num(never)}, code: api.ErrForm},
		{path: "", args: []string{"x", num(never)}, code: api.ErrForm}, {path: "kv/A", args: []string{"x", num(never)}, code: api.ErrForm}, {path: "kvx/a", args: []string{"x", num(never)}, code: api.ErrForm},
	} {
		x.op, x.who = request.Put, "all"
		play(t, s, x)
	}
	play(t, s, step{op: request.Put, who: "read", path: "kv/a", args: []string{"x", ""}, code: api.ErrDenied})
	play(t, s, step{op: request.Put, who: "read", path: "kv/", args: []string{"x", ""}, code: api.ErrForm})
	play(t, s, step{op: request.Put, who: "write", path: "kv/a/deny", args: []string{"x", num(never)}, code: api.ErrDenied})
	next := play(t, s, step{op: request.Put, who: "write", path: "kv/a0", args: []string{"x", num(never)}, fields: []string{num(1)}})
	has(t, next, "secret kv/a0 1 0x", true)
	if next.Secrets[2].S.Max != 8 || next.Secrets[2].S.L[0].At != 100 || next.Secrets[2].Path != "kv/a0" {
		t.Errorf("a new one: %v", next.Secrets[2])
	}
	for i := range 61 {
		s = play(t, s, step{op: request.Put, who: "all", path: "kv/s" + strconv.Itoa(100+i), args: []string{"", num(never)}, fields: []string{num(1)}})
	}
	play(t, s, step{op: request.Put, who: "all", path: "kv/z", args: []string{strings.Repeat("x", 101), num(5)}, code: api.ErrQuota})
	play(t, s, step{op: request.Put, who: "all", path: "kv/z", args: []string{"x", num(1 << 33)}, code: api.ErrVersion})
	play(t, s, step{op: request.Put, who: "all", path: "kv/a", args: []string{"x", num(never)}, fields: []string{num(3)}})
	s.Secrets[0].S.Last, s.Secrets[0].S.L = 1<<32-1, []engine.Version{{N: 1<<32 - 1}}
	play(t, s, step{op: request.Put, who: "all", path: "kv/a", args: []string{"x", num(never)}, code: api.ErrOver})
	play(t, s, step{op: request.Put, who: "all", path: "kv/a", args: []string{"x", num(1<<32 - 1)}, code: api.ErrOver})
	play(t, s, step{op: request.Get, who: "all", path: "kv/a", args: []string{num(1<<32 - 1)}, fields: []string{num(1<<32 - 1), "", num(0)}})
}

// TestVA3Turned gets, deletes, undeletes, destroys and lists.
func TestVA3Turned(t *testing.T) {
	s := house()
	for _, x := range []step{
		{op: request.Get, who: "read", path: "kv/a", args: []string{num(0)}, fields: []string{num(2), "two", num(1)}}, {op: request.Get, who: "read", path: "kv/a", args: []string{num(1)}, fields: []string{num(1), "one", num(0)}},
		{op: request.Get, who: "read", path: "kv/a", args: []string{num(3)}, code: api.ErrNone}, {op: request.Get, who: "read", path: "kv/a", args: []string{num(1 << 32)}, code: api.ErrNone},
		{op: request.Get, who: "read", path: "kv/a", args: []string{num(1<<32 + 1)}, code: api.ErrNone}, {op: request.Get, who: "read", path: "kv/none", args: []string{num(0)}, code: api.ErrNone},
		{op: request.Get, who: "read", path: "kv/a", args: []string{"1"}, code: api.ErrForm}, {op: request.Get, who: "read", path: "kv/a/deny", args: []string{"1"}, code: api.ErrDenied},
		{op: request.Get, who: "idle", path: "kv/a", args: []string{num(0)}, code: api.ErrDenied}, {op: request.Get, who: "idle", path: "kv", args: []string{num(0)}, code: api.ErrForm},
		{op: request.Get, who: "all", path: "lent/a", args: []string{num(0)}, code: api.ErrForm},
		{op: request.Delete, who: "read", path: "kv/a", args: []string{num(0)}, code: api.ErrDenied}, {op: request.Destroy, who: "write", path: "kv", args: []string{num(0)}, code: api.ErrForm},
		{op: request.Undelete, who: "write", path: "kv/b", args: []string{num(2)}, code: api.ErrNone}, {op: request.Destroy, who: "write", path: "kv/b", args: []string{""}, code: api.ErrForm},
		{op: request.List, who: "read", path: "kv", code: api.ErrDenied}, {op: request.List, who: "all", path: "kv", fields: []string{"kv/a", "kv/a/deny", "kv/b"}},
		{op: request.List, who: "read", path: "kv/a", fields: []string{"kv/a/deny"}}, {op: request.List, who: "read", path: "kv/b", fields: nil}, {op: request.List, who: "all", path: "", code: api.ErrForm},
		{op: request.List, who: "all", path: "lent", code: api.ErrForm}, {op: request.List, who: "all", path: "kv/", code: api.ErrForm}, {op: request.List, who: "write", path: "kv/x", fields: nil},
	} {
		play(t, s, x)
	}
	s = play(t, s, step{op: request.Delete, who: "write", path: "kv/a", args: []string{num(0)}})
	has(t, s, "secret kv/a 2 0one 1two", true)
	play(t, s, step{op: request.Get, who: "read", path: "kv/a", args: []string{num(0)}, code: api.ErrGone})
	s = play(t, s, step{op: request.Undelete, who: "write", path: "kv/a", args: []string{num(2)}})
	has(t, s, "secret kv/a 2 0one 0two", true)
	s = play(t, s, step{op: request.Destroy, who: "write", path: "kv/a", args: []string{num(1)}})
	has(t, s, "secret kv/a 2 2 0two", true)
	play(t, s, step{op: request.Undelete, who: "write", path: "kv/a", args: []string{num(1)}, code: api.ErrGone})
	play(t, s, step{op: request.Delete, who: "write", path: "kv/a", args: []string{num(1)}, code: api.ErrGone})
	for i := range 20 {
		s.Secrets = append(s.Secrets, secret("kv/c/s"+strconv.Itoa(100+i), "x"))
	}
	_, answer, _ := vault.Do(s, asked(request.List, "all", "kv"), nil)
	if len(answer.Fields) != 15 || string(answer.Fields[14]) != "kv/c/s111" {
		t.Errorf("fifteen at most: %q", answer.Fields)
	}
}
