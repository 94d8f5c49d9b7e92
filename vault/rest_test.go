package vault_test

import (
	"strconv"
	"strings"
	"testing"

	"bursary/api"
	"bursary/lease"
	"bursary/request"
	"bursary/testcode"
	"bursary/vault"
)

// TestVA4 puts, gets and takes away policies.
func TestVA4(t *testing.T) {
	s := house()
	text := " kv/b = read # a note\n"
	for _, x := range []step{
		{op: request.PolicyPut, who: "all", path: "root", args: []string{""}, code: api.ErrForm}, {op: request.PolicyPut, who: "all", path: "", args: []string{""}, code: api.ErrForm},
		{op: request.PolicyPut, who: "all", path: "a/b", args: []string{""}, code: api.ErrForm}, {op: request.PolicyPut, who: "read", path: "root", args: []string{""}, code: api.ErrForm},
		{op: request.PolicyPut, who: "read", path: "p", args: []string{"x"}, code: api.ErrDenied}, {op: request.PolicyPut, who: "all", path: "p", args: []string{"x"}, code: api.ErrForm},
		{op: request.PolicyPut, who: "all", path: "p", args: []string{"a = read\na = list"}, code: api.ErrTwice}, {op: request.PolicyPut, who: "all", path: "p", args: []string{strings.Repeat("#", 513)}, code: api.ErrLong},
		{op: request.PolicyGet, who: "all", path: "p", code: api.ErrNone}, {op: request.PolicyDel, who: "all", path: "p", code: api.ErrNone}, {op: request.PolicyGet, who: "all", path: "root", code: api.ErrForm},
		{op: request.PolicyGet, who: "all", path: "none", fields: []string{""}}, {op: request.PolicyGet, who: "read", path: "none", code: api.ErrDenied}, {op: request.PolicyDel, who: "write", path: "none", code: api.ErrDenied},
		{op: request.PolicyGet, who: "idle", path: "p", code: api.ErrDenied}, {op: request.PolicyDel, who: "all", path: "root", code: api.ErrForm},
	} {
		play(t, s, x)
	}
	s = play(t, s, step{op: request.PolicyPut, who: "boss", path: "p", args: []string{text}})
	play(t, s, step{op: request.PolicyGet, who: "boss", path: "p", fields: []string{text}})
	s = play(t, s, step{op: request.PolicyPut, who: "boss", path: "none", args: []string{"sys/policy/p = sudo"}})
	play(t, s, step{op: request.PolicyGet, who: "idle", path: "p", fields: []string{text}})
	play(t, s, step{op: request.PolicyGet, who: "idle", path: "none", code: api.ErrDenied})
	s = play(t, s, step{op: request.PolicyDel, who: "idle", path: "p"})
	play(t, s, step{op: request.PolicyGet, who: "boss", path: "p", code: api.ErrNone})
	for i := range 12 {
		s = play(t, s, step{op: request.PolicyPut, who: "all", path: "p" + strconv.Itoa(i), args: []string{""}})
	}
	play(t, s, step{op: request.PolicyPut, who: "all", path: "q", args: []string{""}, code: api.ErrQuota})
	play(t, s, step{op: request.PolicyPut, who: "all", path: "q", args: []string{"x"}, code: api.ErrForm})
	play(t, s, step{op: request.PolicyPut, who: "all", path: "none", args: []string{""}})
	// Who loses a policy loses what it allows.
	s = play(t, s, step{op: request.PolicyDel, who: "all", path: "reader"})
	play(t, s, step{op: request.Get, who: "read", path: "kv/a", args: []string{num(0)}, code: api.ErrDenied})
}

// TestVA5Create makes tokens.
func TestVA5Create(t *testing.T) {
	s := house()
	born := []string{digits(draws[:16]), "t" + digits(draws[16:22])}
	create := func(who, path, names, ttl, uses string) step {
		return step{op: request.TokenCreate, who: who, path: path, args: []string{names, ttl, uses}}
	}
	for _, c := range []struct {
		x    step
		code api.Errno
	}{
		{create("all", "x", "", num(0), num(0)), api.ErrForm}, {create("read", "x", "", "", ""), api.ErrForm}, {create("read", "", "", "", ""), api.ErrDenied},
		{create("all", "", "gone", "1", num(0)), api.ErrForm}, {create("all", "", "gone", num(0), "1"), api.ErrForm}, {create("all", "", "gone", num(0), num(65536)), api.ErrArg},
		{create("all", "", "gone", num(0), num(never)), api.ErrArg}, {create("all", "", "gone", num(never), num(0)), api.ErrNone}, {create("write", "", "root,gone", num(0), num(0)), api.ErrDenied},
		{create("write", "", "gone,root", num(0), num(0)), api.ErrNone}, {create("write", "", "boss", num(0), num(0)), api.ErrDenied}, {create("all", "", "reader,", num(0), num(0)), api.ErrNone},
		{create("all", "", ",", num(0), num(0)), api.ErrNone}, {create("all", "", "reader, writer", num(0), num(0)), api.ErrNone}, {create("all", "", "reader", num(never), num(0)), api.ErrOver},
		{create("all", "", "reader", num(never-100), num(0)), api.ErrOver}, {create("all", "", "reader,reader", num(5), num(0)), api.ErrArg},
	} {
		c.x.code = c.code
		play(t, s, c.x)
	}
	for _, c := range []struct {
		x    step
		line string
	}{
		{create("all", "", "", num(0), num(0)), " all  18446744073709551615 18446744073709551615 0"},
		{create("all", "", "root,boss,gone2,none", num(5), num(65535)), ""},
		{create("all", "", "root,boss,reader,none", num(5), num(65535)), " all root,boss,reader,none 105 105 65535"},
		{create("write", "", "reader", num(never-101), num(1)), " write reader 18446744073709551614 18446744073709551614 1"},
		{create("write", "", "writer,reader", num(7), num(1)), " write writer,reader 107 107 1"},
	} {
		if c.line == "" {
			c.x.code = api.ErrNone
			play(t, s, c.x)
			continue
		}
		c.x.fields, c.x.taken = born, 22
		has(t, play(t, s, c.x), "token "+born[1]+c.line, true)
	}
	// No longer than who asks at most.
	short := house()
	short.Tokens[4].Until, short.Tokens[4].Most = 120, 150
	for ttl, until := range map[uint64]string{0: "150", 30: "130", 50: "150", 60: "150"} {
		x := create("write", "", "", num(ttl), num(0))
		x.fields, x.taken = born, 22
		has(t, play(t, short, x), "token "+born[1]+" write  "+until+" "+until+" 0", true)
	}
	// Drawn bytes, and room.
	r := asked(request.TokenCreate, "all", "", "", num(0), num(0))
	for n, want := range map[int]api.Errno{21: api.ErrShort, 22: 0, 0: api.ErrShort} {
		if _, answer, taken := vault.Do(s, r, []byte(draws[:n])); answer.Code != int(want) || (taken == 22) != (want == 0) {
			t.Errorf("%d bytes drawn: %d, took %d", n, answer.Code, taken)
		}
	}
	if _, answer, _ := vault.Do(s, asked(request.TokenCreate, "all", "", "", num(never), num(0)), nil); answer.Code != int(api.ErrOver) {
		t.Errorf("over, and nothing drawn: %d", answer.Code)
	}
	next := play(t, s, step{op: request.TokenCreate, who: "all", args: []string{"", num(0), num(0)}, fields: born, taken: 22})
	play(t, next, step{op: request.TokenCreate, who: "all", args: []string{"", num(0), num(0)}, code: api.ErrTwice})
	for i := range 27 {
		s.Tokens = append(s.Tokens, tok("z"+strconv.Itoa(100+i), ""))
	}
	play(t, s, step{op: request.TokenCreate, who: "all", args: []string{"", num(0), num(0)}, code: api.ErrQuota})
}

// TestVA5Others renews, revokes, and tells of tokens.
func TestVA5Others(t *testing.T) {
	s := house()
	s.Tokens[3].Until, s.Tokens[3].Most = 120, 150 // read
	for _, x := range []step{
		{op: request.TokenRenew, who: "read", path: "x", args: []string{num(5)}, code: api.ErrForm}, {op: request.TokenRenew, who: "read", args: []string{""}, code: api.ErrForm},
		{op: request.TokenRenew, who: "read", args: []string{num(0)}, code: api.ErrArg}, {op: request.TokenRenew, who: "read", args: []string{num(never)}, code: api.ErrOver},
		{op: request.TokenRenew, who: "read", args: []string{num(5)}, fields: []string{num(105)}}, {op: request.TokenRenew, who: "read", args: []string{num(500)}, fields: []string{num(150)}},
		{op: request.TokenRevoke, who: "all", path: "x", args: []string{"read"}, code: api.ErrForm}, {op: request.TokenRevoke, who: "write", args: []string{"read"}, code: api.ErrDenied},
		{op: request.TokenRevoke, who: "all", args: []string{"nobody"}, code: api.ErrToken}, {op: request.TokenRevoke, who: "all", args: []string{""}, code: api.ErrToken},
		{op: request.TokenSelf, who: "write", path: "x", code: api.ErrForm}, {op: request.TokenSelf, who: "write", fields: []string{"write", num(never), num(0), "writer,reader"}},
		{op: request.TokenSelf, who: "read", fields: []string{"read", num(120), num(0), "reader"}},
	} {
		play(t, s, x)
	}
	renewed := play(t, s, step{op: request.TokenRenew, who: "read", args: []string{num(500)}, fields: []string{num(150)}})
	has(t, renewed, "token read boss reader 150 150 0", true)
	one := play(t, s, step{op: request.TokenRevoke, who: "all", args: []string{"read"}})
	if len(one.Tokens) != 4 || len(one.Leases) != 1 || one.Leases[0].ID != "l2" {
		t.Errorf("read revoked: %s", told(one))
	}
	own := play(t, s, step{op: request.TokenRevoke, who: "boss", args: []string{"boss"}})
	if len(own.Tokens) != 2 || len(own.Leases) != 0 {
		t.Errorf("boss revoked by itself: %s", told(own))
	}
	parent := play(t, s, step{op: request.TokenRevoke, who: "boss", args: []string{"all"}})
	if len(parent.Tokens) != 1 || parent.Tokens[0].Accessor != "idle" {
		t.Errorf("all revoked: %s", told(parent))
	}
}

// TestVA6Issue lends paths.
func TestVA6Issue(t *testing.T) {
	s := house()
	id := "l" + digits(draws[:6])
	issue := func(who, path, ttl string) step {
		return step{op: request.LeaseIssue, who: who, path: path, args: []string{ttl}}
	}
	for _, c := range []struct {
		x    step
		code api.Errno
	}{
		{issue("idle", "", ""), api.ErrForm}, {issue("all", "lent/*", num(0)), api.ErrForm}, {issue("idle", "lent/a", ""), api.ErrDenied}, {issue("read", "kv/a/deny", num(0)), api.ErrDenied},
		{issue("read", "lent/a", "x"), api.ErrForm}, {issue("read", "lent/a", num(never)), api.ErrOver},
	} {
		c.x.code = c.code
		play(t, s, c.x)
	}
	s.Tokens[3].Until, s.Tokens[3].Most = 120, 150
	for _, c := range []struct {
		who        string
		ttl, until uint64
		line       string
	}{
		{"read", 30, 130, " read lent/x 130 150"}, {"read", 0, 150, " read lent/x 150 150"}, {"read", 60, 150, " read lent/x 150 150"},
		{"boss", 0, never, " boss lent/x 18446744073709551615 18446744073709551615"}, {"boss", 5, 105, " boss lent/x 105 18446744073709551615"},
	} {
		x := issue(c.who, "lent/x", num(c.ttl))
		x.fields, x.taken = []string{id, num(c.until)}, 6
		has(t, play(t, s, x), "lease "+id+c.line, true)
	}
	for n, want := range map[int]api.Errno{5: api.ErrShort, 6: 0} {
		if _, answer, taken := vault.Do(s, asked(request.LeaseIssue, "all", "p", num(0)), []byte(draws[:n])); answer.Code != int(want) || taken != n && want == 0 || taken != 0 && want != 0 {
			t.Errorf("%d bytes drawn: %d, took %d", n, answer.Code, taken)
		}
	}
	if _, answer, _ := vault.Do(s, asked(request.LeaseIssue, "all", "p", num(never)), nil); answer.Code != int(api.ErrOver) {
		t.Errorf("over, and nothing drawn: %d", answer.Code)
	}
	next := play(t, s, step{op: request.LeaseIssue, who: "all", path: "p", args: []string{num(0)}, fields: []string{id, num(never)}, taken: 6})
	play(t, next, step{op: request.LeaseIssue, who: "all", path: "p", args: []string{num(0)}, code: api.ErrTwice})
	for i := range 30 {
		s.Leases = append(s.Leases, lease.Lease{ID: "z" + strconv.Itoa(100+i), Token: "all", Path: "p", Until: 500, Most: 500})
	}
	play(t, s, step{op: request.LeaseIssue, who: "all", path: "p", args: []string{num(0)}, code: api.ErrQuota})
}

// TestVA6Others renews and revokes leases.
func TestVA6Others(t *testing.T) {
	s := house()
	for _, x := range []step{
		{op: request.LeaseRenew, who: "read", path: "x", args: []string{"l1", num(5)}, code: api.ErrForm}, {op: request.LeaseRenew, who: "read", args: []string{"l9", num(5)}, code: api.ErrNone},
		{op: request.LeaseRenew, who: "read", args: []string{"l2", num(5)}, code: api.ErrDenied}, {op: request.LeaseRenew, who: "read", args: []string{"l1", "x"}, code: api.ErrForm},
		{op: request.LeaseRenew, who: "read", args: []string{"l1", num(0)}, code: api.ErrArg}, {op: request.LeaseRenew, who: "read", args: []string{"l1", num(never)}, code: api.ErrOver},
		{op: request.LeaseRenew, who: "read", args: []string{"l1", num(5)}, fields: []string{num(105)}}, {op: request.LeaseRenew, who: "boss", args: []string{"l1", num(500)}, fields: []string{num(300)}},
		{op: request.LeaseRevoke, who: "read", path: "x", args: []string{"l1"}, code: api.ErrForm}, {op: request.LeaseRevoke, who: "read", args: []string{"l9"}, code: api.ErrNone},
		{op: request.LeaseRevoke, who: "read", args: []string{"l2"}, code: api.ErrDenied}, {op: request.LeasePrefix, who: "read", path: "lent/", code: api.ErrDenied},
		{op: request.LeasePrefix, who: "all", path: "X not there", fields: []string{num(0)}},
	} {
		play(t, s, x)
	}
	over := house()
	over.Leases[0].Until = 100
	play(t, over, step{op: request.LeaseRenew, who: "read", args: []string{"l1", num(5)}, code: api.ErrGone})
	has(t, play(t, s, step{op: request.LeaseRenew, who: "all", args: []string{"l1", num(500)}, fields: []string{num(300)}}), "lease l1 read lent/a 300 300", true)
	has(t, play(t, s, step{op: request.LeaseRevoke, who: "read", args: []string{"l1"}}), "lease l1 read lent/a 200 300", false)
	has(t, play(t, s, step{op: request.LeaseRevoke, who: "boss", args: []string{"l1"}}), "lease l1 read lent/a 200 300", false)
	if next := play(t, s, step{op: request.LeasePrefix, who: "boss", path: "lent/", fields: []string{num(2)}}); len(next.Leases) != 0 {
		t.Errorf("all lent: %s", told(next))
	}
	if next := play(t, s, step{op: request.LeasePrefix, who: "all", path: "", fields: []string{num(2)}}); len(next.Leases) != 0 {
		t.Errorf("all: %s", told(next))
	}
	has(t, play(t, s, step{op: request.LeasePrefix, who: "all", path: "lent/b", fields: []string{num(1)}}), "lease l1 read lent/a 200 300", true)
}

// TestVA7 asks for what is the server's to do.
func TestVA7(t *testing.T) {
	s := house()
	s.Policies[1].Text = "sys/seal = sudo"
	for op, n := range map[int]int{request.Seal: 0, request.Rotate: 0, request.RekeyStart: 2, request.RekeyShare: 2, request.RekeyCancel: 0, request.AuditHead: 0} {
		args := make([]string, n)
		for _, x := range []step{{who: "all"}, {who: "idle"}, {who: "read", code: api.ErrDenied}, {who: "all", path: "x", code: api.ErrForm}, {who: "read", path: "x", code: api.ErrForm}} {
			x.op, x.args = op, args
			if next := play(t, s, x); told(next) != told(s) {
				t.Errorf("%s changes the state", request.Name(op))
			}
		}
	}
}

// TestVA8: whatever is asked, a state that may be stays one, and who may not changes nothing.
func TestVA8(t *testing.T) {
	seed := uint32(11)
	draw := func(n int) int {
		seed = seed*1664525 + 1013904223
		return int(seed>>16) % n
	}
	one := func(l ...string) string { return l[draw(len(l))] }
	s := house()
	who := []string{"all", "boss", "read", "write", "idle"}
	for range 4000 {
		op := draw(request.Ops)
		r := request.Request{Op: op, Token: []byte(who[draw(len(who))])}
		r.Path = one("", "kv/a", "kv/b", "kv/c/"+strconv.Itoa(draw(90)), "kv", "p"+strconv.Itoa(draw(20)), "reader", "lent/a")
		for range request.Args(op) {
			arg := one(num(uint64(draw(200))), num(never), num(0), "reader", "all", "read", "kv/* = read\n", "", "root,boss", "l1", strings.Repeat("x", draw(120)))
			if len(s.Leases) > 0 && draw(4) == 0 {
				arg = s.Leases[draw(len(s.Leases))].ID
			}
			r.Args = append(r.Args, []byte(arg))
		}
		if request.Open(op) && draw(2) == 0 {
			r.Token = nil
		}
		next, answer, taken := vault.Do(s, r, testcode.Some(draw(40), seed))
		if err := vault.Check(next); err != nil {
			t.Fatalf("behind %v the state may not be", r)
		}
		if answer.Code != 0 && (told(next) != told(s) || taken != 0 || answer.Fields != nil) {
			t.Fatalf("%v is answered %v, and changes something", r, answer)
		}
		if taken == 22 && answer.Code == 0 && len(who) < 20 {
			who = append(who, string(answer.Fields[0]))
		}
		s = next
		if draw(10) == 0 {
			s = vault.Tick(s, uint64(draw(20)))
		}
		for _, x := range s.Leases {
			for _, y := range s.Tokens {
				if x.Token == y.Accessor && x.Most > y.Most {
					t.Fatalf("lease %v ends later than its token %v", x, y)
				}
			}
		}
		if len(s.Tokens) < 3 {
			s, who = house(), who[:5]
		}
	}
}
