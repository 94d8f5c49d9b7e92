package progress_test

import (
	"bytes"
	"reflect"
	"strings"
	"testing"

	"bursary/api"
	"bursary/gf"
	"bursary/progress"
	"bursary/shamir"
	"bursary/testcode"
)

// plan is that of the tests.
var plan = shamir.Plan{K: 3, N: 5, Gen: 7}

func part(index byte, gen uint32, size int) shamir.Share {
	return shamir.Share{Index: index, Gen: gen, Data: testcode.Some(size, uint32(index))}
}

func of(l ...shamir.Share) progress.Progress {
	return progress.Progress{Plan: plan, Mark: "m", L: l}
}

// wrong are those that may not be.
func wrong() map[string]progress.Progress {
	long := of()
	long.Mark = strings.Repeat("m", 17)
	return map[string]progress.Progress{
		"no plan": {}, "a plan of 1": {Plan: shamir.Plan{K: 1, N: 5}}, "a long mark": long,
		"four parts": of(part(1, 7, 32), part(2, 7, 32), part(3, 7, 32), part(4, 7, 32)), "another Gen": of(part(1, 8, 32)),
		"place 0": of(part(0, 7, 32)), "place 6": of(part(6, 7, 32)), "alike": of(part(1, 7, 32), part(1, 7, 32)),
		"31 bytes": of(part(1, 7, 31)), "33 bytes": of(part(1, 7, 33)),
	}
}

// TestPG1 hands parts in, one by one.
func TestPG1(t *testing.T) {
	p, err := progress.Start(plan, "m")
	if err != nil || !reflect.DeepEqual(p, of()) {
		t.Fatalf("Start: %v %v", p, err)
	}
	if _, err := progress.Start(plan, strings.Repeat("m", 16)); err != nil {
		t.Errorf("a mark of 16: %v", err)
	}
	if p, err := progress.Start(plan, strings.Repeat("m", 17)); p.Mark != "" || testcode.Of(err) != api.ErrArg {
		t.Errorf("a mark of 17: %v", err)
	}
	if _, err := progress.Start(shamir.Plan{K: 6, N: 5}, ""); testcode.Of(err) != api.ErrArg {
		t.Errorf("no plan: %v", err)
	}
	g := gf.New()
	for i, index := range []byte{5, 1, 3} {
		if s, err := progress.Secret(g, p); s != nil || testcode.Of(err) != api.ErrShort {
			t.Errorf("of %d parts: %v", i, err)
		}
		next, enough, err := progress.Submit(p, "m", part(index, 7, 32))
		if err != nil || enough != (i == 2) || len(next.L) != i+1 || next.L[i].Index != index || len(p.L) != i {
			t.Fatalf("part %d: %v %v %v", i, next, enough, err)
		}
		p = next
	}
	want, _ := shamir.Combine(g, p.L, plan)
	if s, err := progress.Secret(g, p); err != nil || !bytes.Equal(s, want) {
		t.Errorf("Secret: %x %v", s, err)
	}
	if s, err := progress.Secret(nil, p); s != nil || testcode.Of(err) != api.ErrArg {
		t.Errorf("Secret without a table: %v", err)
	}
	if got := progress.Reset(p); !reflect.DeepEqual(got, of()) {
		t.Errorf("Reset: %v", got)
	}
}

// TestPG1Refused hands in what does not fit.
func TestPG1Refused(t *testing.T) {
	full := of(part(1, 7, 32), part(2, 7, 32), part(3, 7, 32))
	for name, c := range map[string]struct {
		p    progress.Progress
		mark string
		s    shamir.Share
		want api.Errno
	}{
		"another mark": {of(), "x", part(1, 8, 32), api.ErrState}, "no mark": {of(), "", part(1, 7, 32), api.ErrState},
		"enough are there": {full, "m", part(4, 8, 32), api.ErrState}, "another Gen": {of(), "m", part(0, 8, 32), api.ErrGen},
		"place 0": {of(), "m", part(0, 7, 32), api.ErrShare}, "place 6": {of(), "m", part(6, 7, 32), api.ErrShare},
		"it is there": {of(part(1, 7, 32)), "m", part(1, 7, 32), api.ErrShare}, "31 bytes": {of(), "m", part(1, 7, 31), api.ErrShare},
		"33 bytes": {of(), "m", part(1, 7, 33), api.ErrShare},
	} {
		if p, enough, err := progress.Submit(c.p, c.mark, c.s); !reflect.DeepEqual(p, progress.Progress{}) || enough || testcode.Of(err) != c.want {
			t.Errorf("%s: %v %v %v", name, p, enough, err)
		}
	}
	for name, p := range wrong() {
		_, _, err1 := progress.Submit(p, p.Mark, part(2, 7, 32))
		_, err2 := progress.Secret(gf.New(), p)
		for i, err := range []error{progress.Check(p), err1, err2} {
			if testcode.Of(err) != api.ErrArg {
				t.Errorf("%s, call %d: %v", name, i, err)
			}
		}
		if got := progress.Reset(p); got.L != nil || got.Mark != p.Mark || got.Plan != p.Plan {
			t.Errorf("Reset of %s: %v", name, got)
		}
	}
	if progress.Check(full) != nil || progress.Check(of()) != nil {
		t.Error("those that may be")
	}
}

// TestPG2: in whatever order parts come, they make the secret.
func TestPG2(t *testing.T) {
	g, secret := gf.New(), testcode.Some(32, 1)
	parts, err := shamir.Split(g, secret, plan, testcode.Some(64, 2))
	if err != nil {
		t.Fatal(err)
	}
	for i := range 125 {
		p, _ := progress.Start(plan, "")
		twice := false
		for _, at := range []int{i % 5, i / 5 % 5, i / 25} {
			next, _, err := progress.Submit(p, "", parts[at])
			if err != nil {
				twice = testcode.Of(err) == api.ErrShare
				break
			}
			p = next
		}
		if unlike := i%5 != i/5%5 && i%5 != i/25 && i/5%5 != i/25; unlike == twice {
			t.Fatalf("order %d: twice %v", i, twice)
		}
		if got, err := progress.Secret(g, p); !twice && (err != nil || !bytes.Equal(got, secret)) {
			t.Fatalf("order %d: %x %v", i, got, err)
		}
	}
}

// TestKept: no memory is shared.
func TestKept(t *testing.T) {
	one, two := part(1, 7, 32), part(2, 7, 32)
	p := of(one)
	q, _, _ := progress.Submit(p, "m", two)
	clear(q.L[0].Data)
	clear(q.L[1].Data)
	if !reflect.DeepEqual(one, part(1, 7, 32)) || !reflect.DeepEqual(two, part(2, 7, 32)) {
		t.Error("memory is shared")
	}
}
