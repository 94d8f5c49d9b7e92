package shamir_test

import (
	"bytes"
	"math"
	"reflect"
	"testing"

	"bursary/api"
	"bursary/gf"
	"bursary/shamir"
	"bursary/testcode"
)

// TestSH1 holds plans, draws and parts against the chapter.
func TestSH1(t *testing.T) {
	for _, c := range []struct {
		p    shamir.Plan
		want api.Errno
	}{
		{shamir.Plan{K: 2, N: 2}, 0}, {shamir.Plan{K: 2, N: 255}, 0}, {shamir.Plan{K: 255, N: 255, Gen: 7}, 0},
		{shamir.Plan{K: 1, N: 2}, api.ErrArg}, {shamir.Plan{K: 3, N: 2}, api.ErrArg}, {shamir.Plan{K: 2, N: 256}, api.ErrArg},
		{shamir.Plan{}, api.ErrArg}, {shamir.Plan{K: -2, N: 3}, api.ErrArg}, {shamir.Plan{K: math.MaxInt, N: math.MaxInt}, api.ErrArg},
	} {
		if got := testcode.Of(shamir.Check(c.p)); got != c.want {
			t.Errorf("Check(%v): %d", c.p, got)
		}
	}
	p := shamir.Plan{K: 3, N: 5, Gen: 9}
	for size, want := range map[int]int{0: 0, 1: 2, 64: 128, 65: 0, -1: 0} {
		if got := shamir.Draws(p, size); got != want {
			t.Errorf("Draws(%d): %d", size, got)
		}
	}
	if shamir.Draws(shamir.Plan{K: 1, N: 5}, 4) != 0 {
		t.Error("Draws of no plan")
	}
	g := gf.New()
	l, err := shamir.Split(g, []byte{5}, shamir.Plan{K: 2, N: 3, Gen: 4}, []byte{3})
	want := []shamir.Share{{1, 4, []byte{6}}, {2, 4, []byte{3}}, {3, 4, []byte{0}}}
	if err != nil || !reflect.DeepEqual(l, want) {
		t.Fatalf("the example: %v %v", l, err)
	}
	l, err = shamir.Split(g, []byte{1, 2}, shamir.Plan{K: 3, N: 3}, []byte{10, 20, 30, 40})
	if err != nil || l[0].Data[0] != 1^10^20 || l[0].Data[1] != 2^30^40 {
		t.Fatalf("draws by their bytes: %v %v", l, err)
	}
	for name, f := range map[string]func() ([]shamir.Share, error){
		"no table":       func() ([]shamir.Share, error) { return shamir.Split(nil, []byte{1}, p, testcode.Some(2, 1)) },
		"no plan":        func() ([]shamir.Share, error) { return shamir.Split(g, []byte{1}, shamir.Plan{K: 1, N: 1}, nil) },
		"no secret":      func() ([]shamir.Share, error) { return shamir.Split(g, nil, p, nil) },
		"a long secret":  func() ([]shamir.Share, error) { return shamir.Split(g, testcode.Some(65, 1), p, testcode.Some(130, 1)) },
		"too few draws":  func() ([]shamir.Share, error) { return shamir.Split(g, testcode.Some(4, 1), p, testcode.Some(7, 1)) },
		"too many draws": func() ([]shamir.Share, error) { return shamir.Split(g, testcode.Some(4, 1), p, testcode.Some(9, 1)) },
	} {
		if l, err := f(); l != nil || testcode.Of(err) != api.ErrArg {
			t.Errorf("%s: %v %v", name, l, err)
		}
	}
}

// TestSH2 asks for secrets and parts out of parts that do not go together.
func TestSH2(t *testing.T) {
	g, p := gf.New(), shamir.Plan{K: 2, N: 3, Gen: 4}
	a, b := shamir.Share{Index: 1, Gen: 4, Data: []byte{6}}, shamir.Share{Index: 2, Gen: 4, Data: []byte{3}}
	other := shamir.Share{Index: 2, Gen: 5, Data: []byte{3}}
	for name, c := range map[string]struct {
		l    []shamir.Share
		want api.Errno
	}{
		"two":                        {[]shamir.Share{a, b}, 0},
		"more are not looked at":     {[]shamir.Share{a, b, other}, 0},
		"none":                       {nil, api.ErrShort},
		"one":                        {[]shamir.Share{other}, api.ErrShort},
		"another Gen":                {[]shamir.Share{a, other}, api.ErrGen},
		"Gen ahead of a place of 0":  {[]shamir.Share{{0, 4, []byte{1}}, other}, api.ErrGen},
		"place 0":                    {[]shamir.Share{a, {0, 4, []byte{3}}}, api.ErrShare},
		"alike":                      {[]shamir.Share{a, a}, api.ErrShare},
		"a longer one":               {[]shamir.Share{a, {2, 4, []byte{3, 3}}}, api.ErrShare},
		"empty ones":                 {[]shamir.Share{{1, 4, nil}, {2, 4, nil}}, api.ErrShare},
		"too long ones":              {[]shamir.Share{{1, 4, testcode.Some(65, 1)}, {2, 4, testcode.Some(65, 2)}}, api.ErrShare},
		"a place above N is no less": {[]shamir.Share{a, {200, 4, []byte{0}}}, 0},
	} {
		s, err := shamir.Combine(g, c.l, p)
		if testcode.Of(err) != c.want || (err != nil) != (s == nil) {
			t.Errorf("Combine of %s: %v %v", name, s, err)
		}
		x, err := shamir.At(g, c.l, p, 3)
		if testcode.Of(err) != c.want || (err != nil) != reflect.DeepEqual(x, shamir.Share{}) {
			t.Errorf("At of %s: %v %v", name, x, err)
		}
	}
	if s, err := shamir.Combine(g, []shamir.Share{b, a}, p); err != nil || !bytes.Equal(s, []byte{5}) {
		t.Errorf("the example: %v %v", s, err)
	}
	if x, err := shamir.At(g, []shamir.Share{b, a}, p, 3); err != nil || !reflect.DeepEqual(x, shamir.Share{Index: 3, Gen: 4, Data: []byte{0}}) {
		t.Errorf("the third of the example: %v %v", x, err)
	}
	for _, index := range []byte{0, 4, 255} {
		if _, err := shamir.At(g, nil, p, index); testcode.Of(err) != api.ErrArg {
			t.Errorf("At %d: %v", index, err)
		}
	}
	if _, err := shamir.Combine(nil, []shamir.Share{a, b}, p); testcode.Of(err) != api.ErrArg {
		t.Error("Combine without a table")
	}
	if _, err := shamir.Combine(g, nil, shamir.Plan{K: 1, N: 3}); testcode.Of(err) != api.ErrArg {
		t.Error("Combine without a plan")
	}
	if _, err := shamir.At(g, nil, shamir.Plan{K: 4, N: 3}, 1); testcode.Of(err) != api.ErrArg {
		t.Error("At without a plan")
	}
}

// TestSH3: any K parts make the secret; fewer go with any secret, by just one draw.
func TestSH3(t *testing.T) {
	g, p := gf.New(), shamir.Plan{K: 3, N: 6, Gen: 1}
	secret := testcode.Some(64, 5)
	l, err := shamir.Split(g, secret, p, testcode.Some(128, 6))
	if err != nil {
		t.Fatal(err)
	}
	for i := range 6 {
		for j := range 6 {
			for k := range 6 {
				if i == j || j == k || i == k {
					continue
				}
				some := []shamir.Share{l[i], l[j], l[k]}
				if s, err := shamir.Combine(g, some, p); err != nil || !bytes.Equal(s, secret) {
					t.Fatalf("parts %d %d %d: %v %v", i, j, k, s, err)
				}
				if x, err := shamir.At(g, some, p, 5); err != nil || !reflect.DeepEqual(x, l[4]) {
					t.Fatalf("part 5 of %d %d %d: %v %v", i, j, k, x, err)
				}
			}
		}
	}
	two := shamir.Plan{K: 2, N: 3}
	for s := range 256 {
		fit := 0
		for d := range 256 {
			l, err := shamir.Split(g, []byte{byte(s)}, two, []byte{byte(d)})
			if err != nil {
				t.Fatal(err)
			}
			if l[1].Data[0] == 77 {
				fit++
			}
		}
		if fit != 1 {
			t.Fatalf("the part 77 goes with secret %d by %d draws", s, fit)
		}
	}
}

// TestKept: arguments stay as they were, and answers are memory of their own.
func TestKept(t *testing.T) {
	g, p := gf.New(), shamir.Plan{K: 2, N: 2}
	secret, draws := []byte{1, 2}, []byte{3, 4}
	l, _ := shamir.Split(g, secret, p, draws)
	one := bytes.Clone(l[1].Data)
	_ = append(l[0].Data, 9, 9)
	s, _ := shamir.Combine(g, l, p)
	s[0] = 99
	if !bytes.Equal(secret, []byte{1, 2}) || !bytes.Equal(draws, []byte{3, 4}) || !bytes.Equal(one, l[1].Data) {
		t.Error("memory is shared")
	}
}
