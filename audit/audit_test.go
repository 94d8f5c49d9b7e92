package audit_test

import (
	"bytes"
	"math"
	"strings"
	"testing"

	"bursary/api"
	"bursary/audit"
	"bursary/hmac"
	"bursary/request"
	"bursary/testcode"
)

var key = []byte("the key of sums")

// plain is an arg as it is.
func plain(s string) audit.Arg { return audit.Arg{Data: []byte(s)} }

// masked is the sum of an arg.
func masked(s string) audit.Arg {
	sum := hmac.Mac(key, []byte(s))
	return audit.Arg{Masked: true, Data: sum[:]}
}

// entry is one that may be, that something is done to.
func entry(f func(*audit.Entry)) audit.Entry {
	e := audit.Entry{N: 1, At: 2, Op: request.Put, Accessor: "tab", Path: "kv/a", Code: 3, Args: []audit.Arg{masked("x"), plain("yz")}}
	f(&e)
	return e
}

// same tells whether two entries are.
func same(a, b audit.Entry) bool {
	if a.N != b.N || a.At != b.At || a.Op != b.Op || a.Accessor != b.Accessor || a.Path != b.Path || a.Code != b.Code || len(a.Args) != len(b.Args) {
		return false
	}
	for i := range a.Args {
		if a.Args[i].Masked != b.Args[i].Masked || !bytes.Equal(a.Args[i].Data, b.Args[i].Data) {
			return false
		}
	}
	return true
}

// wrong are entries that may not be.
func wrong() map[string]audit.Entry {
	return map[string]audit.Entry{
		"Op 0": entry(func(e *audit.Entry) { e.Op = 0 }), "Op 30": entry(func(e *audit.Entry) { e.Op = 30 }), "Op -1": entry(func(e *audit.Entry) { e.Op = -1 }),
		"an accessor of 17": entry(func(e *audit.Entry) { e.Accessor = strings.Repeat("a", 17) }), "a path of 65": entry(func(e *audit.Entry) { e.Path = strings.Repeat("a", 65) }),
		"Code -1": entry(func(e *audit.Entry) { e.Code = -1 }), "Code 65536": entry(func(e *audit.Entry) { e.Code = 65536 }), "five args": entry(func(e *audit.Entry) { e.Args = make([]audit.Arg, 5) }),
		"an arg of 65": entry(func(e *audit.Entry) { e.Args[1] = plain(strings.Repeat("x", 65)) }), "a masked one of 33": entry(func(e *audit.Entry) { e.Args[0].Data = make([]byte, 33) }),
		"a masked one of 31": entry(func(e *audit.Entry) { e.Args[0].Data = make([]byte, 31) }), "a masked one of none": entry(func(e *audit.Entry) { e.Args[0].Data = nil }),
	}
}

// right are entries that may be.
func right() []audit.Entry {
	return []audit.Entry{
		entry(func(*audit.Entry) {}), {Op: 1}, {Op: 29, N: math.MaxUint64, At: math.MaxUint64, Code: 65535, Accessor: strings.Repeat("A", 16), Path: strings.Repeat(" ", 64)},
		entry(func(e *audit.Entry) {
			e.Args = []audit.Arg{plain(""), plain(strings.Repeat("x", 64)), masked(""), masked("y")}
		}),
	}
}

// TestAU1Checked tells entries as bytes, and reads what is none.
func TestAU1Checked(t *testing.T) {
	for i, e := range right() {
		if err := audit.Check(e); err != nil {
			t.Errorf("entry %d: %v", i, err)
		}
	}
	for name, e := range wrong() {
		b, err := audit.Encode(e)
		if testcode.Of(audit.Check(e)) != api.ErrArg || b != nil || testcode.Of(err) != api.ErrArg {
			t.Errorf("%s: %v", name, err)
		}
	}
	e := entry(func(e *audit.Entry) { e.N, e.At, e.Code = 0x0102, 0x0304, 0x0506 })
	want := "au\x00\x00\x00\x00\x00\x00\x01\x02\x00\x00\x00\x00\x00\x00\x03\x04\x05\x03tab\x04kv/a\x05\x06\x02\x01\x20" + string(masked("x").Data) + "\x00\x02yz"
	b, err := audit.Encode(e)
	if err != nil || string(b) != want {
		t.Fatalf("Encode: %q %v", b, err)
	}
	for n := range b {
		if e, err := audit.Decode(b[:n]); e.Op != 0 || e.Args != nil || testcode.Of(err) != api.ErrForm {
			t.Fatalf("cut to %d: %v", n, err)
		}
	}
	for _, s := range []string{
		want + "\x00", "ax" + want[2:], strings.Replace(want, "\x05\x03tab", "\x00\x03tab", 1), strings.Replace(want, "\x05\x03tab", "\x1e\x03tab", 1),
		strings.Replace(want, "\x01\x20", "\x02\x20", 1), strings.Replace(want, "\x00\x02yz", "\x01\x02yz", 1), strings.Replace(want, "\x06\x02\x01", "\x06\x01\x01", 1),
		strings.Replace(want, "\x06\x02\x01", "\x06\x03\x01", 1), strings.Replace(want, "\x03tab", "\x11"+strings.Repeat("a", 17), 1),
	} {
		if e, err := audit.Decode([]byte(s)); e.Op != 0 || testcode.Of(err) != api.ErrForm {
			t.Errorf("Decode(%q): %v %v", s, e, err)
		}
	}
}

// put is a request of the tests.
func put(data, number string) request.Request {
	return request.Request{Op: request.Put, Token: []byte("t"), Path: "kv/a", Args: [][]byte{[]byte(data), []byte(number)}}
}

// TestAU1Made makes entries of requests.
func TestAU1Made(t *testing.T) {
	policy := strings.Repeat("p", 65)
	for name, c := range map[string]struct {
		r    request.Request
		args []audit.Arg
	}{
		"a put":           {put("data", "12345678"), []audit.Arg{masked("data"), plain("12345678")}},
		"a long number":   {put("", policy), []audit.Arg{masked(""), masked(policy)}},
		"64 bytes":        {put("", policy[:64]), []audit.Arg{masked(""), plain(policy[:64])}},
		"a part":          {request.Request{Op: request.RekeyShare, Args: [][]byte{[]byte("mark"), []byte("part")}}, []audit.Arg{plain("mark"), masked("part")}},
		"no args":         {request.Request{Op: request.Seal, Token: []byte("t")}, nil},
		"a policy":        {request.Request{Op: request.PolicyPut, Path: "p", Args: [][]byte{[]byte(policy)}}, []audit.Arg{masked(policy)}},
		"a short policy":  {request.Request{Op: request.PolicyPut, Path: "p", Args: [][]byte{[]byte("a = read")}}, []audit.Arg{plain("a = read")}},
		"parts of a root": {request.Request{Op: request.RootShare, Args: [][]byte{nil, []byte("part")}}, []audit.Arg{plain(""), masked("part")}},
	} {
		want := audit.Entry{N: 7, At: 8, Op: c.r.Op, Accessor: "acc", Path: c.r.Path, Code: 16, Args: c.args}
		e, err := audit.Make(key, 7, 8, "acc", c.r, 16)
		if err != nil || !same(e, want) {
			t.Errorf("%s: %v %v", name, e, err)
		}
		if !audit.Told(key, e, c.r) {
			t.Errorf("%s: not told", name)
		}
	}
	for name, err := range map[string]error{
		"no request":         second(audit.Make(key, 1, 1, "", request.Request{}, 0)),
		"too few args":       second(audit.Make(key, 1, 1, "", request.Request{Op: request.Put}, 0)),
		"a request too long": second(audit.Make(key, 1, 1, "", put(strings.Repeat("x", 1024), ""), 0)),
		"a long accessor":    second(audit.Make(key, 1, 1, strings.Repeat("a", 17), put("", ""), 0)),
		"Code -1":            second(audit.Make(key, 1, 1, "", put("", ""), -1)),
		"Code 65536":         second(audit.Make(key, 1, 1, "", put("", ""), 65536)),
	} {
		if testcode.Of(err) != api.ErrArg {
			t.Errorf("%s: %v", name, err)
		}
	}
	e, _ := audit.Make(key, 7, 8, "acc", put("data", "n"), 16)
	for name, told := range map[string]bool{
		"other bytes": audit.Told(key, e, put("datb", "n")), "another number": audit.Told(key, e, put("data", "m")), "another key": audit.Told([]byte("k"), e, put("data", "n")),
		"another op": audit.Told(key, e, request.Request{Op: request.Seal}), "no request": audit.Told(key, e, request.Request{}),
		"an entry that may not be": audit.Told(key, audit.Entry{Code: -1}, put("data", "n")),
	} {
		if told {
			t.Errorf("told: %s", name)
		}
	}
	e.N, e.At, e.Accessor, e.Code = 9, 10, "", 0
	if !audit.Told(key, e, put("data", "n")) {
		t.Error("with its own N, At, Accessor and Code")
	}
}

func second(_ audit.Entry, err error) error { return err }

// TestAU2: entries come back, and have nothing of what is secret but its sum.
func TestAU2(t *testing.T) {
	for i, e := range right() {
		b, err := audit.Encode(e)
		if err != nil {
			t.Fatal(err)
		}
		if back, err := audit.Decode(b); err != nil || !same(back, e) {
			t.Errorf("entry %d comes back as %v, %v", i, back, err)
		}
	}
	secret := "a secret that nobody may read"
	e, _ := audit.Make(key, 1, 1, "", put(secret, ""), 0)
	b, _ := audit.Encode(e)
	if bytes.Contains(b, []byte(secret[:6])) {
		t.Error("the secret stands in the entry")
	}
	other, _ := audit.Make(key, 1, 1, "", put("other", ""), 0)
	other.Args[0] = e.Args[0]
	if !same(e, other) {
		t.Error("it hangs on something else of it")
	}
}

// TestKept: no memory is shared.
func TestKept(t *testing.T) {
	r := put("data", "number")
	e, _ := audit.Make(key, 1, 1, "", r, 0)
	clear(e.Args[1].Data)
	if string(r.Args[1]) != "number" || string(key) != "the key of sums" {
		t.Error("memory is shared")
	}
}
