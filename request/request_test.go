package request_test

import (
	"bytes"
	"math"
	"slices"
	"strconv"
	"strings"
	"testing"

	"bursary/api"
	"bursary/request"
	"bursary/testcode"
)

// asked is what the chapter lists, in order: the name, how many args, whether it is open, which arg is secret.
const asked = `init 2 open -
unseal 1 open 0
seal 0 - -
status 0 open -
put 2 - 0
get 1 - -
delete 1 - -
undelete 1 - -
destroy 1 - -
list 0 - -
policy-put 1 - -
policy-get 0 - -
policy-del 0 - -
token-create 3 - -
token-renew 1 - -
token-revoke 1 - -
token-self 0 - -
lease-issue 1 - -
lease-renew 2 - -
lease-revoke 1 - -
lease-prefix 0 - -
rotate 0 - -
rekey-start 2 - -
rekey-share 2 - 1
rekey-cancel 0 - -
root-start 0 open -
root-share 2 open 1
root-cancel 0 open -
audit-head 0 - -`

// TestRQ1 holds what is asked against the chapter's list.
func TestRQ1(t *testing.T) {
	for i, line := range strings.Split(asked, "\n") {
		op, w := i+1, strings.Fields(line)
		if request.Name(op) != w[0] || request.Find(w[0]) != op || strconv.Itoa(request.Args(op)) != w[1] || request.Open(op) != (w[2] == "open") {
			t.Errorf("%d: %q %d %d %v, not %s", op, request.Name(op), request.Find(w[0]), request.Args(op), request.Open(op), line)
		}
		for at := -1; at < 4; at++ {
			if request.Secret(op, at) != (strconv.Itoa(at) == w[3]) {
				t.Errorf("%s: secret %d", w[0], at)
			}
		}
	}
	for _, op := range []int{0, -1, 30, 31, 255, math.MaxInt, math.MinInt} {
		if request.Name(op) != "" || request.Args(op) != 0 || request.Open(op) || request.Secret(op, 0) || request.Secret(op, 1) {
			t.Errorf("there is a %d", op)
		}
	}
	for _, name := range []string{"", "Init", "init ", "none"} {
		if request.Find(name) != 0 {
			t.Errorf("there is a %q", name)
		}
	}
	if request.Ops != 30 || request.Init != 1 || request.Get != 6 || request.LeasePrefix != 21 || request.AuditHead != 29 {
		t.Error("the numbers")
	}
}

// TestRQ2Requests tells requests as bytes, and reads what is none.
func TestRQ2Requests(t *testing.T) {
	if b, err := request.Encode(request.Request{Op: request.Status}); err != nil || !bytes.Equal(b, []byte{3, 0, 1, 4, 0, 0, 0, 0}) {
		t.Errorf("the example: %x %v", b, err)
	}
	put := request.Request{Op: request.Put, Token: []byte("tok"), Path: "kv/a", Args: [][]byte{[]byte("x"), nil}}
	whole := "\x05\x00\x01\x05\x00\x03tok\x00\x04kv/a\x00\x01x\x00\x00"
	if b, err := request.Encode(put); err != nil || string(b) != whole {
		t.Errorf("a put: %q %v", b, err)
	}
	with := func(f func(*request.Request)) request.Request {
		r := put
		f(&r)
		return r
	}
	for name, c := range map[string]struct {
		r    request.Request
		want api.Errno
	}{
		"nothing": {request.Request{}, api.ErrForm}, "30": {request.Request{Op: 30}, api.ErrForm}, "-1": {request.Request{Op: -1}, api.ErrForm}, "256": {request.Request{Op: 256 + 4}, api.ErrForm},
		"too few args": {with(func(r *request.Request) { r.Args = r.Args[:1] }), api.ErrForm}, "too many args": {with(func(r *request.Request) { r.Args = make([][]byte, 3) }), api.ErrForm},
		"a token of 32": {with(func(r *request.Request) { r.Token = make([]byte, 32) }), 0}, "a token of 33": {with(func(r *request.Request) { r.Token = make([]byte, 33) }), api.ErrForm},
		"no token": {with(func(r *request.Request) { r.Token = nil }), 0}, "open, with a token": {request.Request{Op: request.Status, Token: []byte{1}}, api.ErrForm},
		"a path of 64": {with(func(r *request.Request) { r.Path = strings.Repeat("p", 64) }), 0}, "a path of 65": {with(func(r *request.Request) { r.Path = strings.Repeat("p", 65) }), api.ErrForm},
		"too long": {with(func(r *request.Request) { r.Args = [][]byte{make([]byte, 1100), nil} }), api.ErrLong}, "any bytes as a path": {with(func(r *request.Request) { r.Path = "\xff /" }), 0},
		"too long, and no op": {request.Request{Op: 99, Args: [][]byte{make([]byte, 1100)}}, api.ErrForm},
	} {
		b, err := request.Encode(c.r)
		if testcode.Of(err) != c.want || (b == nil) != (err != nil) {
			t.Errorf("Encode, %s: %v", name, err)
		}
	}
	for s, want := range map[string]api.Errno{
		whole: 0, whole + "\x00": api.ErrForm, whole[:len(whole)-1]: api.ErrForm, strings.Repeat("x", 1025): api.ErrLong, "": api.ErrForm,
		"\x02\x00\x01\x04\x00\x00": api.ErrForm, "\x03\x00\x00\x00\x00\x00\x00": api.ErrForm, "\x03\x00\x02\x04\x04\x00\x00\x00\x00": api.ErrForm,
		"\x03\x00\x01\x00\x00\x00\x00\x00": api.ErrForm, "\x03\x00\x01\x1e\x00\x00\x00\x00": api.ErrForm, "\x03\x00\x01\x1d\x00\x00\x00\x00": 0,
		"\x03\x00\x01\x04\x00\x01x\x00\x00": api.ErrForm, "\x04\x00\x01\x04\x00\x00\x00\x00\x00\x00": api.ErrForm, "\x03\x00\x01\x05\x00\x00\x00\x00": api.ErrForm,
		"\x03\x00\x01\x03\x00\x21" + strings.Repeat("t", 33) + "\x00\x00": api.ErrForm, "\x03\x00\x01\x03\x00\x00\x00\x41" + strings.Repeat("p", 65): api.ErrForm,
	} {
		r, err := request.Decode([]byte(s))
		if testcode.Of(err) != want || err != nil && (r.Op != 0 || r.Args != nil) {
			t.Errorf("Decode(%q): %v %v", s, r, err)
		}
	}
}

// TestRQ2Responses tells responses as bytes, and reads what is none.
func TestRQ2Responses(t *testing.T) {
	b, err := request.Answer(request.Response{Code: 0x0102, Fields: [][]byte{[]byte("a"), nil}})
	if err != nil || string(b) != "\x03\x00\x02\x01\x02\x00\x01a\x00\x00" {
		t.Errorf("Answer: %q %v", b, err)
	}
	for name, c := range map[string]struct {
		r    request.Response
		want api.Errno
	}{
		"0": {request.Response{}, 0}, "65535": {request.Response{Code: 65535}, 0}, "65536": {request.Response{Code: 65536}, api.ErrForm}, "-1": {request.Response{Code: -1}, api.ErrForm},
		"15 fields": {request.Response{Fields: make([][]byte, 15)}, 0}, "16 fields": {request.Response{Fields: make([][]byte, 16)}, api.ErrLong},
		"16 fields, and -1": {request.Response{Code: -1, Fields: make([][]byte, 16)}, api.ErrForm}, "long": {request.Response{Fields: [][]byte{make([]byte, 1018)}}, api.ErrLong},
		"as long as may be": {request.Response{Fields: [][]byte{make([]byte, 1017)}}, 0},
	} {
		b, err := request.Answer(c.r)
		if testcode.Of(err) != c.want || (b == nil) != (err != nil) {
			t.Errorf("Answer, %s: %v", name, err)
		}
	}
	for s, want := range map[string]api.Errno{
		"\x01\x00\x02\x00\x05": 0, "\x00": api.ErrForm, "\x01\x00\x01\x05": api.ErrForm, "\x01\x00\x03\x00\x00\x05": api.ErrForm, "": api.ErrForm, strings.Repeat("\x00", 1025): api.ErrLong,
		"\x01\x00\x02\x00\x05x": api.ErrForm,
	} {
		r, err := request.Parse([]byte(s))
		if testcode.Of(err) != want || err == nil && r.Code != 5 || err != nil && r.Code != 0 {
			t.Errorf("Parse(%q): %v %v", s, r, err)
		}
	}
}

// TestRQ3: requests and responses come back.
func TestRQ3(t *testing.T) {
	for op := 1; op < request.Ops; op++ {
		r := request.Request{Op: op, Path: "some/path " + request.Name(op), Args: nil}
		if !request.Open(op) {
			r.Token = []byte{0, 255, 7}
		}
		for i := range request.Args(op) {
			r.Args = append(r.Args, bytes.Repeat([]byte{byte(i)}, 100*i))
		}
		b, err := request.Encode(r)
		if err != nil {
			t.Fatal(err)
		}
		got, err := request.Decode(b)
		if err != nil || got.Op != op || !bytes.Equal(got.Token, r.Token) || got.Path != r.Path || !slices.EqualFunc(got.Args, r.Args, bytes.Equal) {
			t.Errorf("%v comes back as %v, %v", r, got, err)
		}
		answer := request.Response{Code: op * 2000, Fields: r.Args}
		if b, err = request.Answer(answer); err != nil {
			t.Fatal(err)
		}
		if back, err := request.Parse(b); err != nil || back.Code != answer.Code || !slices.EqualFunc(back.Fields, answer.Fields, bytes.Equal) {
			t.Errorf("%v comes back as %v, %v", answer, back, err)
		}
	}
}

// TestKept: no memory is shared.
func TestKept(t *testing.T) {
	args := [][]byte{[]byte("x"), []byte("y")}
	r := request.Request{Op: request.Put, Path: "kv/a", Args: args}
	b, _ := request.Encode(r)
	got, _ := request.Decode(b)
	got.Args[0][0] = 'z'
	_ = append(got.Args[0], "spoilt"...)
	if back, _ := request.Decode(b); string(back.Args[0]) != "x" || string(args[0]) != "x" || string(got.Args[1]) != "y" {
		t.Error("memory is shared")
	}
	fields := make([][]byte, 1, 8)
	fields[0] = []byte("a")
	answer := request.Response{Fields: fields}
	request.Answer(answer)
	if len(fields) != 1 || string(fields[0]) != "a" {
		t.Error("what was handed in is changed")
	}
}
