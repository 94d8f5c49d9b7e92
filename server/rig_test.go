package server_test

import (
	"reflect"
	"strconv"
	"strings"
	"testing"

	"bursary/api"
	"bursary/disk"
	"bursary/journal"
	"bursary/request"
	"bursary/server"
	"bursary/table"
	"bursary/testcode"
	"bursary/vault"
	"bursary/wire"
)

const (
	never = 1<<64 - 1
	limit = 1 << 40
)

// rig is a server over a disk, what is drawn for it, and the parts that it handed out last.
type rig struct {
	t     *testing.T
	d     *disk.Disk
	s     *server.Server
	seed  uint32
	parts []string
	root  string
}

// num is a number as an arg.
func num(n uint64) string { return string(wire.Number(n)) }

func newDisk(t *testing.T, n int) *disk.Disk {
	t.Helper()
	d, err := disk.New(n)
	if err != nil {
		t.Fatal(err)
	}
	return d
}

// newRig is one of a disk of so many sectors, at 100.
func newRig(t *testing.T, n int) *rig {
	t.Helper()
	x := &rig{t: t, d: newDisk(t, n), seed: 1}
	x.reopen(100, limit)
	return x
}

// reopen opens the server anew.
func (x *rig) reopen(now, limit uint64) {
	x.t.Helper()
	s, err := server.Open(x.d, now, limit)
	if err != nil {
		x.t.Fatal(err)
	}
	x.s = s
}

// asked is a request as bytes.
func asked(t *testing.T, op int, who, path string, args ...string) []byte {
	t.Helper()
	r := request.Request{Op: op, Token: []byte(who), Path: path}
	for _, a := range args {
		r.Args = append(r.Args, []byte(a))
	}
	b, err := request.Encode(r)
	if err != nil {
		t.Fatal(err)
	}
	return b
}

// ask asks, with some bytes drawn: the code, the fields, and how many drawn bytes were taken.
func (x *rig) ask(draws []byte, op int, who, path string, args ...string) (api.Errno, []string, int) {
	x.t.Helper()
	b, taken := x.s.Step(asked(x.t, op, who, path, args...), draws)
	answer, err := request.Parse(b)
	if err != nil {
		x.t.Fatalf("%s is answered %x", request.Name(op), b)
	}
	var fields []string
	for _, f := range answer.Fields {
		fields = append(fields, string(f))
	}
	if answer.Code != 0 && (len(fields) > 0 || taken != 0) {
		x.t.Errorf("%s: an error with %q, %d taken", request.Name(op), fields, taken)
	}
	return api.Errno(answer.Code), fields, taken
}

// does asks, with as many bytes drawn as anything takes, and fails unless that is answered with 0: the fields.
func (x *rig) does(op int, who, path string, args ...string) []string {
	x.t.Helper()
	x.seed++
	code, fields, _ := x.ask(testcode.Some(500, x.seed), op, who, path, args...)
	if code != 0 {
		x.t.Fatalf("%s of %q: %d", request.Name(op), path, code)
	}
	return fields
}

// refuses asks, and fails unless that is answered with an error, and nothing is changed but the log.
func (x *rig) refuses(want api.Errno, op int, who, path string, args ...string) {
	x.t.Helper()
	before := x.told()
	code, _, _ := x.ask(testcode.Some(500, 3), op, who, path, args...)
	if code != want {
		x.t.Errorf("%s of %q by %q: %d, not %d", request.Name(op), path, who, code, want)
	}
	if after := x.told(); after != before {
		x.t.Errorf("%s of %q: refused, and changed: %s, not %s", request.Name(op), path, after, before)
	}
}

// made makes the vault, and opens it.
func (x *rig) made(k, n int) *rig {
	x.t.Helper()
	x.parts = x.does(request.Init, "", "", num(uint64(k)), num(uint64(n)))
	x.open(k)
	return x
}

// open hands in so many parts.
func (x *rig) open(k int) {
	x.t.Helper()
	for i := range k {
		x.does(request.Unseal, "", "", x.parts[i])
	}
	if x.s.Sealed() {
		x.t.Fatal("not open")
	}
}

// granted hands in parts for a root token.
func (x *rig) granted(k int) *rig {
	x.t.Helper()
	mark := x.does(request.RootStart, "", "")[0]
	var fields []string
	for i := range k {
		fields = x.does(request.RootShare, "", "", mark, x.parts[i])
	}
	x.root = fields[0]
	return x
}

// told is the state of the server as a text, without what the log has.
func (x *rig) told() string {
	st, err := x.s.State()
	if err != nil {
		return "sealed " + strconv.FormatBool(x.s.Ready())
	}
	return stateTold(st)
}

// stateTold is a state as a text.
func stateTold(st vault.State) string {
	var s strings.Builder
	for _, p := range st.Policies {
		s.WriteString(p.Name + ":" + p.Text + ";")
	}
	for _, t := range st.Tokens {
		s.WriteString(t.Accessor + "<" + t.Parent + strings.Join(t.Policies, ",") + strconv.FormatUint(t.Until, 10) + "/" + strconv.Itoa(t.Uses) + ";")
	}
	for _, l := range st.Leases {
		s.WriteString(l.ID + "<" + l.Token + l.Path + strconv.FormatUint(l.Until, 10) + ";")
	}
	for _, x := range st.Secrets {
		s.WriteString(x.Path)
		for _, v := range x.S.L {
			s.WriteString("," + strconv.Itoa(int(v.N)) + "=" + strconv.Itoa(v.State) + string(v.Data))
		}
		s.WriteString(";")
	}
	return s.String()
}

// records are those of the half of the disk that begins with the greater number.
func (x *rig) records() [][]byte {
	x.t.Helper()
	var best []journal.Record
	n := x.d.Size() / 2
	for half := range 2 {
		l, err := journal.Read(x.d, half*n, half*n+n)
		if err != nil {
			x.t.Fatal(err)
		}
		if len(l) > 0 && (len(best) == 0 || l[0].Seq > best[0].Seq) {
			best = l
		}
	}
	var out [][]byte
	for _, r := range best {
		out = append(out, r.Data)
	}
	return out
}

// last are the changes of the record that was committed last.
func (x *rig) last() []table.Op {
	x.t.Helper()
	l := x.records()
	ops, err := table.DecodeOps(l[len(l)-1][1:])
	if err != nil {
		x.t.Fatal(err)
	}
	return ops
}

// names are changes' names, `-` ahead of those that are taken away.
func names(l []table.Op) string {
	var s []string
	for _, o := range l {
		if o.Del {
			o.Name = "-" + o.Name
		}
		s = append(s, o.Name)
	}
	return strings.Join(s, " ")
}

// plain is the bytes that a change puts by a name.
func plain(l []table.Op, name string) []byte {
	for _, o := range l {
		if o.Name == name {
			return o.Data
		}
	}
	return nil
}

// leads fails unless the log has so many entries, and leads to its head.
func (x *rig) leads(n int) {
	x.t.Helper()
	l, ok, err := x.s.Log()
	h, err2 := x.s.Head()
	if err != nil || err2 != nil || !ok || len(l) != n || h.N != uint64(n) {
		x.t.Errorf("the log has %d entries, leads %v, ends with %d: %v", len(l), ok, h.N, err)
	}
}

// equal fails unless two answers are one.
func equal(t *testing.T, what string, got, want any) {
	t.Helper()
	if !reflect.DeepEqual(got, want) {
		t.Errorf("%s: %q, not %q", what, got, want)
	}
}
