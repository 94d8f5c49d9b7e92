package vault

import (
	"errors"
	"slices"

	"bursary/acl"
	"bursary/api"
	"bursary/lease"
	"bursary/policy"
	"bursary/request"
	"bursary/token"
	"bursary/wire"
)

// ask is a request that is being done: by whom, and the state so far, which is its own memory.
type ask struct {
	s     State
	t     token.Token
	r     request.Request
	draws []byte
	taken int
}

// code is an error's number.
func code(err error) int {
	var e api.Errno
	if errors.As(err, &e) {
		return int(e)
	}
	return 0
}

// first is the first one of some errors that is one.
func first(l ...error) error {
	i := slices.IndexFunc(l, func(err error) bool { return err != nil })
	if i < 0 {
		return nil
	}
	return l[i]
}

// unless is an error where something is not so.
func unless(so bool, e api.Errno) error {
	if so {
		return nil
	}
	return e
}

// do is what is answered, or an error.
func (a *ask) do() ([][]byte, error) {
	if err := Check(a.s); err != nil {
		return nil, err
	}
	if _, err := request.Encode(a.r); err != nil || request.Open(a.r.Op) {
		return nil, api.ErrForm
	}
	t, err := asker(a.s, a.r.Token)
	if err != nil {
		return nil, err
	}
	a.t = t
	fields, err := a.said()
	if err != nil {
		return nil, err
	}
	a.use()
	return fields, nil
}

// said does what is asked.
func (a *ask) said() ([][]byte, error) {
	switch a.r.Op {
	case request.Put:
		return a.put()
	case request.Get:
		return a.get()
	case request.Delete, request.Undelete, request.Destroy:
		return a.turn()
	case request.List:
		return a.list()
	case request.PolicyPut:
		return a.policyPut()
	case request.PolicyGet:
		return a.policyGet()
	case request.PolicyDel:
		return a.policyDel()
	case request.TokenCreate:
		return a.tokenCreate()
	case request.TokenRenew:
		return a.tokenRenew()
	case request.TokenRevoke:
		return a.tokenRevoke()
	case request.TokenSelf:
		return a.tokenSelf()
	case request.LeaseIssue:
		return a.leaseIssue()
	case request.LeaseRenew:
		return a.leaseRenew()
	case request.LeaseRevoke:
		return a.leaseRevoke()
	case request.LeasePrefix:
		return a.leasePrefix()
	}
	return nil, first(a.noPath(), a.may("sys/seal", policy.Sudo))
}

// may is an error, unless who asks may do something with a path.
func (a *ask) may(p string, c uint8) error {
	return unless(acl.Allows(rules(a.s, a.t), p, c), api.ErrDenied)
}

// noPath is an error, if a path is asked of what has none.
func (a *ask) noPath() error { return unless(a.r.Path == "", api.ErrForm) }

// number is an arg as one.
func (a *ask) number(arg int) (uint64, error) { return wire.Read(a.r.Args[arg]) }

// accessors are those of some tokens.
func accessors(l []token.Token) []string {
	var out []string
	for _, t := range l {
		out = append(out, t.Accessor)
	}
	return out
}

// use lets the token that asked be used once, and takes away the leases of tokens that go thereby.
func (a *ask) use() {
	left, err := token.Use(a.s.Tokens, a.t.Accessor)
	if err != nil {
		// It went by what was asked.
		return
	}
	there := accessors(left)
	gone := slices.DeleteFunc(accessors(a.s.Tokens), func(s string) bool { return slices.Contains(there, s) })
	a.s.Tokens = left
	a.s.Leases, _ = lease.Of(a.s.Leases, gone)
}
