package vault

import (
	"math"
	"slices"
	"strings"

	"bursary/api"
	"bursary/clock"
	"bursary/lease"
	"bursary/packed"
	"bursary/policy"
	"bursary/token"
	"bursary/wire"
)

// How many bytes are drawn for a name, and for what is secret of a token.
const (
	nameDraws   = 6
	secretDraws = 16
	tokenDraws  = secretDraws + nameDraws
)

// separator stands between policies' names.
const separator = ","

// born lets a state have a token more, whose secret and accessor are drawn: these two.
func (s *State) born(t token.Token, draws []byte) (string, string, error) {
	if len(draws) < tokenDraws {
		return "", "", api.ErrShort
	}
	secret, accessor := packed.Hex(draws[:secretDraws]), "t"+packed.Hex(draws[secretDraws:tokenDraws])
	t.Sum, t.Accessor = token.Sum(s.Salt, []byte(secret)), accessor
	l, err := token.Create(s.Tokens, t, s.Now)
	if err != nil {
		return "", "", err
	}
	s.Tokens = l
	return secret, accessor, nil
}

// given are policies' names, if there are such, and who asks may hand them on.
func (a *ask) given(names string) ([]string, error) {
	if names == "" {
		return nil, nil
	}
	l := strings.Split(names, separator)
	for _, name := range l {
		_, ok := findPolicy(a.s.Policies, name)
		has := slices.Contains(a.t.Policies, root) || slices.Contains(a.t.Policies, name)
		if err := first(unless(ok || name == root, api.ErrNone), unless(has, api.ErrDenied)); err != nil {
			return nil, err
		}
	}
	return l, nil
}

// tokenCreate makes a token that comes of who asks.
func (a *ask) tokenCreate() ([][]byte, error) {
	if err := first(a.noPath(), a.may("sys/token", policy.Write)); err != nil {
		return nil, err
	}
	ttl, err1 := a.number(1)
	uses, err2 := a.number(2)
	if err := first(err1, err2, unless(uses <= math.MaxUint16, api.ErrArg)); err != nil {
		return nil, err
	}
	policies, err := a.given(string(a.r.Args[0]))
	if err != nil {
		return nil, err
	}
	until, err := clock.Until(a.s.Now, ttl)
	if err != nil {
		return nil, err
	}
	until = min(until, a.t.Most)
	t := token.Token{Parent: a.t.Accessor, Policies: policies, Until: until, Most: until, Uses: int(uses)}
	secret, accessor, err := a.s.born(t, a.draws)
	if err != nil {
		return nil, err
	}
	a.taken = tokenDraws
	return [][]byte{[]byte(secret), []byte(accessor)}, nil
}

// tokenRenew lets who asks last longer.
func (a *ask) tokenRenew() ([][]byte, error) {
	if err := a.noPath(); err != nil {
		return nil, err
	}
	ttl, err := a.number(0)
	if err != nil {
		return nil, err
	}
	l, err := token.Renew(a.s.Tokens, a.t.Accessor, a.s.Now, ttl)
	if err != nil {
		return nil, err
	}
	a.s.Tokens = l
	renewed, err := asker(a.s, a.r.Token)
	if err != nil {
		return nil, err
	}
	return [][]byte{wire.Number(renewed.Until)}, nil
}

// tokenRevoke takes a token away, what came of it, and what was lent to these.
func (a *ask) tokenRevoke() ([][]byte, error) {
	if err := first(a.noPath(), a.may("sys/token", policy.Delete)); err != nil {
		return nil, err
	}
	left, gone, err := token.Revoke(a.s.Tokens, string(a.r.Args[0]))
	if err != nil {
		return nil, err
	}
	a.s.Tokens = left
	a.s.Leases, _ = lease.Of(a.s.Leases, gone)
	return nil, nil
}

// tokenSelf tells who asks.
func (a *ask) tokenSelf() ([][]byte, error) {
	if err := a.noPath(); err != nil {
		return nil, err
	}
	t := a.t
	policies := strings.Join(t.Policies, separator)
	return [][]byte{[]byte(t.Accessor), wire.Number(t.Until), wire.Number(uint64(t.Uses)), []byte(policies)}, nil
}
