package vault

import (
	"slices"

	"bursary/api"
	"bursary/clock"
	"bursary/lease"
	"bursary/packed"
	"bursary/path"
	"bursary/policy"
	"bursary/wire"
)

// leaseIssue lends a path to who asks.
func (a *ask) leaseIssue() ([][]byte, error) {
	p := a.r.Path
	if err := first(path.Check(p), a.may(p, policy.Read)); err != nil {
		return nil, err
	}
	ttl, err := a.number(0)
	if err != nil {
		return nil, err
	}
	until, err := clock.Until(a.s.Now, ttl)
	if err != nil {
		return nil, err
	}
	if len(a.draws) < nameDraws {
		return nil, api.ErrShort
	}
	most := a.t.Most
	x := lease.Lease{ID: "l" + packed.Hex(a.draws[:nameDraws]), Token: a.t.Accessor, Path: p, Until: min(until, most), Most: most}
	l, err := lease.Issue(a.s.Leases, x)
	if err != nil {
		return nil, err
	}
	a.s.Leases = l
	a.taken = nameDraws
	return [][]byte{[]byte(x.ID), wire.Number(x.Until)}, nil
}

// findLease is the place of a lease, below 0 where there is none.
func findLease(l []lease.Lease, id string) int {
	return slices.IndexFunc(l, func(x lease.Lease) bool { return x.ID == id })
}

// itsLease is the ID that is asked for, if there is such a lease, and who asks may do something with it.
func (a *ask) itsLease() (string, error) {
	if err := a.noPath(); err != nil {
		return "", err
	}
	id := string(a.r.Args[0])
	i := findLease(a.s.Leases, id)
	if i < 0 {
		return "", api.ErrNone
	}
	if a.s.Leases[i].Token == a.t.Accessor {
		return id, nil
	}
	return id, a.may("sys/lease", policy.Sudo)
}

// leaseRenew lets a lease last longer.
func (a *ask) leaseRenew() ([][]byte, error) {
	id, err := a.itsLease()
	if err != nil {
		return nil, err
	}
	ttl, err := a.number(1)
	if err != nil {
		return nil, err
	}
	l, err := lease.Renew(a.s.Leases, id, a.s.Now, ttl)
	if err != nil {
		return nil, err
	}
	a.s.Leases = l
	return [][]byte{wire.Number(l[findLease(l, id)].Until)}, nil
}

// leaseRevoke takes a lease away.
func (a *ask) leaseRevoke() ([][]byte, error) {
	id, err := a.itsLease()
	if err != nil {
		return nil, err
	}
	l, err := lease.Revoke(a.s.Leases, id)
	if err != nil {
		return nil, err
	}
	a.s.Leases = l
	return nil, nil
}

// leasePrefix takes all leases away whose paths begin so.
func (a *ask) leasePrefix() ([][]byte, error) {
	if err := a.may("sys/lease", policy.Sudo); err != nil {
		return nil, err
	}
	left, gone := lease.Prefix(a.s.Leases, a.r.Path)
	a.s.Leases = left
	return [][]byte{wire.Number(uint64(len(gone)))}, nil
}
