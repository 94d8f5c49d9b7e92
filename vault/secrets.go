package vault

import (
	"math"
	"slices"
	"strings"

	"bursary/api"
	"bursary/clock"
	"bursary/engine"
	"bursary/policy"
	"bursary/request"
	"bursary/wire"
)

// maxListed is how many paths are listed at most.
const maxListed = 15

// secretPath is an error, unless the path may be that of a secret.
func (a *ask) secretPath() error { return unless(isSecret(a.r.Path), api.ErrForm) }

// cas is the version that must be the last one, below 0 where any may be.
func (a *ask) cas(arg int) (int, error) {
	n, err := a.number(arg)
	if err != nil {
		return 0, err
	}
	if n == clock.Never {
		return -1, nil
	}
	if n > math.MaxUint32 {
		return 0, api.ErrVersion
	}
	return int(n), nil
}

// put writes a version more.
func (a *ask) put() ([][]byte, error) {
	if err := first(a.secretPath(), a.may(a.r.Path, policy.Write)); err != nil {
		return nil, err
	}
	cas, err := a.cas(1)
	if err != nil {
		return nil, err
	}
	i, ok := findSecret(a.s.Secrets, a.r.Path)
	if !ok {
		if len(a.s.Secrets) == maxSecrets {
			return nil, api.ErrQuota
		}
		s, err := engine.New(api.MaxVersions)
		if err != nil {
			return nil, err
		}
		a.s.Secrets = slices.Insert(a.s.Secrets, i, Stored{Path: a.r.Path, S: s})
	}
	next, err := engine.Put(a.s.Secrets[i].S, a.r.Args[0], cas, a.s.Now)
	if err != nil {
		return nil, err
	}
	a.s.Secrets[i].S = next
	return [][]byte{wire.Number(uint64(next.Last))}, nil
}

// version is the place of the secret that is asked for, and the number of one of its versions, if who asks may do so with it.
func (a *ask) version(c uint8) (int, uint32, error) {
	if err := first(a.secretPath(), a.may(a.r.Path, c)); err != nil {
		return 0, 0, err
	}
	n, err := a.number(0)
	if err != nil {
		return 0, 0, err
	}
	i, ok := findSecret(a.s.Secrets, a.r.Path)
	if !ok || n > math.MaxUint32 {
		return 0, 0, api.ErrNone
	}
	return i, uint32(n), nil
}

// get reads a version.
func (a *ask) get() ([][]byte, error) {
	i, n, err := a.version(policy.Read)
	if err != nil {
		return nil, err
	}
	v, err := engine.Get(a.s.Secrets[i].S, n)
	if err != nil {
		return nil, err
	}
	return [][]byte{wire.Number(uint64(v.N)), v.Data, wire.Number(v.At)}, nil
}

// turned is a secret, one of whose versions is deleted, undeleted or destroyed.
func turned(op int, s engine.Secret, n uint32) (engine.Secret, error) {
	switch op {
	case request.Delete:
		return engine.Delete(s, n)
	case request.Undelete:
		return engine.Undelete(s, n)
	}
	return engine.Destroy(s, n)
}

// turn deletes, undeletes or destroys a version.
func (a *ask) turn() ([][]byte, error) {
	i, n, err := a.version(policy.Delete)
	if err != nil {
		return nil, err
	}
	next, err := turned(a.r.Op, a.s.Secrets[i].S, n)
	if err != nil {
		return nil, err
	}
	a.s.Secrets[i].S = next
	return nil, nil
}

// list tells the paths that lie under another one.
func (a *ask) list() ([][]byte, error) {
	form := unless(isSecret(a.r.Path) || a.r.Path+"/" == secrets, api.ErrForm)
	if err := first(form, a.may(a.r.Path, policy.List)); err != nil {
		return nil, err
	}
	var l [][]byte
	for _, x := range a.s.Secrets {
		if strings.HasPrefix(x.Path, a.r.Path+"/") && len(l) < maxListed {
			l = append(l, []byte(x.Path))
		}
	}
	return l, nil
}
