package vault

import (
	"slices"

	"bursary/api"
	"bursary/policy"
)

// policyName is an error, unless the path is the name of a policy, and who asks may do anything with that.
func (a *ask) policyName() error {
	name := a.r.Path
	return first(unless(isName(name) && name != root, api.ErrForm), a.may("sys/policy/"+name, policy.Sudo))
}

// policyPut puts a policy's text.
func (a *ask) policyPut() ([][]byte, error) {
	if err := a.policyName(); err != nil {
		return nil, err
	}
	text := string(a.r.Args[0])
	if _, _, err := policy.Parse(text); err != nil {
		return nil, err
	}
	i, ok := findPolicy(a.s.Policies, a.r.Path)
	if !ok {
		if len(a.s.Policies) == api.MaxPolicies {
			return nil, api.ErrQuota
		}
		a.s.Policies = slices.Insert(a.s.Policies, i, Named{Name: a.r.Path})
	}
	a.s.Policies[i].Text = text
	return nil, nil
}

// thePolicy is the place of the policy that is asked for.
func (a *ask) thePolicy() (int, error) {
	if err := a.policyName(); err != nil {
		return 0, err
	}
	i, ok := findPolicy(a.s.Policies, a.r.Path)
	return i, unless(ok, api.ErrNone)
}

// policyGet tells a policy's text.
func (a *ask) policyGet() ([][]byte, error) {
	i, err := a.thePolicy()
	if err != nil {
		return nil, err
	}
	return [][]byte{[]byte(a.s.Policies[i].Text)}, nil
}

// policyDel takes a policy away.
func (a *ask) policyDel() ([][]byte, error) {
	i, err := a.thePolicy()
	if err != nil {
		return nil, err
	}
	a.s.Policies = slices.Delete(a.s.Policies, i, i+1)
	return nil, nil
}
