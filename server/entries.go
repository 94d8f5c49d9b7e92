package server

import (
	"bytes"
	"cmp"
	"errors"
	"slices"
	"strconv"
	"strings"

	"bursary/api"
	"bursary/audit"
	"bursary/barrier"
	"bursary/chain"
	"bursary/engine"
	"bursary/keyring"
	"bursary/lease"
	"bursary/table"
	"bursary/token"
	"bursary/vault"
)

// How the names of entries that are sealed begin, and that of the log's head.
const (
	policyPrefix = "p/"
	tokenPrefix  = "t/"
	leasePrefix  = "l/"
	secretPrefix = "s/"
	logPrefix    = "a/"
	headName     = "h"
)

// secretsPath is how the paths of secrets begin in a state.
const secretsPath = "kv/"

// maxLog is how many entries the log has at most.
const maxLog = 64

// entry is one of a state's, as it lies in the store when it is opened.
type entry struct {
	name string
	data []byte
}

// logName is the name of an entry of the log.
func logName(n uint64) string {
	digits := strconv.FormatUint(n, 10)
	return logPrefix + strings.Repeat("0", max(0, 6-len(digits))) + digits
}

// entries are those of a state, by their names.
func entries(s vault.State) ([]entry, error) {
	var l []entry
	for _, p := range s.Policies {
		l = append(l, entry{policyPrefix + p.Name, []byte(p.Text)})
	}
	for _, t := range s.Tokens {
		b, err := token.Encode(t)
		if err != nil {
			return nil, err
		}
		l = append(l, entry{tokenPrefix + t.Accessor, b})
	}
	for _, x := range s.Leases {
		b, err := lease.Encode(x)
		if err != nil {
			return nil, err
		}
		l = append(l, entry{leasePrefix + x.ID, b})
	}
	for _, x := range s.Secrets {
		b, err := engine.Encode(x.S)
		if err != nil {
			return nil, err
		}
		l = append(l, entry{secretPrefix + strings.TrimPrefix(x.Path, secretsPath), b})
	}
	slices.SortFunc(l, func(a, b entry) int { return cmp.Compare(a.name, b.name) })
	return l, nil
}

// changes are those that make entries out of others: both are by their names.
func changes(old, next []entry) []barrier.Change {
	var l []barrier.Change
	for len(old) > 0 || len(next) > 0 {
		switch {
		case len(next) == 0 || len(old) > 0 && old[0].name < next[0].name:
			l = append(l, barrier.Change{Del: true, Name: old[0].name})
			old = old[1:]
		case len(old) == 0 || next[0].name < old[0].name:
			l = append(l, barrier.Change{Name: next[0].name, Plain: next[0].data})
			next = next[1:]
		default:
			if !bytes.Equal(old[0].data, next[0].data) {
				l = append(l, barrier.Change{Name: next[0].name, Plain: next[0].data})
			}
			old, next = old[1:], next[1:]
		}
	}
	return l
}

// commit lets a state lie in the store, with a new entry of the log, and others that are not sealed.
func (s *Server) commit(state vault.State, written audit.Entry, more []table.Op) error {
	in := s.in
	line, err := audit.Encode(written)
	if err != nil {
		return err
	}
	head, err := chain.Next(in.audit, in.head, line)
	if err != nil {
		return err
	}
	next, err := entries(state)
	if err != nil {
		return err
	}
	l := append(changes(in.kept, next),
		barrier.Change{Name: logName(written.N), Plain: line},
		barrier.Change{Name: headName, Plain: chain.Encode(head)})
	if err := s.safe(in.Write(l, append([]table.Op{s.clockOp()}, more...))); err != nil {
		return err
	}
	in.state, in.head, in.kept = state, head, next
	return nil
}

// fill takes an entry that was read into the state: an error, if it is none by what stands behind the prefix.
func (in *opened) fill(prefix, rest string, data []byte) error {
	switch prefix {
	case policyPrefix:
		in.state.Policies = append(in.state.Policies, vault.Named{Name: rest, Text: string(data)})
	case tokenPrefix:
		t, err := token.Decode(data)
		if err != nil || t.Accessor != rest {
			return api.ErrIntegrity
		}
		in.state.Tokens = append(in.state.Tokens, t)
	case leasePrefix:
		x, err := lease.Decode(data)
		if err != nil || x.ID != rest {
			return api.ErrIntegrity
		}
		in.state.Leases = append(in.state.Leases, x)
	case secretPrefix:
		x, err := engine.Decode(data)
		if err != nil {
			return err
		}
		in.state.Secrets = append(in.state.Secrets, vault.Stored{Path: secretsPath + rest, S: x})
	}
	in.kept = append(in.kept, entry{prefix + rest, data})
	return nil
}

// load reads all entries of a state, at a time, and the log's head. The log's own are read where they are asked for.
func (in *opened) load(salt []byte, now uint64) error {
	in.state = vault.State{Salt: salt, Now: now}
	for _, prefix := range []string{leasePrefix, policyPrefix, secretPrefix, tokenPrefix} {
		for _, name := range in.Names(prefix) {
			data, err := in.Read(name)
			if err != nil {
				return err
			}
			if err := in.fill(prefix, strings.TrimPrefix(name, prefix), data); err != nil {
				return err
			}
		}
	}
	if err := in.loadHead(); err != nil {
		return err
	}
	return vault.Check(in.state)
}

// loadHead reads the log's head, if there is one yet.
func (in *opened) loadHead() error {
	data, err := in.Read(headName)
	if errors.Is(err, api.ErrNone) {
		return nil
	}
	if err != nil {
		return err
	}
	in.head, err = chain.Decode(data)
	return err
}

// enter is what there is behind a root key and a ring.
func (s *Server) enter(root []byte, r keyring.Ring) (*opened, error) {
	b, err := barrier.Open(s.store, r, s.limit)
	if err != nil {
		return nil, err
	}
	in := &opened{Barrier: b, root: root}
	if in.audit, err = keyring.Use(r.L[0], "audit"); err != nil {
		return nil, err
	}
	salt, err := keyring.Use(r.L[0], "token")
	if err != nil {
		return nil, err
	}
	if err := in.load(salt, s.now); err != nil {
		return nil, api.ErrIntegrity
	}
	in.state = vault.Tick(in.state, 0)
	return in, nil
}
