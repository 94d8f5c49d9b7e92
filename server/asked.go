package server

import (
	"bursary/api"
	"bursary/ceremony"
	"bursary/chain"
	"bursary/progress"
	"bursary/request"
	"bursary/shamir"
	"bursary/table"
	"bursary/vault"
)

// outcome is what comes of a request that somebody asked.
type outcome struct {
	fields [][]byte
	taken  int
	more   []table.Op // what is committed beside the state, not sealed
	then   func()     // what is done as soon as the commit is done, if it is not nil
}

// asked does what somebody asks: the log tells it, whether it is answered with 0 or not.
func (s *Server) asked(r request.Request, draws []byte) ([][]byte, int, error) {
	if err := s.usable(); err != nil {
		return nil, 0, err
	}
	ahead := s.in.state
	state, answer, taken := vault.Do(ahead, r, draws)
	who, err := vault.Who(ahead, r.Token)
	if err != nil {
		return nil, 0, api.Errno(answer.Code)
	}
	if s.in.head.N >= maxLog {
		return nil, 0, api.ErrLog
	}
	out := outcome{fields: answer.Fields, taken: taken}
	var refused error
	if answer.Code != 0 {
		refused = api.Errno(answer.Code)
	} else if isNext(r.Op) {
		out, refused = s.next(r, draws)
	}
	if refused != nil {
		state = ahead
	}
	if err := s.record(state, who.Accessor, r, code(refused), out.more); err != nil {
		return nil, 0, err
	}
	if out.then != nil {
		out.then()
	}
	return out.fields, out.taken, refused
}

// isNext tells whether the server has something to do that the vault can't.
func isNext(op int) bool {
	switch op {
	case request.Seal, request.AuditHead, request.Rotate, request.RekeyStart, request.RekeyShare, request.RekeyCancel:
		return true
	}
	return false
}

// next does what the vault can't. Beside an error it may tell what is done behind the commit.
func (s *Server) next(r request.Request, draws []byte) (outcome, error) {
	switch r.Op {
	case request.Seal:
		return outcome{then: s.seal}, nil
	case request.AuditHead:
		return outcome{fields: [][]byte{chain.Encode(s.in.head)}}, nil
	case request.Rotate:
		return s.rotate(draws)
	case request.RekeyStart:
		return s.rekeyStart(r, draws)
	case request.RekeyShare:
		return s.rekeyShare(r, draws)
	}
	return s.rekeyCancel()
}

// seal lets the server not be open any more.
func (s *Server) seal() {
	s.in = nil
	s.unseal = progress.Reset(s.unseal)
	if s.granted != nil {
		without := progress.Reset(*s.granted)
		s.granted = &without
	}
	if s.rekey != nil {
		s.rekey = s.rekey.with(progress.Reset(s.rekey.progress))
	}
}

// with are parts for parts made anew, others in their place.
func (k *rekeying) with(p progress.Progress) *rekeying { return &rekeying{progress: p, k: k.k, n: k.n} }

// rotate lets the ring have a term more.
func (s *Server) rotate(draws []byte) (outcome, error) {
	m, ring, err := ceremony.Rotate(ceremony.Made{}, s.in.root, s.in.Ring(), draws)
	if err != nil {
		return outcome{}, err
	}
	if err := s.safe(s.in.Turn(ring, []table.Op{{Name: ringName, Data: m.Ring}})); err != nil {
		return outcome{}, err
	}
	return outcome{taken: termDraws}, nil
}

// isPlan tells whether a plan may be one of a ceremony.
func isPlan(k, n int) bool { return shamir.Check(shamir.Plan{K: k, N: n}) == nil && n <= ceremony.Most }

// rekeyStart begins to take parts for parts made anew.
func (s *Server) rekeyStart(r request.Request, draws []byte) (outcome, error) {
	k, n, err := plan(r)
	if err != nil {
		return outcome{}, err
	}
	if !isPlan(k, n) {
		return outcome{}, api.ErrArg
	}
	p, err := s.started(draws)
	if err != nil {
		return outcome{}, err
	}
	then := func() { s.rekey = &rekeying{progress: p, k: k, n: n} }
	return outcome{fields: [][]byte{[]byte(p.Mark)}, taken: markDraws, then: then}, nil
}

// rekeyShare takes a part for parts made anew; with enough of them there are such.
func (s *Server) rekeyShare(r request.Request, draws []byte) (outcome, error) {
	if s.rekey == nil {
		return outcome{}, api.ErrState
	}
	next, enough, err := submitted(s.rekey.progress, r)
	if err != nil {
		return outcome{}, err
	}
	if !enough {
		then := func() { s.rekey = s.rekey.with(next) }
		return outcome{fields: howMany(len(next.L)), then: then}, nil
	}
	root, _, err := s.unlocked(next.L)
	if err != nil {
		return outcome{then: func() { s.rekey = s.rekey.with(progress.Reset(next)) }}, err
	}
	m, err := ceremony.Rekey(s.table, ceremony.Made{Config: s.config}, root, s.rekey.k, s.rekey.n, draws)
	if err != nil {
		return outcome{}, err
	}
	return s.rekeyed(m)
}

// rekeyed are the new parts of a vault: those ahead open it no more as soon as it is committed.
func (s *Server) rekeyed(m ceremony.Made) (outcome, error) {
	fields, err := handedOut(m.Shares)
	if err != nil {
		return outcome{}, err
	}
	ops, err := madeOps(m)
	if err != nil {
		return outcome{}, err
	}
	fresh, err := progress.Start(m.Config.Plan, "")
	if err != nil {
		return outcome{}, err
	}
	_, need := ceremony.Need(m.Config.Plan.K)
	then := func() {
		s.config, s.unseal = m.Config, fresh
		s.rekey, s.granted = nil, nil
	}
	return outcome{fields: fields, taken: need, more: ops, then: then}, nil
}

// rekeyCancel takes no more parts for parts made anew.
func (s *Server) rekeyCancel() (outcome, error) {
	if s.rekey == nil {
		return outcome{}, api.ErrState
	}
	return outcome{then: func() { s.rekey = nil }}, nil
}
