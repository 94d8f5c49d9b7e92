package server

import (
	"errors"
	"math"

	"bursary/api"
	"bursary/audit"
	"bursary/ceremony"
	"bursary/config"
	"bursary/keyring"
	"bursary/packed"
	"bursary/progress"
	"bursary/request"
	"bursary/shamir"
	"bursary/sharecode"
	"bursary/table"
	"bursary/vault"
	"bursary/wire"
)

// How many drawn bytes are taken for a mark, for a root token, and for a term.
const (
	markDraws  = 4
	tokenDraws = 22
	termDraws  = 32
)

// code is an error's number.
func code(err error) int {
	var e api.Errno
	if errors.As(err, &e) {
		return int(e)
	}
	return 0
}

// Step is what a request is answered, and how many drawn bytes it took.
func (s *Server) Step(b, draws []byte) ([]byte, int) {
	if s == nil {
		return nil, 0
	}
	fields, taken, err := s.step(b, draws)
	if err == nil {
		answer, long := request.Answer(request.Response{Fields: fields})
		if long == nil {
			return answer, taken
		}
		err = long
	}
	// An answer of a code alone is always one.
	answer, _ := request.Answer(request.Response{Code: code(err)})
	return answer, 0
}

// step is what is answered with 0, and how many drawn bytes it took; or an error.
func (s *Server) step(b, draws []byte) ([][]byte, int, error) {
	if s.dead {
		return nil, 0, api.ErrDown
	}
	r, err := request.Decode(b)
	if err != nil {
		return nil, 0, err
	}
	if !request.Open(r.Op) {
		return s.asked(r, draws)
	}
	if r.Path != "" {
		return nil, 0, api.ErrForm
	}
	switch r.Op {
	case request.Init:
		return s.initialize(r, draws)
	case request.Unseal:
		return s.handIn(r)
	case request.RootStart:
		return s.rootStart(draws)
	case request.RootShare:
		return s.rootShare(r, draws)
	case request.RootCancel:
		return s.rootCancel()
	}
	return s.status(), 0, nil
}

// flag is a bool as a field.
func flag(b bool) []byte {
	if b {
		return []byte{1}
	}
	return []byte{0}
}

// status tells how the server is.
func (s *Server) status() [][]byte {
	p := s.config.Plan
	return [][]byte{flag(s.ready), flag(s.in == nil), {byte(p.K)}, {byte(p.N)}, {byte(len(s.unseal.L))}}
}

// plan are the two numbers that a request asks for: how many parts are needed, of how many.
func plan(r request.Request) (int, int, error) {
	k, err := wire.Read(r.Args[0])
	if err != nil {
		return 0, 0, err
	}
	n, err := wire.Read(r.Args[1])
	if err != nil {
		return 0, 0, err
	}
	if k > math.MaxUint8 || n > math.MaxUint8 {
		return 0, 0, api.ErrArg
	}
	return int(k), int(n), nil
}

// handedOut are parts as fields.
func handedOut(l []shamir.Share) ([][]byte, error) {
	var fields [][]byte
	for _, x := range l {
		b, err := sharecode.Encode(x)
		if err != nil {
			return nil, err
		}
		fields = append(fields, b)
	}
	return fields, nil
}

// madeOps write down what changes with the parts of a vault.
func madeOps(m ceremony.Made) ([]table.Op, error) {
	c, err := config.Encode(m.Config)
	if err != nil {
		return nil, err
	}
	return []table.Op{{Name: configName, Data: c}, {Name: envelopeName, Data: m.Envelope}}, nil
}

// initialize makes the vault.
func (s *Server) initialize(r request.Request, draws []byte) ([][]byte, int, error) {
	if s.ready {
		return nil, 0, api.ErrInit
	}
	k, n, err := plan(r)
	if err != nil {
		return nil, 0, err
	}
	m, err := ceremony.Init(s.table, k, n, draws)
	if err != nil {
		return nil, 0, err
	}
	fields, err := handedOut(m.Shares)
	if err != nil {
		return nil, 0, err
	}
	ops, err := madeOps(m)
	if err != nil {
		return nil, 0, err
	}
	ops = append(ops, table.Op{Name: ringName, Data: m.Ring}, s.clockOp())
	if err := s.safe(s.store.Commit(ops)); err != nil {
		return nil, 0, err
	}
	need, _ := ceremony.Need(k)
	return fields, need, s.follow(m.Config)
}

// unlocked are the root key and the ring that parts open.
func (s *Server) unlocked(parts []shamir.Share) ([]byte, keyring.Ring, error) {
	m := ceremony.Made{Config: s.config, Shares: parts}
	var err error
	if m.Envelope, err = s.store.Get(envelopeName); err != nil {
		return nil, keyring.Ring{}, err
	}
	if m.Ring, err = s.store.Get(ringName); err != nil {
		return nil, keyring.Ring{}, err
	}
	return ceremony.Open(s.table, m)
}

// howMany is a number as the only field.
func howMany(n int) [][]byte { return [][]byte{wire.Number(uint64(n))} }

// handIn takes a part for the vault to be opened; with enough of them it is.
func (s *Server) handIn(r request.Request) ([][]byte, int, error) {
	if !s.ready {
		return nil, 0, api.ErrInit
	}
	if s.in != nil {
		return nil, 0, api.ErrOpen
	}
	part, err := sharecode.Decode(r.Args[0])
	if err != nil {
		return nil, 0, err
	}
	next, enough, err := progress.Submit(s.unseal, "", part)
	if err != nil {
		return nil, 0, err
	}
	if !enough {
		s.unseal = next
		return howMany(len(next.L)), 0, nil
	}
	s.unseal = progress.Reset(s.unseal)
	root, ring, err := s.unlocked(next.L)
	if err != nil {
		return nil, 0, err
	}
	in, err := s.enter(root, ring)
	if err != nil {
		return nil, 0, err
	}
	s.in = in
	return howMany(len(next.L)), 0, nil
}

// usable is an error, unless the server is ready, and open.
func (s *Server) usable() error {
	if !s.ready {
		return api.ErrInit
	}
	if s.in == nil {
		return api.ErrSealed
	}
	return nil
}

// started is a progress of the plan, whose mark is drawn.
func (s *Server) started(draws []byte) (progress.Progress, error) {
	if len(draws) < markDraws {
		return progress.Progress{}, api.ErrShort
	}
	return progress.Start(s.config.Plan, packed.Hex(draws[:markDraws]))
}

// rootStart begins to take parts for a root token.
func (s *Server) rootStart(draws []byte) ([][]byte, int, error) {
	if err := s.usable(); err != nil {
		return nil, 0, err
	}
	p, err := s.started(draws)
	if err != nil {
		return nil, 0, err
	}
	s.granted = &p
	return [][]byte{[]byte(p.Mark)}, markDraws, nil
}

// rooted is an error, unless parts for a root token are taken.
func (s *Server) rooted() error {
	if err := s.usable(); err != nil {
		return err
	}
	if s.granted == nil {
		return api.ErrState
	}
	return nil
}

// submitted is a progress behind a part that a request hands in with its mark: whether there are enough then.
func submitted(p progress.Progress, r request.Request) (progress.Progress, bool, error) {
	part, err := sharecode.Decode(r.Args[1])
	if err != nil {
		return progress.Progress{}, false, err
	}
	return progress.Submit(p, string(r.Args[0]), part)
}

// rootShare takes a part for a root token; with enough of them there is one.
func (s *Server) rootShare(r request.Request, draws []byte) ([][]byte, int, error) {
	if err := s.rooted(); err != nil {
		return nil, 0, err
	}
	next, enough, err := submitted(*s.granted, r)
	if err != nil {
		return nil, 0, err
	}
	if !enough {
		s.granted = &next
		return howMany(len(next.L)), 0, nil
	}
	if _, _, err := s.unlocked(next.L); err != nil {
		without := progress.Reset(next)
		s.granted = &without
		return nil, 0, err
	}
	state, secret, accessor, err := vault.Grant(s.in.state, draws)
	if err != nil {
		return nil, 0, err
	}
	if err := s.record(state, "", r, 0, nil); err != nil {
		return nil, 0, err
	}
	s.granted = nil
	return [][]byte{[]byte(secret), []byte(accessor)}, tokenDraws, nil
}

// record commits a state, with the entry of a request, that is answered with a code.
func (s *Server) record(state vault.State, accessor string, r request.Request, answered int, more []table.Op) error {
	if s.in.head.N >= maxLog {
		return api.ErrLog
	}
	written, err := audit.Make(s.in.audit, s.in.head.N+1, s.now, accessor, r, answered)
	if err != nil {
		return err
	}
	return s.commit(state, written, more)
}

// rootCancel takes no more parts for a root token.
func (s *Server) rootCancel() ([][]byte, int, error) {
	if err := s.rooted(); err != nil {
		return nil, 0, err
	}
	s.granted = nil
	return nil, 0, nil
}
