package token

import (
	"bursary/api"
	"bursary/packed"
)

// mark is how a token begins, as bytes.
const mark = "tk"

// Encode is a token as bytes; Decode the token of bytes.
func Encode(t Token) ([]byte, error) {
	if !mayBe(t) {
		return nil, api.ErrArg
	}
	b := packed.Join([]byte(mark), t.Sum[:], packed.Text(t.Accessor), packed.Text(t.Parent), packed.Number(uint64(len(t.Policies)), 1))
	for _, p := range t.Policies {
		b = append(b, packed.Text(p)...)
	}
	return packed.Join(b, packed.Number(t.Until, 8), packed.Number(t.Most, 8), packed.Number(uint64(t.Uses), 2)), nil
}

// Decode is the token of bytes.
func Decode(b []byte) (Token, error) {
	r := packed.Read(b)
	r.Mark(mark)
	var t Token
	t.Sum = [32]byte(r.Take(32))
	t.Accessor = r.Text()
	t.Parent = r.Text()
	for range r.Number(1) {
		t.Policies = append(t.Policies, r.Text())
	}
	t.Until = r.Number(8)
	t.Most = r.Number(8)
	t.Uses = int(r.Number(2))
	if !r.Done() || !mayBe(t) {
		return Token{}, api.ErrForm
	}
	return t, nil
}
