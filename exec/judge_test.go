package exec

import (
	"crypto/sha256"
	"encoding/binary"
	"math"
	"math/big"
	"slices"

	"proctor/api"
)

// The second judge: the chapter's words once more, with bytes read by hand, numbers that can't wrap, and the library's SHA-256.

const (
	most   = math.MaxUint64
	supply = 1 << 62
)

// verdict is what bytes do to a state, or why they do nothing.
type verdict string

const (
	noState     verdict = "the state may not be"
	noMessage   verdict = "the bytes are no message"
	aboveSupply verdict = "more than Supply"
	otherNonce  verdict = "another Nonce"
	otherKey    verdict = "another Key"
	tooLittle   verdict = "more than the Balance"
	lastNonce   verdict = "the last Nonce"
	tooMany     verdict = "32 withdrawals"
	deposited   verdict = "deposited"
	transferred verdict = "transferred"
	withdrawn   verdict = "withdrawn"
)

// did says whether bytes with this verdict do something.
func (v verdict) did() bool { return v == deposited || v == transferred || v == withdrawn }

func number(n uint64) *big.Int { return new(big.Int).SetUint64(n) }

// together is all balances of a state, and what is put to them.
func together(s api.State, more uint64) *big.Int {
	sum := number(more)
	for _, a := range s.Accounts {
		sum.Add(sum, number(a.Balance))
	}
	return sum
}

func mayBe(s api.State) bool {
	return len(s.Outs) <= 32 && together(s, 0).Cmp(number(supply)) <= 0
}

// messageOf is the message that may be of some bytes.
func messageOf(b []byte) (api.Msg, bool) {
	if len(b) != 104 {
		return api.Msg{}, false
	}
	n := func(i int) uint64 { return binary.BigEndian.Uint64(b[8*i:]) }
	m := api.Msg{Kind: api.MsgKind(b[7]), From: n(1), To: n(2), Amount: n(3), Nonce: n(4), Key: api.Hash(b[40:72]), Next: api.Hash(b[72:])}
	switch n(0) {
	case 1:
		return m, m == api.Msg{Kind: 1, To: m.To, Amount: m.Amount} && m.To <= 31 && m.Amount >= 1
	case 2:
		return m, m.From <= 31 && m.To <= 31
	case 3:
		return m, m.From <= 31 && m.Amount >= 1
	}
	return m, false
}

// bytesOf is the bytes of a message, whether it may be or not.
func bytesOf(m api.Msg) []byte {
	var b []byte
	for _, n := range []uint64{uint64(m.Kind), m.From, m.To, m.Amount, m.Nonce} {
		b = binary.BigEndian.AppendUint64(b, n)
	}
	return slices.Concat(b, m.Key[:], m.Next[:])
}

// opened says whether a message opens an account.
func opened(a api.Account, m api.Msg) bool {
	return a.Nonce == m.Nonce && a.Lock == sha256.Sum256(m.Key[:])
}

// refusal is why a message that may be does nothing, if so.
func refusal(s api.State, m api.Msg) (verdict, bool) {
	a := s.Accounts[m.From]
	switch {
	case m.Kind == api.MDeposit:
		return aboveSupply, together(s, m.Amount).Cmp(number(supply)) > 0
	case a.Nonce != m.Nonce:
		return otherNonce, true
	case !opened(a, m):
		return otherKey, true
	case number(m.Amount).Cmp(number(a.Balance)) > 0:
		return tooLittle, true
	case number(a.Nonce).Cmp(number(most)) == 0:
		return lastNonce, true
	}
	return tooMany, m.Kind == api.MWithdraw && len(s.Outs) == 32
}

// judge is the state behind some bytes (a zero one, if s may not be), and the verdict.
func judge(s api.State, b []byte) (api.State, verdict) {
	if !mayBe(s) {
		return api.State{}, noState
	}
	t := api.State{Accounts: s.Accounts, Outs: slices.Clone(s.Outs)}
	m, ok := messageOf(b)
	if !ok {
		return t, noMessage
	}
	if why, refused := refusal(s, m); refused {
		return t, why
	}
	if m.Kind != api.MDeposit {
		a := s.Accounts[m.From]
		t.Accounts[m.From] = api.Account{Balance: a.Balance - m.Amount, Nonce: a.Nonce + 1, Lock: m.Next}
	}
	if m.Kind == api.MWithdraw {
		t.Outs = append(t.Outs, api.Out{To: m.To, Amount: m.Amount})
		return t, withdrawn
	}
	t.Accounts[m.To].Balance += m.Amount
	if m.Kind == api.MDeposit {
		return t, deposited
	}
	return t, transferred
}

// gained is what bytes bring in and take out.
func gained(b []byte) (in, out uint64) {
	m, ok := messageOf(b)
	if ok && m.Kind == api.MDeposit {
		in = m.Amount
	}
	if ok && m.Kind == api.MWithdraw {
		out = m.Amount
	}
	return in, out
}
