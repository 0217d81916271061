package spec

import (
	"crypto/sha256"
	"encoding/binary"
	"math"
	"math/big"
	"slices"

	"proctor/api"
)

// The second judge: the chapter's words once more, with a rule that is written anew (bytes read by hand, numbers that can't wrap, the library's SHA-256) and no fold.

const (
	most   = math.MaxUint64
	supply = 1 << 62
)

// told is all that is to be told of a state and a list: the states after 0, 1, .., all messages, what did something, what came in and went out.
type told struct {
	states  []api.State
	did     []bool
	in, out *big.Int
}

func number(n uint64) *big.Int { return new(big.Int).SetUint64(n) }

// wrapped is a number modulo 2^64.
func wrapped(n *big.Int) uint64 {
	return new(big.Int).Mod(n, new(big.Int).Lsh(big.NewInt(1), 64)).Uint64()
}

// together is all balances of a state.
func together(s api.State) *big.Int {
	sum := new(big.Int)
	for _, a := range s.Accounts {
		sum.Add(sum, number(a.Balance))
	}
	return sum
}

func mayBe(s api.State) bool {
	return len(s.Outs) <= 32 && together(s).Cmp(number(supply)) <= 0
}

// messageOf is the message that may be of some bytes.
func messageOf(b []byte) (api.Msg, bool) {
	if len(b) != 104 {
		return api.Msg{}, false
	}
	n := func(i int) uint64 { return binary.BigEndian.Uint64(b[8*i:]) }
	m := api.Msg{Kind: api.MsgKind(b[7]), From: n(1), To: n(2), Amount: n(3), Nonce: n(4), Key: api.Hash(b[40:72]), Next: api.Hash(b[72:])}
	switch n(0) {
	case 1:
		return m, m == api.Msg{Kind: 1, To: m.To, Amount: m.Amount} && m.To <= 31 && m.Amount >= 1
	case 2:
		return m, m.From <= 31 && m.To <= 31
	case 3:
		return m, m.From <= 31 && m.Amount >= 1
	}
	return m, false
}

// bytesOf is the bytes of a message, whether it may be or not.
func bytesOf(m api.Msg) []byte {
	var b []byte
	for _, n := range []uint64{uint64(m.Kind), m.From, m.To, m.Amount, m.Nonce} {
		b = binary.BigEndian.AppendUint64(b, n)
	}
	return slices.Concat(b, m.Key[:], m.Next[:])
}

// done does a message that may be to a state that may be, or nothing.
func done(s *api.State, m api.Msg) bool {
	a := &s.Accounts[m.From]
	if m.Kind == api.MDeposit {
		sum := together(*s)
		if sum.Add(sum, number(m.Amount)).Cmp(number(supply)) > 0 {
			return false
		}
		s.Accounts[m.To].Balance += m.Amount
		return true
	}
	if m.Nonce != a.Nonce || a.Nonce == most || sha256.Sum256(m.Key[:]) != a.Lock || m.Amount > a.Balance {
		return false
	}
	if m.Kind == api.MWithdraw {
		if len(s.Outs) == 32 {
			return false
		}
		s.Outs = append(s.Outs, api.Out{To: m.To, Amount: m.Amount})
	}
	*a = api.Account{Balance: a.Balance - m.Amount, Nonce: a.Nonce + 1, Lock: m.Next}
	if m.Kind == api.MTransfer {
		s.Accounts[m.To].Balance += m.Amount
	}
	return true
}

// judge tells all of a state that may be.
func judge(s api.State, l [][]byte) told {
	at := copyOf(s)
	all := told{states: []api.State{copyOf(at)}, in: new(big.Int), out: new(big.Int)}
	for _, b := range l {
		m, ok := messageOf(b)
		did := ok && done(&at, m)
		if did && m.Kind == api.MDeposit {
			all.in.Add(all.in, number(m.Amount))
		}
		if did && m.Kind == api.MWithdraw {
			all.out.Add(all.out, number(m.Amount))
		}
		all.did = append(all.did, did)
		all.states = append(all.states, copyOf(at))
	}
	return all
}

func copyOf(s api.State) api.State {
	return api.State{Accounts: s.Accounts, Outs: slices.Clone(s.Outs)}
}
