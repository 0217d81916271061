package stf

import (
	"math/rand"
	"slices"
	"testing"

	"proctor/api"
	"proctor/state"
)

// of is a message's bytes behind some changes.
func of(m api.Msg, changes ...func(m *api.Msg)) []byte {
	for _, change := range changes {
		change(&m)
	}
	return bytesOf(m)
}

// pay, draw and bring are messages of each Kind that do something to a state of rich.
func pay(from, to uint64) api.Msg {
	return api.Msg{Kind: api.MTransfer, From: from, To: to, Amount: 7, Nonce: from, Key: key(int(from)), Next: lock(77)}
}

func draw(from, to uint64) api.Msg {
	m := pay(from, to)
	m.Kind = api.MWithdraw
	return m
}

func bring(to uint64) api.Msg { return api.Msg{Kind: api.MDeposit, To: to, Amount: 7} }

// doneBy is the verdict of a message that does something.
func doneBy(k api.MsgKind) verdict {
	return [...]verdict{api.MDeposit: deposited, api.MTransfer: transferred, api.MWithdraw: withdrawn}[k]
}

// P17.2: each account pays to each other one, and to itself.
func TestAllPairs(t *testing.T) {
	b, s := newBench(t), rich(2)
	for from := range uint64(32) {
		for to := range uint64(32) {
			b.wantVerdict(t, s, of(pay(from, to)), transferred)
		}
		b.wantVerdict(t, s, of(draw(from, from)), withdrawn)
		b.wantVerdict(t, s, of(bring(from)), deposited)
	}
}

// strangers is numbers of which no account is one; some have the lowest bits of one.
func strangers() []uint64 {
	return []uint64{32, 33, 63, 64, 128, 256, 1<<31 + 3, 1 << 32, 1<<32 + 31, 1 << 59, 1 << 63, 1<<63 + 1, most - 31, most}
}

// P17.2: of an account beyond the range there is no message; a withdrawal goes to any address.
func TestAccountsBeyondTheRange(t *testing.T) {
	b, s := newBench(t), rich(2)
	for _, n := range strangers() {
		b.wantVerdict(t, s, of(bring(n)), noMessage)
		for _, at := range []uint64{0, 31} {
			b.wantVerdict(t, s, of(pay(at, n)), noMessage)
			b.wantVerdict(t, s, of(draw(at, n)), withdrawn)
			for _, m := range []api.Msg{pay(at, 5), draw(at, 5)} {
				b.wantVerdict(t, s, of(m, func(m *api.Msg) { m.From = n }), noMessage)
			}
			b.wantVerdict(t, s, of(pay(at, n), func(m *api.Msg) { m.From = n }), noMessage)
		}
	}
}

// P17.2: amounts of nothing, of all that is there, of one more, and so great ones that a sum would wrap, to another account, to the same one, and out.
func TestAmountsThatArePaid(t *testing.T) {
	b := newBench(t)
	for _, balance := range []uint64{0, 1, 10, 1 << 40, supply - 5} {
		s := api.State{}
		s.Accounts[9] = api.Account{Balance: balance, Nonce: 9, Lock: lock(9)}
		s.Accounts[12].Balance = 5
		for _, amount := range []uint64{0, 1, balance - 1, balance, balance + 1, supply, 1 << 63, most - balance, most - balance + 1, most - 4, most} {
			want := func(m api.Msg, done verdict) {
				t.Helper()
				if amount > balance {
					done = tooLittle
				}
				if amount == 0 && m.Kind == api.MWithdraw {
					done = noMessage
				}
				b.wantVerdict(t, s, of(m, func(m *api.Msg) { m.Amount = amount }), done)
			}
			want(pay(9, 12), transferred)
			want(pay(9, 9), transferred)
			want(draw(9, 12), withdrawn)
		}
	}
}

// P17.2: a deposit is done just if all balances and it together are at most Supply, wherever these stand and whatever would wrap.
func TestAmountsThatAreBrought(t *testing.T) {
	b := newBench(t)
	spread := rich(4)
	equal := api.State{}
	for i := range equal.Accounts {
		equal.Accounts[i].Balance = supply / 32
	}
	for _, s := range []api.State{{}, spread, equal, greatest()} {
		total, _ := state.Total(s)
		left := supply - total
		for _, amount := range []uint64{0, 1, left - 1, left, left + 1, supply, supply + 1, 1 << 63, most - total, most - total + 1, most - total + 2, most} {
			done := deposited
			if amount > left {
				done = aboveSupply
			}
			if amount == 0 {
				done = noMessage
			}
			for _, to := range []uint64{0, 17, 31} {
				b.wantVerdict(t, s, of(bring(to), func(m *api.Msg) { m.Amount = amount }), done)
			}
		}
	}
}

// P17.2: of a deposit each account's balance counts.
func TestEachBalanceCounts(t *testing.T) {
	b := newBench(t)
	for i := range 32 {
		s := rich(0)
		for j := range s.Accounts {
			s.Accounts[j].Balance = 0
		}
		s.Accounts[i].Balance = supply - 7
		b.wantVerdict(t, s, of(bring(uint64(31-i))), deposited)
		s.Accounts[i].Balance++
		b.wantVerdict(t, s, of(bring(uint64(31-i))), aboveSupply)
	}
}

// spenders is a message of each Kind that an account sends.
func spenders() []api.Msg { return []api.Msg{pay(6, 19), pay(6, 6), draw(6, 19)} }

// P17.2: a Key that differs in any of its bytes opens nothing; nor does one whose sum differs from the Lock in any byte.
func TestKeysAndLocks(t *testing.T) {
	b := newBench(t)
	for _, m := range spenders() {
		b.wantVerdict(t, rich(2), of(m), doneBy(m.Kind))
		for i := range 32 {
			for _, change := range []byte{1, 0x80, 0xff} {
				b.wantVerdict(t, rich(2), of(m, func(m *api.Msg) { m.Key[i] ^= change }), otherKey)
				s := rich(2)
				s.Accounts[6].Lock[i] ^= change
				b.wantVerdict(t, s, of(m), otherKey)
			}
		}
		b.wantVerdict(t, rich(2), of(m, func(m *api.Msg) { m.Key = key(7) }), otherKey)
		b.wantVerdict(t, rich(2), of(m, func(m *api.Msg) { m.Key = lock(6) }), otherKey)
		b.wantVerdict(t, rich(2), of(m, func(m *api.Msg) { m.Key, m.Next = m.Next, m.Key }), otherKey)
	}
}

// P17.2: a Lock that is noughts, that is the Key itself, that is the Key's sum with words at other places; a Key of noughts.
func TestLocksThatNearlyFit(t *testing.T) {
	b := newBench(t)
	for _, m := range spenders() {
		fit := lock(6)
		turned := api.Hash(slices.Concat(fit[8:], fit[:8]))
		for _, l := range []api.Hash{{}, key(6), turned, api.Hash(slices.Concat(fit[16:], fit[:16]))} {
			s := rich(2)
			s.Accounts[6].Lock = l
			b.wantVerdict(t, s, of(m), otherKey)
			b.wantVerdict(t, s, of(m, func(m *api.Msg) { m.Key = api.Hash{} }), otherKey)
		}
		s := rich(2)
		s.Accounts[6].Lock = sumOf(string(make([]byte, 32)))
		b.wantVerdict(t, s, of(m, func(m *api.Msg) { m.Key = api.Hash{} }), doneBy(m.Kind))
		b.wantVerdict(t, s, of(m), otherKey)
		for _, next := range sums() {
			b.wantVerdict(t, rich(2), of(m, func(m *api.Msg) { m.Next = next }), doneBy(m.Kind))
		}
	}
}

// P17.2: a Nonce is the account's or not; the last one does nothing.
func TestNonces(t *testing.T) {
	b := newBench(t)
	for _, m := range spenders() {
		for _, nonce := range []uint64{0, 1, 255, 1<<32 - 1, 1 << 32, 1 << 63, most - 1, most} {
			s := rich(2)
			s.Accounts[6].Nonce = nonce
			for _, given := range []uint64{nonce, nonce + 1, nonce - 1, nonce ^ 1<<63, nonce ^ 1<<32, 0, most} {
				want := doneBy(m.Kind)
				if nonce == most {
					want = lastNonce
				}
				if given != nonce {
					want = otherNonce
				}
				b.wantVerdict(t, s, of(m, func(m *api.Msg) { m.Nonce = given }), want)
			}
		}
	}
}

// P17.2: a withdrawal stands behind all others, if there are fewer than 32; the other Kinds don't ask.
func TestWithdrawals(t *testing.T) {
	b := newBench(t)
	for outs := range 33 {
		s, want := rich(outs), withdrawn
		if outs == 32 {
			want = tooMany
		}
		b.wantVerdict(t, s, of(draw(8, 1<<60)), want)
		b.wantVerdict(t, s, of(draw(31, most)), want)
		b.wantVerdict(t, s, of(pay(8, 3)), transferred)
		b.wantVerdict(t, s, of(bring(8)), deposited)
		s.Outs = make([]api.Out, outs) // withdrawals of noughts alone
		b.wantVerdict(t, s, of(draw(0, 0)), want)
	}
}

// P17.2: bytes of no message's length do nothing: none, one, each length up to two more than a message has, as many as may be.
func TestLengths(t *testing.T) {
	b, s := newBench(t), rich(3)
	for _, m := range []api.Msg{pay(6, 19), draw(6, 19), bring(19)} {
		whole := of(m)
		for n := range len(whole) {
			b.wantVerdict(t, s, whole[:n], noMessage)
			b.wantVerdict(t, s, whole[n+1:], noMessage)
		}
		for more := range 12 {
			b.want(t, s, append(slices.Clone(whole), make([]byte, more)...))
			b.want(t, s, append(make([]byte, more), whole...))
		}
		for _, n := range []int{208, 1 << 10, api.MaxBytes - 1, api.MaxBytes} {
			b.wantVerdict(t, s, slices.Repeat(whole, n/104+1)[:n], noMessage)
			b.wantVerdict(t, s, append(slices.Clone(whole), make([]byte, n-104)...), noMessage)
		}
	}
	for n := range 107 {
		b.wantVerdict(t, s, make([]byte, n), noMessage)
		b.wantVerdict(t, s, slices.Repeat([]byte{255}, n), noMessage)
		b.wantVerdict(t, s, slices.Repeat([]byte{1}, n), noMessage)
	}
	b.wantVerdict(t, s, nil, noMessage)
	b.wantVerdict(t, s, make([]byte, api.MaxBytes), noMessage)
}

// P17.2: a message with each of its bytes in turn changed.
func TestEachByteChanged(t *testing.T) {
	b, s := newBench(t), rich(3)
	done := map[verdict]int{}
	for _, m := range []api.Msg{pay(6, 19), pay(6, 6), draw(6, 19), bring(19)} {
		for i := range 104 {
			for _, change := range []byte{1, 2, 0x20, 0x80, 0xff} {
				bytes := of(m)
				bytes[i] ^= change
				done[b.want(t, s, bytes)]++
			}
		}
	}
	for _, v := range []verdict{noMessage, aboveSupply, otherNonce, otherKey, tooLittle, deposited, transferred, withdrawn} {
		if done[v] == 0 {
			t.Errorf("nothing of it: %s", v)
		}
	}
}

// P17.2: a Kind that there is not, with all that other Kinds ask; a number whose lowest byte is a Kind.
func TestKinds(t *testing.T) {
	b, s := newBench(t), rich(3)
	for _, m := range []api.Msg{pay(6, 19), draw(6, 19), bring(19), {}} {
		for kind := range 256 {
			bytes := of(m)
			bytes[7] = byte(kind)
			b.want(t, s, bytes)
		}
		for i := range 7 {
			bytes := of(m)
			bytes[i] = 1
			b.wantVerdict(t, s, bytes, noMessage)
		}
	}
}

// P17.2: what a Kind does not name is zero, or there is no such message.
func TestUnnamedFields(t *testing.T) {
	b, s := newBench(t), rich(3)
	b.wantVerdict(t, s, of(bring(19)), deposited)
	for i := 8; i < 104; i++ {
		if 16 <= i && i < 32 { // To and Amount
			continue
		}
		for _, x := range []byte{1, 0x80} {
			bytes := of(bring(19))
			bytes[i] = x
			b.wantVerdict(t, s, bytes, noMessage)
		}
	}
	full := bring(19)
	full.From, full.Nonce, full.Key, full.Next = 19, 19, key(19), lock(19)
	b.wantVerdict(t, s, of(full), noMessage)
}

// P17.2: each condition falls alone, at each end of the range, in a state with as many withdrawals as may be and with none.
func TestEachConditionAlone(t *testing.T) {
	b := newBench(t)
	for _, at := range []uint64{0, 31} {
		for _, outs := range []int{0, 31, 32} {
			s := rich(outs)
			for _, m := range []api.Msg{pay(at, 31-at), pay(at, at), draw(at, 31-at)} {
				want := func(v verdict, change func(m *api.Msg)) {
					t.Helper()
					if v == doneBy(m.Kind) && m.Kind == api.MWithdraw && outs == 32 {
						v = tooMany
					}
					b.wantVerdict(t, s, of(m, change), v)
				}
				want(doneBy(m.Kind), func(m *api.Msg) {})
				want(doneBy(m.Kind), func(m *api.Msg) { m.Amount = 1000 + at })
				want(tooLittle, func(m *api.Msg) { m.Amount = 1001 + at })
				want(otherNonce, func(m *api.Msg) { m.Nonce++ })
				want(otherKey, func(m *api.Msg) { m.Key[31]++ })
				want(noMessage, func(m *api.Msg) { m.From = 32 })
				want(noMessage, func(m *api.Msg) { m.Kind = 4 })
			}
		}
	}
}

// P17.2: bytes that are summed for the root as well are no message, though the machine finds what they are of.
func TestBytesOfTheStateItself(t *testing.T) {
	b, s := newBench(t), rich(5)
	for _, x := range knownOf(s) {
		b.wantVerdict(t, s, []byte(x), noMessage)
	}
	bytes := of(draw(3, 9))
	s.Accounts[4].Lock = sumOf(string(bytes))
	b.wantVerdict(t, s, bytes, withdrawn)
}

// P17.2: states that are empty and full, and a state of accounts alike, whose sums are alike as well.
func TestStatesAlike(t *testing.T) {
	b := newBench(t)
	alike := api.State{Outs: slices.Repeat([]api.Out{{To: 3, Amount: 4}}, 16)}
	for i := range alike.Accounts {
		alike.Accounts[i] = api.Account{Balance: 9, Nonce: 2, Lock: lock(2)}
	}
	b.wantVerdict(t, api.State{}, of(bring(0)), deposited)
	b.wantVerdict(t, api.State{}, of(pay(0, 1)), otherKey)
	b.wantVerdict(t, greatest(), of(bring(0)), aboveSupply)
	for from := range uint64(32) {
		m := pay(2, from^1)
		m.From = from
		b.wantVerdict(t, alike, of(m), transferred)
		m.To = from
		b.wantVerdict(t, alike, of(m), transferred)
		m.Kind = api.MWithdraw
		b.wantVerdict(t, alike, of(m), withdrawn)
		b.wantVerdict(t, alike, of(bring(from)), deposited)
	}
}

// drawnState is some state that may be; the accounts' keys are those of a few numbers.
func drawnState(r *rand.Rand) api.State {
	var s api.State
	left := uint64(supply)
	for i := range s.Accounts {
		if r.Intn(4) == 0 {
			continue
		}
		balance := r.Uint64() % (left>>uint(r.Intn(60)) + 1)
		left -= balance
		nonce := []uint64{0, 1, uint64(r.Intn(5)), r.Uint64(), most - 1, most}[r.Intn(6)]
		s.Accounts[i] = api.Account{Balance: balance, Nonce: nonce, Lock: lock(r.Intn(3))}
	}
	if r.Intn(3) == 0 {
		s.Accounts[r.Intn(32)].Balance += left - uint64(r.Intn(2))*(left/2)
	}
	for range []int{0, 31, 32, r.Intn(33)}[r.Intn(4)] {
		s.Outs = append(s.Outs, api.Out{To: r.Uint64(), Amount: uint64(r.Intn(3))})
	}
	return s
}

// drawnMessage is bytes that are nearly always those of a message, and often of one that does something.
func drawnMessage(r *rand.Rand, s api.State) []byte {
	m := api.Msg{Kind: api.MsgKind(1 + r.Intn(3)), To: uint64(r.Intn(33)), Next: lock(r.Intn(3))}
	m.From = uint64(r.Intn(32))
	a := s.Accounts[m.From]
	total, _ := state.Total(s)
	m.Amount = []uint64{0, 1, a.Balance, a.Balance, a.Balance + 1, a.Balance / 2, supply - total, supply - total + 1, r.Uint64()}[r.Intn(9)]
	m.Nonce = a.Nonce + uint64(r.Intn(8)/7)
	for k := range 3 {
		if lock(k) == a.Lock || r.Intn(12) == 0 {
			m.Key = key(k)
		}
	}
	if m.Kind == api.MDeposit {
		m = api.Msg{Kind: api.MDeposit, To: m.To, Amount: m.Amount}
	}
	if r.Intn(9) == 0 {
		m.From = r.Uint64() >> r.Intn(64)
	}
	bytes := bytesOf(m)
	if r.Intn(15) == 0 {
		bytes[r.Intn(104)] ^= byte(1 << r.Intn(8))
	}
	if r.Intn(30) == 0 {
		bytes = bytes[:r.Intn(105)]
	}
	return bytes
}

// P17.2: drawn messages, one behind the other, of drawn states.
func TestDrawnMessages(t *testing.T) {
	b := newBench(t)
	r := rand.New(rand.NewSource(172))
	done := map[verdict]int{}
	for range 150 {
		s := drawnState(r)
		for range 10 {
			m := drawnMessage(r, s)
			done[b.want(t, s, m)]++
			s, _ = judge(s, m)
		}
	}
	for _, v := range []verdict{noMessage, aboveSupply, otherNonce, otherKey, tooLittle, lastNonce, tooMany, deposited, transferred, withdrawn} {
		if done[v] < 5 {
			t.Errorf("%s: %d times", v, done[v])
		}
	}
}

// P17.2, with hostile input: a drawn state and message, in which some bytes are written over.
func FuzzRule(f *testing.F) {
	f.Add(int64(1), 3, 7, []byte{2})
	f.Add(int64(2), 0, 104, []byte(nil))
	f.Add(int64(3), 40, 200, []byte{0, 0, 0})
	b := newBench(f)
	f.Fuzz(func(t *testing.T, seed int64, at, end int, over []byte) {
		r := rand.New(rand.NewSource(seed))
		s := drawnState(r)
		for range 3 {
			m := drawnMessage(r, s)
			b.want(t, s, m)
			if at >= 0 && at < len(m) {
				copy(m[at:], over)
			}
			if end >= 0 && end < len(m) {
				m = append(m[:end], over...)
			}
			if len(m) <= api.MaxBytes {
				b.want(t, s, m)
			}
			s, _ = judge(s, m)
		}
	})
}
