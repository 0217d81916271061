package exec

import (
	"bytes"
	"encoding/binary"
	"math/rand"
	"slices"
	"testing"

	"proctor/api"
)

// walk is a state that messages are done to at random, and which key opens each account.
type walk struct {
	*rand.Rand
	s    api.State
	keys [32]int
}

// begin is a walk from a state whose balances are of a size.
func begin(r *rand.Rand, size int) *walk {
	w := &walk{Rand: r}
	for i := range w.s.Accounts {
		w.keys[i] = r.Intn(8)
		w.s.Accounts[i] = api.Account{Balance: r.Uint64() >> size, Nonce: uint64(r.Intn(3)), Lock: lock(w.keys[i])}
		if r.Intn(8) == 0 {
			w.s.Accounts[i].Nonce = most - uint64(r.Intn(3))
		}
	}
	w.s.Outs = slices.Repeat([]api.Out{{To: most, Amount: most}}, r.Intn(33))
	return w
}

// amount is most often one at an edge.
func (w *walk) amount(from int) uint64 {
	has := w.s.Accounts[from].Balance
	room := supply - together(w.s, 0).Uint64()
	l := []uint64{0, 1, has, has + 1, has / 2, has / 3, room, room + 1, room / 2, most, w.Uint64()}
	return l[w.Intn(len(l))]
}

// message is one that most often does something, and the key that opens its account next.
func (w *walk) message() (api.Msg, int) {
	from, next := w.Intn(32), w.Intn(8)
	m := spending(api.MsgKind(2+w.Intn(2)), w.s, from, uint64(w.Intn(32)), w.amount(from), next)
	m.Key = key(w.keys[from])
	switch w.Intn(8) {
	case 0:
		m.Nonce += uint64(w.Intn(3)) - 1
	case 1:
		m.Key = key(w.Intn(8))
	case 2, 3:
		m = deposit(m.To, m.Amount)
	case 4:
		m.To = w.Uint64() >> w.Intn(64)
	}
	return m, next
}

// step does one message, or bytes that are none, and answers the verdict.
func (w *walk) step(t *testing.T) verdict {
	t.Helper()
	m, next := w.message()
	b := bytesOf(m)
	if w.Intn(20) == 0 {
		b[w.Intn(40)] ^= 1 << w.Intn(8)
	}
	if w.Intn(30) == 0 {
		b = append(b, 0)[:w.Intn(106)]
	}
	why := wantDelta(t, w.s, b)
	if m, _ := messageOf(b); why == transferred || why == withdrawn {
		w.keys[m.From] = next
	}
	w.s, _, _ = Delta(w.s, b)
	return why
}

// P8.1, P8.2, P8.3: whatever comes behind whatever; each verdict is met often.
func TestWalks(t *testing.T) {
	r := rand.New(rand.NewSource(18))
	seen := map[verdict]int{}
	for range 300 {
		w := begin(r, 7+r.Intn(58))
		for range 60 {
			seen[w.step(t)]++
		}
	}
	for _, why := range []verdict{noMessage, aboveSupply, otherNonce, otherKey, tooLittle, lastNonce, tooMany, deposited, transferred, withdrawn} {
		if seen[why] < 50 {
			t.Errorf("%s: %d times alone", why, seen[why])
		}
	}
}

// P8.3: over a whole walk all balances are what they were, what came in more, and what went out less; withdrawals stay where they stand.
func TestFlows(t *testing.T) {
	r := rand.New(rand.NewSource(28))
	for range 100 {
		w := begin(r, 7+r.Intn(58))
		before, first := together(w.s, 0), slices.Clone(w.s.Outs)
		for range 100 {
			m, next := w.message()
			after, did, e := Delta(w.s, bytesOf(m))
			if e != api.OK {
				t.Fatalf("%d", e)
			}
			if did && m.Kind != api.MDeposit {
				w.keys[m.From] = next
			}
			if in, out := Gain(bytesOf(m)); did {
				before.Add(before, number(in)).Sub(before, number(out))
			}
			w.s = after
		}
		if before.Cmp(together(w.s, 0)) != 0 || !slices.Equal(w.s.Outs[:len(first)], first) || !mayBe(w.s) {
			t.Errorf("%d came to %d", before, together(w.s, 0))
		}
	}
}

// stateOf is a state made of bytes: Balances, Nonces and the number of the key of each account, then withdrawals.
func stateOf(b []byte) api.State {
	var s api.State
	next := func() uint64 {
		var word [8]byte
		b = b[copy(word[:], b):]
		return binary.BigEndian.Uint64(word[:])
	}
	for i := range s.Accounts {
		s.Accounts[i] = api.Account{Balance: next(), Nonce: next(), Lock: lock(int(next() % 4))}
	}
	for len(b) > 0 {
		s.Outs = append(s.Outs, api.Out{To: next(), Amount: next()})
	}
	return s
}

// P8.1, P8.2, P8.3: whatever state, whatever bytes.
func FuzzDelta(f *testing.F) {
	full := bytes.Repeat([]byte{0, 0, 0, 0, 0, 0, 0, 9, 0, 0, 0, 0, 0, 0, 0, 0, 0, 0, 0, 0, 0, 0, 0, 1}, 32)
	whole := stateOf(full)
	for _, m := range []api.Msg{deposit(3, 5), {Kind: api.MTransfer, From: 1, To: 2, Amount: 9, Key: key(1), Next: lock(2)}, {Kind: api.MWithdraw, From: 31, To: most, Amount: 1, Key: key(1)}} {
		if _, why := judge(whole, bytesOf(m)); !why.did() {
			f.Fatalf("%v: %s", m, why)
		}
		f.Add(full, bytesOf(m))
		f.Add(append(full, make([]byte, 512)...), bytesOf(m))
	}
	f.Add([]byte{}, []byte{})
	f.Add(bytes.Repeat([]byte{255}, 2000), make([]byte, 104))
	f.Fuzz(func(t *testing.T, b, m []byte) {
		wantDelta(t, stateOf(b), m)
	})
}

// P8.1: whatever account, whatever message.
func FuzzOpens(f *testing.F) {
	f.Add(uint64(1), uint64(1), []byte{1}, []byte{}, uint8(0))
	f.Add(uint64(1), uint64(1), []byte{1}, []byte{}, uint8(1))
	f.Fuzz(func(t *testing.T, have, say uint64, k, l []byte, bit uint8) {
		m := api.Msg{Nonce: say}
		copy(m.Key[:], k)
		a := api.Account{Nonce: have}
		if copy(a.Lock[:], l) == 0 {
			a.Lock = lockOf(m.Key)
			// One bit of it is another one, but for each eighth number, which leaves it right.
			a.Lock[bit/8] ^= 1 << (bit % 8) >> 1
		}
		if Opens(a, m) != opened(a, m) {
			t.Errorf("Opens(%v, %v) = %v", a, m, Opens(a, m))
		}
	})
}
