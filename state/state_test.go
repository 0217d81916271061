package state

import (
	"bytes"
	"math"
	"math/big"
	"math/rand"
	"slices"
	"testing"

	"proctor/api"
)

// some is a state with unlike accounts and a number of unlike withdrawals.
func some(outs int) api.State {
	var s api.State
	for i := range s.Accounts {
		s.Accounts[i] = api.Account{Balance: uint64(i) << (i + 20), Nonce: uint64(i*i) << 50, Lock: h(i)}
	}
	for i := range outs {
		s.Outs = append(s.Outs, api.Out{To: uint64(i) << 59, Amount: math.MaxUint64 - uint64(i*i)})
	}
	return s
}

// with is a state with these balances, from the account i on.
func with(i int, balances ...uint64) api.State {
	var s api.State
	for n, b := range balances {
		s.Accounts[i+n].Balance = b
	}
	return s
}

// each is a balance that all accounts have.
func each(balance uint64) api.State {
	return with(0, slices.Repeat([]uint64{balance}, api.Accounts)...)
}

// wantTotal asks Total and, of a state with few withdrawals, May.
func wantTotal(t *testing.T, what string, s api.State, total uint64, e api.Errno) {
	t.Helper()
	if n, got := Total(s); n != total || got != e {
		t.Errorf("%s: Total = %d, %d", what, n, got)
	}
	if May(s) != (e == api.OK && len(s.Outs) <= 32) {
		t.Errorf("%s: May = %v", what, May(s))
	}
}

// P6.1: sums about Supply, and sums that would wrap.
func TestTotals(t *testing.T) {
	const supply = 1 << 62
	oneMore := each(supply / 32)
	oneMore.Accounts[17].Balance++
	oneLess := each(supply / 32)
	oneLess.Accounts[17].Balance--
	for _, c := range []struct {
		what  string
		s     api.State
		total uint64
		e     api.Errno
	}{
		{"nothing", api.State{}, 0, api.OK},
		{"some", with(4, 7, 0, 9), 16, api.OK},
		{"all of Supply, evenly", each(supply / 32), supply, api.OK},
		{"one more than Supply, evenly", oneMore, 0, api.ErrLimit},
		{"one less than Supply, evenly", oneLess, supply - 1, api.OK},
		{"a sum of 2^63", each(1 << 58), 0, api.ErrLimit},
		{"a sum of 2^64", each(1 << 59), 0, api.ErrLimit},
		{"a sum of 2^67", each(1 << 62), 0, api.ErrLimit},
		{"a sum of 2^68", each(1 << 63), 0, api.ErrLimit},
		{"the greatest sum", each(math.MaxUint64), 0, api.ErrLimit},
		{"two that wrap to 0", with(3, 1<<63, 1<<63), 0, api.ErrLimit},
		{"two that wrap to 1", with(3, math.MaxUint64, 2), 0, api.ErrLimit},
		{"two that wrap to 1, turned", with(3, 2, math.MaxUint64), 0, api.ErrLimit},
		{"four that wrap to 0", with(28, supply, supply, supply, supply), 0, api.ErrLimit},
		{"five that wrap to Supply", with(0, supply, supply, supply, supply, supply), 0, api.ErrLimit},
	} {
		wantTotal(t, c.what, c.s, c.total, c.e)
	}
	for i := range api.Accounts {
		wantTotal(t, "Supply alone", with(i, supply), supply, api.OK)
		wantTotal(t, "one more than Supply alone", with(i, supply+1), 0, api.ErrLimit)
		wantTotal(t, "the greatest balance alone", with(i, math.MaxUint64), 0, api.ErrLimit)
		for j := range i {
			s := with(i, supply)
			s.Accounts[j].Balance = 1
			wantTotal(t, "Supply and one", s, 0, api.ErrLimit)
			s.Accounts[i].Balance--
			wantTotal(t, "Supply in two", s, supply, api.OK)
			s.Accounts[j].Balance = 1<<64 - supply + 1
			wantTotal(t, "two that wrap", s, 0, api.ErrLimit)
		}
	}
}

// totalOf is all balances together, whatever that is.
func totalOf(s api.State) *big.Int {
	sum := new(big.Int)
	for _, a := range s.Accounts {
		sum.Add(sum, new(big.Int).SetUint64(a.Balance))
	}
	return sum
}

// wantRightTotal holds Total against sums that can't wrap.
func wantRightTotal(t *testing.T, s api.State) {
	t.Helper()
	sum := totalOf(s)
	if sum.Cmp(new(big.Int).Lsh(big.NewInt(1), 62)) > 0 {
		wantTotal(t, "above Supply", s, 0, api.ErrLimit)
	} else {
		wantTotal(t, "up to Supply", s, sum.Uint64(), api.OK)
	}
}

// P6.1: whatever balances.
func TestRandomTotals(t *testing.T) {
	r := rand.New(rand.NewSource(6))
	for range 20000 {
		var s api.State
		shift := r.Intn(64)
		for range r.Intn(40) {
			s.Accounts[r.Intn(32)].Balance = r.Uint64() >> shift
		}
		wantRightTotal(t, s)
	}
}

// P6.1: how many withdrawals there may be; their amounts, Nonces and Locks may be whatever they are.
func TestMay(t *testing.T) {
	for n := range 80 {
		s := some(n)
		if May(s) != (n <= 32) {
			t.Errorf("May of %d withdrawals = %v", n, May(s))
		}
		if total, e := Total(s); e != api.OK || totalOf(s).Uint64() != total {
			t.Errorf("Total with %d withdrawals = %d, %d", n, total, e)
		}
	}
	var great api.State
	for i := range great.Accounts {
		great.Accounts[i].Nonce = math.MaxUint64
	}
	great.Outs = slices.Repeat([]api.Out{{To: math.MaxUint64, Amount: math.MaxUint64}}, 32)
	if !May(great) {
		t.Error("great Nonces, Tos and Amounts may not be")
	}
	great.Outs = append(great.Outs, api.Out{})
	if May(great) {
		t.Error("33 withdrawals may be")
	}
	if May(api.State{Outs: make([]api.Out, 1<<16)}) {
		t.Error("many withdrawals may be")
	}
}

// changed tells states that differ from s in one thing alone.
func changed(s api.State) []api.State {
	var all []api.State
	for i := range s.Accounts {
		balance, nonce, lock, last := s, s, s, s
		balance.Accounts[i].Balance ^= 1 << (i % 64)
		nonce.Accounts[i].Nonce ^= 1 << (2*i + 1)
		lock.Accounts[i].Lock[0] ^= 128
		last.Accounts[i].Lock[31] ^= 1
		all = append(all, balance, nonce, lock, last)
	}
	for i := range s.Outs {
		to, amount, less := s, s, s
		to.Outs, amount.Outs = slices.Clone(s.Outs), slices.Clone(s.Outs)
		to.Outs[i].To ^= 1 << (2 * i % 64)
		amount.Outs[i].Amount ^= 1 << (63 - i)
		less.Outs = slices.Concat(s.Outs[:i], s.Outs[i+1:])
		all = append(all, to, amount, less)
	}
	more := s
	more.Outs = append(slices.Clone(s.Outs), api.Out{})
	return append(all, more)
}

// P6.1: Same, of states that may be and that may not.
func TestSame(t *testing.T) {
	for _, n := range []int{0, 1, 2, 31, 32, 33, 60} {
		s := some(n)
		for _, great := range []uint64{0, math.MaxUint64} {
			s.Accounts[9].Balance |= great
			other := s
			other.Outs = slices.Clone(s.Outs)
			if !Same(s, s) || !Same(s, other) {
				t.Errorf("a state of %d withdrawals is not the same", n)
			}
			for i, c := range changed(s) {
				if Same(s, c) || Same(c, s) {
					t.Errorf("the changed state %d of %d withdrawals is the same", i, n)
				}
			}
		}
	}
	swapped := some(5)
	swapped.Outs[1], swapped.Outs[3] = swapped.Outs[3], swapped.Outs[1]
	if Same(swapped, some(5)) {
		t.Error("withdrawals in another order are the same")
	}
	if !Same(api.State{}, api.State{Outs: []api.Out{}}) || !Same(api.State{Outs: make([]api.Out, 0, 9)}, api.State{}) {
		t.Error("no withdrawals are not the same as an empty list")
	}
}

// P6.1: the bytes, written out.
func TestBytes(t *testing.T) {
	a := api.Account{Balance: 0x0102030405060708, Nonce: 0x1112131415161718}
	want := []byte{1, 2, 3, 4, 5, 6, 7, 8, 0x11, 0x12, 0x13, 0x14, 0x15, 0x16, 0x17, 0x18}
	for i := range a.Lock {
		a.Lock[i] = byte(0x80 + i)
		want = append(want, byte(0x80+i))
	}
	if b := AccountBytes(a); !bytes.Equal(b, want) || len(b) != 48 {
		t.Errorf("AccountBytes = %x", b)
	}
	if b := OutBytes(api.Out{To: a.Balance, Amount: a.Nonce}); !bytes.Equal(b, want[:16]) {
		t.Errorf("OutBytes = %x", b)
	}
	if b := AccountBytes(api.Account{}); !bytes.Equal(b, make([]byte, 48)) {
		t.Errorf("AccountBytes of nothing = %x", b)
	}
	if b := OutBytes(api.Out{}); !bytes.Equal(b, make([]byte, 16)) {
		t.Errorf("OutBytes of nothing = %x", b)
	}
}

// bit is a byte string of a length with one bit, counted from its highest one.
func bit(length, n int) []byte {
	b := make([]byte, length)
	b[n/8] = 128 >> (n % 8)
	return b
}

// P6.1: each bit of each field has its one place.
func TestBitsOfBytes(t *testing.T) {
	for n := range 64 {
		one := uint64(1) << (63 - n)
		if !bytes.Equal(AccountBytes(api.Account{Balance: one}), bit(48, n)) || !bytes.Equal(OutBytes(api.Out{To: one}), bit(16, n)) {
			t.Errorf("the bit %d of the first number is elsewhere", n)
		}
		if !bytes.Equal(AccountBytes(api.Account{Nonce: one}), bit(48, 64+n)) || !bytes.Equal(OutBytes(api.Out{Amount: one}), bit(16, 64+n)) {
			t.Errorf("the bit %d of the second number is elsewhere", n)
		}
	}
	for n := range 256 {
		if b := AccountBytes(api.Account{Lock: api.Hash(bit(32, n))}); !bytes.Equal(b, bit(48, 128+n)) {
			t.Errorf("the bit %d of the Lock is elsewhere", n)
		}
	}
}

// stateOf is a state made of bytes: accounts and withdrawals, as many as there are bytes for.
func stateOf(b []byte) api.State {
	var s api.State
	at := 0
	next := func() uint64 {
		var n uint64
		for range 8 {
			n <<= 8
			if at < len(b) {
				n |= uint64(b[at])
			}
			at++
		}
		return n
	}
	for i := range s.Accounts {
		s.Accounts[i] = api.Account{Balance: next(), Nonce: next(), Lock: h(int(next() % 8))}
	}
	for at < len(b) {
		s.Outs = append(s.Outs, api.Out{To: next(), Amount: next()})
	}
	return s
}

// P6.1, P6.2, P6.4: whatever state.
func FuzzState(f *testing.F) {
	f.Add([]byte{})
	f.Add(bytes.Repeat([]byte{1}, 900))
	f.Add(slices.Concat(bytes.Repeat([]byte{1, 0, 0}, 8*32), bytes.Repeat([]byte{0, 0, 7}, 100)))
	f.Fuzz(func(t *testing.T, b []byte) {
		s := stateOf(b)
		wantRightTotal(t, s)
		if !Same(s, stateOf(b)) {
			t.Error("a state is not the same as itself")
		}
		if !May(s) {
			wantRefused(t, s)
			return
		}
		wantRoot(t, s)
		wantWitness(t, s, len(b)%32)
		wantKnown(t, s)
	})
}
