package spec

import (
	"encoding/binary"
	"math/big"
	"math/rand"
	"slices"
	"testing"

	"proctor/api"
	"proctor/state"
)

// wantParts holds a list that is cut at each place to P9.3, with nothing but what the program itself says.
func wantParts(t *testing.T, s api.State, l [][]byte) {
	t.Helper()
	end, did, _ := Run(s, l...)
	roots, _ := Roots(s, l...)
	in, out, _ := Flow(s, l...)
	for cut := range len(l) + 1 {
		first, rest := l[:cut], l[cut:]
		half, e := After(s, cut, l...)
		if e != api.OK {
			t.Fatalf("After(%d): %d", cut, e)
		}
		same, didFirst, _ := Run(s, first...)
		other, didRest, e := Run(half, rest...)
		if e != api.OK || !state.Same(half, same) || !state.Same(other, end) || !slices.Equal(slices.Concat(didFirst, didRest), did) {
			t.Fatalf("cut at %d: Run = %v, %d", cut, other, e)
		}
		if whole, e := After(half, len(rest), rest...); e != api.OK || !state.Same(whole, end) {
			t.Fatalf("cut at %d: After = %v, %d", cut, whole, e)
		}
		rootsFirst, _ := Roots(s, first...)
		rootsRest, _ := Roots(half, rest...)
		if !slices.Equal(slices.Concat(rootsFirst[:cut], rootsRest), roots) {
			t.Fatalf("cut at %d: Roots = %x, %x", cut, rootsFirst, rootsRest)
		}
		inFirst, outFirst, _ := Flow(s, first...)
		inRest, outRest, _ := Flow(half, rest...)
		if inFirst+inRest != in || outFirst+outRest != out {
			t.Fatalf("cut at %d: Flow = %d, %d, %d, %d", cut, inFirst, outFirst, inRest, outRest)
		}
	}
}

// wantMoney holds the balances to P9.3.
func wantMoney(t *testing.T, s api.State, l [][]byte) {
	t.Helper()
	end, _, e := Run(s, l...)
	in, out, wrong := Flow(s, l...)
	if e != api.OK || wrong != api.OK {
		t.Fatalf("Run: %d, Flow: %d", e, wrong)
	}
	sum := together(s)
	sum.Add(sum, number(in)).Sub(sum, number(out))
	if together(end).Cmp(number(wrapped(sum))) != 0 {
		t.Fatalf("%d, %d in, %d out, and %d left", together(s), in, out, together(end))
	}
}

// P9.3: lists cut at every place, and their money.
func TestParts(t *testing.T) {
	for _, n := range []int{0, 20, 32} {
		for _, l := range [][][]byte{nil, {nil}, mixed(), filling()} {
			wantParts(t, some(n), l)
			wantMoney(t, some(n), l)
		}
	}
}

// P9.3: money that comes in and goes out more often than 2^64 holds.
func TestMoneyWraps(t *testing.T) {
	var s api.State
	s.Accounts[0].Lock = lock(0)
	s.Accounts[1].Balance = 3
	var l [][]byte
	for n := range 12 {
		l = append(l, deposit(0, supply-3), withdraw(0, n, 1, supply-3))
	}
	l = append(l, deposit(4, 8))
	for count := range len(l) + 1 {
		wantMoney(t, s, l[:count])
	}
	wantParts(t, s, l)
	if want := judge(s, l); want.in.Cmp(new(big.Int).Lsh(big.NewInt(1), 64)) < 0 || want.out.Cmp(new(big.Int).Lsh(big.NewInt(1), 64)) < 0 {
		t.Errorf("nothing wraps: %d, %d", want.in, want.out)
	}
}

// randomState is a state that may be, whose account i the key i opens.
func randomState(r *rand.Rand) api.State {
	size := 7 + r.Intn(58)
	s := some(r.Intn(33))
	for i := range s.Accounts {
		s.Accounts[i].Balance = r.Uint64() >> size
		if r.Intn(10) == 0 {
			s.Accounts[i].Nonce = most - uint64(r.Intn(3))
		}
	}
	return s
}

// randomList is a list of messages most of which do something behind the ones ahead.
func randomList(r *rand.Rand, s api.State, count int) [][]byte {
	var l [][]byte
	at := copyOf(s)
	for range count {
		from := r.Intn(32)
		has := at.Accounts[from].Balance
		amounts := []uint64{0, 1, has, has + 1, has / 2, supply - together(at).Uint64(), most, r.Uint64()}
		m := api.Msg{Kind: api.MsgKind(1 + r.Intn(3)), From: uint64(from), To: uint64(r.Intn(32)), Amount: amounts[r.Intn(len(amounts))], Nonce: at.Accounts[from].Nonce, Key: key(from), Next: lock(from)}
		if m.Kind == api.MDeposit {
			m = api.Msg{Kind: api.MDeposit, To: m.To, Amount: m.Amount}
		}
		b := bytesOf(m)
		switch r.Intn(12) {
		case 0:
			b = b[:r.Intn(104)]
		case 1:
			b[r.Intn(104)] ^= 1 << r.Intn(8)
		case 2:
			b = nil
		}
		if m, ok := messageOf(b); ok {
			done(&at, m)
		}
		l = append(l, b)
	}
	return l
}

// P9.1, P9.2, P9.3: states and lists at random.
func TestRandom(t *testing.T) {
	r := rand.New(rand.NewSource(9))
	did := 0
	for i := range 120 {
		s := randomState(r)
		l := randomList(r, s, r.Intn(40))
		for _, x := range wantAll(t, s, l).did {
			if x {
				did++
			}
		}
		wantMoney(t, s, l)
		if i%5 == 0 {
			wantParts(t, s, l)
		}
	}
	if did < 600 {
		t.Errorf("%d messages alone did something", did)
	}
}

// P9.1: a long list.
func TestLong(t *testing.T) {
	r := rand.New(rand.NewSource(99))
	s := randomState(r)
	l := randomList(r, s, 4096)
	want := judge(s, l)
	end, did, e := Run(s, l...)
	if !state.Same(end, want.states[len(l)]) || !slices.Equal(did, want.did) || e != api.OK {
		t.Errorf("Run of a long list: %d", e)
	}
	wantMoney(t, s, l)
}

// P9.1, P9.2, P9.3: whatever state, whatever bytes, cut into messages whatever their length.
func FuzzSpec(f *testing.F) {
	f.Add([]byte{}, uint8(0), uint8(104), []byte{}, 0)
	f.Add([]byte{9, 8, 7}, uint8(32), uint8(104), slices.Concat(deposit(3, 5), deposit(3, most), withdraw(1, 0, 3, 1)), 2)
	f.Add([]byte{255, 255}, uint8(33), uint8(103), slices.Concat(mixed()...), -1)
	f.Add([]byte{1}, uint8(31), uint8(104), slices.Concat(filling()...), 7)
	f.Fuzz(func(t *testing.T, balances []byte, outs, size uint8, messages []byte, n int) {
		s := some(int(outs))
		for i := 0; i < 32 && 8*i+8 <= len(balances); i++ {
			s.Accounts[i].Balance = binary.BigEndian.Uint64(balances[8*i:])
		}
		l := slices.Collect(slices.Chunk(messages, max(1, int(size))))
		if len(l) > 60 {
			l = l[:60]
		}
		if !mayBe(s) {
			wantNone(t, s, l)
			return
		}
		want := wantAll(t, s, l)
		wantMoney(t, s, l)
		at, e := After(s, n, l...)
		if n >= 0 && n <= len(l) {
			if e != api.OK || !state.Same(at, want.states[n]) {
				t.Errorf("After(%d) = %v, %d", n, at, e)
			}
		} else if e != api.ErrArg || !state.Same(at, api.State{}) {
			t.Errorf("After(%d) = %v, %d", n, at, e)
		}
	})
}
