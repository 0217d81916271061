package exec

import (
	"bytes"
	"crypto/sha256"
	"math/big"
	"slices"
	"testing"

	"proctor/api"
	"proctor/msg"
	"proctor/state"
)

// key is the n-th key, lock what it opens.
func key(n int) api.Hash { return sha256.Sum256([]byte{byte(n), byte(n >> 8), 88}) }

func lock(n int) api.Hash { return lockOf(key(n)) }

func lockOf(k api.Hash) api.Hash { return sha256.Sum256(k[:]) }

// some is a state with unlike accounts, the i-th of which the key i opens, and a number of unlike withdrawals.
func some(outs int) api.State {
	var s api.State
	for i := range s.Accounts {
		s.Accounts[i] = api.Account{Balance: 1000 + uint64(i)<<20, Nonce: uint64(i * i), Lock: lock(i)}
	}
	for i := range outs {
		s.Outs = append(s.Outs, api.Out{To: uint64(i) << 59, Amount: most - uint64(i*i)})
	}
	return s
}

// spending is a message of a Kind that opens the account from of s; the key n opens that next.
func spending(kind api.MsgKind, s api.State, from int, to, amount uint64, n int) api.Msg {
	return api.Msg{Kind: kind, From: uint64(from), To: to, Amount: amount, Nonce: s.Accounts[from].Nonce, Key: key(from), Next: lock(n)}
}

func deposit(to, amount uint64) api.Msg {
	return api.Msg{Kind: api.MDeposit, To: to, Amount: amount}
}

// working are messages of each Kind that do something to s, a state that some made.
func working(s api.State) []api.Msg {
	return []api.Msg{
		deposit(3, 5), deposit(31, 1<<40),
		spending(api.MTransfer, s, 7, 12, 900, 40), spending(api.MTransfer, s, 0, 31, 0, 41), spending(api.MTransfer, s, 4, 4, 4, 42),
		spending(api.MWithdraw, s, 31, 0xf1f2f3f4f5f6f7f8, 1, 43), spending(api.MWithdraw, s, 0, 0, 1000, 44),
	}
}

// wantDelta holds Delta and Gain to the second judge and to what follows of it, sees that what is handed in stays, and answers the verdict.
func wantDelta(t *testing.T, s api.State, b []byte) verdict {
	t.Helper()
	outs, kept := slices.Clone(s.Outs), bytes.Clone(b)
	want, why := judge(s, b)
	next, did, e := Delta(s, b)
	if why == noState {
		if e != api.ErrArg || did || !state.Same(next, api.State{}) {
			t.Fatalf("Delta of a state that may not be = %v, %v, %d", next, did, e)
		}
	} else if e != api.OK || did != why.did() || !state.Same(next, want) {
		t.Fatalf("%s: Delta(%v, %x) = %v, %v, %d", why, s, b, next, did, e)
	}
	wantGain(t, b)
	wantKept(t, s, b, next, did, e)
	if !slices.Equal(s.Outs, outs) || !bytes.Equal(b, kept) {
		t.Fatalf("%s: what was handed in did not stay", why)
	}
	return why
}

// wantGain holds Gain to the second judge.
func wantGain(t *testing.T, b []byte) {
	t.Helper()
	wantIn, wantOut := gained(b)
	if in, out := Gain(b); in != wantIn || out != wantOut {
		t.Fatalf("Gain(%x) = %d, %d", b, in, out)
	}
}

// wantKept holds an answer of Delta to P8.3, with nothing but what the program itself says.
func wantKept(t *testing.T, s api.State, b []byte, next api.State, did bool, e api.Errno) {
	t.Helper()
	if e != api.OK {
		return
	}
	if !state.May(next) || !mayBe(next) {
		t.Fatalf("what Delta answers may not be: %v", next)
	}
	if !did && !state.Same(s, next) {
		t.Fatalf("nothing was done, and yet there is %v", next)
	}
	if n := len(s.Outs); len(next.Outs) < n || len(next.Outs) > n+1 || !slices.Equal(next.Outs[:n], s.Outs) {
		t.Fatalf("withdrawals were changed: %v", next.Outs)
	}
	var in, out uint64
	if did {
		in, out = Gain(b)
	}
	before, behind := together(s, in), together(next, out)
	if before.Cmp(behind) != 0 {
		t.Fatalf("%d and %d in are not %d and %d out", together(s, 0), in, together(next, 0), out)
	}
	var paid big.Int
	for _, o := range next.Outs[len(s.Outs):] {
		paid.Add(&paid, number(o.Amount))
	}
	if paid.Cmp(number(out)) != 0 {
		t.Fatalf("%d went out, and %d was withdrawn", out, &paid)
	}
}

// wantVerdict asks for one verdict alone.
func wantVerdict(t *testing.T, s api.State, m api.Msg, want verdict) {
	t.Helper()
	if why := wantDelta(t, s, bytesOf(m)); why != want {
		t.Errorf("%v: %s, not %s", m, why, want)
	}
}

// P8.1, P8.2: the chapter's examples.
func TestExamples(t *testing.T) {
	var s api.State
	s.Accounts[0] = api.Account{Balance: 10, Lock: lock(1)}
	write := func(m api.Msg) []byte {
		b, e := msg.Write(m)
		if e != api.OK {
			t.Fatalf("Write(%v): %d", m, e)
		}
		return b
	}
	transfer := api.Msg{Kind: api.MTransfer, To: 1, Amount: 4, Key: key(1), Next: lock(2)}
	later, greater := transfer, transfer
	later.Nonce, greater.Amount = 1, 11
	withdraw := api.Msg{Kind: api.MWithdraw, To: 7, Amount: 10, Key: key(1), Next: key(2)}
	paid, gone := s, s
	paid.Accounts[0], paid.Accounts[1].Balance = api.Account{Balance: 6, Nonce: 1, Lock: lock(2)}, 4
	gone.Accounts[0], gone.Outs = api.Account{Nonce: 1, Lock: key(2)}, []api.Out{{To: 7, Amount: 10}}
	for i, c := range []struct {
		b    []byte
		want api.State
		did  bool
	}{{write(transfer), paid, true}, {write(later), s, false}, {write(greater), s, false}, {nil, s, false}, {write(withdraw), gone, true}} {
		if next, did, e := Delta(s, c.b); !state.Same(next, c.want) || did != c.did || e != api.OK {
			t.Errorf("%d: Delta = %v, %v, %d", i, next, did, e)
		}
	}
	for i, c := range []struct {
		b       []byte
		in, out uint64
	}{{write(deposit(0, 5)), 5, 0}, {write(api.Msg{Kind: api.MWithdraw, Amount: 5}), 0, 5}, {nil, 0, 0}, {write(transfer), 0, 0}} {
		if in, out := Gain(c.b); in != c.in || out != c.out {
			t.Errorf("%d: Gain = %d, %d", i, in, out)
		}
	}
}

// P8.1: a message of each Kind, and the state behind it written out.
func TestWrittenOut(t *testing.T) {
	s := some(2)
	in, over, own, off := some(2), some(2), some(2), some(2)
	in.Accounts[3].Balance = 1000 + 3<<20 + 5
	over.Accounts[7] = api.Account{Balance: 100 + 7<<20, Nonce: 50, Lock: lock(40)}
	over.Accounts[12].Balance = 1900 + 12<<20
	own.Accounts[4] = api.Account{Balance: 1000 + 4<<20, Nonce: 17, Lock: lock(42)}
	off.Accounts[31] = api.Account{Balance: 999 + 31<<20, Nonce: 962, Lock: lock(43)}
	off.Outs = append(off.Outs, api.Out{To: 0xf1f2f3f4f5f6f7f8, Amount: 1})
	for i, want := range map[int]api.State{0: in, 2: over, 4: own, 5: off} {
		m := working(s)[i]
		if next, did, e := Delta(s, bytesOf(m)); !state.Same(next, want) || !did || e != api.OK {
			t.Errorf("Delta of %v = %v, %v, %d", m, next, did, e)
		}
	}
}

// P8.1: a state that may not be is refused, whatever the bytes.
func TestStatesRefused(t *testing.T) {
	wrong := []api.State{some(33), some(34), some(64), {Outs: make([]api.Out, 33)}, {Outs: make([]api.Out, 1<<12)}}
	for _, balances := range [][]uint64{{supply + 1}, {supply, 1}, {1, supply}, {most}, {most, 1}, {most, 2}, {1 << 63, 1 << 63}, {supply, supply, supply, supply}, {supply, supply, supply, supply, supply}, slices.Repeat([]uint64{1 << 59}, 32), slices.Repeat([]uint64{most}, 32)} {
		for at := range 33 - len(balances) {
			s := some(1)
			for i := range s.Accounts {
				s.Accounts[i].Balance = 0
			}
			for i, b := range balances {
				s.Accounts[at+i].Balance = b
			}
			wrong = append(wrong, s)
		}
	}
	for _, s := range wrong {
		all := [][]byte{nil, {}, make([]byte, 103), make([]byte, 104), make([]byte, 105)}
		for _, m := range working(s) {
			all = append(all, bytesOf(m))
		}
		for _, b := range all {
			if next, did, e := Delta(s, b); e != api.ErrArg || did || next.Outs != nil || next.Accounts != [32]api.Account{} {
				t.Errorf("Delta of a state that may not be = %v, %v, %d", next, did, e)
			}
			wantDelta(t, s, b)
		}
	}
}

// P8.1, P8.2, P8.3: bytes of whatever length that are no message do nothing, even if a message stands within them.
func TestLengths(t *testing.T) {
	for _, n := range []int{0, 1, 31, 32} {
		s := some(n)
		wantDelta(t, s, nil)
		for _, m := range working(s) {
			long := slices.Concat(bytesOf(m), bytesOf(m), make([]byte, 104))
			for length := range len(long) + 1 {
				if why := wantDelta(t, s, long[:length]); length != 104 && why != noMessage {
					t.Errorf("%d bytes: %s", length, why)
				}
			}
			wantDelta(t, s, long[1:104])
			wantDelta(t, s, append([]byte{0}, long[:104]...))
			wantDelta(t, s, append(make([]byte, 104), long[:104]...))
		}
		for _, length := range []int{103, 104, 105, 208, 1 << 16, 1<<16 + 1} {
			for fill := range 5 {
				wantDelta(t, s, bytes.Repeat([]byte{byte(fill)}, length))
			}
			wantDelta(t, s, bytes.Repeat([]byte{255}, length))
		}
	}
}

// P8.1, P8.2, P8.3: each byte of a message that does something, changed by itself into each other one.
func TestChangedBytes(t *testing.T) {
	s := some(5)
	for _, m := range working(s) {
		if !wantDelta(t, s, bytesOf(m)).did() {
			t.Errorf("%v does nothing", m)
		}
		seen := map[verdict]int{}
		for i := range 104 {
			b := bytesOf(m)
			for change := 1; change < 256; change++ {
				b[i] = bytesOf(m)[i] ^ byte(change)
				why := wantDelta(t, s, b)
				seen[why]++
				if i < 7 && why != noMessage {
					t.Errorf("%v with another byte %d: %s", m, i, why)
				}
			}
		}
		// The Nonce is at 32, the Key at 40, the Next at 72.
		if m.Kind != api.MDeposit && (seen[otherNonce] < 8*255 || seen[otherKey] != 32*255 || seen[transferred]+seen[withdrawn] < 32*255) {
			t.Errorf("%v: %v", m, seen)
		}
	}
}

// P8.1, P8.2: there are three Kinds.
func TestKinds(t *testing.T) {
	s := some(3)
	for kind := range 256 {
		for _, m := range append(working(s), api.Msg{}, api.Msg{Amount: 1}) {
			m.Kind = api.MsgKind(kind)
			if why := wantDelta(t, s, bytesOf(m)); (kind < 1 || kind > 3) && why != noMessage {
				t.Errorf("the Kind %d: %s", kind, why)
			}
		}
	}
}

// P8.1, P8.3: deposits at the edge of Supply, one beyond, and such as would wrap, for each account.
func TestDeposits(t *testing.T) {
	for to := range uint64(32) {
		for other := range uint64(32) {
			for _, has := range []uint64{0, 1, 10, supply / 2, supply - 1, supply} {
				var s api.State
				s.Accounts[other].Balance = has
				room := supply - has
				for _, amount := range []uint64{1, 2, supply, supply + 1, 1 << 63, most, most - has, most - has + 1, most - has + 2} {
					if amount > 0 {
						wantDelta(t, s, bytesOf(deposit(to, amount)))
					}
				}
				if room > 0 {
					wantVerdict(t, s, deposit(to, room), deposited)
				}
				wantVerdict(t, s, deposit(to, room+1), aboveSupply)
			}
		}
		wantDelta(t, some(4), bytesOf(deposit(to, 0)))
		wantDelta(t, some(4), bytesOf(deposit(to+32, 1)))
	}
	even := api.State{}
	for i := range even.Accounts {
		even.Accounts[i].Balance = supply / 32
	}
	even.Accounts[9].Balance--
	wantVerdict(t, even, deposit(30, 1), deposited)
	wantVerdict(t, even, deposit(9, 2), aboveSupply)
	wantVerdict(t, even, deposit(9, most), aboveSupply)
}

// P8.1: a deposit hangs on no Nonce, no Lock and no withdrawals, and leaves them.
func TestDepositsForAll(t *testing.T) {
	for n := range 33 {
		s := some(n)
		s.Accounts[8].Nonce = most
		for to := range uint64(32) {
			wantVerdict(t, s, deposit(to, 77), deposited)
			next, _, _ := Delta(s, bytesOf(deposit(to, 77)))
			next.Accounts[to].Balance -= 77
			if !state.Same(next, s) {
				t.Errorf("a deposit for %d changed more than a Balance", to)
			}
		}
	}
}

// P8.1, P8.3: transfers from each account to each one, itself too, of nothing, of all, and of one more.
func TestTransfers(t *testing.T) {
	s := some(6)
	for from := range 32 {
		has := s.Accounts[from].Balance
		for to := range uint64(32) {
			for _, amount := range []uint64{0, 1, has - 1, has} {
				wantVerdict(t, s, spending(api.MTransfer, s, from, to, amount, 50), transferred)
			}
			for _, amount := range []uint64{has + 1, supply, 1 << 63, most, most - has, most - has + 1} {
				wantVerdict(t, s, spending(api.MTransfer, s, from, to, amount, 50), tooLittle)
			}
		}
		own, _, _ := Delta(s, bytesOf(spending(api.MTransfer, s, from, uint64(from), has, 51)))
		if own.Accounts[from] != (api.Account{Balance: has, Nonce: s.Accounts[from].Nonce + 1, Lock: lock(51)}) {
			t.Errorf("a transfer of %d to itself = %v", from, own.Accounts[from])
		}
	}
}

// P8.1, P8.3: transfers where one account has all of Supply, and where an account has nothing.
func TestTransfersOfAll(t *testing.T) {
	for n := range 33 {
		s := api.State{Outs: make([]api.Out, n)}
		s.Accounts[2] = api.Account{Balance: supply, Lock: lock(2)}
		s.Accounts[3].Lock = lock(3)
		for _, to := range []uint64{0, 2, 3, 31} {
			wantVerdict(t, s, spending(api.MTransfer, s, 2, to, supply, 2), transferred)
			wantVerdict(t, s, spending(api.MTransfer, s, 2, to, supply+1, 2), tooLittle)
			wantVerdict(t, s, spending(api.MTransfer, s, 3, to, 0, 3), transferred)
			wantVerdict(t, s, spending(api.MTransfer, s, 3, to, 1, 3), tooLittle)
		}
	}
}

// P8.1: a message does something once: the Nonce has gone on, whatever Next is.
func TestOnce(t *testing.T) {
	s := some(0)
	for from := range 32 {
		for kind, done := range map[api.MsgKind]verdict{api.MTransfer: transferred, api.MWithdraw: withdrawn} {
			m := spending(kind, s, from, 1, 1, from)
			next, did, _ := Delta(s, bytesOf(m))
			if !did {
				t.Errorf("%v does nothing", m)
			}
			wantVerdict(t, next, m, otherNonce)
			wantVerdict(t, next, spending(kind, next, from, 1, 1, from), done)
		}
	}
}

// P8.1: a Nonce that is not the account's, in each bit, and Nonces at the end of all.
func TestNonces(t *testing.T) {
	s := some(1)
	for i, nonce := range []uint64{0, 1, 255, 1 << 32, 1 << 63, most - 2, most - 1, most} {
		s.Accounts[i].Nonce = nonce
		for _, kind := range []api.MsgKind{api.MTransfer, api.MWithdraw} {
			m := spending(kind, s, i, 9, 1, 60)
			did := wantDelta(t, s, bytesOf(m)).did()
			if did != (nonce != most) {
				t.Errorf("with the Nonce %d: %v", nonce, did)
			}
			next, _, _ := Delta(s, bytesOf(m))
			if did && next.Accounts[i].Nonce != nonce+1 {
				t.Errorf("the Nonce %d becomes %d", nonce, next.Accounts[i].Nonce)
			}
			for bit := range 64 {
				m.Nonce = nonce ^ 1<<bit
				wantVerdict(t, s, m, otherNonce)
			}
			for _, m.Nonce = range []uint64{nonce + 1, nonce - 1} {
				wantVerdict(t, s, m, otherNonce)
			}
		}
	}
}

// P8.1: a transfer of nothing does nothing either, if the Nonce is the last one.
func TestLastNonce(t *testing.T) {
	s := some(0)
	for i := range s.Accounts {
		s.Accounts[i].Nonce = most
		for _, amount := range []uint64{0, 1, s.Accounts[i].Balance} {
			wantVerdict(t, s, spending(api.MTransfer, s, i, uint64(i), amount, i), lastNonce)
			wantVerdict(t, s, spending(api.MTransfer, s, i, 5, amount, i), lastNonce)
		}
		wantVerdict(t, s, spending(api.MWithdraw, s, i, 5, 1, i), lastNonce)
	}
}

// P8.1: another account's Nonce and Key do not open an account.
func TestOthersKeys(t *testing.T) {
	s := some(0)
	for i := range s.Accounts {
		s.Accounts[i].Nonce = 4
	}
	for from := range 32 {
		for other := range 32 {
			for _, kind := range []api.MsgKind{api.MTransfer, api.MWithdraw} {
				m := spending(kind, s, other, uint64(other), 1, 9)
				m.From = uint64(from)
				if did := wantDelta(t, s, bytesOf(m)).did(); did != (from == other) {
					t.Errorf("the key of %d for %d: %v", other, from, did)
				}
			}
		}
	}
}

// P8.1, P8.3: withdrawals beside each number of others.
func TestWithdrawals(t *testing.T) {
	for n := range 33 {
		s := some(n)
		for from := range 32 {
			has := s.Accounts[from].Balance
			for _, to := range []uint64{0, 13, 14, 31, 32, 1 << 63, most} {
				want := withdrawn
				if n == 32 {
					want = tooMany
				}
				for _, amount := range []uint64{1, has - 1, has} {
					wantVerdict(t, s, spending(api.MWithdraw, s, from, to, amount, 70), want)
				}
				wantVerdict(t, s, spending(api.MWithdraw, s, from, to, 0, 70), noMessage)
				for _, amount := range []uint64{has + 1, supply, most} {
					wantVerdict(t, s, spending(api.MWithdraw, s, from, to, amount, 70), tooLittle)
				}
			}
		}
	}
}

// P8.1, P8.3: 32 withdrawals come one behind the other, and then none any more, though transfers and deposits do.
func TestWithdrawalsToTheEnd(t *testing.T) {
	s := some(0)
	for n := range 40 {
		from := n % 3
		m := spending(api.MWithdraw, s, from, uint64(100+n), uint64(1+n), from)
		next, did, e := Delta(s, bytesOf(m))
		if did != (n < 32) || e != api.OK || len(next.Outs) != min(n+1, 32) {
			t.Errorf("the withdrawal %d: %v, %d", n, did, e)
		}
		wantDelta(t, s, bytesOf(m))
		s = next
	}
	for i, o := range s.Outs {
		if o != (api.Out{To: uint64(100 + i), Amount: uint64(1 + i)}) {
			t.Errorf("the withdrawal %d is %v", i, o)
		}
	}
	wantVerdict(t, s, spending(api.MTransfer, s, 5, 6, 7, 8), transferred)
	wantVerdict(t, s, deposit(1, 1), deposited)
}

// P8.1: where one thing alone is wrong, nothing is done; all pairs of wrong things too.
func TestWrongThings(t *testing.T) {
	for _, kind := range []api.MsgKind{api.MTransfer, api.MWithdraw} {
		for wrong := range 32 {
			s := some(31)
			s.Accounts[6].Nonce = most - 1
			m := spending(kind, s, 6, 7, s.Accounts[6].Balance, 9)
			if wrong&1 != 0 {
				m.Nonce--
			}
			if wrong&2 != 0 {
				m.Key[17] ^= 16
			}
			if wrong&4 != 0 {
				m.Amount++
			}
			if wrong&8 != 0 {
				s.Accounts[6].Nonce++
				m.Nonce++
			}
			if wrong&16 != 0 {
				s.Outs = append(s.Outs, api.Out{})
			}
			right := wrong == 0 || kind == api.MTransfer && wrong == 16
			if did := wantDelta(t, s, bytesOf(m)).did(); did != right {
				t.Errorf("of the Kind %d with the wrong things %b: %v", kind, wrong, did)
			}
		}
	}
}
