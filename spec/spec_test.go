package spec

import (
	"bytes"
	"crypto/sha256"
	"math"
	"slices"
	"testing"

	"proctor/api"
	"proctor/msg"
	"proctor/state"
)

// key is the n-th key, lock what it opens.
func key(n int) api.Hash { return sha256.Sum256([]byte{byte(n), byte(n >> 8), 99}) }

func lock(n int) api.Hash {
	k := key(n)
	return sha256.Sum256(k[:])
}

// some is a state with unlike accounts, the i-th of which the key i opens, and a number of unlike withdrawals.
func some(outs int) api.State {
	var s api.State
	for i := range s.Accounts {
		s.Accounts[i] = api.Account{Balance: 1000 + uint64(i)<<20, Nonce: uint64(i * i), Lock: lock(i)}
	}
	for i := range outs {
		s.Outs = append(s.Outs, api.Out{To: uint64(i) << 59, Amount: most - uint64(i*i)})
	}
	return s
}

func deposit(to, amount uint64) []byte {
	return bytesOf(api.Msg{Kind: api.MDeposit, To: to, Amount: amount})
}

// spending is the bytes of the message number n (from 0 on) that an account of some sends; its key stays.
func spending(kind api.MsgKind, from, n int, to, amount uint64) []byte {
	return bytesOf(api.Msg{Kind: kind, From: uint64(from), To: to, Amount: amount, Nonce: uint64(from*from + n), Key: key(from), Next: lock(from)})
}

func transfer(from, n int, to, amount uint64) []byte {
	return spending(api.MTransfer, from, n, to, amount)
}

func withdraw(from, n int, to, amount uint64) []byte {
	return spending(api.MWithdraw, from, n, to, amount)
}

// mixed is a list for a state that some made: messages of each Kind that do something, such as do nothing, and bytes that are none.
func mixed() [][]byte {
	return [][]byte{
		deposit(3, 5), nil, transfer(7, 0, 12, 900), transfer(7, 0, 12, 900), {}, withdraw(7, 1, 77, 100),
		{1, 2, 3}, deposit(0, most), deposit(4, 0), withdraw(7, 2, 78, supply), transfer(7, 2, 7, 9), make([]byte, 104),
		deposit(9, 11)[:103], append(deposit(9, 11), 0), withdraw(31, 0, most, 1), transfer(12, 0, 0, 1000+12<<20+900), transfer(12, 1, 0, 1),
		deposit(12, 1), transfer(12, 1, 0, 1), withdraw(0, 1, 0, 1), withdraw(0, 0, 0, 1901+12<<20),
	}
}

// filling is a list of withdrawals that goes on when there is no room any more, with other messages among them.
func filling() [][]byte {
	var l [][]byte
	for n := range 40 {
		l = append(l, withdraw(n%5, n/5, uint64(n), uint64(n+1)))
		if n%7 == 3 {
			l = append(l, nil, deposit(uint64(n%32), 2), transfer(20, n/7, 21, 5))
		}
	}
	return l
}

// wantAll holds all five calls to the second judge, for a state that may be.
func wantAll(t *testing.T, s api.State, l [][]byte) told {
	t.Helper()
	want := judge(s, l)
	end := want.states[len(l)]
	if at, did, e := Run(s, l...); !state.Same(at, end) || !slices.Equal(did, want.did) || e != api.OK {
		t.Fatalf("Run of %d messages = %v, %v, %d", len(l), at, did, e)
	}
	if in, out, e := Flow(s, l...); in != wrapped(want.in) || out != wrapped(want.out) || e != api.OK {
		t.Fatalf("Flow of %d messages = %d, %d, %d, not %d, %d", len(l), in, out, e, want.in, want.out)
	}
	roots, e := Roots(s, l...)
	if len(roots) != len(l)+1 || e != api.OK {
		t.Fatalf("Roots of %d messages are %d, %d", len(l), len(roots), e)
	}
	n := 0
	for i, at := range All(s, l...) {
		if i != n || i > len(l) || !state.Same(at, want.states[i]) {
			t.Fatalf("All tells %d with %v", i, at)
		}
		if root, _ := state.Root(want.states[i]); roots[i] != root {
			t.Fatalf("the root %d is %x", i, roots[i])
		}
		if after, e := After(s, i, l...); !state.Same(after, want.states[i]) || e != api.OK {
			t.Fatalf("After(%d) = %v, %d", i, after, e)
		}
		n++
	}
	if n != len(l)+1 {
		t.Fatalf("All goes over %d states of %d messages", n, len(l))
	}
	return want
}

// wantNone asks for ErrArg and nothing beside it, and for no state.
func wantNone(t *testing.T, s api.State, l [][]byte) {
	t.Helper()
	nothing := func(s api.State) bool { return s.Outs == nil && s.Accounts == [32]api.Account{} }
	if at, did, e := Run(s, l...); !nothing(at) || did != nil || e != api.ErrArg {
		t.Errorf("Run = %v, %v, %d", at, did, e)
	}
	for _, n := range []int{math.MinInt, -1, 0, 1, len(l), len(l) + 1, math.MaxInt} {
		if at, e := After(s, n, l...); !nothing(at) || e != api.ErrArg {
			t.Errorf("After(%d) = %v, %d", n, at, e)
		}
	}
	if roots, e := Roots(s, l...); roots != nil || e != api.ErrArg {
		t.Errorf("Roots = %x, %d", roots, e)
	}
	if in, out, e := Flow(s, l...); in != 0 || out != 0 || e != api.ErrArg {
		t.Errorf("Flow = %d, %d, %d", in, out, e)
	}
	for n, at := range All(s, l...) {
		t.Errorf("All tells %d with %v", n, at)
	}
}

// P9.1, P9.2: the chapter's examples.
func TestExamples(t *testing.T) {
	s := some(2)
	if at, did, e := Run(s); !state.Same(at, s) || len(did) != 0 || e != api.OK {
		t.Errorf("Run = %v, %v, %d", at, did, e)
	}
	for _, l := range [][][]byte{nil, {}, mixed()} {
		if at, e := After(s, 0, l...); !state.Same(at, s) || e != api.OK {
			t.Errorf("After(0) = %v, %d", at, e)
		}
	}
	root, _ := state.Root(s)
	if roots, e := Roots(s); !slices.Equal(roots, []api.Hash{root}) || e != api.OK {
		t.Errorf("Roots = %x, %d", roots, e)
	}
	five, _ := msg.Write(api.Msg{Kind: api.MDeposit, To: 1, Amount: 5})
	six, _ := msg.Write(api.Msg{Kind: api.MDeposit, To: 31, Amount: 6})
	if in, out, e := Flow(s, five, []byte{1}, six); in != 11 || out != 0 || e != api.OK {
		t.Errorf("Flow = %d, %d, %d", in, out, e)
	}
	for _, n := range []int{1, -1} {
		if at, e := After(s, n); !state.Same(at, api.State{}) || e != api.ErrArg {
			t.Errorf("After(%d) = %v, %d", n, at, e)
		}
	}
}

// P9.1, P9.2: a list with its states written out.
func TestWrittenOut(t *testing.T) {
	var s, paid, gone, more api.State
	s.Accounts[0] = api.Account{Balance: 10, Lock: lock(0)}
	paid.Accounts[0], paid.Accounts[1].Balance = api.Account{Balance: 6, Nonce: 1, Lock: lock(0)}, 4
	gone.Accounts[0], gone.Accounts[1].Balance, gone.Outs = api.Account{Balance: 1, Nonce: 2, Lock: lock(0)}, 4, []api.Out{{To: 40, Amount: 5}}
	more.Accounts[0], more.Accounts[1].Balance, more.Outs = api.Account{Balance: 8, Nonce: 2, Lock: lock(0)}, 4, []api.Out{{To: 40, Amount: 5}}
	l := [][]byte{transfer(0, 0, 1, 4), transfer(0, 0, 1, 4), withdraw(0, 1, 40, 5), {9}, deposit(0, 7)}
	want := []api.State{s, paid, paid, gone, gone, more}
	roots, _ := Roots(s, l...)
	for n, at := range All(s, l...) {
		root, _ := state.Root(want[n])
		if after, e := After(s, n, l...); !state.Same(at, want[n]) || !state.Same(after, want[n]) || e != api.OK || roots[n] != root {
			t.Errorf("after %d: %v, %v, %x", n, at, after, roots[n])
		}
	}
	if at, did, e := Run(s, l...); !state.Same(at, more) || !slices.Equal(did, []bool{true, false, true, false, true}) || e != api.OK {
		t.Errorf("Run = %v, %v, %d", at, did, e)
	}
	if in, out, e := Flow(s, l...); in != 7 || out != 5 || e != api.OK {
		t.Errorf("Flow = %d, %d, %d", in, out, e)
	}
}

// P9.1, P9.2: states that may not be are refused, whatever the messages, none too.
func TestStatesRefused(t *testing.T) {
	wrong := []api.State{some(33), some(34), some(64), {Outs: make([]api.Out, 33)}, {Outs: make([]api.Out, 1<<12)}}
	for _, balances := range [][]uint64{{supply + 1}, {supply, 1}, {1, supply}, {most}, {most, 1}, {most, 2}, {1 << 63, 1 << 63}, {supply, supply, supply, supply}, slices.Repeat([]uint64{most}, 32)} {
		for _, at := range []int{0, 16, 30} {
			var s api.State
			for i, b := range balances {
				s.Accounts[(at+i)%32].Balance = b
			}
			wrong = append(wrong, s)
		}
	}
	for _, s := range wrong {
		for _, l := range [][][]byte{nil, {}, {nil}, {{1}}, {deposit(1, 1)}, mixed(), filling()} {
			wantNone(t, s, l)
		}
	}
}

// P9.1, P9.2: states at the edge of what may be are taken.
func TestStatesTaken(t *testing.T) {
	full, even := api.State{}, some(32)
	full.Accounts[31].Balance = supply
	for i := range even.Accounts {
		even.Accounts[i].Balance = supply / 32
	}
	for _, s := range []api.State{{}, {Outs: []api.Out{}}, full, even, some(0), some(31), some(32)} {
		for _, l := range [][][]byte{nil, {}, {nil}, {{}}, {nil, nil, {1}}, {deposit(1, 1)}, mixed(), filling()} {
			wantAll(t, s, l)
		}
	}
}

// P9.1, P9.2: no messages, in a list that is nil and in one that is empty.
func TestNoMessages(t *testing.T) {
	for n := range 33 {
		s := some(n)
		for _, l := range [][][]byte{nil, {}, mixed()[:0]} {
			want := wantAll(t, s, l)
			if len(want.did) != 0 || want.in.Sign() != 0 || want.out.Sign() != 0 {
				t.Errorf("no messages do %v", want)
			}
		}
	}
}

// P9.1: n from 0 to how many messages there are, and none beside.
func TestPlaces(t *testing.T) {
	s := some(3)
	for count := range len(mixed()) + 1 {
		l := mixed()[:count]
		want := judge(s, l)
		for n := -3; n <= count+3; n++ {
			at, e := After(s, n, l...)
			if n >= 0 && n <= count {
				if !state.Same(at, want.states[n]) || e != api.OK {
					t.Errorf("After(%d) of %d = %v, %d", n, count, at, e)
				}
			} else if !state.Same(at, api.State{}) || e != api.ErrArg {
				t.Errorf("After(%d) of %d = %v, %d", n, count, at, e)
			}
		}
		for _, n := range []int{math.MinInt, math.MinInt + 1, math.MinInt32, -count - 1, len(mixed()) + 1, math.MaxInt32 + 1, math.MaxInt - 1, math.MaxInt} {
			if at, e := After(s, n, l...); !state.Same(at, api.State{}) || e != api.ErrArg {
				t.Errorf("After(%d) of %d = %v, %d", n, count, at, e)
			}
		}
	}
}

// P9.1, P9.2: messages that do something, messages that do nothing and bytes that are none, in one list; and each by itself and twice.
func TestMixed(t *testing.T) {
	for n := range 33 {
		wantAll(t, some(n), mixed())
	}
	if want := wantAll(t, some(0), mixed()); !slices.Contains(want.did, true) || !slices.Contains(want.did, false) || want.in.Sign() == 0 || want.out.Sign() == 0 {
		t.Errorf("the list has not all: %v, %d, %d", want.did, want.in, want.out)
	}
	for _, b := range mixed() {
		wantAll(t, some(1), [][]byte{b})
		wantAll(t, some(1), [][]byte{b, b})
	}
	back := mixed()
	slices.Reverse(back)
	wantAll(t, some(1), back)
}

// P9.1, P9.2: bytes that are no message count as messages, and do nothing, wherever they stand.
func TestNoMessageAmongOthers(t *testing.T) {
	s := some(4)
	sure, _, _ := Run(s, mixed()...)
	for _, none := range [][]byte{nil, {}, {0}, make([]byte, 103), make([]byte, 104), make([]byte, 105), bytes.Repeat([]byte{255}, 104), make([]byte, 1<<16+1)} {
		for at := range len(mixed()) + 1 {
			l := slices.Insert(mixed(), at, none)
			end, did, e := Run(s, l...)
			if !state.Same(end, sure) || len(did) != len(l) || did[at] || e != api.OK {
				t.Errorf("%d bytes at %d: %v, %d", len(none), at, did, e)
			}
			if roots, _ := Roots(s, l...); len(roots) != len(l)+1 || roots[at] != roots[at+1] {
				t.Errorf("%d bytes at %d change a root", len(none), at)
			}
		}
	}
	wantAll(t, s, make([][]byte, 100))
}

// P9.1, P9.2: withdrawals fill a state up to 32, and then do nothing, while others do.
func TestFilling(t *testing.T) {
	for n := range 33 {
		want := wantAll(t, some(n), filling())
		if end := want.states[len(filling())]; len(end.Outs) != 32 {
			t.Errorf("from %d on: %d withdrawals", n, len(end.Outs))
		}
	}
	_, did, _ := Run(some(32), filling()...)
	if !slices.Contains(did, true) || did[0] || did[1] || did[2] || did[3] || did[4] || !did[5] {
		t.Errorf("beside 32 withdrawals: %v", did)
	}
}

// P9.2: Flow counts just what did something, and its sums wrap at 2^64, each by itself.
func TestFlow(t *testing.T) {
	var s api.State
	s.Accounts[0].Lock = lock(0)
	var turns [][]byte
	for n := range 20 {
		turns = append(turns, deposit(0, supply), deposit(0, 1), withdraw(0, n, 5, supply-1), withdraw(0, n, 5, supply), withdraw(0, n, 5, supply), nil)
	}
	wantAll(t, s, turns)
	for count := range len(turns) + 1 {
		want := judge(s, turns[:count])
		if in, out, e := Flow(s, turns[:count]...); in != wrapped(want.in) || out != wrapped(want.out) || e != api.OK {
			t.Errorf("Flow of %d messages = %d, %d, %d", count, in, out, e)
		}
	}
	for _, c := range []struct {
		l       [][]byte
		in, out uint64
	}{
		{[][]byte{deposit(0, supply), withdraw(0, 0, 1, supply)}, supply, supply},
		{[][]byte{deposit(0, supply), deposit(1, 1), withdraw(0, 0, 1, supply+1)}, supply, 0},
		{[][]byte{deposit(0, 9), transfer(0, 0, 0, 9), transfer(0, 1, 1, 9)}, 9, 0},
		{[][]byte{withdraw(0, 0, 1, 1), deposit(0, 1)}, 1, 0},
		{[][]byte{deposit(0, 1), withdraw(0, 0, 1, 1), withdraw(0, 0, 1, 1)}, 1, 1},
		{[][]byte{deposit(0, 0), deposit(32, 1), deposit(0, 1)[:103], append(deposit(0, 1), 0)}, 0, 0},
	} {
		if in, out, e := Flow(s, c.l...); in != c.in || out != c.out || e != api.OK {
			t.Errorf("Flow = %d, %d, %d, not %d, %d", in, out, e, c.in, c.out)
		}
	}
	var round [][]byte
	for n := range 4 {
		round = append(round, deposit(0, supply), withdraw(0, n, 5, supply))
	}
	for more := range uint64(3) {
		l := append(slices.Clone(round), deposit(0, more+1), withdraw(0, 4, 5, 1))
		if in, out, e := Flow(s, l...); in != more+1 || out != 1 || e != api.OK {
			t.Errorf("Flow beyond 2^64 = %d, %d, %d", in, out, e)
		}
		if in, out, e := Flow(s, l[:7]...); in != 0 || out != 3*supply || e != api.OK {
			t.Errorf("Flow where what comes in alone wraps = %d, %d, %d", in, out, e)
		}
	}
}

// P9.2: All may be left at once, midway and behind the last one, and is told no more then.
func TestAllLeft(t *testing.T) {
	s, l := some(5), mixed()
	want := judge(s, l)
	for stop := range len(l) + 2 {
		var seen []int
		for n, at := range All(s, l...) {
			if !state.Same(at, want.states[n]) {
				t.Errorf("%d with %v", n, at)
			}
			seen = append(seen, n)
			if n == stop {
				break
			}
		}
		if len(seen) != min(stop, len(l))+1 || seen[0] != 0 || !slices.IsSorted(seen) {
			t.Errorf("left at %d: %v", stop, seen)
		}
		asked := 0
		All(s, l...)(func(n int, _ api.State) bool {
			asked++
			return n != stop
		})
		if asked != min(stop, len(l))+1 {
			t.Errorf("left at %d: asked %d times", stop, asked)
		}
	}
	asked := 0
	All(s)(func(int, api.State) bool { asked++; return false })
	if asked != 1 {
		t.Errorf("of no messages: asked %d times", asked)
	}
}

// P9.2: one All may be gone over twice, within itself too, and after it was left; it begins anew each time.
func TestAllTwice(t *testing.T) {
	s, l := some(5), mixed()
	want := judge(s, l)
	all, none := All(s, l...), All(some(33), l...)
	for stop := range len(l) + 1 {
		for n := range all {
			if n == stop {
				break
			}
		}
		n := 0
		for i, at := range all {
			if i != n || !state.Same(at, want.states[i]) {
				t.Errorf("the second time: %d with %v", i, at)
			}
			n++
		}
		if n != len(l)+1 {
			t.Errorf("the second time %d states", n)
		}
		for range none {
			t.Errorf("a state that may not be is told")
		}
	}
	for i, outer := range all {
		for j, inner := range all {
			if !state.Same(inner, want.states[j]) {
				t.Errorf("%d within %d: %v", j, i, inner)
			}
			if j == 4 {
				break
			}
		}
		if !state.Same(outer, want.states[i]) {
			t.Errorf("%d with %v", i, outer)
		}
	}
}
