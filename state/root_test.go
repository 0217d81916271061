package state

import (
	"math"
	"math/rand"
	"slices"
	"testing"

	"proctor/api"
	"proctor/collide"
	"proctor/sha"
)

// wrongPlaces are places that no list of n has.
func wrongPlaces(n int) []int {
	return []int{-1, -2, -32, -64, math.MinInt, math.MinInt + 1, n, n + 1, n + 31, n + 32, n + 64, n + 128, 1 << 32, math.MaxInt - 31, math.MaxInt}
}

func sameWitness(v, w api.Witness) bool {
	return slices.Equal(v.Path, w.Path) && v.Other == w.Other && v.Count == w.Count
}

func isZero(w api.Witness) bool { return len(w.Path) == 0 && w.Other == api.Hash{} && w.Count == 0 }

// wantRoot holds Root against the second judge.
func wantRoot(t *testing.T, s api.State) {
	t.Helper()
	if root, e := Root(s); root != stateRoot(s) || e != api.OK {
		t.Errorf("Root with %d withdrawals = %x, %d", len(s.Outs), root, e)
	}
}

// wantWitness holds the witness of the account i against the second judge, and checks with it; that of the withdrawal i too, if there is one.
func wantWitness(t *testing.T, s api.State, i int) {
	t.Helper()
	root, count := stateRoot(s), uint64(len(s.Outs))
	accounts, outs := accountLeaves(s), outLeaves(s)
	want := api.Witness{Path: pathOf(accounts, i), Other: rootOf(outs), Count: count}
	if w, e := Prove(s, i); !sameWitness(w, want) || e != api.OK || !Check(root, i, s.Accounts[i], w) {
		t.Errorf("Prove(%d) with %d withdrawals = %x, %d", i, count, w, e)
	}
	if i >= len(s.Outs) {
		return
	}
	want = api.Witness{Path: pathOf(outs, i), Other: rootOf(accounts), Count: count}
	if w, e := ProveOut(s, i); !sameWitness(w, want) || e != api.OK || !CheckOut(root, i, s.Outs[i], w) {
		t.Errorf("ProveOut(%d) of %d withdrawals = %x, %d", i, count, w, e)
	}
}

func wantWitnesses(t *testing.T, s api.State) {
	t.Helper()
	for i := range s.Accounts {
		wantWitness(t, s, i)
	}
}

// wantRefused asks all calls of a state that may not be.
func wantRefused(t *testing.T, s api.State) {
	t.Helper()
	if root, e := Root(s); root != (api.Hash{}) || e != api.ErrArg {
		t.Errorf("Root = %x, %d", root, e)
	}
	if l, e := Known(s); len(l) != 0 || e != api.ErrArg {
		t.Errorf("Known = %d entries, %d", len(l), e)
	}
	for _, i := range append(wrongPlaces(32), 0, 1, 31) {
		if w, e := Prove(s, i); !isZero(w) || e != api.ErrArg {
			t.Errorf("Prove(%d) = %x, %d", i, w, e)
		}
		if w, e := ProveOut(s, i); !isZero(w) || e != api.ErrArg {
			t.Errorf("ProveOut(%d) = %x, %d", i, w, e)
		}
	}
}

// P6.2: three roots that were worked out elsewhere.
func TestRootsWrittenOut(t *testing.T) {
	var two, many api.State
	two.Accounts[3] = api.Account{Balance: 7, Nonce: 2, Lock: api.Hash{9}}
	two.Accounts[31].Balance = 1 << 61
	two.Outs = []api.Out{{To: 1 << 63, Amount: 5}, {To: 2, Amount: 6}}
	for i := range uint64(32) {
		many.Outs = append(many.Outs, api.Out{To: i, Amount: math.MaxUint64 - i})
	}
	for i, c := range []struct {
		s    api.State
		want string
	}{
		{api.State{}, "605f3445ccc4daa86b0ec49091a83d8bead17401f7e9ab6f98b67d46ea8c46f6"},
		{api.State{Outs: []api.Out{}}, "605f3445ccc4daa86b0ec49091a83d8bead17401f7e9ab6f98b67d46ea8c46f6"},
		{two, "84635cc6e6b0e0c175f170b25b616ae951a33bff49a3b15908e82ee5960cf484"},
		{many, "67f0dbfa6c5587c3eb759161cdb1b31ef5d49f7ae97fc40b939abdb6bbb79ad3"},
	} {
		if root, e := Root(c.s); sha.Hex(root) != c.want || e != api.OK {
			t.Errorf("%d: Root = %x, %d", i, root, e)
		}
	}
}

// P6.2, P6.5: roots and witnesses with each number of withdrawals; each account, each withdrawal checks.
func TestRootsAndWitnesses(t *testing.T) {
	for n := range 33 {
		wantRoot(t, some(n))
		wantWitnesses(t, some(n))
		none := api.State{Outs: make([]api.Out, n)}
		wantRoot(t, none)
		wantWitnesses(t, none)
	}
}

// P6.2: whatever is changed, the root is another one.
func TestRootsDiffer(t *testing.T) {
	for _, n := range []int{0, 1, 16, 31} {
		seen := map[api.Hash]int{}
		for i, s := range append(changed(some(n)), some(n)) {
			if !May(s) {
				continue
			}
			root, e := Root(s)
			if earlier, there := seen[root]; there || e != api.OK {
				t.Errorf("%d withdrawals: the states %d and %d have one root, %d", n, earlier, i, e)
			}
			seen[root] = i
		}
	}
}

// P6.2: states that may not be.
func TestStatesRefused(t *testing.T) {
	for _, s := range []api.State{
		some(33), some(64), {Outs: make([]api.Out, 1<<12)},
		with(0, 1<<62, 1), with(31, 1<<62+1), with(5, math.MaxUint64, 1), with(5, math.MaxUint64, 2),
		with(0, 1<<63, 1<<63), each(1 << 59), each(math.MaxUint64),
	} {
		wantRefused(t, s)
	}
}

// P6.2: places that there are not.
func TestPlacesRefused(t *testing.T) {
	for n := range 33 {
		s := some(n)
		for _, i := range wrongPlaces(32) {
			if w, e := Prove(s, i); !isZero(w) || e != api.ErrArg {
				t.Errorf("Prove(%d) = %x, %d", i, w, e)
			}
		}
		for _, i := range wrongPlaces(n) {
			if w, e := ProveOut(s, i); !isZero(w) || e != api.ErrArg {
				t.Errorf("ProveOut(%d) of %d = %x, %d", i, n, w, e)
			}
		}
	}
}

// wrongWitnesses are witnesses that are not w, each in one thing alone.
func wrongWitnesses(w api.Witness) []api.Witness {
	var all []api.Witness
	turned := slices.Clone(w.Path)
	slices.Reverse(turned)
	paths := [][]api.Hash{nil, {}, w.Path[:1], w.Path[:4], w.Path[1:], turned, append(slices.Clone(w.Path), w.Other), append([]api.Hash{{}}, w.Path...), append(slices.Clone(w.Path), w.Other, countOf(w.Count)), slices.Concat(w.Path, w.Path), make([]api.Hash, 17), make([]api.Hash, 65)}
	for n := range w.Path {
		spoilt, zero := slices.Clone(w.Path), slices.Clone(w.Path)
		spoilt[n][31*n%32] ^= 1 << n
		zero[n] = api.Hash{}
		paths = append(paths, spoilt, zero)
	}
	for _, p := range paths {
		if !slices.Equal(p, w.Path) {
			all = append(all, api.Witness{Path: p, Other: w.Other, Count: w.Count})
		}
	}
	other := w.Other
	other[17] ^= 4
	for _, o := range []api.Hash{{}, other, w.Path[0], w.Path[4]} {
		if o != w.Other {
			all = append(all, api.Witness{Path: w.Path, Other: o, Count: w.Count})
		}
	}
	for _, c := range []uint64{0, 1, 2, 3, 31, 32, 33, 34, 256 + w.Count, 1<<32 + w.Count, 1<<63 + w.Count, math.MaxUint64} {
		if c != w.Count {
			all = append(all, api.Witness{Path: w.Path, Other: w.Other, Count: c})
		}
	}
	return all
}

// otherAccounts are accounts that are not a, each in one field alone but the last.
func otherAccounts(a api.Account) []api.Account {
	balance, great, nonce, lock, last := a, a, a, a, a
	balance.Balance++
	great.Balance ^= 1 << 63
	nonce.Nonce--
	lock.Lock[0] ^= 1
	last.Lock[31] ^= 128
	return []api.Account{balance, great, nonce, lock, last, {Balance: a.Nonce + 1, Nonce: a.Balance + 1, Lock: a.Lock}}
}

// otherOuts are withdrawals that are not o, each in one field alone but the last.
func otherOuts(o api.Out) []api.Out {
	return []api.Out{{To: o.To + 1, Amount: o.Amount}, {To: o.To ^ 1<<63, Amount: o.Amount}, {To: o.To, Amount: o.Amount - 1}, {To: o.To, Amount: o.Amount ^ 1<<63}, {To: o.Amount + 1, Amount: o.To + 1}}
}

// wantNoAccount holds that Check is false and, as P6.5 asks, that this is so because nothing collides.
func wantNoAccount(t *testing.T, s api.State, i int, a api.Account, w api.Witness) {
	t.Helper()
	if !Check(stateRoot(s), i, a, w) {
		return
	}
	known, _ := Known(s)
	way, _ := collide.Path(i, accountLeaf(a), wayUp(w)...)
	if _, _, ok := collide.Find(slices.Concat(known, []api.Hashed{hashed(accountLeafBytes(a))}, way)...); !ok {
		t.Errorf("%x checks as the account %d with %x, and nothing collides", a, i, w)
	}
}

// wantNoOut is likewise of a withdrawal.
func wantNoOut(t *testing.T, s api.State, i int, o api.Out, w api.Witness) {
	t.Helper()
	if CheckOut(stateRoot(s), i, o, w) {
		t.Errorf("%x checks as the withdrawal %d with %x", o, i, w)
	}
}

// P6.3, P6.5: Check takes the right root, place, account and witness alone.
func TestCheck(t *testing.T) {
	for _, n := range []int{0, 2, 31, 32} {
		s := some(n)
		root := stateRoot(s)
		for i, a := range s.Accounts {
			w, _ := Prove(s, i)
			for _, other := range otherAccounts(a) {
				wantNoAccount(t, s, i, other, w)
			}
			for j, other := range s.Accounts {
				if j != i {
					wantNoAccount(t, s, j, a, w)
					wantNoAccount(t, s, i, other, w)
				}
			}
			for _, j := range wrongPlaces(32) {
				if Check(root, j, a, w) {
					t.Errorf("the account %d checks at %d", i, j)
				}
			}
			for _, wrong := range wrongWitnesses(w) {
				if Check(root, i, a, wrong) {
					t.Errorf("the account %d checks with %x", i, wrong)
				}
			}
			for bit := range 256 {
				wrong := root
				wrong[bit/8] ^= 1 << (bit % 8)
				if Check(wrong, i, a, w) {
					t.Errorf("the account %d checks with the bit %d of the root turned", i, bit)
				}
			}
		}
	}
}

// P6.3, P6.5: CheckOut takes the right root, place, withdrawal and witness alone.
func TestCheckOut(t *testing.T) {
	for _, n := range []int{1, 2, 31, 32} {
		s := some(n)
		root := stateRoot(s)
		for i, o := range s.Outs {
			w, _ := ProveOut(s, i)
			for _, other := range otherOuts(o) {
				wantNoOut(t, s, i, other, w)
			}
			for j, other := range s.Outs {
				if j != i {
					wantNoOut(t, s, j, o, w)
					wantNoOut(t, s, i, other, w)
				}
			}
			for _, j := range wrongPlaces(n) {
				wantNoOut(t, s, j, o, w)
			}
			for _, wrong := range wrongWitnesses(w) {
				wantNoOut(t, s, i, o, wrong)
			}
			for bit := range 256 {
				wrong := root
				wrong[bit/8] ^= 1 << (bit % 8)
				if CheckOut(wrong, i, o, w) {
					t.Errorf("the withdrawal %d checks with the bit %d of the root turned", i, bit)
				}
			}
		}
	}
}

// P6.3: an account's witness is none of a withdrawal, nor the other way round.
func TestWitnessesOfTheOtherTree(t *testing.T) {
	s := some(32)
	for i := range 32 {
		ofAccount, _ := Prove(s, i)
		ofOut, _ := ProveOut(s, i)
		for _, j := range []int{i, i + 32, i - 32} {
			wantNoAccount(t, s, j, s.Accounts[i], ofOut)
			wantNoOut(t, s, j, s.Outs[i], ofAccount)
		}
	}
}

// made is a witness of whatever sums.
func made(path int, count uint64) api.Witness {
	w := api.Witness{Other: h(900), Count: count}
	for i := range path {
		w.Path = append(w.Path, h(800+i))
	}
	return w
}

// P6.3: each root that comes of an account and a witness is taken, of a state that may be or not; just if the witness has 5 sums and a Count of at most 32, and the place is one of 32.
func TestCheckOfWhateverRoot(t *testing.T) {
	for path := range 20 {
		for _, count := range []uint64{0, 1, 2, 31, 32, 33, 64, 1 << 32, 1 << 63, math.MaxUint64} {
			for _, a := range []api.Account{{}, {Balance: math.MaxUint64, Nonce: 1, Lock: h(1)}} {
				w := made(path, count)
				for i := range 70 {
					want := path == 5 && count <= 32 && i < 32
					if Check(accountRoot(i, a, w), i, a, w) != want {
						t.Errorf("Check(%d) with %d sums and the Count %d = %v", i, path, count, !want)
					}
				}
			}
		}
	}
}

// P6.3: likewise of a withdrawal, whose place is below Count.
func TestCheckOutOfWhateverRoot(t *testing.T) {
	for path := range 20 {
		for _, count := range []uint64{0, 1, 2, 31, 32, 33, 64, 1 << 32, 1 << 63, math.MaxUint64} {
			for _, o := range []api.Out{{}, {To: math.MaxUint64, Amount: 7}} {
				w := made(path, count)
				for i := range 70 {
					want := path == 5 && count <= 32 && uint64(i) < count
					if CheckOut(outRoot(i, o, w), i, o, w) != want {
						t.Errorf("CheckOut(%d) with %d sums and the Count %d = %v", i, path, count, !want)
					}
				}
			}
		}
	}
}

// P6.3: what stands in the other tree, and what would be beyond a tree, checks at no place, though the root comes of it.
func TestChecksBeyondTheTree(t *testing.T) {
	a, o := api.Account{Balance: 1, Lock: h(3)}, api.Out{To: 2, Amount: 3}
	for i := range 32 {
		w := made(5, 32)
		asOut := pair(pair(w.Other, climb(i, accountLeaf(a), w.Path)), countOf(32))
		asAccount := pair(pair(climb(i, outLeaf(o), w.Path), w.Other), countOf(32))
		for _, j := range []int{i, i + 32, i - 32, i + 64, i + 96, i + 128, i - 64, i + math.MinInt} {
			if Check(asOut, j, a, w) || CheckOut(asAccount, j, o, w) {
				t.Errorf("a leaf of the other tree checks at %d", j)
			}
			if j != i && (Check(accountRoot(i, a, w), j, a, w) || CheckOut(outRoot(i, o, w), j, o, w)) {
				t.Errorf("the leaf %d checks at %d", i, j)
			}
		}
	}
	// A place near the greatest int, below a Count that may not be.
	for _, count := range []uint64{1 << 63, math.MaxUint64} {
		if w := made(5, count); CheckOut(outRoot(0, o, w), math.MaxInt, o, w) || CheckOut(api.Hash{}, math.MaxInt, o, w) {
			t.Errorf("a withdrawal checks below the Count %d", count)
		}
	}
}

// P6.3: the zero root, which goes with errors, takes nothing.
func TestChecksOfZeroRoot(t *testing.T) {
	for _, w := range []api.Witness{{}, made(5, 1), {Path: make([]api.Hash, 5), Count: 1}, {Path: make([]api.Hash, 17), Count: 1}, made(4, 1), made(6, 1)} {
		for _, i := range append(wrongPlaces(32), 0, 1, 31) {
			if Check(api.Hash{}, i, api.Account{}, w) || CheckOut(api.Hash{}, i, api.Out{}, w) {
				t.Errorf("the zero root takes something at %d with %x", i, w)
			}
		}
	}
}

// P6.5: whatever another account and another witness there are, none checks.
func TestRandomAccounts(t *testing.T) {
	r := rand.New(rand.NewSource(65))
	for range 3000 {
		s := some(r.Intn(33))
		i := r.Intn(32)
		w, _ := Prove(s, r.Intn(32))
		if r.Intn(2) == 0 {
			w.Path[r.Intn(5)] = h(r.Intn(40))
		}
		if r.Intn(3) == 0 {
			w.Count = uint64(r.Intn(33))
		}
		a := s.Accounts[r.Intn(32)]
		if r.Intn(2) == 0 {
			a.Balance += uint64(r.Intn(3))
		}
		if a != s.Accounts[i] {
			wantNoAccount(t, s, i, a, w)
		}
	}
}

// P6.3: whatever place and witness, Check and CheckOut say what the second judge says.
func FuzzCheck(f *testing.F) {
	f.Add(0, uint64(3), 0, uint8(5), uint64(0), false)
	f.Add(31, uint64(3), 31, uint8(5), uint64(32), true)
	f.Add(3, uint64(3), 35, uint8(6), uint64(33), false)
	f.Fuzz(func(t *testing.T, i int, n uint64, j int, path uint8, count uint64, swapped bool) {
		w := made(int(path)%20, count)
		if swapped && len(w.Path) > 1 {
			w.Path[0], w.Path[1] = w.Path[1], w.Path[0]
		}
		a, o := api.Account{Balance: n, Nonce: n}, api.Out{To: n, Amount: n}
		j &= 31
		may := len(w.Path) == 5 && count <= 32 && i == j
		if Check(accountRoot(j, a, w), i, a, w) != may {
			t.Errorf("Check(%d) of the account %d is not %v", i, j, may)
		}
		if CheckOut(outRoot(j, o, w), i, o, w) != (may && uint64(i) < count) {
			t.Errorf("CheckOut(%d) of the withdrawal %d with the Count %d", i, j, count)
		}
	})
}
