package oracle

import (
	"math"
	"math/rand"
	"slices"
	"testing"

	"proctor/api"
	"proctor/state"
)

// found is the bytes at the end of a way down from a sum, by the left half at each 0 and the right one at each 1; false, if some of them are not found, or are no Pair's.
func found(o *Oracle, sum api.Hash, way ...int) (string, bool) {
	b, ok := o.Get(sum)
	for _, right := range way {
		if !ok || len(b) != 65 || b[0] != 1 {
			return "", false
		}
		b, ok = o.Get(api.Hash(b[1+32*right : 33+32*right]))
	}
	return string(b), ok
}

// wayTo is the way from a state's root down to the leaf i of its accounts (tree 0), of its withdrawals (tree 1).
func wayTo(tree, i int) []int {
	return []int{0, tree, i >> 4 & 1, i >> 3 & 1, i >> 2 & 1, i >> 1 & 1, i & 1}
}

// wantFound finds all accounts and withdrawals of a state, from its root on.
func wantFound(t *testing.T, o *Oracle, s api.State) {
	t.Helper()
	root, e := state.Root(s)
	if e != api.OK || root != rootOf(s) {
		t.Fatalf("Root = %x, %d", root, e)
	}
	for i, a := range s.Accounts {
		b, ok := found(o, root, wayTo(0, i)...)
		if b != "\x00"+string(state.AccountBytes(a)) || b != leafOf(a) || !ok {
			t.Errorf("the account %d is %x, %v", i, b, ok)
		}
	}
	for i, out := range s.Outs {
		if b, ok := found(o, root, wayTo(1, i)...); b != outLeafOf(out) || !ok {
			t.Errorf("the withdrawal %d is %x, %v", i, b, ok)
		}
	}
	for i := len(s.Outs); i < 32; i++ {
		if b, ok := found(o, root, wayTo(1, i)...); b != "" || ok {
			t.Errorf("the withdrawal %d, which there is not, is %x, %v", i, b, ok)
		}
	}
	count := countOf(len(s.Outs))
	if top, _ := o.Get(root); len(top) != 65 || string(top[33:]) != string(count[:]) {
		t.Errorf("the root is the sum of %x", top)
	}
}

// wantLearnt learns a state by an oracle that is new, and by one that has it then already.
func wantLearnt(t *testing.T, s api.State) {
	t.Helper()
	o, j := New(), judge{}
	for range 2 {
		wantLearn(t, o, &j, s)
		wantSame(t, o, j)
	}
	if mayBe(s) {
		wantFound(t, o, s)
		wantFound(t, o.Copy(), s)
	}
}

// P16.1, P16.2: each number of withdrawals, beside all accounts unlike, and beside all zero; two too many as well.
func TestLearn(t *testing.T) {
	for n := range 35 {
		wantLearnt(t, some(n))
		wantLearnt(t, api.State{Outs: make([]api.Out, n)})
	}
}

// P16.1: what comes again in a state stands once: of the zero one a leaf, a Pair for each level of both trees, and two above.
func TestLearnOfTheZeroState(t *testing.T) {
	o := New()
	if e := o.Learn(api.State{}); e != api.OK || len(o.List()) != 1+5+5+2 {
		t.Errorf("Learn = %d, %d entries", e, len(o.List()))
	}
	wantNothing(t, o, api.Hash{}, sumOf(""), countOf(0))
	if e := o.Learn(some(32)); e != api.OK || len(o.List()) != 13+32+32+31+31+2 {
		t.Errorf("Learn = %d, %d entries", e, len(o.List()))
	}
	wantFound(t, o, api.State{})
	wantFound(t, o, some(32))
}

// greatest are states in which nothing can be more.
func greatest() []api.State {
	var one, evenly api.State
	for i := range evenly.Accounts {
		evenly.Accounts[i] = api.Account{Balance: api.Supply / 32, Nonce: math.MaxUint64, Lock: h(i)}
		evenly.Outs = append(evenly.Outs, api.Out{To: math.MaxUint64, Amount: math.MaxUint64})
	}
	one.Accounts[31].Balance = api.Supply
	return []api.State{one, evenly}
}

// P16.1, P16.2: the greatest states that may be.
func TestLearnOfTheGreatestStates(t *testing.T) {
	for _, s := range greatest() {
		if !mayBe(s) {
			t.Fatal("a state that may not be")
		}
		wantLearnt(t, s)
	}
}

// barred are states that may not be, each by one rule alone, and by both.
func barred() []api.State {
	with := func(s api.State, balances ...uint64) api.State {
		for i, b := range balances {
			s.Accounts[5*i].Balance = b
		}
		return s
	}
	evenly := greatest()[1]
	evenly.Accounts[7].Balance++
	return []api.State{
		some(33), some(64), {Outs: make([]api.Out, 33)}, {Outs: make([]api.Out, 1<<12)}, evenly,
		with(api.State{}, api.Supply+1), with(api.State{}, api.Supply, 1), with(api.State{}, 1, api.Supply),
		with(api.State{}, math.MaxUint64), with(api.State{}, math.MaxUint64, 1), with(api.State{}, math.MaxUint64, 2),
		with(api.State{}, 1<<63, 1<<63), with(api.State{}, api.Supply, api.Supply, api.Supply, api.Supply),
		with(some(33), 1<<63, 1<<63), with(some(64), math.MaxUint64, 9),
	}
}

// P16.1: of a state that may not be nothing is learnt, and what is there stays.
func TestLearnOfStatesThatMayNotBe(t *testing.T) {
	for i, s := range barred() {
		o, j := New(), judge{}
		for range 3 {
			if e := o.Learn(s); e != api.ErrArg {
				t.Errorf("%d: Learn = %d", i, e)
			}
			wantSame(t, o, j)
			wantNothing(t, o, sumOf(leafOf(s.Accounts[0])))
			wantAdd(t, o, &j, "abc")
		}
		wantLearn(t, o, &j, some(3))
		wantLearn(t, o, &j, s)
		wantLearn(t, o, &j, some(4))
		wantSame(t, o, j)
	}
}

// P16.1: of two states that share leaves and Pairs just what is new is put behind: a leaf, five Pairs above it, and two above both trees.
func TestLearnOfStatesThatShareLeaves(t *testing.T) {
	for i := range 32 {
		s := some(6)
		other := s
		other.Accounts[i].Nonce++
		o, j := New(), judge{}
		wantLearn(t, o, &j, s)
		n := len(o.List())
		wantLearn(t, o, &j, other)
		wantSame(t, o, j)
		if k := len(o.List()); k != n+8 {
			t.Errorf("the account %d: %d entries more", i, k-n)
		}
		wantFound(t, o, s)
		wantFound(t, o, other)
		wantLearn(t, o, &j, s)
		wantSame(t, o, j)
	}
}

// P16.1: some of what is known of a state is added ahead of learning it, and behind.
func TestLearnBesideAdd(t *testing.T) {
	s := some(5)
	known := knownOf(s)
	for i, b := range known {
		o, j := New(), judge{}
		wantAdd(t, o, &j, "abc")
		wantAdd(t, o, &j, b)
		wantAdd(t, o, &j, known[(7*i+3)%len(known)])
		wantAdd(t, o, &j, b[1:])
		wantLearn(t, o, &j, s)
		wantAdd(t, o, &j, b)
		wantAdd(t, o, &j, b+"\x00")
		wantAdd(t, o, &j, known[(5*i+1)%len(known)])
		wantLearn(t, o, &j, s)
		wantSame(t, o, j)
		if l := o.List(); string(l[0].Bytes) != "abc" || string(l[1].Bytes) != b || string(l[len(l)-1].Bytes) != b+"\x00" {
			t.Errorf("%d: what was added does not stand where it was added", i)
		}
		wantFound(t, o, s)
	}
}

// P16.1: the order of all stands, whatever is added twice and learnt between.
func TestOrder(t *testing.T) {
	o, j := New(), judge{}
	for n := range uint64(12) {
		wantAdd(t, o, &j, numbers(n))
		wantLearn(t, o, &j, some(int(n%4)))
		wantAdd(t, o, &j, numbers(n/2))
		wantLearn(t, o, &j, some(33))
		wantAdd(t, o, &j, leafOf(some(0).Accounts[n]))
		wantSame(t, o, j)
	}
}

// P16.1, P16.2: the sums of leaves, of Pairs and of the root have the bytes that were summed; another state's have none.
func TestGetOfWhatWasLearnt(t *testing.T) {
	s := some(4)
	o := New()
	o.Learn(s)
	for i, b := range knownOf(s) {
		if got, ok := o.Get(sumOf(b)); string(got) != b || !ok {
			t.Errorf("Get of what is known, %d, = %x, %v", i, got, ok)
		}
		wantNothing(t, o, sumOf(b[1:]))
	}
	other := some(5)
	other.Accounts[9].Lock[31]++
	wantNothing(t, o, rootOf(other), sumOf(leafOf(other.Accounts[9])), sumOf(outLeafOf(other.Outs[4])), countOf(4), api.Hash{})
}

// P16.2: all that is learnt is found from each state's root on, behind others, and among bytes of all kinds.
func TestAllIsFound(t *testing.T) {
	r := rand.New(rand.NewSource(162))
	o, j := New(), judge{}
	states := append(greatest(), api.State{}, some(0), some(32))
	for range 25 {
		states = append(states, drawn(r))
	}
	for i, s := range states {
		wantLearn(t, o, &j, s)
		wantFound(t, o, s)
		wantAdd(t, o, &j, numbers(uint64(i)))
		wantLearn(t, o, &j, barred()[i%3])
	}
	c := o.Copy()
	for _, s := range slices.Backward(states) {
		wantFound(t, o, s)
		wantFound(t, c, s)
	}
	wantSame(t, o, j)
}

// P16.2: what a message may make of a state, account by account, is found behind all that was ahead of it.
func TestWalksAreFound(t *testing.T) {
	r := rand.New(rand.NewSource(163))
	o := New()
	s := some(0)
	states := []api.State{s}
	for range 40 {
		i := r.Intn(32)
		s.Accounts[i].Balance += uint64(r.Intn(99))
		s.Accounts[i].Lock = h(r.Intn(9))
		if len(s.Outs) < 32 && r.Intn(2) == 0 {
			s.Outs = append(slices.Clone(s.Outs), api.Out{To: uint64(r.Intn(2)), Amount: 1})
		}
		states = append(states, s)
	}
	for _, s := range states {
		if e := o.Learn(s); e != api.OK {
			t.Errorf("Learn = %d", e)
		}
	}
	for _, s := range states {
		wantFound(t, o, s)
	}
}
