package stf

import (
	"math/rand"
	"slices"
	"testing"

	"proctor/api"
	"proctor/oracle"
)

// dealing is a state and bytes.
type dealing struct {
	s api.State
	m []byte
}

// dealings is bytes of each Kind and each way to be refused, for states with unlike accounts and with accounts alike.
func dealings() []dealing {
	var l []dealing
	alike := api.State{}
	for i := range alike.Accounts {
		alike.Accounts[i] = api.Account{Balance: 9, Nonce: 6, Lock: lock(6)}
	}
	last := rich(3)
	last.Accounts[6].Nonce = most
	for _, s := range []api.State{rich(0), rich(9), rich(31), rich(32), alike, last, {}} {
		for _, m := range []api.Msg{pay(6, 19), pay(6, 7), pay(6, 6), draw(6, 19), bring(19)} {
			l = append(l,
				dealing{s, of(m)},
				dealing{s, of(m, func(m *api.Msg) { m.Amount = 1 << 62 })},
				dealing{s, of(m, func(m *api.Msg) { m.Amount = 0 })},
				dealing{s, of(m, func(m *api.Msg) { m.Nonce++ })},
				dealing{s, of(m, func(m *api.Msg) { m.Key[0]++ })},
				dealing{s, of(m, func(m *api.Msg) { m.From = 32 })},
				dealing{s, of(m)[:103]},
			)
		}
		l = append(l, dealing{s, nil}, dealing{s, []byte{1}})
	}
	return l
}

// few is some of them: those of one state that do something, and now and then one of the others.
func few() []dealing {
	var l []dealing
	for i, d := range dealings() {
		_, v := judge(d.s, d.m)
		if v.did() && len(d.s.Outs) == 9 || i%16 == 0 {
			l = append(l, d)
		}
	}
	return l
}

// asked is a dealing, its root, what is known for it, and what comes of it.
type asked struct {
	dealing
	root  api.Hash
	known []api.Hashed
	want  outcome
}

func ask(t testing.TB, d dealing) asked {
	t.Helper()
	known, e := Prove(d.s, d.m)
	if e != api.OK {
		t.Fatalf("Prove: %d", e)
	}
	after, v := judge(d.s, d.m)
	return asked{d, rootOf(d.s), known, outcome{api.Halted, rootOf(after), v.did()}}
}

// traps says whether the machine traps with something else known; if not, it has to come to the same.
func (a asked) traps(t testing.TB, b bench, known []api.Hashed) bool {
	t.Helper()
	o := b.run(t, a.root, a.m, known)
	if o != a.want && o != (outcome{status: api.Trapped}) {
		t.Errorf("%x, %d of %d known: %v, not %v", a.m, len(known), len(a.known), o, a.want)
	}
	return o.status == api.Trapped
}

// P17.3: each single entry left out, and each one alone.
func TestEachEntryLeftOut(t *testing.T) {
	b := newBench(t)
	trapped, halted := 0, 0
	for _, d := range few() {
		a := ask(t, d)
		for i := range a.known {
			less := slices.Delete(slices.Clone(a.known), i, i+1)
			if a.traps(t, b, less) {
				trapped++
			} else {
				halted++
			}
			a.traps(t, b, a.known[i:i+1])
		}
		last := len(a.known) - 1
		if !a.traps(t, b, a.known[:last]) || !a.traps(t, b, nil) {
			t.Errorf("%x is not known, and halts", a.m)
		}
		if !a.want.did {
			continue
		}
		if !a.traps(t, b, a.known[last:]) || !a.traps(t, b, slices.Delete(slices.Clone(a.known), last-1, last)) {
			t.Errorf("%x: the root's Pair is not known, and it halts", a.m)
		}
	}
	if trapped < 100 || halted < 100 {
		t.Errorf("%d trapped, %d halted", trapped, halted)
	}
}

// P17.3: drawn ones left out; the others may stand in any order.
func TestDrawnEntriesLeftOut(t *testing.T) {
	b := newBench(t)
	r := rand.New(rand.NewSource(173))
	for _, d := range dealings() {
		a := ask(t, d)
		known := slices.Clone(a.known)
		for _, one := range []int{1, 2, 20, 200} {
			r.Shuffle(len(known), func(i, j int) { known[i], known[j] = known[j], known[i] })
			if a.traps(t, b, known) {
				t.Errorf("%x traps, though all is known", a.m)
			}
			less := slices.DeleteFunc(slices.Clone(known), func(api.Hashed) bool { return r.Intn(one) == 0 })
			a.traps(t, b, less)
			a.traps(t, b, append(slices.Clone(less), a.known[len(a.known)-1]))
		}
	}
}

// others is what is known of other states and bytes, among them ones that differ in one thing from these, and the state behind the bytes.
func others(t testing.TB, d dealing) [][]api.Hashed {
	var l [][]api.Hashed
	add := func(s api.State, m []byte) {
		l = append(l, ask(t, dealing{s, m}).known)
	}
	after, _ := judge(d.s, d.m)
	add(after, d.m)
	near := d.s
	near.Accounts[6].Balance ^= 1
	add(near, nil)
	near.Accounts[31].Nonce++
	add(near, of(pay(6, 19), func(m *api.Msg) { m.Amount++ }))
	near.Outs = append(slices.Clone(d.s.Outs[:len(d.s.Outs)/2]), api.Out{To: 1})
	add(near, of(bring(6)))
	add(api.State{}, d.m)
	add(greatest(), make([]byte, 104))
	return l
}

// P17.3: entries of other states change nothing, ahead of those of this one, behind them, between them; with some of these left out it may trap.
func TestEntriesOfOtherStates(t *testing.T) {
	b := newBench(t)
	r := rand.New(rand.NewSource(174))
	for _, d := range dealings() {
		a := ask(t, d)
		all := slices.Concat(others(t, d)...)
		mixed := slices.Concat(all, a.known)
		r.Shuffle(len(mixed), func(i, j int) { mixed[i], mixed[j] = mixed[j], mixed[i] })
		for _, known := range [][]api.Hashed{slices.Concat(all, a.known), slices.Concat(a.known, all), mixed} {
			if a.traps(t, b, known) {
				t.Errorf("%x traps, though all is known", a.m)
			}
		}
		a.traps(t, b, all)
		for _, other := range others(t, d) {
			a.traps(t, b, slices.Concat(other, a.known[len(a.known)-1:]))
		}
	}
}

// P17.3: entries whose bytes have another sum, ahead of the right ones, make it trap at most.
func TestEntriesThatLie(t *testing.T) {
	b := newBench(t)
	for n, d := range few() {
		a := ask(t, d)
		for i := n % 4; i < len(a.known); i += 4 {
			x := a.known[i]
			lies := [][]byte{nil, append(slices.Clone(x.Bytes), 0), a.known[(i+1)%len(a.known)].Bytes}
			if len(x.Bytes) > 0 {
				other := slices.Clone(x.Bytes)
				other[len(other)-1] ^= 1
				lies = append(lies, other, x.Bytes[:len(x.Bytes)-1])
			}
			for _, lie := range lies {
				ahead := append([]api.Hashed{{Bytes: lie, Sum: x.Sum}}, a.known...)
				a.traps(t, b, ahead)
				behind := append(slices.Clone(a.known), ahead[0])
				if a.traps(t, b, behind) {
					t.Errorf("%x traps by a lie behind all that is known", a.m)
				}
			}
		}
	}
}

// P17.3: what an oracle knows, which has learnt many states one behind the other, does for each of them.
func TestOracleOfManyStates(t *testing.T) {
	b := newBench(t)
	r := rand.New(rand.NewSource(175))
	o := oracle.New()
	var l []asked
	s := rich(28)
	for range 12 {
		for len(l) == 0 || !l[len(l)-1].want.did {
			l = append(l, ask(t, dealing{s, drawnMessageOf(r, s)}))
		}
		o.Learn(s)
		s, _ = judge(s, l[len(l)-1].m)
		l = append(l, ask(t, dealing{s, of(bring(uint64(r.Intn(32))))}))
		o.Learn(s)
	}
	for _, a := range l {
		o.Add(a.m)
	}
	known := o.List()
	for _, a := range l {
		if a.traps(t, b, known) {
			t.Errorf("%x traps", a.m)
		}
	}
}

// drawnMessageOf is a payment of a state of rich, or of one behind it.
func drawnMessageOf(r *rand.Rand, s api.State) []byte {
	from := uint64(r.Intn(32))
	return of(pay(from, uint64(r.Intn(32))), func(m *api.Msg) {
		m.Kind = api.MsgKind(2 + r.Intn(2))
		m.Nonce, m.Next = s.Accounts[from].Nonce, s.Accounts[from].Lock
	})
}
