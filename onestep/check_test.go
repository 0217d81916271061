package onestep

import (
	"bytes"
	"fmt"
	"math"
	"math/rand"
	"slices"
	"testing"

	"proctor/api"
	"proctor/mem"
	"proctor/vm"
)

// subject is a machine whose step is proved, and what must be known for it.
type subject struct {
	name  string
	m     api.Machine
	known []api.Hashed
}

// subjects are machines at steps of all kinds, memories of one word up to MaxWords among them.
func subjects() []subject {
	var all []subject
	for _, size := range []int{1, 2, 4, 16, 4096} {
		n := uint64(size)
		for _, c := range []api.Code{in(api.LI, 1, 0, 0, 7), in(api.HALT, 0, 0, 0, 0), in(api.DIV, 1, 2, 9, 0), in(api.LD, 1, 2, 0, 0), in(api.LD, 1, 2, 0, 1<<20), in(api.ST, 1, 2, 0, 0), in(api.ST, 1, 9, 0, 0), in(api.JR, 1, 0, 0, 0), in(api.HASH, 2, 3, 4, 256), in(api.HASH, 9, 9, 4, 0), in(api.HASH, 9, 9, 9, 0), in(api.PRE, 1, 2, 9, 0), in(api.PLEN, 1, 2, 0, 0), {}} {
			m := placed(size, n/8, c, [16]uint64{1: 5, 2: n / 2, 3: n / 4, 4: 19})
			x := hashed([]byte("ABCDEFGHIJK"))
			if asks := c.Op == api.PRE || c.Op == api.PLEN; asks && size >= 16 {
				putSum(m.Mem, size/2, x.Sum)
			} else if asks && size == 4 {
				continue
			}
			all = append(all, subject{fmt.Sprintf("%d words, %v", size, c), m, []api.Hashed{x}})
		}
		halted := placed(size, 0, in(api.ST, 1, 9, 0, 0), [16]uint64{1: 5})
		halted.Status = api.Halted
		away := placed(size, 0, in(api.ST, 1, 9, 0, 0), [16]uint64{1: 5})
		away.PC = n
		all = append(all, subject{"halted", halted, nil}, subject{"away", away, nil})
	}
	none := hashed(nil)
	m := placed(16, 0, in(api.PLEN, 1, 2, 0, 0), [16]uint64{2: 8})
	putSum(m.Mem, 8, none.Sum)
	return append(all, subject{"no bytes", m, []api.Hashed{none}})
}

// wrongSums are sums that are near another one, or nothing.
func wrongSums(h api.Hash) []api.Hash {
	l := []api.Hash{{}, leafBy(0), pairBy(h, h)}
	for _, bit := range []int{0, 7, 8, 100, 255} {
		turned := h
		turned[bit/8] ^= 1 << (bit % 8)
		l = append(l, turned)
	}
	return l
}

// turned are a proof with each of its fields turned, one at a time.
func turned(p api.StepProof) []api.StepProof {
	var all []api.StepProof
	put := func(turn func(q *api.StepProof)) {
		q := twin(p)
		turn(&q)
		if !same(p, q) {
			all = append(all, q)
		}
	}
	for _, bit := range []int{0, 1, 11, 12, 32, 63} {
		put(func(q *api.StepProof) { q.PC ^= 1 << bit })
		for i := range p.Regs {
			put(func(q *api.StepProof) { q.Regs[i] ^= 1 << bit })
		}
	}
	for i := range 16 {
		put(func(q *api.StepProof) { q.Regs[i], q.Regs[(i+1)%16] = q.Regs[(i+1)%16], q.Regs[i] })
	}
	for _, s := range []api.Status{0, 1, 2, 3, 128, 255} {
		put(func(q *api.StepProof) { q.Status = s })
	}
	for _, d := range []int{math.MinInt, -1, 0, 1, 2, 3, 4, 5, 11, 12, 13, 16, 63, 64, 255, 256, 268, 1 << 32, math.MaxInt} {
		put(func(q *api.StepProof) { q.Depth = d })
	}
	for _, h := range wrongSums(p.Root) {
		put(func(q *api.StepProof) { q.Root = h })
	}
	put(func(q *api.StepProof) { q.Pre = nil })
	put(func(q *api.StepProof) { q.Pre = append(q.Pre, 0) })
	put(func(q *api.StepProof) { q.Pre = []byte{1} })
	put(func(q *api.StepProof) { q.Pre = make([]byte, 70000) })
	if len(p.Pre) > 0 {
		put(func(q *api.StepProof) { q.Pre = q.Pre[1:] })
		put(func(q *api.StepProof) { q.Pre[len(q.Pre)-1] ^= 1 })
	}
	return append(all, turnedEntries(p)...)
}

// turnedEntries are a proof with its entries turned, one at a time.
func turnedEntries(p api.StepProof) []api.StepProof {
	var all []api.StepProof
	put := func(turn func(q *api.StepProof)) {
		q := twin(p)
		turn(&q)
		if !same(p, q) {
			all = append(all, q)
		}
	}
	more := api.Access{Addr: p.PC, Path: make([]api.Hash, p.Depth)}
	put(func(q *api.StepProof) { q.Touched = nil })
	put(func(q *api.StepProof) { q.Touched = append(q.Touched, more) })
	put(func(q *api.StepProof) { q.Touched = append(q.Touched, api.Access{}) })
	put(func(q *api.StepProof) { q.Touched = append([]api.Access{more}, q.Touched...) })
	put(func(q *api.StepProof) { q.Touched = append(q.Touched, q.Touched...) })
	put(func(q *api.StepProof) { slices.Reverse(q.Touched) })
	for i := range p.Touched {
		at := func(turn func(x *api.Access)) { put(func(q *api.StepProof) { turn(&q.Touched[i]) }) }
		put(func(q *api.StepProof) { q.Touched = slices.Delete(q.Touched, i, i+1) })
		put(func(q *api.StepProof) { q.Touched = slices.Insert(q.Touched, i, q.Touched[i]) })
		put(func(q *api.StepProof) { q.Touched = q.Touched[:i] })
		for j := range i {
			put(func(q *api.StepProof) { q.Touched[i], q.Touched[j] = q.Touched[j], q.Touched[i] })
		}
		for _, bit := range []int{0, 1, 11, 12, 13, 31, 32, 63} {
			at(func(x *api.Access) { x.Addr ^= 1 << bit })
			at(func(x *api.Access) { x.Value ^= 1 << bit })
		}
		at(func(x *api.Access) { x.Addr += 1 << p.Depth })
		at(func(x *api.Access) { x.Path = nil })
		at(func(x *api.Access) { x.Path = append(x.Path, api.Hash{}) })
		at(func(x *api.Access) { x.Path = append(x.Path, p.Root) })
		at(func(x *api.Access) { x.Path = append([]api.Hash{{}}, x.Path...) })
		at(func(x *api.Access) { x.Path = make([]api.Hash, 17) })
		at(func(x *api.Access) { slices.Reverse(x.Path) })
		for k := range p.Touched[i].Path {
			at(func(x *api.Access) { x.Path = slices.Delete(x.Path, k, k+1) })
			at(func(x *api.Access) { x.Path[k][0] ^= 1 })
			at(func(x *api.Access) { x.Path[k][31] ^= 128 })
			at(func(x *api.Access) { x.Path = x.Path[:k] })
		}
	}
	return all
}

// P12.2, P12.4: of each kind of step, a proof that is turned in whatever place does not check; with the commitment that it has itself then it says what the judge says.
func TestLies(t *testing.T) {
	count := 0
	for _, s := range subjects() {
		p := wantMade(t, s.m, s.known)
		before := ownOf(p)
		for _, lie := range turned(p) {
			wantLie(t, before, lie)
			count++
		}
		for _, h := range wrongSums(before) {
			wantLie(t, h, p)
		}
		if after, _ := Check(before, p); after != before {
			wantLie(t, after, p)
		}
	}
	if count < 10000 {
		t.Errorf("%d lies alone", count)
	}
}

// P12.2: a Depth or a Status that may not be does not check, even against the sum that would be its commitment.
func TestConfigurationsThatMayNotBe(t *testing.T) {
	m := placed(4, 0, in(api.LI, 1, 0, 0, 7), [16]uint64{})
	for _, status := range []api.Status{0, 1, 2, 3, 4, 255} {
		for _, depth := range []int{math.MinInt, -256, -254, -1, 0, 2, 12, 13, 14, 64, 255, 256, 258, 1<<32 + 2, math.MaxInt} {
			p, _ := Make(m, nil)
			p.Status, p.Depth = status, depth
			if status != 0 {
				p.Touched = nil
			}
			may := status <= 2 && depth >= 0 && depth <= 12 && (status != 0 || depth == 2)
			if wantJudged(t, ownOf(p), p) != may {
				t.Errorf("Status %d, Depth %d checks or not", status, depth)
			}
		}
	}
}

// P12.2: a path that is shorter or longer than the tree is deep does not check, even if it folds to the root.
func TestPathsOfOtherTrees(t *testing.T) {
	word := vm.Word(in(api.LI, 1, 0, 0, 7))
	for depth := range 13 {
		for length := range 15 {
			path := make([]api.Hash, length)
			for i := range path {
				path[i] = leafBy(uint64(i))
			}
			p := api.StepProof{Depth: depth, Root: foldBy(0, word, path), Touched: []api.Access{{Value: word, Path: path}}}
			if wantJudged(t, ownOf(p), p) != (length == depth) {
				t.Errorf("a path of %d sums, the depth %d", length, depth)
			}
		}
	}
}

// P12.2: Depth says which addresses there are, not how long the paths are that a proof has: a machine with a small tree traps where another would go on.
func TestDepthSaysWhatThereIs(t *testing.T) {
	for depth := range 13 {
		size := uint64(1) << depth
		for _, pc := range []uint64{0, size - 1, size, size + 1, 1 << 63, most} {
			p := api.StepProof{PC: pc, Depth: depth, Root: leafBy(3)}
			after := commitBy(pc, p.Regs, api.Trapped, depth, p.Root)
			if h, ok := Check(ownOf(p), p); ok != (pc >= size) || ok && h != after {
				t.Errorf("PC %d, Depth %d: %x, %v", pc, depth, h, ok)
			}
			wantJudged(t, ownOf(p), p)
		}
	}
}

// P12.2: of a machine that stopped, or that is nowhere, no entry and no preimage may be told.
func TestNothingIsLeftOver(t *testing.T) {
	for _, s := range []api.Status{api.Running, api.Halted, api.Trapped} {
		p := api.StepProof{PC: 9, Status: s, Depth: 1}
		want := p.Status
		if want == api.Running {
			want = api.Trapped
		}
		if h, ok := Check(ownOf(p), p); !ok || h != commitBy(9, p.Regs, want, 1, p.Root) {
			t.Errorf("Status %d: %x, %v", s, h, ok)
		}
		for _, x := range []api.Access{{}, {Addr: 9}, {Addr: 1, Path: make([]api.Hash, 1)}} {
			q := p
			q.Touched = []api.Access{x}
			wantLie(t, ownOf(q), q)
		}
		for _, pre := range [][]byte{{0}, make([]byte, 100)} {
			q := p
			q.Pre = pre
			wantLie(t, ownOf(q), q)
		}
	}
}

// P12.2: a PRE or PLEN whose sum nobody has the bytes of can't be proved: not as a trap, not with no bytes, not with the words of the sum.
func TestNoTrapForWantOfAPreimage(t *testing.T) {
	for _, op := range []api.Op{api.PRE, api.PLEN} {
		for _, sum := range []api.Hash{{}, leafBy(1), hashed([]byte{1}).Sum} {
			m := asker(op, sum, 0)
			p := api.StepProof{PC: m.PC, Regs: m.Regs, Depth: 4, Root: rootBy(m.Mem)}
			before, _ := mem.Commit(m)
			for _, at := range []uint64{5, 8, 9, 10, 11} {
				wantLie(t, before, p)
				p.Touched = append(p.Touched, api.Access{Addr: at, Value: m.Mem[at], Path: pathBy(m.Mem, at)})
			}
			for _, pre := range [][]byte{nil, {}, {0}, sum[:], make([]byte, 32), []byte("bytes")} {
				q := twin(p)
				q.Pre = pre
				wantLie(t, before, q)
			}
			q := twin(p)
			q.Pre = []byte{1}
			if h, ok := Check(before, q); ok != (sum == hashed([]byte{1}).Sum) || !ok && h != (api.Hash{}) {
				t.Errorf("%x, %v", h, ok)
			}
		}
	}
}

// P12.2: a preimage is told of PRE and PLEN alone, not if these trap ahead of asking, even if it is the right one.
func TestNoPreimageThatIsNotAsked(t *testing.T) {
	x := hashed([]byte("known"))
	for _, c := range []api.Code{in(api.PRE, 1, 2, 0, 0), in(api.PLEN, 1, 2, 0, 0), in(api.LD, 1, 2, 0, 0), in(api.HASH, 1, 2, 3, 0), in(api.HALT, 0, 0, 0, 0), in(api.DIV, 1, 2, 9, 0)} {
		m := placed(16, 0, c, [16]uint64{1: 1, 2: 13, 3: 32})
		putSum(m.Mem, 13, x.Sum)
		p := wantMade(t, m, []api.Hashed{x})
		if len(p.Pre) != 0 {
			t.Fatalf("%v: Pre = %x", c, p.Pre)
		}
		p.Pre = bytes.Clone(x.Bytes)
		wantLie(t, ownOf(p), p)
	}
}

// P12.2: of what HASH writes, paths that are those of the tree ahead of the step do not check behind the first write.
func TestStalePaths(t *testing.T) {
	m := placed(16, 0, in(api.HASH, 1, 2, 3, 0), [16]uint64{1: 4, 2: 8, 3: 40})
	p := wantMade(t, m, nil)
	before := ownOf(p)
	for i := range p.Touched {
		q := twin(p)
		q.Touched[i].Path = pathBy(m.Mem, q.Touched[i].Addr)
		if first := i <= 6; first {
			if !wantJudged(t, before, q) {
				t.Errorf("the entry %d does not check", i)
			}
		} else {
			wantLie(t, before, q)
		}
	}
	n, _ := vm.Step(m, nil)
	for i := range p.Touched {
		q := twin(p)
		q.Touched[i].Path = pathBy(n.Mem, q.Touched[i].Addr)
		if !slices.Equal(q.Touched[i].Path, p.Touched[i].Path) {
			wantLie(t, before, q)
		}
		q = twin(p)
		q.Touched[i].Value = n.Mem[q.Touched[i].Addr]
		if q.Touched[i].Value != p.Touched[i].Value {
			wantLie(t, before, q)
		}
	}
}

// P12.2: lists that are far longer than any proof's are no trouble.
func TestLongProofs(t *testing.T) {
	m := placed(4096, 0, in(api.ST, 1, 2, 0, 9), [16]uint64{})
	p := wantMade(t, m, nil)
	before := ownOf(p)
	path := make([]api.Hash, 1<<16)
	for _, q := range []api.StepProof{twin(p), twin(p), twin(p)} {
		q.Touched = append(q.Touched, slices.Repeat([]api.Access{{Path: path}}, 1<<16)...)
		wantLie(t, before, q)
		q.Touched = slices.Repeat([]api.Access{{Value: m.Mem[0], Path: path}}, 1<<16)
		wantLie(t, before, q)
		q = twin(p)
		q.Pre = make([]byte, 1<<22)
		wantLie(t, before, q)
	}
}

// P12.4: proofs made of the parts of others, turned at random: what checks against a machine's commitment is its own proof, and tells its step.
func TestNothingElseIsProved(t *testing.T) {
	r := rand.New(rand.NewSource(21))
	known := library()
	var pool []api.Access
	for range 4000 {
		m := randomMachine(r, known)
		p, e := Make(m, known)
		if e != api.OK {
			continue
		}
		before := ownOf(p)
		q := twin(p)
		for range 1 + r.Intn(3) {
			bend(r, &q, pool)
		}
		pool = append(pool[max(0, len(pool)-40):], twin(p).Touched...)
		h, ok := Check(before, q)
		if ok != same(p, q) {
			t.Fatalf("%s checks: %v; the step's proof is %s", shown(q), ok, shown(p))
		}
		if want, _ := checkedBy(before, p); ok && h != want || !ok && h != (api.Hash{}) {
			t.Fatalf("%s: Check = %x", shown(q), h)
		}
		wantJudged(t, ownOf(q), q)
	}
}

// bend turns something of a proof at random; of many it leaves all as it is.
func bend(r *rand.Rand, q *api.StepProof, pool []api.Access) {
	n := len(q.Touched)
	switch k := r.Intn(12); {
	case k == 0:
		q.PC = uint64(r.Intn(40))
	case k == 1:
		q.Regs[r.Intn(16)] = uint64(r.Intn(140))
	case k == 2:
		q.Status = api.Status(r.Intn(4))
	case k == 3:
		q.Depth += r.Intn(3) - 1
	case k == 4:
		q.Pre = [][]byte{nil, {1}, []byte("kept")}[r.Intn(3)]
	case k == 5 && len(pool) > 0:
		q.Touched = append(q.Touched, pool[r.Intn(len(pool))])
	case k == 6 && len(pool) > 0 && n > 0:
		q.Touched[r.Intn(n)] = pool[r.Intn(len(pool))]
	case k == 7 && n > 0:
		q.Touched = q.Touched[:r.Intn(n)]
	case k == 8 && n > 0:
		q.Touched[r.Intn(n)].Value = r.Uint64()
	case k == 9 && n > 0:
		i, j := r.Intn(n), r.Intn(n)
		q.Touched[i], q.Touched[j] = q.Touched[j], q.Touched[i]
	case k == 10 && n > 0:
		// The proof is brought to a root at which its first entry checks.
		if x := q.Touched[0]; len(x.Path) <= 12 {
			q.Root = foldBy(x.Addr, x.Value, x.Path)
		}
	}
}
