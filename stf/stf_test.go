package stf

import (
	"crypto/sha256"
	"math/rand"
	"slices"
	"testing"

	"proctor/api"
	"proctor/compile"
	"proctor/ir"
	"proctor/sha"
	"proctor/state"
	"proctor/vm"
)

// key is some key, another one for each number; lock is what it opens.
func key(n int) api.Hash  { return sha256.Sum256([]byte{byte(n), byte(n >> 8), 'k'}) }
func lock(n int) api.Hash { k := key(n); return sha256.Sum256(k[:]) }

// rich is a state with unlike accounts, the number n's with the key n, and a number of unlike withdrawals.
func rich(outs int) api.State {
	var s api.State
	for i := range s.Accounts {
		s.Accounts[i] = api.Account{Balance: uint64(1000 + i), Nonce: uint64(i), Lock: lock(i)}
	}
	for i := range outs {
		s.Outs = append(s.Outs, api.Out{To: uint64(i) << 59, Amount: uint64(i * i)})
	}
	return s
}

// greatest is a state that may be with as much of all as there may be.
func greatest() api.State {
	var s api.State
	for i := range s.Accounts {
		s.Accounts[i] = api.Account{Balance: supply / 32, Nonce: most, Lock: api.Hash(slices.Repeat([]byte{255}, 32))}
	}
	s.Outs = slices.Repeat([]api.Out{{To: most, Amount: most}}, 32)
	return s
}

// sums is some sums: of noughts, of ones alone, and drawn ones.
func sums() []api.Hash {
	l := []api.Hash{{}, api.Hash(slices.Repeat([]byte{255}, 32)), {0: 1}, {31: 1}, {7: 128}, {24: 1}}
	r := rand.New(rand.NewSource(17))
	for range 20 {
		var h api.Hash
		r.Read(h[:])
		l = append(l, h)
	}
	return l
}

// P17.1: the program may be, it has the data that are spoken for, and it is the same at each call.
func TestProgram(t *testing.T) {
	p := Program()
	if !ir.May(p) || p.Data < 13 || p.Data > 1024 {
		t.Fatalf("May = %v, with %d words of data", ir.May(p), p.Data)
	}
	if !ir.Same(p, Program()) {
		t.Errorf("two calls tell two programs")
	}
}

// P17.1: the image is the program's, it has at most 4096 words, and it is the same at each call.
func TestImage(t *testing.T) {
	want, f := compile.Compile(Program())
	for range 3 {
		i, e := Image()
		if e != api.OK || f != api.OK || !slices.Equal(i.Words, want.Words) || i.Base != want.Base || i.Data != want.Data {
			t.Errorf("Image has %d words, the data of %d at %d; %d, %d", len(i.Words), i.Data, i.Base, e, f)
		}
		if len(i.Words) > 4096 || i.Data != Program().Data {
			t.Errorf("Image has %d words, %d of data", len(i.Words), i.Data)
		}
	}
}

// P17.1: the eight words are those of the root, and then those of the sum.
func TestInputs(t *testing.T) {
	for _, root := range sums() {
		for _, m := range sums() {
			in := Inputs(root, m)
			if !slices.Equal(in[:], slices.Concat(wordsOf(root), wordsOf(m))) {
				t.Errorf("Inputs(%x, %x) = %x", root, m, in)
			}
		}
	}
}

// P17.1: a beginning is a machine that runs, of the image's words, with the eight words where the data begin, and noughts behind them; nothing but noughts else.
func TestBegin(t *testing.T) {
	b := newBench(t)
	for _, root := range sums() {
		for _, m := range sums()[:7] {
			got, e := Begin(root, m)
			want := b.begun(root, nil)
			copy(want.Mem[b.image.Base+4:], wordsOf(m))
			if e != api.OK || got.Status != api.Running || !vm.May(got) || !vm.Same(got, want) {
				t.Errorf("Begin(%x, %x): %d, status %d, PC %d", root, m, e, got.Status, got.PC)
			}
			if h, did, ok := Output(got); ok || did || h != (api.Hash{}) {
				t.Errorf("Output of a beginning: %x, %v, %v", h, did, ok)
			}
			in := Inputs(root, m)
			if start, _ := compile.Start(b.image, in[:]...); !vm.Same(got, start) {
				t.Errorf("Begin(%x, %x) is not the image's start", root, m)
			}
		}
	}
}

// marked is a machine of the image's words that stands at a status, with a root and a mark at their places.
func marked(b bench, status api.Status, root api.Hash, mark uint64) api.Machine {
	m := b.begun(api.Hash{}, nil)
	copy(m.Mem[b.image.Base+8:], append(wordsOf(root), mark))
	m.Status = status
	return m
}

// P17.1: of a machine that is Halted, whoever halted it, Output tells what its data say: any root, and whether the mark is 1.
func TestOutput(t *testing.T) {
	b := newBench(t)
	for _, root := range sums() {
		for _, mark := range []uint64{0, 1, 2, 3, 256, 257, 1 << 32, 1<<32 + 1, 1 << 63, most} {
			m := marked(b, api.Halted, root, mark)
			m.PC, m.Regs = most, [16]uint64{1: 9, 15: most}
			if h, did, ok := Output(m); h != root || did != (mark == 1) || !ok {
				t.Errorf("Output of %x, %d = %x, %v, %v", root, mark, h, did, ok)
			}
			for _, status := range []api.Status{api.Running, api.Trapped, 3, 255} {
				m.Status = status
				if h, did, ok := Output(m); h != (api.Hash{}) || did || ok {
					t.Errorf("Output of the status %d = %x, %v, %v", status, h, did, ok)
				}
			}
		}
	}
}

// P17.1: Output of a machine of another number of words, of a zero one too, is none.
func TestOutputOfOtherMachines(t *testing.T) {
	b := newBench(t)
	whole := marked(b, api.Halted, sums()[9], 1).Mem
	n := len(whole)
	long := append(slices.Clone(whole), make([]uint64, 2*n)...)
	for _, words := range []int{0, 1, 2, 4, 13, 16, 64, n / 2, n - 1, n + 1, 2 * n, 3 * n} {
		m := api.Machine{Status: api.Halted, Mem: long[:words]}
		if h, did, ok := Output(m); h != (api.Hash{}) || did || ok {
			t.Errorf("Output of %d words = %x, %v, %v", words, h, did, ok)
		}
	}
	if h, did, ok := Output(api.Machine{}); h != (api.Hash{}) || did || ok {
		t.Errorf("Output of a zero machine = %x, %v, %v", h, did, ok)
	}
	if _, _, ok := Output(api.Machine{Status: api.Halted, Mem: whole}); !ok {
		t.Errorf("Output of the image's number of words is none")
	}
}

// someBytes is bytes of all the lengths that are asked: none, one, as many as a message has, as may be, and more.
func someBytes() [][]byte {
	l := [][]byte{nil, {}, {0}, {7}}
	for _, n := range []int{31, 32, 49, 64, 65, 103, 104, 105, api.MaxBytes - 1, api.MaxBytes, api.MaxBytes + 1, 3*api.MaxBytes + 5} {
		l = append(l, slices.Repeat([]byte{byte(n), 3, 9}, n/3+1)[:n])
	}
	return l
}

// P17.1: what is known is all that is summed for the root, and behind it the bytes, with their sum, however many these are.
func TestProve(t *testing.T) {
	for _, s := range []api.State{{}, rich(0), rich(1), rich(31), rich(32), greatest(), {Outs: []api.Out{}}} {
		for _, m := range someBytes() {
			var want []api.Hashed
			for _, b := range append(knownOf(s), string(m)) {
				want = append(want, api.Hashed{Bytes: []byte(b), Sum: sumOf(b)})
			}
			got, e := Prove(s, m)
			if e != api.OK || !slices.EqualFunc(got, want, sameEntry) {
				t.Errorf("Prove of %d withdrawals, %d bytes has %d entries, %d", len(s.Outs), len(m), len(got), e)
			}
			known, _ := state.Known(s)
			if len(got) != len(known)+1 || !slices.EqualFunc(got[:len(known)], known, sameEntry) {
				t.Errorf("Prove of %d withdrawals is not what layer 6 knows, and one more", len(s.Outs))
			}
		}
	}
}

// P17.1: bytes that are summed for the root as well stand behind all else once more.
func TestProveOfBytesThatAreThere(t *testing.T) {
	s := rich(3)
	known, _ := state.Known(s)
	for _, x := range known {
		got, e := Prove(s, x.Bytes)
		if e != api.OK || !slices.EqualFunc(got, append(slices.Clone(known), x), sameEntry) {
			t.Errorf("Prove of %x has %d entries, %d", x.Bytes, len(got), e)
		}
	}
}

// P17.1: a state that may not be, by each of the rules alone, is ErrArg.
func TestProveOfWrongStates(t *testing.T) {
	crowded := api.State{Outs: make([]api.Out, 33)}
	over := api.State{}
	over.Accounts[31].Balance = supply + 1
	apart := greatest()
	apart.Accounts[0].Balance++
	wraps := api.State{}
	wraps.Accounts[3].Balance, wraps.Accounts[4].Balance = 1<<63, 1<<63
	wrapsTwice := api.State{}
	for i := range wrapsTwice.Accounts {
		wrapsTwice.Accounts[i].Balance = 1 << 60
	}
	for i, s := range []api.State{crowded, over, apart, wraps, wrapsTwice, {Outs: make([]api.Out, 5000)}} {
		for _, m := range someBytes() {
			if got, e := Prove(s, m); len(got) != 0 || e != api.ErrArg || mayBe(s) {
				t.Errorf("Prove of the wrong state %d = %d entries, %d", i, len(got), e)
			}
		}
	}
}

// P17.1 and P17.2: the examples of the chapter.
func TestExamples(t *testing.T) {
	var z, five api.State
	five.Accounts[3].Balance = 5
	m := bytesOf(api.Msg{Kind: api.MDeposit, To: 3, Amount: 5})
	r, _ := state.Root(z)
	want := func(bytes []byte, known []api.Hashed, status api.Status, root api.Hash, did bool) {
		t.Helper()
		x, _ := Begin(r, sha.Sum(bytes))
		n, _, e := vm.Run(x, known, api.MaxTrace-1)
		h, d, ok := Output(n)
		if e != api.OK || n.Status != status || h != root || d != did || ok != (status == api.Halted) {
			t.Errorf("%x: status %d; Output: %x, %v, %v", bytes, n.Status, h, d, ok)
		}
	}
	none, _ := Prove(z, nil)
	want(nil, none, api.Halted, r, false)
	known, _ := Prove(z, m)
	want(m, known, api.Halted, rootOf(five), true)
	want(m, nil, api.Trapped, api.Hash{}, false)
}
