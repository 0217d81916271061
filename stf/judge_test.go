package stf

import (
	"bytes"
	"crypto/sha256"
	"encoding/binary"
	"math"
	"math/big"
	"slices"
	"testing"

	"proctor/api"
	"proctor/exec"
	"proctor/interp"
	"proctor/state"
	"proctor/vm"
)

// The second judge: the words of chapters 6 to 8 once more, with bytes read by hand, numbers that can't wrap, and the library's SHA-256.

const (
	most   = math.MaxUint64
	supply = 1 << 62
)

// verdict is what bytes do to a state, or why they do nothing.
type verdict string

const (
	noMessage   verdict = "the bytes are no message"
	aboveSupply verdict = "more than Supply"
	otherNonce  verdict = "another Nonce"
	otherKey    verdict = "another Key"
	tooLittle   verdict = "more than the Balance"
	lastNonce   verdict = "the last Nonce"
	tooMany     verdict = "32 withdrawals"
	deposited   verdict = "deposited"
	transferred verdict = "transferred"
	withdrawn   verdict = "withdrawn"
)

// did says whether bytes with this verdict do something.
func (v verdict) did() bool { return v == deposited || v == transferred || v == withdrawn }

func big64(n uint64) *big.Int { return new(big.Int).SetUint64(n) }

// together64 is all balances of a state and some more, together.
func together64(s api.State, more uint64) *big.Int {
	all := big64(more)
	for _, a := range s.Accounts {
		all.Add(all, big64(a.Balance))
	}
	return all
}

func mayBe(s api.State) bool {
	return len(s.Outs) <= 32 && together64(s, 0).Cmp(big64(supply)) <= 0
}

func sumOf(b string) api.Hash { return sha256.Sum256([]byte(b)) }

func numbers(l ...uint64) string {
	var b []byte
	for _, n := range l {
		b = binary.BigEndian.AppendUint64(b, n)
	}
	return string(b)
}

func pairOf(x, y api.Hash) string { return "\x01" + string(x[:]) + string(y[:]) }

// levelsOf is what is summed above some leaves, level by level, and the root of all.
func levelsOf(level []api.Hash) ([]string, api.Hash) {
	var all []string
	for len(level) > 1 {
		var next []api.Hash
		for two := range slices.Chunk(level, 2) {
			all = append(all, pairOf(two[0], two[1]))
			next = append(next, sumOf(pairOf(two[0], two[1])))
		}
		level = next
	}
	return all, level[0]
}

// knownOf is what is known of a state; the last one is what is summed for its root.
func knownOf(s api.State) []string {
	var all []string
	accounts, outs := make([]api.Hash, 32), make([]api.Hash, 32)
	for i, a := range s.Accounts {
		b := "\x00" + numbers(a.Balance, a.Nonce) + string(a.Lock[:])
		all = append(all, b)
		accounts[i] = sumOf(b)
	}
	for i, o := range s.Outs {
		b := "\x00" + numbers(o.To, o.Amount)
		all = append(all, b)
		outs[i] = sumOf(b)
	}
	ofAccounts, left := levelsOf(accounts)
	ofOuts, right := levelsOf(outs)
	count := api.Hash([]byte(numbers(0, 0, 0, uint64(len(s.Outs)))))
	both := pairOf(left, right)
	return slices.Concat(all, ofAccounts, ofOuts, []string{both, pairOf(sumOf(both), count)})
}

func rootOf(s api.State) api.Hash {
	all := knownOf(s)
	return sumOf(all[len(all)-1])
}

// messageOf is the message that may be of some bytes.
func messageOf(b []byte) (api.Msg, bool) {
	if len(b) != 104 {
		return api.Msg{}, false
	}
	n := func(i int) uint64 { return binary.BigEndian.Uint64(b[8*i:]) }
	m := api.Msg{Kind: api.MsgKind(b[7]), From: n(1), To: n(2), Amount: n(3), Nonce: n(4), Key: api.Hash(b[40:72]), Next: api.Hash(b[72:])}
	switch n(0) {
	case 1:
		return m, m == api.Msg{Kind: 1, To: m.To, Amount: m.Amount} && m.To <= 31 && m.Amount >= 1
	case 2:
		return m, m.From <= 31 && m.To <= 31
	case 3:
		return m, m.From <= 31 && m.Amount >= 1
	}
	return m, false
}

// bytesOf is the bytes of a message, whether it may be or not.
func bytesOf(m api.Msg) []byte {
	words := numbers(uint64(m.Kind), m.From, m.To, m.Amount, m.Nonce)
	return []byte(words + string(m.Key[:]) + string(m.Next[:]))
}

// refusal is why a message that may be does nothing, if so.
func refusal(s api.State, m api.Msg) (verdict, bool) {
	a := s.Accounts[m.From]
	switch {
	case m.Kind == api.MDeposit:
		return aboveSupply, together64(s, m.Amount).Cmp(big64(supply)) > 0
	case a.Nonce != m.Nonce:
		return otherNonce, true
	case a.Lock != sha256.Sum256(m.Key[:]):
		return otherKey, true
	case big64(m.Amount).Cmp(big64(a.Balance)) > 0:
		return tooLittle, true
	case big64(a.Nonce).Cmp(big64(most)) == 0:
		return lastNonce, true
	}
	return tooMany, m.Kind == api.MWithdraw && len(s.Outs) == 32
}

// judge is the state behind some bytes, and the verdict, of a state that may be.
func judge(s api.State, b []byte) (api.State, verdict) {
	t := api.State{Accounts: s.Accounts, Outs: slices.Clone(s.Outs)}
	m, ok := messageOf(b)
	if !ok {
		return t, noMessage
	}
	if why, refused := refusal(s, m); refused {
		return t, why
	}
	if m.Kind != api.MDeposit {
		a := s.Accounts[m.From]
		t.Accounts[m.From] = api.Account{Balance: a.Balance - m.Amount, Nonce: a.Nonce + 1, Lock: m.Next}
	}
	if m.Kind == api.MWithdraw {
		t.Outs = append(t.Outs, api.Out{To: m.To, Amount: m.Amount})
		return t, withdrawn
	}
	t.Accounts[m.To].Balance += m.Amount
	if m.Kind == api.MDeposit {
		return t, deposited
	}
	return t, transferred
}

// wordsOf is a sum as four numbers.
func wordsOf(h api.Hash) []uint64 {
	var l []uint64
	for at := 0; at < 32; at += 8 {
		l = append(l, binary.BigEndian.Uint64(h[at:]))
	}
	return l
}

// bench is the rule's program and its image, made once for many runs.
type bench struct {
	prog  api.Prog
	image api.Image
}

func newBench(t testing.TB) bench {
	t.Helper()
	i, e := Image()
	if e != api.OK {
		t.Fatalf("Image: %d", e)
	}
	return bench{Program(), i}
}

// begun is the machine of a root and a message: the image's words, but the eight of both where the data begin, and noughts behind them.
func (b bench) begun(root api.Hash, m []byte) api.Machine {
	x := api.Machine{Mem: slices.Clone(b.image.Words)}
	data := x.Mem[b.image.Base : b.image.Base+b.image.Data]
	clear(data)
	copy(data, slices.Concat(wordsOf(root), wordsOf(sha256.Sum256(m))))
	return x
}

// outcome is what the machine and the interpreter come to.
type outcome struct {
	status api.Status
	root   api.Hash
	did    bool
}

// run is what the machine comes to behind fewer than MaxTrace steps; the interpreter has to say the same.
func (b bench) run(t testing.TB, root api.Hash, m []byte, known []api.Hashed) outcome {
	t.Helper()
	n, _, e := vm.Run(b.begun(root, m), known, api.MaxTrace-1)
	if e != api.OK {
		t.Fatalf("Run: %d", e)
	}
	var o outcome
	var ok bool
	o.status = n.Status
	o.root, o.did, ok = Output(n)
	if ok != (n.Status == api.Halted) {
		t.Errorf("Output of a machine with the status %d: %v", n.Status, ok)
	}
	in := Inputs(root, sha256.Sum256(m))
	p, e := interp.Run(b.prog, in[:], known, api.MaxFuel)
	if e != api.OK || p.Status != n.Status {
		t.Fatalf("the interpreter's run of %x: status %d, %d; the machine's %d", m, p.Status, e, n.Status)
	}
	if ok && !slices.Equal(p.Data[8:13], append(wordsOf(o.root), word64(o.did))) {
		t.Errorf("the interpreter's run of %x: %x; the machine's: %x, %v", m, p.Data[8:13], o.root, o.did)
	}
	return o
}

func word64(so bool) uint64 {
	if so {
		return 1
	}
	return 0
}

// want holds what the machine says of a state and of bytes against the second judge and layer 8, and tells the verdict.
func (b bench) want(t testing.TB, s api.State, m []byte) verdict {
	t.Helper()
	after, v := judge(s, m)
	next, did, e := exec.Delta(s, m)
	root, f := state.Root(next)
	if did != v.did() || e != api.OK || f != api.OK || root != rootOf(after) {
		t.Fatalf("Delta and Root of %x: %v, %x, %d, %d; the judge says %s", m, did, root, e, f, v)
	}
	known, e := Prove(s, m)
	if e != api.OK {
		t.Fatalf("Prove: %d", e)
	}
	o := b.run(t, rootOf(s), m, known)
	if o != (outcome{api.Halted, rootOf(after), v.did()}) {
		t.Errorf("%x (%s) of %d withdrawals: %v", m, v, len(s.Outs), o)
	}
	return v
}

// wantVerdict holds the verdict against another one too.
func (b bench) wantVerdict(t testing.TB, s api.State, m []byte, v verdict) {
	t.Helper()
	if got := b.want(t, s, m); got != v {
		t.Errorf("%x of %d withdrawals: %s, not %s", m, len(s.Outs), got, v)
	}
}

func sameEntry(x, y api.Hashed) bool { return x.Sum == y.Sum && bytes.Equal(x.Bytes, y.Bytes) }
