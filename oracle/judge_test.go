package oracle

import (
	"bytes"
	"crypto/sha256"
	"encoding/binary"
	"math/big"
	"math/rand"
	"slices"
	"testing"

	"proctor/api"
)

// The second judge: byte strings in a row, found by asking one after the other, and what is known of a state by the words of chapter 6, with the library's SHA-256.

// judge is the byte strings of an oracle, in the order in which they came.
type judge []string

func (j *judge) add(b string) {
	if !slices.Contains(*j, b) {
		*j = append(*j, b)
	}
}

// learn adds what is known of a state, if that may be.
func (j *judge) learn(s api.State) bool {
	if !mayBe(s) {
		return false
	}
	for _, b := range knownOf(s) {
		j.add(b)
	}
	return true
}

func sumOf(b string) api.Hash { return sha256.Sum256([]byte(b)) }

// mayBe says whether a state may be, by a sum that can't wrap.
func mayBe(s api.State) bool {
	sum := new(big.Int)
	for _, a := range s.Accounts {
		sum.Add(sum, new(big.Int).SetUint64(a.Balance))
	}
	return len(s.Outs) <= 32 && sum.Cmp(new(big.Int).Lsh(big.NewInt(1), 62)) <= 0
}

func numbers(l ...uint64) string {
	var b []byte
	for _, n := range l {
		b = binary.BigEndian.AppendUint64(b, n)
	}
	return string(b)
}

func pairOf(x, y api.Hash) string { return "\x01" + string(x[:]) + string(y[:]) }

// leafOf is what is summed of an account.
func leafOf(a api.Account) string {
	return "\x00" + numbers(a.Balance, a.Nonce) + string(a.Lock[:])
}

// outLeafOf is what is summed of a withdrawal.
func outLeafOf(o api.Out) string { return "\x00" + numbers(o.To, o.Amount) }

// countOf is the sum that stands for a number.
func countOf(n int) api.Hash { return api.Hash([]byte(string(make([]byte, 24)) + numbers(uint64(n)))) }

// levelsOf is what is summed above some leaves, level by level, and the root of all.
func levelsOf(level []api.Hash) ([]string, api.Hash) {
	var all []string
	for len(level) > 1 {
		var next []api.Hash
		for two := range slices.Chunk(level, 2) {
			all = append(all, pairOf(two[0], two[1]))
			next = append(next, sumOf(pairOf(two[0], two[1])))
		}
		level = next
	}
	return all, level[0]
}

// knownOf is what is known of a state; the last one is what is summed for its root.
func knownOf(s api.State) []string {
	var all []string
	accounts, outs := make([]api.Hash, 32), make([]api.Hash, 32)
	for i, a := range s.Accounts {
		all = append(all, leafOf(a))
		accounts[i] = sumOf(leafOf(a))
	}
	for i, o := range s.Outs {
		all = append(all, outLeafOf(o))
		outs[i] = sumOf(outLeafOf(o))
	}
	ofAccounts, left := levelsOf(accounts)
	ofOuts, right := levelsOf(outs)
	both := pairOf(left, right)
	return slices.Concat(all, ofAccounts, ofOuts, []string{both, pairOf(sumOf(both), countOf(len(s.Outs)))})
}

func rootOf(s api.State) api.Hash {
	known := knownOf(s)
	return sumOf(known[len(known)-1])
}

// h is some sum, another one for each number.
func h(n int) api.Hash { return sha256.Sum256([]byte{byte(n), byte(n >> 8), 'h'}) }

// some is a state with unlike accounts and a number of unlike withdrawals.
func some(outs int) api.State {
	var s api.State
	for i := range s.Accounts {
		s.Accounts[i] = api.Account{Balance: uint64(i) << 20, Nonce: uint64(i*i) << 50, Lock: h(i)}
	}
	for i := range outs {
		s.Outs = append(s.Outs, api.Out{To: uint64(i) << 59, Amount: uint64(i * i)})
	}
	return s
}

// drawn is some state that may be, in which accounts and withdrawals may come again.
func drawn(r *rand.Rand) api.State {
	var s api.State
	left := uint64(api.Supply)
	for i := range s.Accounts {
		switch r.Intn(4) {
		case 0:
		case 1:
			s.Accounts[i].Nonce = uint64(r.Intn(3))
		default:
			balance := r.Uint64() % (left/8 + 1)
			left -= balance
			s.Accounts[i] = api.Account{Balance: balance, Nonce: r.Uint64() >> r.Intn(64), Lock: h(r.Intn(1 << 16))}
		}
	}
	for range r.Intn(33) {
		s.Outs = append(s.Outs, api.Out{To: r.Uint64() >> r.Intn(64), Amount: uint64(r.Intn(3))})
	}
	return s
}

// wantSame holds all that an oracle answers against the second judge.
func wantSame(t *testing.T, o *Oracle, j judge) {
	t.Helper()
	l := o.List()
	if len(l) != len(j) {
		t.Fatalf("%d entries, not %d", len(l), len(j))
	}
	for i, b := range j {
		if string(l[i].Bytes) != b || l[i].Sum != sumOf(b) {
			t.Errorf("the entry %d is %x, %x", i, l[i].Bytes, l[i].Sum)
		}
		if got, ok := o.Get(sumOf(b)); string(got) != b || !ok {
			t.Errorf("Get of the entry %d = %x, %v", i, got, ok)
		}
	}
}

// wantAdd adds bytes to both an oracle and the second judge.
func wantAdd(t *testing.T, o *Oracle, j *judge, b string) {
	t.Helper()
	if sum, e := o.Add([]byte(b)); sum != sumOf(b) || e != api.OK {
		t.Errorf("Add of %d bytes = %x, %d", len(b), sum, e)
	}
	j.add(b)
}

// wantLearn learns a state by both an oracle and the second judge.
func wantLearn(t *testing.T, o *Oracle, j *judge, s api.State) {
	t.Helper()
	want := api.ErrArg
	if j.learn(s) {
		want = api.OK
	}
	if e := o.Learn(s); e != want {
		t.Errorf("Learn = %d, not %d", e, want)
	}
}

// wantNothing asks for sums under which nothing is there.
func wantNothing(t *testing.T, o *Oracle, sums ...api.Hash) {
	t.Helper()
	for _, sum := range sums {
		if b, ok := o.Get(sum); len(b) != 0 || ok {
			t.Errorf("Get(%x) = %x, %v", sum, b, ok)
		}
	}
}

func sameEntry(x, y api.Hashed) bool { return x.Sum == y.Sum && bytes.Equal(x.Bytes, y.Bytes) }
