package state

import (
	"crypto/sha256"
	"encoding/binary"
	"slices"

	"proctor/api"
)

// The second judge: the chapter's words once more, from the root down, with the library's SHA-256.

func h(n int) api.Hash { return sha256.Sum256([]byte{byte(n), byte(n >> 8), 77}) }

func pairBytes(x, y api.Hash) []byte { return slices.Concat([]byte{1}, x[:], y[:]) }

func pair(x, y api.Hash) api.Hash { return sha256.Sum256(pairBytes(x, y)) }

func numbers(l ...uint64) []byte {
	var b []byte
	for _, n := range l {
		b = binary.BigEndian.AppendUint64(b, n)
	}
	return b
}

func accountLeafBytes(a api.Account) []byte {
	return slices.Concat([]byte{0}, numbers(a.Balance, a.Nonce), a.Lock[:])
}

func outLeafBytes(o api.Out) []byte { return append([]byte{0}, numbers(o.To, o.Amount)...) }

func accountLeaf(a api.Account) api.Hash { return sha256.Sum256(accountLeafBytes(a)) }

func outLeaf(o api.Out) api.Hash { return sha256.Sum256(outLeafBytes(o)) }

// full is some leaves with noughts behind them, 32 in all.
func full(l []api.Hash) []api.Hash {
	return append(slices.Clone(l), make([]api.Hash, 32-len(l))...)
}

func accountLeaves(s api.State) []api.Hash {
	var l []api.Hash
	for _, a := range s.Accounts {
		l = append(l, accountLeaf(a))
	}
	return l
}

func outLeaves(s api.State) []api.Hash {
	var l []api.Hash
	for _, o := range s.Outs {
		l = append(l, outLeaf(o))
	}
	return full(l)
}

// rootOf is the root of leaves, as many as a power of two.
func rootOf(l []api.Hash) api.Hash {
	if len(l) == 1 {
		return l[0]
	}
	return pair(rootOf(l[:len(l)/2]), rootOf(l[len(l)/2:]))
}

// pathOf is the proof of the leaf i, from the leaf up.
func pathOf(l []api.Hash, i int) []api.Hash {
	if len(l) == 1 {
		return nil
	}
	half := len(l) / 2
	if i < half {
		return append(pathOf(l[:half], i), rootOf(l[half:]))
	}
	return append(pathOf(l[half:], i-half), rootOf(l[:half]))
}

// countOf is the sum that stands for a number.
func countOf(n uint64) api.Hash { return api.Hash(append(make([]byte, 24), numbers(n)...)) }

// stateRoot is the root of a state.
func stateRoot(s api.State) api.Hash {
	return pair(pair(rootOf(accountLeaves(s)), rootOf(outLeaves(s))), countOf(uint64(len(s.Outs))))
}

// climb is the root to which the leaf i comes with a path, however long that is.
func climb(i int, leaf api.Hash, path []api.Hash) api.Hash {
	for _, beside := range path {
		if i%2 == 0 {
			leaf = pair(leaf, beside)
		} else {
			leaf = pair(beside, leaf)
		}
		i /= 2
	}
	return leaf
}

// accountRoot is the root to which an account comes with a witness, whatever that is.
func accountRoot(i int, a api.Account, w api.Witness) api.Hash {
	return pair(pair(climb(i, accountLeaf(a), w.Path), w.Other), countOf(w.Count))
}

// outRoot is the root to which a withdrawal comes with a witness, whatever that is.
func outRoot(i int, o api.Out, w api.Witness) api.Hash {
	return pair(pair(w.Other, climb(i, outLeaf(o), w.Path)), countOf(w.Count))
}

func hashed(b []byte) api.Hashed { return api.Hashed{Bytes: b, Sum: sha256.Sum256(b)} }

// pairsOf is what is summed above leaves, level by level.
func pairsOf(l []api.Hash) []api.Hashed {
	var all []api.Hashed
	for size := 2; size <= len(l); size *= 2 {
		for at := 0; at < len(l); at += size {
			all = append(all, hashed(pairBytes(rootOf(l[at:at+size/2]), rootOf(l[at+size/2:at+size]))))
		}
	}
	return all
}

// knownOf is what is known of a state.
func knownOf(s api.State) []api.Hashed {
	var all []api.Hashed
	for _, a := range s.Accounts {
		all = append(all, hashed(accountLeafBytes(a)))
	}
	for _, o := range s.Outs {
		all = append(all, hashed(outLeafBytes(o)))
	}
	all = append(all, pairsOf(accountLeaves(s))...)
	all = append(all, pairsOf(outLeaves(s))...)
	both := hashed(pairBytes(rootOf(accountLeaves(s)), rootOf(outLeaves(s))))
	return append(all, both, hashed(pairBytes(both.Sum, countOf(uint64(len(s.Outs))))))
}
