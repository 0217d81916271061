package vm

import (
	"proctor/api"
	"proctor/sha"
)

const (
	wordBytes = 8
	sumWords  = 4
	// HASH sums a byte ahead, if its Imm is among as many numbers as bytes there are, from this one on.
	firstMark = 256
	lastMark  = 511
)

// shelf is what is known, and where the preimages stand that were asked for: a run asks for the same ones over and over, and to check one anew each time would take long.
type shelf struct {
	known []api.Hashed
	found map[api.Hash]int
}

func newShelf(known []api.Hashed) shelf {
	return shelf{known: known, found: map[api.Hash]int{}}
}

// preimage is the preimage of a sum, as it stands in what was handed in.
func (s shelf) preimage(h api.Hash) []byte {
	at, ok := s.found[h]
	if !ok {
		if at, ok = place(s.known, h); !ok {
			panic(trap{})
		}
		s.found[h] = at
	}
	return s.known[at].Bytes
}

// place is where the preimage of a sum stands. Just the first entry that says to be it counts, so that everybody finds the same.
func place(known []api.Hashed, h api.Hash) (int, bool) {
	for i, x := range known {
		if x.Sum == h {
			return i, sha.Sum(x.Bytes) == h
		}
	}
	return 0, false
}

// sumAt is the sum whose words stand from an address on.
func (e *engine) sumAt(at uint64) api.Hash {
	return sha.From([sumWords]uint64(e.words(at, sumWords)))
}

// hash does a HASH. All is read ahead of what is written: these may be the same words.
func (e *engine) hash(c api.Code) {
	size := e.Regs[c.C]
	if size > api.MaxSum {
		panic(trap{})
	}
	to := e.words(e.Regs[c.A], sumWords)
	from := e.words(e.Regs[c.B], (size+wordBytes-1)/wordBytes)
	sum := sha.Words(sha.Sum(append(mark(c.Imm), firstBytes(from, size)...)))
	copy(to, sum[:])
}

// mark is what a HASH of that Imm sums ahead.
func mark(imm uint32) []byte {
	switch {
	case imm == 0:
		return nil
	case imm < firstMark || imm > lastMark:
		panic(trap{})
	}
	return []byte{byte(imm - firstMark)}
}

// firstBytes are the first bytes of some words, the highest of a word first.
func firstBytes(words []uint64, size uint64) []byte {
	b := make([]byte, 0, size)
	for i := range size {
		b = append(b, byte(words[i/wordBytes]>>(56-8*(i%wordBytes))))
	}
	return b
}

// piece is the number of the eight bytes from a place on; noughts stand behind the end.
func piece(b []byte, at uint64) uint64 {
	var eight [wordBytes]byte
	copy(eight[:], b[min(at, uint64(len(b))):])
	var w uint64
	for _, x := range eight {
		w <<= 8
		w |= uint64(x)
	}
	return w
}
