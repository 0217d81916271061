package interp

import (
	"proctor/api"
	"proctor/sha"
	"proctor/vm"
)

const (
	wordBytes = 8
	sumWords  = 4
	// A SHash of a Tag from here on sums no byte ahead.
	noTag = 256
)

// shelf is what is known, and the preimages that were asked for: a run asks for the same ones over and over, and to check one anew each time would take long.
type shelf struct {
	known []api.Hashed
	found map[api.Hash][]byte
}

func newShelf(known []api.Hashed) shelf {
	return shelf{known: known, found: map[api.Hash][]byte{}}
}

// preimage is the preimage of a sum.
func (s shelf) preimage(h api.Hash) []byte {
	b, ok := s.found[h]
	if !ok {
		if b, ok = vm.Preimage(s.known, h); !ok {
			panic(trap{})
		}
		s.found[h] = b
	}
	return b
}

// preimageAt is the preimage of the sum whose words stand from an address on.
func (r *runner) preimageAt(at uint64) []byte {
	return r.preimage(sha.From([sumWords]uint64(r.span(at, sumWords))))
}

// hash does a SHash. All is read ahead of what is written: these may be the same words.
func (r *runner) hash(tag int, to, from, size uint64) {
	if size > api.MaxSum {
		panic(trap{})
	}
	room := r.span(to, sumWords)
	words := r.span(from, (size+wordBytes-1)/wordBytes)
	sum := sha.Words(sha.Sum(append(mark(tag), firstBytes(words, size)...)))
	copy(room, sum[:])
}

// mark is what a SHash of that Tag sums ahead.
func mark(tag int) []byte {
	if tag >= noTag {
		return nil
	}
	return []byte{byte(tag)}
}

// firstBytes are the first bytes of some words, the highest of a word first.
func firstBytes(words []uint64, size uint64) []byte {
	b := make([]byte, 0, size)
	for i := range size {
		b = append(b, byte(words[i/wordBytes]>>(56-8*(i%wordBytes))))
	}
	return b
}

// piece is the number of the eight bytes from a place on; noughts stand behind the end.
func piece(b []byte, at uint64) uint64 {
	var eight [wordBytes]byte
	copy(eight[:], b[min(at, uint64(len(b))):])
	var w uint64
	for _, x := range eight {
		w <<= 8
		w |= uint64(x)
	}
	return w
}
