package onestep

import (
	"bytes"
	"slices"
	"testing"
	"unsafe"

	"proctor/api"
)

// held keeps lists where they are until they were held against each other.
var held []any

// overlap says whether two lists share memory, the room behind their ends with it.
func overlap[T any](a, b []T) bool {
	held = append(held, a, b)
	var one T
	size := unsafe.Sizeof(one)
	x, y := uintptr(unsafe.Pointer(unsafe.SliceData(a))), uintptr(unsafe.Pointer(unsafe.SliceData(b)))
	return x < y+uintptr(cap(b))*size && y < x+uintptr(cap(a))*size
}

// wantApart asks that no two of some lists share memory.
func wantApart[T any](t *testing.T, lists ...[]T) {
	t.Helper()
	for i, a := range lists {
		for j, b := range lists[:i] {
			if overlap(a, b) {
				t.Fatalf("the lists %d and %d share memory", j, i)
			}
		}
	}
	held = nil
}

// wantProofsApart asks that no two lists of some proofs share memory, be they of one proof or of two.
func wantProofsApart(t *testing.T, proofs ...api.StepProof) {
	t.Helper()
	var entries [][]api.Access
	var paths [][]api.Hash
	var pres [][]byte
	for _, p := range proofs {
		entries, pres = append(entries, p.Touched), append(pres, p.Pre)
		for _, x := range p.Touched {
			paths = append(paths, x.Path)
		}
	}
	wantApart(t, entries...)
	wantApart(t, paths...)
	wantApart(t, pres...)
}

// roomy is a list with filled room behind its end.
func roomy[T any](l []T, filler T) []T {
	return append(slices.Clone(l), slices.Repeat([]T{filler}, 40)...)[:len(l)]
}

// spoil overwrites a list and the room behind its end.
func spoil[T any](l []T, x T) {
	for i := range l[:cap(l)] {
		l[:cap(l)][i] = x
	}
}

// spoilProof overwrites all lists of a proof.
func spoilProof(p api.StepProof) {
	for _, x := range p.Touched {
		spoil(x.Path, leafBy(77))
	}
	spoil(p.Touched, api.Access{Addr: 77})
	spoil(p.Pre, 77)
}

// loose is a machine with filled room behind its memory.
func loose(m api.Machine) api.Machine {
	m.Mem = roomy(m.Mem, 1<<56)
	return m
}

// looseKnown is what is known with filled room behind the list's end and behind each entry's bytes: the bytes and the entries there are no preimages.
func looseKnown(known []api.Hashed, more ...api.Hashed) []api.Hashed {
	var all []api.Hashed
	for _, x := range known {
		all = append(all, api.Hashed{Bytes: roomy(x.Bytes, 0xa5), Sum: x.Sum})
	}
	return append(all, more...)[:len(known)]
}

// looseProof is a proof with filled room behind each list.
func looseProof(p api.StepProof) api.StepProof {
	p = twin(p)
	for i := range p.Touched {
		p.Touched[i].Path = roomy(p.Touched[i].Path, leafBy(5))
	}
	p.Touched = roomy(p.Touched, api.Access{Addr: 5, Path: []api.Hash{leafBy(6)}})
	p.Pre = roomy(p.Pre, 0xa5)
	return p
}

// whole is a proof once more, with the room behind its lists as part of these.
func whole(p api.StepProof) api.StepProof {
	p.Touched = slices.Clone(p.Touched[:cap(p.Touched)])
	for i := range p.Touched {
		path := p.Touched[i].Path
		p.Touched[i].Path = slices.Clone(path[:cap(path)])
	}
	p.Pre = bytes.Clone(p.Pre[:cap(p.Pre)])
	return p
}

func sameKnown(x, y []api.Hashed) bool {
	return slices.EqualFunc(x, y, func(a, b api.Hashed) bool { return a.Sum == b.Sum && bytes.Equal(a.Bytes, b.Bytes) })
}

// twinKnown is what is known once more, with the room behind the ends as part of it.
func twinKnown(known []api.Hashed) []api.Hashed {
	all := slices.Clone(known[:cap(known)])
	for i, x := range all {
		all[i].Bytes = bytes.Clone(x.Bytes[:cap(x.Bytes)])
	}
	return all
}

// P12.1: machines and what is known stay, the room behind their ends too, which is not to be seen in an answer.
func TestMakeLeavesAll(t *testing.T) {
	for _, s := range subjects() {
		want, _ := proofBy(s.m, s.known)
		m := loose(s.m)
		known := looseKnown(s.known, hashed([]byte("in the room")))
		words, kept := slices.Clone(m.Mem[:cap(m.Mem)]), twinKnown(known)
		p, e := Make(m, known)
		if e != api.OK || !same(p, want) {
			t.Fatalf("%s: Make = %s, %d", s.name, shown(p), e)
		}
		if !slices.Equal(m.Mem[:cap(m.Mem)], words) || !sameKnown(twinKnown(known), kept) {
			t.Fatalf("%s: what was handed in did not stay", s.name)
		}
	}
	x := hashed([]byte("in the room"))
	wantError(t, asker(api.PRE, x.Sum, 0), looseKnown(library(), x), api.ErrShort)
	long := hashed([]byte("bytes\xa5"))
	wantError(t, asker(api.PRE, long.Sum, 0), looseKnown([]api.Hashed{{Bytes: []byte("bytes"), Sum: long.Sum}}), api.ErrShort)
	for _, size := range []int{0, 3, 5, 4095} {
		m := loose(api.Machine{Mem: filled(size)})
		words := slices.Clone(m.Mem[:cap(m.Mem)])
		wantError(t, m, nil, api.ErrArg)
		if !slices.Equal(m.Mem[:cap(m.Mem)], words) {
			t.Fatalf("%d words did not stay", size)
		}
	}
}

// P12.2, P12.3: proofs stay, the room behind their lists too, which is not to be seen.
func TestProofsStay(t *testing.T) {
	for _, s := range subjects() {
		p, _ := Make(s.m, s.known)
		before := ownOf(p)
		want, _ := checkedBy(before, p)
		form, _ := Write(p)
		q := looseProof(p)
		kept := whole(q)
		if h, ok := Check(before, q); h != want || !ok {
			t.Fatalf("%s: Check with room = %x, %v", s.name, h, ok)
		}
		if b, e := Write(q); e != api.OK || !bytes.Equal(b, form) {
			t.Fatalf("%s: Write with room: %d", s.name, e)
		}
		Check(leafBy(3), q)
		if !same(whole(q), kept) {
			t.Fatalf("%s: the proof did not stay", s.name)
		}
		// An entry that stands in the room is no entry.
		if n := len(p.Touched); n > 0 {
			cut := twin(p)
			cut.Touched = cut.Touched[:n-1]
			wantLie(t, before, cut)
		}
	}
}

// P12.3: bytes that are read stay, the room behind their end too, which is not to be seen.
func TestBytesStay(t *testing.T) {
	for _, p := range []api.StepProof{{}, sample()} {
		form, _ := Write(p)
		for n := range len(form) + 1 {
			b := append(bytes.Clone(form), make([]byte, 50)...)[:n]
			kept := bytes.Clone(b[:cap(b)])
			q, e := Read(b)
			if (e == api.OK) != (n == len(form)) || e == api.OK && !same(p, q) {
				t.Fatalf("Read of %d bytes with room: %d", n, e)
			}
			if !bytes.Equal(b[:cap(b)], kept) {
				t.Fatalf("%d bytes did not stay", n)
			}
		}
	}
}

// P12.1, P12.3: what is answered shares nothing with what was handed in, nor with another answer, nor do two lists of it.
func TestAnswersAreNew(t *testing.T) {
	for _, s := range subjects() {
		p, _ := Make(s.m, s.known)
		q, _ := Make(s.m, s.known)
		b, _ := Write(p)
		c, _ := Write(p)
		x, _ := Read(b)
		y, _ := Read(b)
		wantProofsApart(t, p, q, x, y)
		lists := [][]byte{b, c, p.Pre, q.Pre, x.Pre, y.Pre}
		for _, h := range s.known {
			lists = append(lists, h.Bytes)
		}
		wantApart(t, lists...)
	}
	p := sample()
	b, _ := Write(p)
	q, _ := Read(b)
	wantProofsApart(t, p, q)
}

// P12.1 to P12.3: answers that are changed change nothing that is told later, nor what was handed in.
func TestChangedAnswers(t *testing.T) {
	for _, s := range subjects() {
		words, known := slices.Clone(s.m.Mem), twinKnown(s.known)
		want, _ := proofBy(s.m, s.known)
		p, _ := Make(s.m, s.known)
		kept, _ := Make(s.m, s.known)
		b, _ := Write(p)
		form := bytes.Clone(b)
		x, _ := Read(b)
		y, _ := Read(b)
		spoilProof(p)
		spoilProof(x)
		again, _ := Make(s.m, s.known)
		if !same(kept, want) || !same(again, want) || !same(y, want) || !bytes.Equal(b, form) {
			t.Fatalf("%s: a changed proof is to be seen", s.name)
		}
		spoil(b, 77)
		c, _ := Write(kept)
		if !same(y, want) || !bytes.Equal(c, form) || !slices.Equal(s.m.Mem, words) || !sameKnown(twinKnown(s.known), known) {
			t.Fatalf("%s: changed bytes are to be seen", s.name)
		}
	}
}

// P12.1 to P12.3: arguments that are changed after they were handed in change nothing that was told.
func TestChangedArguments(t *testing.T) {
	for _, s := range subjects() {
		want, _ := proofBy(s.m, s.known)
		want = twin(want)
		p, _ := Make(s.m, s.known)
		spoil(s.m.Mem, most)
		for i := range s.known {
			spoil(s.known[i].Bytes, 77)
			s.known[i].Sum = leafBy(9)
		}
		if !same(p, want) {
			t.Fatalf("%s: a changed machine is to be seen", s.name)
		}
		b, _ := Write(p)
		form := bytes.Clone(b)
		q, _ := Read(b)
		after, ok := Check(ownOf(p), p)
		spoilProof(p)
		spoil(b, 77)
		if !same(q, want) {
			t.Fatalf("%s: changed bytes are to be seen", s.name)
		}
		if h, is := Check(ownOf(q), q); h != after || is != ok || !ok {
			t.Fatalf("%s: a changed proof is to be seen", s.name)
		}
		if c, _ := Write(q); !bytes.Equal(c, form) {
			t.Fatalf("%s: a changed proof is to be seen in bytes", s.name)
		}
	}
}

// P12.1: what is known may be changed between two calls: nothing of it is kept.
func TestChangedKnowledge(t *testing.T) {
	known := []api.Hashed{hashed([]byte("first"))}
	m := asker(api.PLEN, known[0].Sum, 0)
	wantTouched(t, m, known, 5, 8, 9, 10, 11)
	known[0].Bytes[0] ^= 1
	wantError(t, m, known, api.ErrShort)
	known[0].Bytes[0] ^= 1
	wantTouched(t, m, known, 5, 8, 9, 10, 11)
	known[0] = hashed([]byte("second"))
	wantError(t, m, known, api.ErrShort)
}
