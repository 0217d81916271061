package trace

import (
	"reflect"
	"slices"
	"testing"
	"unsafe"

	"proctor/api"
	"proctor/vm"
)

// span is where a list lies, the room behind its end with it.
type span struct{ begin, end uintptr }

// held keeps lists where they are until they were held against each other.
var held []any

// hold is where a list lies, which it keeps there.
func hold[T any](l []T) span {
	held = append(held, l)
	var x T
	begin := uintptr(unsafe.Pointer(unsafe.SliceData(l)))
	return span{begin, begin + uintptr(cap(l))*unsafe.Sizeof(x)}
}

// holdKnown is where a list of entries lies, and the bytes of each.
func holdKnown(known []api.Hashed) []span {
	spans := []span{hold(known)}
	for _, x := range known {
		spans = append(spans, hold(x.Bytes))
	}
	return spans
}

// holdProof is where all lists of a proof lie.
func holdProof(p api.StepProof) []span {
	spans := []span{hold(p.Touched), hold(p.Pre)}
	for _, x := range p.Touched {
		spans = append(spans, hold(x.Path))
	}
	return spans
}

// holdTrace is where all lists lie that a trace keeps.
func holdTrace(x *Trace) []span {
	spans := append(holdKnown(x.known), hold(x.kept.things))
	for _, m := range x.kept.things {
		spans = append(spans, hold(m.Mem))
	}
	return spans
}

// wantApart finds two lists among some that share memory.
func wantApart(t *testing.T, lists ...span) {
	t.Helper()
	for i, a := range lists {
		for j, b := range lists[:i] {
			if a.begin < b.end && b.begin < a.end {
				t.Errorf("the lists %d and %d share memory", j, i)
			}
		}
	}
	held = nil
}

// roomy is a list with filled room behind its end.
func roomy[T any](l []T, filler T) []T {
	return append(slices.Clone(l), slices.Repeat([]T{filler}, 40)...)[:len(l)]
}

// looseKnown is what is known with filled room behind each end: what stands there is no preimage.
func looseKnown(known []api.Hashed, more api.Hashed) []api.Hashed {
	var all []api.Hashed
	for _, x := range known {
		all = append(all, api.Hashed{Bytes: roomy(x.Bytes, 0xa5), Sum: x.Sum})
	}
	return roomy(all, more)
}

// spoil overwrites a list and the room behind its end.
func spoil[T any](l []T, x T) {
	for i := range l[:cap(l)] {
		l[:cap(l)][i] = x
	}
}

// spoilKnown overwrites all that is known.
func spoilKnown(known []api.Hashed) {
	for _, x := range known {
		spoil(x.Bytes, 77)
	}
	spoil(known, api.Hashed{Bytes: []byte{1}})
}

// spoilProof overwrites all lists of a proof.
func spoilProof(p api.StepProof) {
	for _, x := range p.Touched {
		spoil(x.Path, api.Hash{77})
	}
	spoil(p.Touched, api.Access{Addr: 77})
	spoil(p.Pre, 77)
}

// hosts are machines of which each asks for what is known at a step of its own, about a mark too.
func hosts(known []api.Hashed) []api.Machine {
	return []api.Machine{
		asking(api.PRE, known[5].Sum, 2), asking(api.PLEN, known[4].Sum, 7),
		asking(api.PRE, known[3].Sum, gap-1), asking(api.PLEN, known[5].Sum, gap), asking(api.PRE, known[2].Sum, gap+1), asking(api.PRE, known[4].Sum, gap+2),
		circle(3), halting(gap),
	}
}

// someK are the k at which the hosts are asked.
func someK() []int { return about(gap+8, 3, 7, gap) }

// wantCourse holds a trace against a run at some k.
func wantCourse(t *testing.T, x *Trace, all []api.Machine, known []api.Hashed) {
	t.Helper()
	for _, k := range someK() {
		wantAt(t, x, k, all[k], known)
	}
}

// P18.1, P18.2: machines and what is known stay, the room behind their ends too, which is not to be seen.
func TestArgumentsStay(t *testing.T) {
	inRoom := hashed([]byte("in the room"))
	for _, m := range append(hosts(library()), asking(api.PLEN, inRoom.Sum, 5), asking(api.PRE, hashed([]byte{2, 0xa5}).Sum, 5)) {
		n, known := m, looseKnown(library(), inRoom)
		n.Mem = roomy(m.Mem, 1<<56)
		words, kept := slices.Clone(n.Mem[:cap(n.Mem)]), twinKnown(known)
		x := made(t, n, known, gap+8)
		all, _ := course(m, library(), gap+8)
		wantCourse(t, x, all, library())
		wantFirst(t, x, made(t, n, known, gap), 0, false)
		if !slices.Equal(n.Mem[:cap(n.Mem)], words) || !reflect.DeepEqual(twinKnown(known), kept) {
			t.Fatalf("what was handed in did not stay")
		}
	}
	for _, size := range []int{0, 3, 5} {
		m := api.Machine{Mem: roomy(make([]uint64, size), 1<<56)}
		known := looseKnown(library(), inRoom)
		words, kept := slices.Clone(m.Mem[:cap(m.Mem)]), twinKnown(known)
		New(m, known, 5)
		if !slices.Equal(m.Mem[:cap(m.Mem)], words) || !reflect.DeepEqual(twinKnown(known), kept) {
			t.Fatalf("what was handed in did not stay")
		}
	}
}

// P18.1: nothing that is answered shares memory with what was handed in, with what is kept, or with another answer.
func TestAnswersAreNew(t *testing.T) {
	known := library()
	for _, m := range hosts(known) {
		x, y := made(t, m, known, gap+8), made(t, m, known, gap+8)
		lists := append(holdKnown(known), hold(m.Mem))
		lists = append(lists, holdTrace(x)...)
		lists = append(lists, holdTrace(y)...)
		for _, k := range []int{0, 1, 1, 6, gap - 2, gap - 1, gap, gap, gap + 1, gap + 8} {
			for _, z := range []*Trace{x, y} {
				n, _ := z.Machine(k)
				p, _ := z.Prove(k)
				q, _ := z.Prove(k)
				lists = append(append(lists, hold(n.Mem)), append(holdProof(p), holdProof(q)...)...)
			}
		}
		wantApart(t, lists...)
	}
}

// P18.1, P18.2: answers that are written over show in no later answer, be it of the same trace or of another one.
func TestChangedAnswers(t *testing.T) {
	known := library()
	for _, m := range hosts(known) {
		all, _ := course(m, known, gap+8)
		x, y := made(t, m, known, gap+8), made(t, m, known, gap+8)
		for range 2 {
			for _, k := range someK() {
				n, _ := x.Machine(k)
				spoil(n.Mem, 1<<56)
				p, _ := x.Prove(k)
				spoilProof(p)
			}
			wantCourse(t, x, all, known)
			wantFirst(t, x, y, 0, false)
		}
		wantCourse(t, y, all, known)
	}
	if !reflect.DeepEqual(known, library()) {
		t.Errorf("what was handed in did not stay")
	}
}

// P18.1, P18.2: what was handed in may be written over once New has answered.
func TestChangedArguments(t *testing.T) {
	for i := range hosts(library()) {
		known := library()
		m := hosts(known)[i]
		all, _ := course(twin(m), library(), gap+8)
		x, y := made(t, m, known, gap+8), made(t, m, known, gap+8)
		first, _ := y.Machine(gap)
		spoil(m.Mem, 1<<56)
		spoilKnown(known)
		for range 2 {
			wantCourse(t, x, all, library())
		}
		wantFirst(t, x, y, 0, false)
		wantCourse(t, y, all, library())
		if !vm.Same(first, all[gap]) {
			t.Errorf("a changed argument is to be seen in an answer")
		}
	}
}

// P18.1: two traces of one machine don't touch each other, whatever is asked of one of them.
func TestTwoTraces(t *testing.T) {
	known := library()
	for _, m := range hosts(known) {
		all, _ := course(m, known, gap+8)
		less, _ := course(m, nil, gap+8)
		x, y, z := made(t, m, known, gap+8), made(t, m, nil, gap+8), made(t, m, known, 5)
		for _, k := range someK() {
			wantAt(t, x, k, all[k], known)
			wantAt(t, y, k, less[k], nil)
			if k <= 5 {
				wantAt(t, z, k, all[k], known)
			} else {
				wantErrors(t, z, k, api.ErrArg)
			}
		}
		wantCourse(t, y, less, nil)
		wantCourse(t, x, all, known)
	}
}
