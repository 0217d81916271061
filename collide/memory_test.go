package collide

import (
	"slices"
	"testing"
	"unsafe"

	"proctor/api"
)

// span is where a list lies, the room behind its end with it.
type span struct{ begin, end uintptr }

func spanOf[T any](l []T) span {
	var x T
	begin := uintptr(unsafe.Pointer(unsafe.SliceData(l)))
	return span{begin, begin + uintptr(cap(l))*unsafe.Sizeof(x)}
}

// held keeps lists where they are until they were held against each other.
var held []any

// wantApart finds two lists among some that share memory.
func wantApart(t *testing.T, lists ...span) {
	t.Helper()
	for i, a := range lists {
		for j, b := range lists[:i] {
			if a.begin < b.end && b.begin < a.end {
				t.Errorf("the lists %d and %d share memory", j, i)
			}
		}
	}
	held = nil
}

// hold is where a list lies, which it keeps there.
func hold[T any](l []T) span {
	held = append(held, l)
	return spanOf(l)
}

// holdAll is where a list of entries lies, and the bytes of each.
func holdAll(l []api.Hashed) []span {
	spans := []span{hold(l)}
	for _, x := range l {
		spans = append(spans, hold(x.Bytes))
	}
	return spans
}

// roomy is a list with filled room behind its end.
func roomy[T any](l []T) []T {
	loose := append(slices.Clone(l), make([]T, 20)...)
	for i := range 20 {
		if len(l) > 0 {
			loose[len(l)+i] = l[i%len(l)]
		}
	}
	return loose[:len(l)]
}

// P5.1: entries that are handed in stay, with their bytes and the room behind all ends, which is not to be seen.
func TestEntriesStay(t *testing.T) {
	base := []byte{1, 2, 3, 4, 5, 6}
	l := roomy([]api.Hashed{{Bytes: base[:2], Sum: h(1)}, {Bytes: base[:2:2], Sum: h(1)}, {Bytes: base[2:4], Sum: h(2)}, {Bytes: base[2:5], Sum: h(2)}})
	kept := slices.Clone(l[:cap(l)])
	wantFind(t, "entries of one array", l, 2, 3, true)
	wantFind(t, "entries with room", l[:3], 0, 0, false)
	if !slices.EqualFunc(l[:cap(l)], kept, sameEntry) || !slices.Equal(base, []byte{1, 2, 3, 4, 5, 6}) {
		t.Error("entries did not stay")
	}
}

// P5.2: proofs that are handed in stay, the room behind their end too, which is not to be seen in an answer.
func TestProofsStay(t *testing.T) {
	for depth := range 19 {
		for _, i := range []int{-1, 0, 1<<depth - 1, 1 << depth} {
			tight, loose := slices.Clip(some(depth)), roomy(some(depth))
			kept := slices.Clone(loose[:cap(loose)])
			want, wantE := Path(i, h(9), tight...)
			if path, e := Path(i, h(9), loose...); e != wantE || !slices.EqualFunc(path, want, sameEntry) {
				t.Errorf("Path(%d) of %d sums with room", i, depth)
			}
			wantUnbound(t, "proofs with room", i, h(9), loose, h(9), tight)
			wantUnbound(t, "proofs of one array", i, h(9), loose, h(8), loose)
			if !slices.Equal(loose[:cap(loose)], kept) {
				t.Errorf("%d sums did not stay", depth)
			}
		}
	}
}

// P5.2: a path is new memory, and the bytes of each level too.
func TestPathsAreNew(t *testing.T) {
	for depth := range api.MaxDepth + 1 {
		proof := roomy(some(depth))
		one, _ := Path(0, h(9), proof...)
		other, _ := Path(0, h(9), proof...)
		wantApart(t, slices.Concat([]span{hold(proof)}, holdAll(one), holdAll(other))...)
		spoil(one)
		if again, _ := Path(0, h(9), proof...); !slices.EqualFunc(again, other, sameEntry) || !slices.Equal(proof, some(depth)) {
			t.Errorf("a changed path of %d levels is to be seen", depth)
		}
	}
}

// P5.2: the two byte strings that are told share nothing.
func TestBoundBytesAreNew(t *testing.T) {
	sum := weak()[0]
	pa, pb := []api.Hash{{1}, {1}, {2}}, []api.Hash{{2}, {1}, {2}}
	told := 0
	for i := range 8 {
		for leaf := range 3 {
			x, y, ok := lowest(sideBySide(climber{sum, i, api.Hash{byte(leaf)}}, pa, climber{sum, i, api.Hash{2}}, pb))
			if ok {
				told++
				wantApart(t, hold(x), hold(y), hold(pa), hold(pb))
			}
		}
	}
	if told == 0 {
		t.Error("nothing was told")
	}
}

// P5.3: a log shares nothing with bytes that it was handed, nor with lists that it told.
func TestLogsAreNew(t *testing.T) {
	l := New()
	var spans []span
	for n := range 30 {
		b := make([]byte, n, 2*n+1)
		l.Sum(b)
		spans = append(spans, hold(b))
	}
	wantApart(t, slices.Concat(spans, holdAll(l.summed), holdAll(l.List()), holdAll(l.List()))...)
}
