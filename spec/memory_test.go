package spec

import (
	"bytes"
	"slices"
	"testing"
	"unsafe"

	"proctor/api"
	"proctor/state"
)

// held keeps lists where they are until they were held against each other.
var held []any

// overlap says whether two lists share memory, the room behind their ends with it.
func overlap[T any](a, b []T) bool {
	held = append(held, a, b)
	var one T
	size := unsafe.Sizeof(one)
	x, y := uintptr(unsafe.Pointer(unsafe.SliceData(a))), uintptr(unsafe.Pointer(unsafe.SliceData(b)))
	return x < y+uintptr(cap(b))*size && y < x+uintptr(cap(a))*size
}

// wantApart asks that no two of some lists share memory.
func wantApart[T any](t *testing.T, lists ...[]T) {
	t.Helper()
	for i, a := range lists {
		for j, b := range lists[:i] {
			if overlap(a, b) {
				t.Fatalf("the lists %d and %d share memory", j, i)
			}
		}
	}
	held = nil
}

// loose is a state of some with filled room behind its withdrawals.
func loose(outs int) api.State {
	s := some(outs)
	s.Outs = append(s.Outs, slices.Repeat([]api.Out{{To: 5, Amount: 6}}, 40)...)[:outs]
	return s
}

// roomy is a list with filled room behind its end, and behind each message's.
func roomy(l [][]byte) [][]byte {
	var all [][]byte
	for _, b := range l {
		all = append(all, append(bytes.Clone(b), bytes.Repeat([]byte{0xa5}, 200)...)[:len(b)])
	}
	return append(all, deposit(1, 1), nil, deposit(2, 2))[:len(l)]
}

// whole is a list of byte strings once more, with all the room behind the ends.
func whole(l [][]byte) [][]byte {
	var all [][]byte
	for _, b := range l[:cap(l)] {
		all = append(all, bytes.Clone(b[:cap(b)]))
	}
	return all
}

// everything calls all that there is, and answers the states.
func everything(s api.State, l [][]byte) []api.State {
	var all []api.State
	end, _, _ := Run(s, l...)
	all = append(all, end)
	for n := -1; n <= len(l)+1; n++ {
		at, _ := After(s, n, l...)
		all = append(all, at)
	}
	Roots(s, l...)
	Flow(s, l...)
	for _, at := range All(s, l...) {
		all = append(all, at)
	}
	return all
}

// P9.1, P9.2: what is handed in stays, with the room behind its end, which is not to be seen in an answer.
func TestArgumentsStay(t *testing.T) {
	for _, n := range []int{0, 1, 16, 31, 32, 33} {
		for _, list := range [][][]byte{nil, {nil}, mixed(), filling()} {
			s, l := loose(n), roomy(list)
			kept, keptList, lengths := slices.Clone(s.Outs[:cap(s.Outs)]), whole(l), slices.Clone(l[:cap(l)])
			if !slices.EqualFunc(everything(s, l), everything(some(n), list), state.Same) {
				t.Fatalf("the room behind lists is to be seen, %d withdrawals, %d messages", n, len(l))
			}
			if mayBe(s) {
				wantAll(t, s, l)
			} else {
				wantNone(t, s, l)
			}
			if !slices.Equal(s.Outs[:cap(s.Outs)], kept) || s.Accounts != some(n).Accounts || !slices.EqualFunc(whole(l), keptList, bytes.Equal) {
				t.Fatalf("what was handed in did not stay, %d withdrawals, %d messages", n, len(l))
			}
			for i, b := range l[:cap(l)] {
				if len(b) != len(lengths[i]) || unsafe.SliceData(b) != unsafe.SliceData(lengths[i]) {
					t.Fatalf("another message stands at %d", i)
				}
			}
		}
	}
}

// P9.1, P9.2: no two states that are answered share memory, nor any with what was handed in.
func TestStatesAreNew(t *testing.T) {
	for _, n := range []int{0, 1, 31, 32} {
		for _, l := range [][][]byte{nil, {nil}, mixed(), filling()[:9]} {
			s := loose(n)
			lists := [][]api.Out{s.Outs}
			for _, at := range append(everything(s, l), everything(s, l)...) {
				lists = append(lists, at.Outs)
			}
			all := All(s, l...)
			for range 2 {
				for _, at := range all {
					lists = append(lists, at.Outs)
				}
			}
			wantApart(t, lists...)
		}
	}
}

// P9.1: lists that are answered are new memory each time.
func TestListsAreNew(t *testing.T) {
	s := some(3)
	for _, l := range [][][]byte{nil, {nil}, mixed(), filling()} {
		_, did, _ := Run(s, l...)
		_, again, _ := Run(s, l...)
		_, part, _ := Run(s, l[:len(l)/2]...)
		wantApart(t, did, again, part)
		roots, _ := Roots(s, l...)
		others, _ := Roots(s, l...)
		wantApart(t, roots, others)
	}
}

// spoil changes a state's list, with the room behind its end.
func spoil(s api.State) {
	for i := range s.Outs[:cap(s.Outs)] {
		s.Outs[:cap(s.Outs)][i] = api.Out{To: 3, Amount: 9}
	}
}

// P9.1, P9.2: answers that are changed after they were told change nothing that is told later.
func TestChangedAnswers(t *testing.T) {
	for _, n := range []int{0, 1, 31, 32} {
		for _, l := range [][][]byte{nil, mixed(), filling()} {
			s := loose(n)
			want := judge(s, l)
			for _, at := range everything(s, l) {
				spoil(at)
			}
			_, did, _ := Run(s, l...)
			for i := range did[:cap(did)] {
				did[:cap(did)][i] = i%2 == 0
			}
			roots, _ := Roots(s, l...)
			clear(roots[:cap(roots)])
			all := All(s, l...)
			for range 2 {
				for i, at := range all {
					if !state.Same(at, want.states[i]) {
						t.Fatalf("a changed answer is to be seen after %d", i)
					}
					spoil(at)
				}
			}
			if !state.Same(s, some(n)) {
				t.Fatalf("a changed answer changed the state")
			}
			wantAll(t, s, l)
		}
	}
}

// P9.2: states that All told stay as they were told, whatever is told behind them.
func TestToldStatesStay(t *testing.T) {
	s, l := loose(3), filling()
	want := judge(s, l)
	var kept []api.State
	for _, at := range All(s, l...) {
		kept = append(kept, at)
	}
	for n, at := range kept {
		if !state.Same(at, want.states[n]) {
			t.Errorf("after %d there is %v by now", n, at)
		}
	}
}

// P9.2: All keeps nothing of what was handed in: that may be changed ahead of going over it, and meanwhile.
func TestAllKeepsNothing(t *testing.T) {
	for _, meanwhile := range []int{-1, 0, 1, 7, 12} {
		s, l := loose(3), roomy(mixed())
		want := judge(s, mixed())
		all := All(s, l...)
		change := func() {
			spoil(s)
			for i, b := range l {
				clear(b[:cap(b)])
				l[i] = deposit(1, 1)
			}
		}
		if meanwhile < 0 {
			change()
		}
		n := 0
		for i, at := range all {
			if !state.Same(at, want.states[i]) {
				t.Errorf("changed at %d: %d with %v", meanwhile, i, at)
			}
			if i == meanwhile {
				change()
			}
			n++
		}
		if n != len(want.states) {
			t.Errorf("changed at %d: %d states", meanwhile, n)
		}
	}
	wrong := some(33)
	all := All(wrong, mixed()...)
	wrong.Outs = wrong.Outs[:1]
	for range all {
		t.Errorf("a state that may not be is told")
	}
}

// P9.1: answers hang on no argument that is changed behind the call.
func TestChangedArguments(t *testing.T) {
	for count := range len(mixed()) + 1 {
		s, l := loose(4), roomy(mixed()[:count])
		want := judge(s, l)
		end, did, _ := Run(s, l...)
		after, _ := After(s, count, l...)
		spoil(s)
		for _, b := range l {
			clear(b)
		}
		if !state.Same(end, want.states[count]) || !state.Same(after, want.states[count]) || !slices.Equal(did, want.did) {
			t.Errorf("changed arguments are to be seen after %d messages", count)
		}
	}
}
