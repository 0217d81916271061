package state

import (
	"bytes"
	"slices"
	"testing"
	"unsafe"

	"proctor/api"
)

// span is where a list lies, the room behind its end with it.
type span struct{ begin, end uintptr }

// held keeps lists where they are until they were held against each other.
var held []any

// hold is where a list lies, which it keeps there.
func hold[T any](l []T) span {
	held = append(held, l)
	var x T
	begin := uintptr(unsafe.Pointer(unsafe.SliceData(l)))
	return span{begin, begin + uintptr(cap(l))*unsafe.Sizeof(x)}
}

// holdAll is where a list of entries lies, and the bytes of each.
func holdAll(l []api.Hashed) []span {
	spans := []span{hold(l)}
	for _, x := range l {
		spans = append(spans, hold(x.Bytes))
	}
	return spans
}

// wantApart finds two lists among some that share memory.
func wantApart(t *testing.T, lists ...span) {
	t.Helper()
	for i, a := range lists {
		for j, b := range lists[:i] {
			if a.begin < b.end && b.begin < a.end {
				t.Errorf("the lists %d and %d share memory", j, i)
			}
		}
	}
	held = nil
}

// roomy is a list with filled room behind its end.
func roomy[T any](l []T, fill T) []T {
	return append(slices.Clone(l), slices.Repeat([]T{fill}, 40)...)[:len(l)]
}

// ask asks all calls of a state.
func ask(s api.State) {
	May(s)
	Same(s, s)
	Total(s)
	root, _ := Root(s)
	Known(s)
	for i := range 3 {
		w, _ := Prove(s, i)
		Check(root, i, s.Accounts[i], w)
		w, _ = ProveOut(s, i)
		CheckOut(root, i, api.Out{}, w)
	}
}

// P6.2, P6.4: a state that is handed in stays, with the room behind its withdrawals, which is not to be seen in an answer.
func TestStatesStay(t *testing.T) {
	for n := range 35 {
		tight := some(n)
		loose := tight
		loose.Outs = roomy(tight.Outs, api.Out{To: 5, Amount: 6})
		kept, accounts := slices.Clone(loose.Outs[:cap(loose.Outs)]), loose.Accounts
		ask(loose)
		rootOfTight, _ := Root(tight)
		if root, _ := Root(loose); root != rootOfTight || !Same(tight, loose) || May(tight) != May(loose) {
			t.Errorf("the room behind %d withdrawals is to be seen", n)
		}
		knownOfTight, _ := Known(tight)
		if l, _ := Known(loose); !slices.EqualFunc(l, knownOfTight, sameEntry) {
			t.Errorf("the room behind %d withdrawals is known", n)
		}
		if !slices.Equal(loose.Outs[:cap(loose.Outs)], kept) || loose.Accounts != accounts || !Same(tight, some(n)) {
			t.Errorf("a state of %d withdrawals did not stay", n)
		}
	}
}

// P6.3: a witness that is handed in stays, with the room behind its Path, which is not to be seen in an answer.
func TestWitnessesStay(t *testing.T) {
	s := some(9)
	root := stateRoot(s)
	for n := range 9 {
		ofAccount, _ := Prove(s, n)
		ofOut, _ := ProveOut(s, n)
		for _, length := range []int{0, 4, 5} {
			for _, w := range []api.Witness{ofAccount, ofOut} {
				path := roomy(w.Path, h(8))
				loose := api.Witness{Path: path[:length], Other: w.Other, Count: w.Count}
				kept := slices.Clone(path[:cap(path)])
				tight := api.Witness{Path: slices.Clip(slices.Clone(loose.Path)), Other: w.Other, Count: w.Count}
				if Check(root, n, s.Accounts[n], loose) != Check(root, n, s.Accounts[n], tight) || CheckOut(root, n, s.Outs[n], loose) != CheckOut(root, n, s.Outs[n], tight) {
					t.Errorf("the room behind %d sums is to be seen", length)
				}
				if !slices.Equal(path[:cap(path)], kept) {
					t.Errorf("%d sums did not stay", length)
				}
			}
		}
	}
}

// P6.1, P6.2, P6.4: what is answered is new memory, and no two lists of it share any.
func TestAnswersAreNew(t *testing.T) {
	for _, n := range []int{0, 1, 32} {
		s := some(n)
		one, _ := Known(s)
		other, _ := Known(s)
		spans := slices.Concat([]span{hold(s.Outs)}, holdAll(one), holdAll(other))
		for i := range 32 {
			v, _ := Prove(s, i)
			w, _ := Prove(s, i)
			x, _ := ProveOut(s, i)
			y, _ := ProveOut(s, i)
			spans = append(spans, hold(v.Path), hold(w.Path), hold(x.Path), hold(y.Path), hold(AccountBytes(s.Accounts[i])), hold(AccountBytes(s.Accounts[i])))
		}
		spans = append(spans, hold(OutBytes(api.Out{})), hold(OutBytes(api.Out{})))
		wantApart(t, spans...)
	}
}

// P6.1, P6.2, P6.4: an answer that is changed after it was told changes nothing that is told later.
func TestChangedAnswers(t *testing.T) {
	s := some(4)
	l, _ := Known(s)
	for i := range l {
		for j := range l[i].Bytes {
			l[i].Bytes[j] ^= 255
		}
		l[i].Sum = api.Hash{}
	}
	for i := range s.Accounts {
		w, _ := Prove(s, i)
		clear(w.Path)
		clear(AccountBytes(s.Accounts[i]))
	}
	for i := range s.Outs {
		w, _ := ProveOut(s, i)
		clear(w.Path)
		clear(OutBytes(s.Outs[i]))
	}
	if !Same(s, some(4)) {
		t.Error("a changed answer changed the state")
	}
	wantKnown(t, s)
	wantRoot(t, s)
	wantWitnesses(t, s)
	if !bytes.Equal(OutBytes(s.Outs[1]), outLeafBytes(s.Outs[1])[1:]) || !bytes.Equal(AccountBytes(s.Accounts[1]), accountLeafBytes(s.Accounts[1])[1:]) {
		t.Error("a changed answer is to be seen in bytes")
	}
}
