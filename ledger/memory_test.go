package ledger

import (
	"slices"
	"testing"

	"proctor/api"
)

// P19.1, P19.2: purses that were handed in stay, and what was answered is changed by nothing that comes later.
func TestPursesStay(t *testing.T) {
	p, m := mixed(), api.Move{From: 4, To: 5, Amount: 3}
	first, e := Pay(p, m)
	kept := first
	if p != mixed() || e != 0 || first == p {
		t.Errorf("Pay: %d, %d, %d", p, first, e)
	}
	Total(p)
	May(p)
	again, at, f := All(p, m, m)
	if p != mixed() || f != 0 || at != 2 || first != kept || again == first {
		t.Errorf("All: %d, %d, %d", p, again, f)
	}
	Pay(p, api.Move{From: 16})
	All(p, m, api.Move{From: 4, To: 5, Amount: most})
	if p != mixed() || first != kept {
		t.Errorf("behind errors: %d, %d", p, first)
	}
}

// P19.2: moves that were handed in stay, with the room behind their end, which is not to be seen in an answer.
func TestMovesStay(t *testing.T) {
	for _, filler := range []api.Move{{}, {From: 77}, {From: 0, To: 1, Amount: 1}, {From: 0, To: 1, Amount: most}} {
		for n := range 17 {
			for _, wrong := range append(wrongMoves, api.Move{From: 0, To: 1}) {
				l := append(round(5)[:n], wrong)
				whole := append(slices.Clone(l), slices.Repeat([]api.Move{filler}, 20)...)
				kept := slices.Clone(whole)
				want, i, e := All(api.Purses{0: 5}, slices.Clip(l)...)
				q, at, f := All(api.Purses{0: 5}, whole[:n+1]...)
				if q != want || at != i || f != e {
					t.Errorf("the room behind %d moves is to be seen", n+1)
				}
				if !slices.Equal(whole, kept) {
					t.Errorf("%d moves did not stay", n+1)
				}
			}
		}
	}
}

// P19.1, P19.2: no call asks for memory: an answer is an array, and shares none.
func TestNoMemory(t *testing.T) {
	p, l := mixed(), round(1)
	got := testing.AllocsPerRun(100, func() {
		May(p)
		Total(p)
		Pay(p, l[0])
		All(p, l...)
	})
	if got != 0 {
		t.Errorf("%v times", got)
	}
}
