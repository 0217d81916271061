package ledger

import (
	"slices"
	"testing"

	"proctor/api"
)

// round is sixteen moves of which each can be paid only by what came in ahead of it.
func round(n uint64) (l []api.Move) {
	for a := range 16 {
		l = append(l, api.Move{From: a, To: other(a, 1), Amount: n})
	}
	return l
}

// wrongMoves are moves that have an error, behind whatever else, of purses that are together less than 1000.
var wrongMoves = []api.Move{
	{From: 16},
	{To: 16},
	{From: -1, To: -1, Amount: most},
	{From: 0, To: 1, Amount: 1000},
	{From: 3, To: 3, Amount: most},
	{From: 99, To: 2, Amount: 1000},
}

// P19.2: no moves, of purses that may be and that may not.
func TestNoMoves(t *testing.T) {
	for _, p := range []api.Purses{{}, mixed(), {api.Pot: supply}, even(supply / 16)} {
		for _, l := range [][]api.Move{nil, {}, make([]api.Move, 0, 5)} {
			if q, at, e := All(p, l...); q != p || at != 0 || e != 0 {
				t.Errorf("no moves of %d: %d, %d, %d", p, q, at, e)
			}
		}
	}
	for _, p := range []api.Purses{{5: supply + 1}, {0: supply, 1: 1}, {3: most, 4: 1}, even(most)} {
		if q, at, e := All(p); q != (api.Purses{}) || at != 0 || e != 2 {
			t.Errorf("no moves of %d: %d, %d, %d", p, q, at, e)
		}
	}
}

// P19.2: purses that may not be are ErrArg at 0, whatever moves come, good or wrong.
func TestAllOfNoPurses(t *testing.T) {
	for _, p := range []api.Purses{{5: supply + 1}, {0: supply, 1: 1}, {3: most, 4: 2}, even(most)} {
		for _, m := range append(wrongMoves, api.Move{}, api.Move{From: 5, To: 0, Amount: 1}) {
			for n := range 4 {
				if why, at := wantAll(t, p, slices.Repeat([]api.Move{m}, n)...); why != noPurses || at != 0 {
					t.Errorf("%s at %d", why, at)
				}
			}
		}
	}
}

// P19.2: one move is as Pay of it.
func TestOneMove(t *testing.T) {
	p := mixed()
	for from := -1; from < 18; from++ {
		for to := -1; to < 18; to++ {
			for _, n := range []uint64{0, 100 + uint64(7*from), 101 + uint64(7*from), most} {
				m := api.Move{From: from, To: to, Amount: n}
				want, e := Pay(p, m)
				at := 1
				if e != 0 {
					at = 0
				}
				if q, i, f := All(p, m); q != want || i != at || f != e {
					t.Errorf("All(%d) = %d, %d, %d, want %d, %d, %d", m, q, i, f, want, at, e)
				}
			}
		}
	}
}

// P19.2: the first move that has an error at each place of several, and more that have one behind it.
func TestTheFirstError(t *testing.T) {
	p := api.Purses{0: 5, 8: 900}
	good := round(5)
	for _, wrong := range wrongMoves {
		for at := range good {
			l := slices.Clone(good)
			l[at] = wrong
			why, i := wantAll(t, p, l...)
			if why == paid || i != at {
				t.Errorf("%d at %d: %s at %d", wrong, at, why, i)
			}
			for _, next := range wrongMoves {
				for behind := at + 1; behind < len(l); behind += 3 {
					twice := slices.Clone(l)
					twice[behind] = next
					if again, j := wantAll(t, p, twice...); again != why || j != at {
						t.Errorf("%d at %d, %d at %d: %s at %d", wrong, at, next, behind, again, j)
					}
				}
			}
		}
	}
}

// P19.2: moves that can be paid only by what came in ahead of them; with one more in one place they can't.
func TestPaidByWhatCameIn(t *testing.T) {
	five := api.Purses{0: 5}
	if q, at, e := All(five, round(5)...); q != five || at != 16 || e != 0 {
		t.Errorf("all the way round: %d, %d, %d", q, at, e)
	}
	if q, at, e := All(five, round(5)[:9]...); q != (api.Purses{9: 5}) || at != 9 || e != 0 {
		t.Errorf("nine of them: %d, %d, %d", q, at, e)
	}
	for i := range 16 {
		l := round(5)
		l[i].Amount++
		if why, at := wantAll(t, five, l...); why != tooMuch || at != i {
			t.Errorf("one more at %d: %s at %d", i, why, at)
		}
	}
	// Backwards the first one to pay has nothing as yet.
	back := round(5)
	slices.Reverse(back)
	if why, at := wantAll(t, five, back...); why != tooMuch || at != 0 {
		t.Errorf("backwards: %s at %d", why, at)
	}
	great := api.Purses{0: supply}
	if q, at, e := All(great, round(supply)...); q != great || at != 16 || e != 0 {
		t.Errorf("Supply, all the way round: %d, %d, %d", q, at, e)
	}
}

// P19.2: a move that falls by one, because of what went out ahead of it.
func TestFallsByOne(t *testing.T) {
	for a := range 16 {
		p := with(map[int]uint64{a: 10, other(a, 3): 1})
		l := []api.Move{{From: a, To: other(a, 1), Amount: 1}, {From: a, To: other(a, 2), Amount: 10}}
		if why, at := wantAll(t, p, l...); why != tooMuch || at != 1 {
			t.Errorf("one too little: %s at %d", why, at)
		}
		l[1].Amount--
		if q, at, e := All(p, l...); q != with(map[int]uint64{other(a, 1): 1, other(a, 2): 9, other(a, 3): 1}) || at != 2 || e != 0 {
			t.Errorf("just enough: %d, %d, %d", q, at, e)
		}
		l[1].Amount++
		more := append([]api.Move{{From: other(a, 3), To: a, Amount: 1}}, l...)
		if q, at, e := All(p, more...); q != with(map[int]uint64{other(a, 1): 1, other(a, 2): 10}) || at != 3 || e != 0 {
			t.Errorf("with what came in: %d, %d, %d", q, at, e)
		}
		// To oneself nothing goes out.
		same := []api.Move{{From: a, To: a, Amount: 10}, {From: a, To: a, Amount: 10}, {From: a, To: a, Amount: 11}}
		if why, at := wantAll(t, p, same...); why != tooMuch || at != 2 {
			t.Errorf("to oneself: %s at %d", why, at)
		}
	}
}

// P19.2: a great many moves.
func TestManyMoves(t *testing.T) {
	l := slices.Repeat(round(1), 1<<12)
	if q, at, e := All(api.Purses{0: 1}, l...); q != (api.Purses{0: 1}) || at != 1<<16 || e != 0 {
		t.Errorf("%d, %d, %d", q, at, e)
	}
	l = append(l, api.Move{From: 1})
	if q, at, e := All(api.Purses{0: 1}, append(l, api.Move{From: 1, Amount: 1}, api.Move{From: 77})...); q != (api.Purses{}) || at != 1<<16+1 || e != 190 {
		t.Errorf("%d, %d, %d", q, at, e)
	}
}
