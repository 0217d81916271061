package ledger

import (
	"math"
	"testing"

	"proctor/api"
)

// mixed is purses that are unlike each other, each of 1 or more.
func mixed() (p api.Purses) {
	for a := range p {
		p[a] = uint64(100 + 7*a)
	}
	return p
}

// even is purses that are all alike.
func even(n uint64) (p api.Purses) {
	for a := range p {
		p[a] = n
	}
	return p
}

// with is purses of which some addresses alone have something.
func with(has map[int]uint64) (p api.Purses) {
	for a, n := range has {
		p[a] = n
	}
	return p
}

// other is the address that lies some places behind another one.
func other(a, by int) int { return (a + by) % 16 }

// noAddresses are numbers of no address, 256 and 2^32 with their low bits as those of one.
var noAddresses = []int{-1, -2, -16, 16, 17, 256, 1 << 32, 1<<32 + 3, math.MaxInt, math.MaxInt - 15, math.MinInt, math.MinInt + 1}

// The chapter's examples.
func TestExamples(t *testing.T) {
	five, three := api.Purses{0: 5}, api.Purses{0: 3, 3: 2}
	for i, c := range []struct {
		p    api.Purses
		m    api.Move
		want api.Purses
		e    api.Errno
	}{
		{five, api.Move{From: 0, To: 3, Amount: 2}, three, 0},
		{three, api.Move{From: 0, To: 3, Amount: 6}, api.Purses{}, 190},
		{three, api.Move{From: 0, To: 16, Amount: 0}, api.Purses{}, 2},
		{five, api.Move{From: 0, To: 0, Amount: 5}, five, 0},
	} {
		if q, e := Pay(c.p, c.m); q != c.want || e != c.e {
			t.Errorf("the example %d: %d, %d", i, q, e)
		}
	}
	q, at, e := All(five, api.Move{From: 0, To: 1, Amount: 5}, api.Move{From: 1, To: 2, Amount: 6})
	if q != (api.Purses{}) || at != 1 || e != 190 {
		t.Errorf("the example of All: %d, %d, %d", q, at, e)
	}
}

// P19.1: May and Total of purses that are all zero, about Supply, and with one address alone that has something.
func TestTotals(t *testing.T) {
	wantTotal(t, api.Purses{})
	wantTotal(t, mixed())
	if n, e := Total(even(supply / 16)); n != supply || e != 0 || !May(even(supply/16)) {
		t.Errorf("Supply, evenly: %d, %d", n, e)
	}
	for a := range 16 {
		for _, n := range []uint64{1, supply - 1, supply, supply + 1, 1<<63 - 1, 1 << 63, most} {
			if _, ok := wantTotal(t, with(map[int]uint64{a: n})); ok != (n <= supply) {
				t.Errorf("%d at %d alone: %v", n, a, ok)
			}
		}
		more, less := even(supply/16), even(supply/16)
		more[a]++
		less[a]--
		if _, ok := wantTotal(t, more); ok {
			t.Error("one more than Supply may be")
		}
		if n, ok := wantTotal(t, less); n != supply-1 || !ok {
			t.Errorf("one less than Supply: %d, %v", n, ok)
		}
	}
}

// P19.1: two addresses that are Supply together, one more, one less, wherever they stand.
func TestTwoAddresses(t *testing.T) {
	for a := range 16 {
		for by := 1; by < 16; by++ {
			for _, n := range []uint64{0, 1, 2, supply / 2, supply - 1, supply, supply + 1} {
				p := with(map[int]uint64{a: n, other(a, by): supply - n})
				wantTotal(t, p)
				for _, x := range []uint64{1, most} {
					q := p
					q[a] += x
					wantTotal(t, q)
				}
			}
		}
	}
}

// P19.1: sums that wrap, once, twice, fifteen times, and of which nothing or little would be left.
func TestSumsThatWrap(t *testing.T) {
	for a := range 16 {
		b, c, d := other(a, 1), other(a, 7), other(a, 12)
		for _, p := range []api.Purses{
			with(map[int]uint64{a: most, b: 1}),
			with(map[int]uint64{a: most, b: 2}),
			with(map[int]uint64{a: most, b: most}),
			with(map[int]uint64{a: 1 << 63, b: 1 << 63}),
			with(map[int]uint64{a: 1 << 63, b: 1<<63 + 5}),
			with(map[int]uint64{a: 1 << 63, b: 1 << 63, c: 1 << 63, d: 1 << 63}),
			with(map[int]uint64{a: most, b: most, c: 2}),
			with(map[int]uint64{a: most, b: most, c: 3}),
			with(map[int]uint64{a: most, b: most, c: most, d: 3}),
			with(map[int]uint64{a: most, b: 1, c: supply}),
			with(map[int]uint64{a: supply, b: supply, c: supply, d: supply}),
			with(map[int]uint64{a: supply, b: supply, c: supply, d: supply + 1}),
			with(map[int]uint64{a: supply + 1, b: most - supply}),
			with(map[int]uint64{a: 1 << 63, b: 1<<63 - 1, c: 1}),
			even(most),
			even(1 << 60),
			even(1<<60 + 1),
			even(1 << 63),
		} {
			if _, ok := wantTotal(t, p); ok {
				t.Errorf("%d may be", p)
			}
		}
	}
}

// P19.1: from and to each address, itself too, of nothing, of one, of all that is there, of one more, of the greatest number.
func TestEachAddress(t *testing.T) {
	seen := map[verdict]int{}
	for _, p := range []api.Purses{{}, mixed(), even(supply / 16), {api.Pot: supply}, {api.Escrow: supply - 3, 0: 3}} {
		for from := range 16 {
			for to := range 16 {
				has := p[from]
				for _, n := range []uint64{0, 1, has / 2, has - 1, has, has + 1, supply, supply + 1, 1 << 63, most - has, most} {
					seen[wantPay(t, p, api.Move{From: from, To: to, Amount: n})]++
				}
			}
		}
	}
	if seen[paid] < 1000 || seen[tooMuch] < 1000 || len(seen) != 2 {
		t.Errorf("seen: %v", seen)
	}
}

// P19.1: the escrow and the pot pay and are paid as all others.
func TestEscrowAndPot(t *testing.T) {
	p := api.Purses{2: 20, 14: 7, 15: 9}
	for i, c := range []struct {
		from, to int
		n        uint64
		want     api.Purses
		e        api.Errno
	}{
		{2, api.Escrow, 20, api.Purses{14: 27, 15: 9}, 0},
		{api.Escrow, 2, 7, api.Purses{2: 27, 15: 9}, 0},
		{api.Escrow, 2, 8, api.Purses{}, 190},
		{2, api.Pot, 1, api.Purses{2: 19, 14: 7, 15: 10}, 0},
		{api.Pot, 2, 9, api.Purses{2: 29, 14: 7}, 0},
		{api.Pot, 2, 10, api.Purses{}, 190},
		{api.Escrow, api.Pot, 7, api.Purses{2: 20, 15: 16}, 0},
		{api.Pot, api.Escrow, 9, api.Purses{2: 20, 14: 16}, 0},
		{api.Pot, api.Pot, 9, p, 0},
		{api.Escrow, api.Escrow, 8, api.Purses{}, 190},
	} {
		if q, e := Pay(p, api.Move{From: c.from, To: c.to, Amount: c.n}); q != c.want || e != c.e {
			t.Errorf("%d: %d, %d", i, q, e)
		}
	}
}

// P19.1: an address that there is not, as From, as To, as both, of whatever amount: ErrArg ahead of ErrFunds.
func TestNoAddress(t *testing.T) {
	for _, no := range noAddresses {
		for a := range 16 {
			for _, n := range []uint64{0, 1, most} {
				for _, m := range []api.Move{{From: no, To: a, Amount: n}, {From: a, To: no, Amount: n}, {From: no, To: no, Amount: n}} {
					for _, p := range []api.Purses{{}, mixed(), with(map[int]uint64{a: supply})} {
						if why := wantPay(t, p, m); why != noAddress {
							t.Errorf("%d of %d: %s", m, p, why)
						}
					}
				}
			}
		}
	}
}

// P19.1: purses that may not be: ErrArg, whatever the move, ahead of ErrFunds.
func TestNoPurses(t *testing.T) {
	for _, p := range []api.Purses{{0: supply + 1}, {0: supply, 15: 1}, {3: most, 4: 1}, {7: most, 8: 2}, even(1 << 60 * 2), even(most)} {
		for a := range 16 {
			for _, to := range append([]int{0, 7, 14, 15, a}, noAddresses...) {
				for _, n := range []uint64{0, 1, p[a], p[a] + 1, most} {
					if why := wantPay(t, p, api.Move{From: a, To: to, Amount: n}); why != noPurses {
						t.Errorf("from %d to %d of %d: %s", a, to, n, why)
					}
				}
			}
		}
	}
}

// P19.1: to oneself goes what is there, but no more, and nothing changes.
func TestToOneself(t *testing.T) {
	p := mixed()
	p[9] = supply - 1<<20
	for a := range 16 {
		for _, n := range []uint64{0, 1, p[a]} {
			if q, e := Pay(p, api.Move{From: a, To: a, Amount: n}); q != p || e != 0 {
				t.Errorf("%d to itself of %d: %d, %d", a, n, q, e)
			}
		}
		for _, n := range []uint64{p[a] + 1, most, most - p[a] + 1} {
			if q, e := Pay(p, api.Move{From: a, To: a, Amount: n}); q != (api.Purses{}) || e != 190 {
				t.Errorf("%d to itself of %d: %d, %d", a, n, q, e)
			}
		}
	}
}
