package ledger

import (
	"math"
	"math/big"
	"testing"

	"proctor/api"
)

// The second judge: the chapter's words once more, with numbers that can't wrap, and with purses found in a map.

const (
	supply = 1 << 62
	most   = math.MaxUint64
)

// verdict is what comes of a move, or why nothing does.
type verdict string

const (
	noPurses  verdict = "the purses may not be"
	noAddress verdict = "there is no such address"
	tooMuch   verdict = "more than From has"
	paid      verdict = "paid"
)

// error is what a call answers with this verdict.
func (v verdict) error() api.Errno {
	switch v {
	case noPurses, noAddress:
		return 2
	case tooMuch:
		return 190
	}
	return 0
}

// purses are the addresses' purses, as numbers without an end.
type purses map[int]*big.Int

func number(n uint64) *big.Int { return new(big.Int).SetUint64(n) }

func pursesOf(p api.Purses) purses {
	has := purses{}
	for a, n := range p {
		has[a] = number(n)
	}
	return has
}

// plain is the purses as api has them.
func (p purses) plain() (q api.Purses) {
	for a, n := range p {
		q[a] = n.Uint64()
	}
	return q
}

// together is all purses in one.
func (p purses) together() *big.Int {
	sum := new(big.Int)
	for _, n := range p {
		sum.Add(sum, n)
	}
	return sum
}

func (p purses) mayBe() bool { return p.together().Cmp(number(supply)) <= 0 }

// move does a move, if nothing is wrong with it.
func (p purses) move(m api.Move) verdict {
	from, ok := p[m.From]
	to, fine := p[m.To]
	amount := number(m.Amount)
	switch {
	case !p.mayBe():
		return noPurses
	case !ok || !fine:
		return noAddress
	case from.Cmp(amount) < 0:
		return tooMuch
	}
	from.Sub(from, amount)
	to.Add(to, amount)
	return paid
}

// wantTotal asks what all purses together are, and whether they may be.
func wantTotal(t *testing.T, p api.Purses) (total uint64, ok bool) {
	t.Helper()
	has := pursesOf(p)
	ok = has.mayBe()
	e := api.Errno(4)
	if ok {
		total, e = has.together().Uint64(), 0
	}
	if n, f := Total(p); n != total || f != e {
		t.Errorf("Total(%d) = %d, %d, want %d, %d", p, n, f, total, e)
	}
	if May(p) != ok {
		t.Errorf("May(%d) = %v", p, !ok)
	}
	return total, ok
}

// wantPay asks what the judge says of a move, and answers the verdict.
func wantPay(t *testing.T, p api.Purses, m api.Move) verdict {
	t.Helper()
	has := pursesOf(p)
	why := has.move(m)
	want := api.Purses{}
	if why == paid {
		want = has.plain()
	}
	if q, e := Pay(p, m); q != want || e != why.error() {
		t.Errorf("Pay(%d, %d) = %d, %d, want %d, %s", p, m, q, e, want, why)
	}
	return why
}

// wantAll asks what the judge says of moves, and answers the last one's verdict and its place.
func wantAll(t *testing.T, p api.Purses, l ...api.Move) (why verdict, at int) {
	t.Helper()
	has := pursesOf(p)
	why = paid
	if !has.mayBe() {
		why = noPurses
	}
	for why == paid && at < len(l) {
		if why = has.move(l[at]); why == paid {
			at++
		}
	}
	want := api.Purses{}
	if why == paid {
		want = has.plain()
	}
	if q, n, e := All(p, l...); q != want || n != at || e != why.error() {
		t.Errorf("All(%d, %d) = %d, %d, %d, want %d, %d, %s", p, l, q, n, e, want, at, why)
	}
	return why, at
}
