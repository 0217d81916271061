package oracle

import (
	"slices"
	"testing"
	"unsafe"

	"proctor/api"
)

// span is where a list lies, the room behind its end with it.
type span struct{ begin, end uintptr }

// held keeps lists where they are until they were held against each other.
var held []any

// hold is where a list lies, which it keeps there.
func hold[T any](l []T) span {
	held = append(held, l)
	var x T
	begin := uintptr(unsafe.Pointer(unsafe.SliceData(l)))
	return span{begin, begin + uintptr(cap(l))*unsafe.Sizeof(x)}
}

// holdAll is where a list of entries lies, and the bytes of each.
func holdAll(l []api.Hashed) []span {
	spans := []span{hold(l)}
	for _, x := range l {
		spans = append(spans, hold(x.Bytes))
	}
	return spans
}

// wantApart finds two lists among some that share memory.
func wantApart(t *testing.T, lists ...span) {
	t.Helper()
	for i, a := range lists {
		for j, b := range lists[:i] {
			if a.begin < b.end && b.begin < a.end {
				t.Errorf("the lists %d and %d share memory", j, i)
			}
		}
	}
	held = nil
}

// roomy is a list with filled room behind its end.
func roomy[T any](l []T, filler T) []T {
	return append(slices.Clone(l), slices.Repeat([]T{filler}, 40)...)[:len(l)]
}

// spoil changes all that a list reaches, the room behind the ends too.
func spoil(l []api.Hashed) {
	for i := range l {
		room := l[i].Bytes[:cap(l[i].Bytes)]
		for j := range room {
			room[j] ^= 0xff
		}
	}
	clear(l[:cap(l)])
}

// P16.1: bytes that are added stay, with the room behind their end, which is not to be seen in an answer.
func TestAddedBytesStay(t *testing.T) {
	for n := range 80 {
		tight := slices.Repeat([]byte{'t'}, n)
		loose := roomy(tight, 'u')
		kept := slices.Clone(loose[:cap(loose)])
		o := New()
		for range 2 {
			if sum, e := o.Add(loose); sum != sumOf(string(tight)) || e != api.OK {
				t.Errorf("Add of %d bytes with room = %x, %d", n, sum, e)
			}
		}
		o.Add(tight)
		wantSame(t, o, judge{string(tight)})
		if !slices.Equal(loose[:cap(loose)], kept) {
			t.Errorf("%d bytes did not stay", n)
		}
	}
}

// P16.1: an oracle stays as it was, whatever becomes of bytes that it was handed.
func TestAddedBytesAreWrittenOver(t *testing.T) {
	o, j := New(), judge{}
	b := roomy([]byte("abc"), '!')
	for n := range 9 {
		b[0] = byte(n)
		j.add(string(b))
		o.Add(b)
		b[1] = byte(n)
		_ = append(b, 1, 2, 3)
		wantSame(t, o, j)
	}
	clear(b[:cap(b)])
	wantSame(t, o, j)
	wantNothing(t, o, sumOf(string(b)))
	wantAdd(t, o, &j, string(b))
	wantAdd(t, o, &j, string(b[:2]))
	wantSame(t, o, j)
}

// P16.1: an oracle stays as it was, whatever becomes of what it answered.
func TestAnswersAreWrittenOver(t *testing.T) {
	o, j := New(), judge{}
	wantLearn(t, o, &j, some(3))
	for n := range uint64(20) {
		wantAdd(t, o, &j, numbers(n))
		one, other, c := o.List(), o.List(), o.Copy()
		spoil(one)
		_ = append(one[:0], api.Hashed{Sum: h(1)})
		if !slices.EqualFunc(other, o.List(), sameEntry) {
			t.Fatalf("a changed list of %d entries is to be seen", len(one))
		}
		for _, b := range j {
			x, _ := o.Get(sumOf(b))
			y, _ := o.Get(sumOf(b))
			spoil([]api.Hashed{{Bytes: x}})
			_ = append(x[:0], 7)
			if string(y) != b {
				t.Fatalf("changed bytes %x are to be seen", b)
			}
		}
		spoil(c.List())
		wantSame(t, o, j)
		wantSame(t, c, j)
	}
}

// P16.1: a state that is learnt stays, with the room behind its withdrawals, which is not to be seen; what becomes of it is not, either.
func TestLearntStatesStay(t *testing.T) {
	for n := range 35 {
		s := some(n)
		s.Outs = roomy(s.Outs, api.Out{To: 5, Amount: 6})
		kept, accounts := slices.Clone(s.Outs[:cap(s.Outs)]), s.Accounts
		o, j := New(), judge{}
		wantLearn(t, o, &j, some(n))
		wantLearn(t, o, &j, s)
		wantSame(t, o, j)
		if !slices.Equal(s.Outs[:cap(s.Outs)], kept) || s.Accounts != accounts {
			t.Errorf("a state of %d withdrawals did not stay", n)
		}
		clear(s.Outs[:cap(s.Outs)])
		s.Accounts[3] = api.Account{}
		wantSame(t, o, j)
	}
}

// P16.1: neither lists that are handed in, nor answers, nor what oracles keep share memory.
func TestAllIsNew(t *testing.T) {
	o := New()
	s := some(2)
	o.Learn(s)
	spans := []span{hold(s.Outs)}
	for n := range 30 {
		b := make([]byte, n, 2*n+1)
		o.Add(b)
		x, _ := o.Get(sumOf(string(b)))
		y, _ := o.Get(sumOf(string(b)))
		spans = append(spans, hold(b), hold(x), hold(y))
	}
	c := o.Copy()
	spans = slices.Concat(spans, holdAll(o.list), holdAll(c.list), holdAll(c.Copy().list), holdAll(o.List()), holdAll(o.List()), holdAll(c.List()))
	for sum := range o.places {
		spans = append(spans, hold(o.places[sum]), hold(c.places[sum]))
	}
	wantApart(t, spans...)
}
