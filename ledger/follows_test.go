package ledger

import (
	"encoding/binary"
	"math/rand"
	"slices"
	"testing"

	"proctor/api"
)

// drawn is purses that may be, most often with some that have nothing; a few of them may not be.
func drawn(r *rand.Rand) (p api.Purses) {
	size := r.Intn(64)
	for a := range p {
		if r.Intn(3) > 0 {
			p[a] = r.Uint64() >> size
		}
	}
	if r.Intn(4) == 0 {
		return p
	}
	left := uint64(supply)
	for a := range p {
		p[a] = min(p[a], left)
		left -= p[a]
	}
	if r.Intn(4) == 0 {
		p[r.Intn(16)] += left
	}
	return p
}

// drawnMove is one that most often can be paid, of an amount at an edge.
func drawnMove(r *rand.Rand, p api.Purses) api.Move {
	m := api.Move{From: r.Intn(16), To: r.Intn(16)}
	has := p[m.From]
	l := []uint64{0, 1, has, has / 2, has / 3, has / 7, has + 1, has - 1, most, r.Uint64() >> r.Intn(64)}
	m.Amount = l[r.Intn(len(l))]
	switch r.Intn(60) {
	case 0:
		m.From = noAddresses[r.Intn(len(noAddresses))]
	case 1:
		m.To = noAddresses[r.Intn(len(noAddresses))]
	}
	return m
}

// drawnMoves are moves of which most can be paid one behind the other.
func drawnMoves(r *rand.Rand, p api.Purses, n int) (l []api.Move) {
	for range n {
		m := drawnMove(r, p)
		l = append(l, m)
		if q, e := Pay(p, m); e == 0 {
			p = q
			continue
		}
		if r.Intn(3) > 0 {
			l = l[:len(l)-1]
		}
	}
	return l
}

// P19.1, P19.3: whatever purses, whatever move; what is paid leaves the total, and is paid back.
func TestDrawnMoves(t *testing.T) {
	r := rand.New(rand.NewSource(19))
	seen := map[verdict]int{}
	for range 40000 {
		p := drawn(r)
		m := drawnMove(r, p)
		total, _ := wantTotal(t, p)
		why := wantPay(t, p, m)
		seen[why]++
		if why == paid {
			wantBack(t, p, m, total)
		}
	}
	for _, why := range []verdict{noPurses, noAddress, tooMuch, paid} {
		if seen[why] < 100 {
			t.Errorf("%s: %d times alone", why, seen[why])
		}
	}
}

// wantBack asks that a move leaves the total, and that the same amount paid back leaves the purses.
func wantBack(t *testing.T, p api.Purses, m api.Move, total uint64) {
	t.Helper()
	q, _ := Pay(p, m)
	if n, e := Total(q); n != total || e != 0 {
		t.Errorf("Pay(%d, %d) makes %d of %d", p, m, n, total)
	}
	back := api.Move{From: m.To, To: m.From, Amount: m.Amount}
	if same, e := Pay(q, back); same != p || e != 0 {
		t.Errorf("%d and back: %d, %d, want %d", m, same, e, p)
	}
	if same, at, e := All(p, m, back); same != p || at != 2 || e != 0 {
		t.Errorf("All of %d and back: %d, %d, %d, want %d", m, same, at, e, p)
	}
}

// P19.2, P19.3: moves one behind the other are Pay of each; they leave the total, and are paid back backwards.
func TestDrawnLists(t *testing.T) {
	r := rand.New(rand.NewSource(20))
	seen := map[verdict]int{}
	for range 8000 {
		p := drawn(r)
		l := drawnMoves(r, p, r.Intn(40))
		why, at := wantAll(t, p, l...)
		seen[why]++
		wantEach(t, p, l)
		if at < len(l) && why != noPurses {
			// All that stands ahead of the first error can be paid.
			if again, n := wantAll(t, p, l[:at]...); again != paid || n != at {
				t.Errorf("%d moves: %s at %d", at, again, n)
			}
		}
		if why == paid {
			wantAllBack(t, p, l)
		}
	}
	for _, why := range []verdict{noPurses, noAddress, tooMuch, paid} {
		if seen[why] < 100 {
			t.Errorf("%s: %d times alone", why, seen[why])
		}
	}
}

// wantEach asks that All is Pay of each move, one behind the other.
func wantEach(t *testing.T, p api.Purses, l []api.Move) {
	t.Helper()
	q, at, e := p, 0, api.Errno(0)
	for at < len(l) && e == 0 {
		if q, e = Pay(q, l[at]); e == 0 {
			at++
		}
	}
	if got, n, f := All(p, l...); len(l) > 0 && (got != q || n != at || f != e) {
		t.Errorf("All(%d, %d) = %d, %d, %d; Pay of each: %d, %d, %d", p, l, got, n, f, q, at, e)
	}
}

// wantAllBack asks that moves leave the total, and that what they paid, paid back backwards, leaves the purses.
func wantAllBack(t *testing.T, p api.Purses, l []api.Move) {
	t.Helper()
	q, _, _ := All(p, l...)
	before, _ := Total(p)
	if after, e := Total(q); after != before || e != 0 {
		t.Errorf("All(%d, %d) makes %d of %d", p, l, after, before)
	}
	var back []api.Move
	for _, m := range slices.Backward(l) {
		back = append(back, api.Move{From: m.To, To: m.From, Amount: m.Amount})
	}
	if same, at, e := All(q, back...); same != p || at != len(l) || e != 0 {
		t.Errorf("All of %d back: %d, %d, %d, want %d", l, same, at, e, p)
	}
}

// FuzzLedger is purses of bytes, and moves of those that are left.
func FuzzLedger(f *testing.F) {
	full := binary.BigEndian.AppendUint64(nil, 5)
	full = append(full, make([]byte, 120)...)
	f.Add(append(slices.Clone(full), 0, 3, 0, 2, 3, 0, 0, 2))
	f.Add(append(slices.Clone(full), 0, 1, 0, 5, 1, 2, 0, 6, 16, 0, 0, 0))
	f.Add(slices.Repeat([]byte{255}, 300))
	f.Add([]byte{})
	f.Fuzz(func(t *testing.T, b []byte) {
		var p api.Purses
		b = append(b, make([]byte, max(0, 128-len(b)))...)
		for a := range p {
			p[a] = binary.BigEndian.Uint64(b[8*a:])
		}
		var l []api.Move
		for m := range slices.Chunk(b[128:], 4) {
			if len(m) < 4 {
				break
			}
			// The third byte is by how much the fourth one is moved: so that great amounts come, too.
			l = append(l, api.Move{From: int(int8(m[0])), To: int(int8(m[1])), Amount: uint64(m[3]) << (m[2] % 64)})
		}
		total, ok := wantTotal(t, p)
		if len(l) > 0 && wantPay(t, p, l[0]) == paid {
			wantBack(t, p, l[0], total)
		}
		wantEach(t, p, l)
		if why, _ := wantAll(t, p, l...); why == paid && ok {
			wantAllBack(t, p, l)
		}
	})
}
