package msg

import (
	"bytes"
	"math/rand"
	"slices"
	"testing"

	"proctor/api"
)

// The messages that the tests begin with: one of each Kind, each of its fields telling.
var (
	deposit  = api.Msg{Kind: api.MDeposit, To: 3, Amount: 5}
	transfer = api.Msg{Kind: api.MTransfer, From: 7, To: 31, Amount: 0x0102030405060708, Nonce: 0x1112131415161718, Key: rising(0x21), Next: rising(0x81)}
	withdraw = api.Msg{Kind: api.MWithdraw, From: 31, To: 0xf1f2f3f4f5f6f7f8, Amount: 1, Nonce: most, Key: rising(0xa0), Next: rising(0x40)}
)

// rising is a sum whose bytes rise.
func rising(first byte) api.Hash {
	var h api.Hash
	for i := range h {
		h[i] = first + byte(i)
	}
	return h
}

// wantMessage holds May, Write and Read of its bytes to the second judge.
func wantMessage(t *testing.T, m api.Msg) {
	t.Helper()
	may := mayBe(m)
	if May(m) != may {
		t.Fatalf("May(%v) = %v", m, !may)
	}
	b, e := Write(m)
	if may && (e != api.OK || !bytes.Equal(b, bytesOf(m))) || !may && (e != api.ErrArg || b != nil) {
		t.Fatalf("Write(%v) = %x, %d", m, b, e)
	}
	wantBytes(t, bytesOf(m))
}

// wantBytes holds Read and Words to the second judge, and what is read to the bytes that were read.
func wantBytes(t *testing.T, b []byte) {
	t.Helper()
	want, e := readOf(b)
	m, f := Read(b)
	if m != want || f != e {
		t.Fatalf("Read(%x) = %v, %d, not %v, %d", b, m, f, want, e)
	}
	if f == api.OK {
		if again, g := Write(m); g != api.OK || !bytes.Equal(again, b) || !May(m) {
			t.Fatalf("%x is read as %v, which is written as %x, %d", b, m, again, g)
		}
	}
	var numbers [13]uint64
	if len(b) == 104 {
		numbers = numbersOf(b)
	}
	if w, g := Words(b); w != numbers || g != errorOfWords(b) {
		t.Fatalf("Words(%x) = %x, %d", b, w, g)
	}
}

// P7.1: the chapter's examples.
func TestExamples(t *testing.T) {
	b, e := Write(deposit)
	w, f := Words(b)
	if len(b) != 104 || e != api.OK || f != api.OK || w != [13]uint64{1, 0, 3, 5} {
		t.Errorf("a deposit has the bytes %x and the words %d: %d, %d", b, w, e, f)
	}
	if May(api.Msg{Kind: api.MDeposit, To: 32, Amount: 5}) || May(api.Msg{Kind: api.MDeposit, To: 3}) || !May(api.Msg{Kind: api.MTransfer}) {
		t.Error("May of the chapter's examples")
	}
	for n, want := range map[int]api.Errno{103: api.ErrShort, 104: api.ErrForm, 105: api.ErrForm} {
		if m, e := Read(make([]byte, n)); m != (api.Msg{}) || e != want {
			t.Errorf("Read of %d noughts = %v, %d", n, m, e)
		}
	}
}

// P7.1: the bytes of telling messages, written out.
func TestWrittenOut(t *testing.T) {
	head := func(words ...byte) []byte {
		var b []byte
		for _, w := range words {
			b = append(b, 0, 0, 0, 0, 0, 0, 0, w)
		}
		return b
	}
	key, next := rising(0x21), rising(0x81)
	want := slices.Concat(head(2, 7, 31), []byte{1, 2, 3, 4, 5, 6, 7, 8, 0x11, 0x12, 0x13, 0x14, 0x15, 0x16, 0x17, 0x18}, key[:], next[:])
	if b, e := Write(transfer); e != api.OK || !bytes.Equal(b, want) {
		t.Errorf("Write(transfer) = %x, %d", b, e)
	}
	if w, e := Words(want); e != api.OK || w != [13]uint64{2, 7, 31, 0x0102030405060708, 0x1112131415161718, 0x2122232425262728, 0x292a2b2c2d2e2f30, 0x3132333435363738, 0x393a3b3c3d3e3f40, 0x8182838485868788, 0x898a8b8c8d8e8f90, 0x9192939495969798, 0x999a9b9c9d9e9fa0} {
		t.Errorf("Words(transfer) = %x, %d", w, e)
	}
	if m, e := Read(want); e != api.OK || m != transfer {
		t.Errorf("Read(transfer) = %v, %d", m, e)
	}
	for _, m := range []api.Msg{deposit, transfer, withdraw} {
		if !May(m) {
			t.Errorf("%v may not be", m)
		}
		wantMessage(t, m)
	}
}

// P7.1, P7.2: all messages of some telling values, the edges among them, of Kinds that there are and that there are not.
func TestAllOfSome(t *testing.T) {
	places := []uint64{0, 1, 31, 32, 33, 256, 1<<32 + 3, 1 << 63, most}
	amounts := []uint64{0, 1, 1 << 32, most}
	sums := []api.Hash{{}, {1}, {31: 1}}
	for _, kind := range []api.MsgKind{0, 1, 2, 3, 4, 5, 128, 130, 255} {
		for _, from := range places {
			for _, to := range places {
				for _, amount := range amounts {
					for _, nonce := range []uint64{0, 1, most} {
						for i := range len(sums) * len(sums) {
							wantMessage(t, api.Msg{Kind: kind, From: from, To: to, Amount: amount, Nonce: nonce, Key: sums[i/len(sums)], Next: sums[i%len(sums)]})
						}
					}
				}
			}
		}
	}
}

// P7.1: there are three Kinds, whatever the fields.
func TestKinds(t *testing.T) {
	for kind := range 256 {
		for _, m := range []api.Msg{{}, {Amount: 1}, deposit, transfer, withdraw} {
			m.Kind = api.MsgKind(kind)
			if May(m) && (kind < 1 || kind > 3) {
				t.Errorf("a message of the Kind %d may be", kind)
			}
			wantMessage(t, m)
		}
	}
}

// P7.1: From and To go up to 31, but for the To of a withdrawal, which may be any.
func TestPlaces(t *testing.T) {
	places := []uint64{most, most - 31}
	for n := range uint64(300) {
		places = append(places, n)
	}
	for shift := range 64 {
		places = append(places, 1<<shift, 1<<shift+31, 1<<shift-1)
	}
	for _, n := range places {
		for _, m := range []api.Msg{deposit, transfer, withdraw} {
			from, to := m, m
			from.From, to.To = n, n
			if May(from) != (n == 0 || n < 32 && m.Kind != api.MDeposit) || May(to) != (n < 32 || m.Kind == api.MWithdraw) {
				t.Errorf("of the Kind %d with the place %d: %v, %v", m.Kind, n, May(from), May(to))
			}
			wantMessage(t, from)
			wantMessage(t, to)
		}
	}
}

// P7.1: an Amount of 0 is for transfers alone; the greatest one is for all.
func TestAmounts(t *testing.T) {
	for _, m := range []api.Msg{deposit, transfer, withdraw} {
		for _, amount := range []uint64{0, 1, 2, 255, 256, 1 << 62, 1<<62 + 1, 1 << 63, most} {
			m.Amount = amount
			if May(m) != (amount > 0 || m.Kind == api.MTransfer) {
				t.Errorf("of the Kind %d with the Amount %d: %v", m.Kind, amount, May(m))
			}
			wantMessage(t, m)
		}
	}
}

// P7.1: what a deposit does not name must be zero, in each bit.
func TestUnnamedBits(t *testing.T) {
	var wrong []api.Msg
	for bit := range 256 {
		key, next := deposit, deposit
		key.Key[bit/8], next.Next[bit/8] = 1<<(bit%8), 1<<(bit%8)
		wrong = append(wrong, key, next)
	}
	for bit := range 64 {
		from, nonce := deposit, deposit
		from.From, nonce.Nonce = 1<<bit, 1<<bit
		wrong = append(wrong, from, nonce)
	}
	for _, m := range wrong {
		if May(m) {
			t.Errorf("%v may be", m)
		}
		wantMessage(t, m)
	}
}

// P7.1, P7.2: what transfers and withdrawals name may be anything, in each bit.
func TestNamedBits(t *testing.T) {
	for _, m := range []api.Msg{{Kind: api.MTransfer}, {Kind: api.MWithdraw, Amount: 1}, transfer, withdraw} {
		for bit := range 64 + 2*256 {
			x := m
			switch {
			case bit < 64:
				x.Nonce ^= 1 << bit
			case bit < 64+256:
				x.Key[(bit-64)/8] ^= 1 << (bit % 8)
			default:
				x.Next[(bit-64-256)/8] ^= 1 << (bit % 8)
			}
			if !May(x) {
				t.Errorf("%v may not be", x)
			}
			wantMessage(t, x)
		}
	}
}

// P7.1: fewer than 104 bytes are too short, more are none, whatever they are.
func TestLengths(t *testing.T) {
	wantBytes(t, nil)
	long := slices.Concat(bytesOf(transfer), bytesOf(transfer), bytesOf(deposit))
	for _, b := range [][]byte{long, make([]byte, 312), bytes.Repeat([]byte{255}, 312)} {
		for n := range len(b) + 1 {
			wantBytes(t, b[:n])
		}
	}
	for _, n := range []int{416, 1024, 1<<16 - 1, 1 << 16, 1<<16 + 1, 1<<20 + 104} {
		b := make([]byte, n)
		copy(b, bytesOf(transfer))
		wantBytes(t, b)
	}
	for _, m := range []api.Msg{deposit, transfer, withdraw} {
		b := bytesOf(m)
		wantBytes(t, b[1:])
		wantBytes(t, append([]byte{0}, b...))
		wantBytes(t, append(b, 0))
	}
}

// P7.1, P7.2: each byte of a message's bytes, changed by itself into each other one.
func TestChangedBytes(t *testing.T) {
	for _, m := range []api.Msg{{Kind: api.MTransfer}, deposit, transfer, withdraw} {
		for i := range 104 {
			b := bytesOf(m)
			for change := 1; change < 256; change++ {
				b[i] = bytesOf(m)[i] ^ byte(change)
				wantBytes(t, b)
				if x, e := Read(b); e == api.OK && x == m {
					t.Errorf("%v has two forms: %x", m, b)
				}
			}
		}
	}
}

// P7.1: a Kind's word is read whole.
func TestWideKinds(t *testing.T) {
	for _, m := range []api.Msg{deposit, transfer, withdraw} {
		for i := range 7 {
			b := bytesOf(m)
			b[i] = 1
			if x, e := Read(b); e != api.ErrForm || x != (api.Msg{}) {
				t.Errorf("Read(%x) = %v, %d", b, x, e)
			}
			if w, e := Words(b); e != api.OK || w[0] != 1<<(56-8*i)+uint64(m.Kind) {
				t.Errorf("Words(%x) = %x, %d", b, w, e)
			}
		}
	}
}

// P7.1: the numbers of any 104 bytes are told, each byte in its place.
func TestWordsOfAnything(t *testing.T) {
	for i := range 104 {
		var want [13]uint64
		want[i/8] = 0xa7 << (56 - 8*(i%8))
		b := make([]byte, 104)
		b[i] = 0xa7
		if w, e := Words(b); w != want || e != api.OK {
			t.Errorf("Words with a byte at %d = %x, %d", i, w, e)
		}
	}
	greatest := [13]uint64{}
	for i := range greatest {
		greatest[i] = most
	}
	if w, e := Words(bytes.Repeat([]byte{255}, 104)); w != greatest || e != api.OK {
		t.Errorf("Words of the greatest numbers = %x, %d", w, e)
	}
}

// P7.2: there and back, of messages and bytes at random, most of them within their bounds.
func TestThereAndBack(t *testing.T) {
	r := rand.New(rand.NewSource(7))
	may := 0
	for range 20000 {
		m := api.Msg{Kind: api.MsgKind(r.Intn(5)), From: uint64(r.Intn(33)), To: uint64(r.Intn(33)), Amount: r.Uint64() >> r.Intn(65), Nonce: r.Uint64()}
		r.Read(m.Key[:])
		r.Read(m.Next[:])
		if m.Kind == api.MDeposit && r.Intn(4) > 0 {
			m.From, m.Nonce, m.Key, m.Next = 0, 0, api.Hash{}, api.Hash{}
		}
		wantMessage(t, m)
		if b, e := Write(m); e == api.OK {
			may++
			if x, f := Read(b); x != m || f != api.OK {
				t.Errorf("%v is read as %v, %d", m, x, f)
			}
		}
		b := bytesOf(m)
		r.Read(b[:r.Intn(105)])
		wantBytes(t, b)
	}
	if may < 5000 {
		t.Errorf("%d messages alone may be", may)
	}
}
