package interp

import (
	"bytes"
	"crypto/sha256"
	"encoding/binary"
	"fmt"
	"slices"
	"testing"

	"proctor/api"
)

// letters are so many words whose bytes are all unlike their neighbours.
func letters(n int) []uint64 {
	l := make([]uint64, n)
	for i := range l {
		for k := range 8 {
			l[i] = l[i]<<8 | uint64(byte(8*i+k+1))
		}
	}
	return l
}

// sumOf are the words of the sum of bytes.
func sumOf(b []byte) []uint64 {
	h := sha256.Sum256(b)
	l := make([]uint64, 4)
	for i := range l {
		l[i] = binary.BigEndian.Uint64(h[8*i:])
	}
	return l
}

func flat(words []uint64) []byte {
	var b []byte
	for _, w := range words {
		b = binary.BigEndian.AppendUint64(b, w)
	}
	return b
}

// P14.1: what is summed: the byte Tag, none of 256, and so many bytes of the words.
func TestHash(t *testing.T) {
	for _, tag := range []int{0, 1, 2, 127, 128, 254, 255, 256} {
		for _, size := range []int{0, 1, 2, 7, 8, 9, 15, 16, 17, 55, 56, 63, 64, 65, 119, 120, 127, 128} {
			data := letters(24)
			b := flat(data[3:])[:size]
			if tag < 256 {
				b = append([]byte{byte(tag)}, b...)
			}
			want := slices.Concat(data[:20], sumOf(b))
			p := of(0, 24, hash(tag, con(20), con(3), con(uint64(size))))
			wantOutcome(t, fmt.Sprintf("the tag %d and %d bytes", tag, size), p, data, nil, halted(1, 0, want...))
		}
		for _, size := range []uint64{129, 130, 136, 192, 256, 1 << 16, 1<<32 + 1, 1<<63 + 1, most - 7, most - 6, most - 1, most} {
			p := of(0, 40, hash(tag, con(20), con(3), con(size)))
			wantOutcome(t, fmt.Sprintf("the tag %d and %d bytes", tag, size), p, letters(40), nil, trapped(1, letters(40)...))
		}
	}
}

// P14.1: the words that are written over those that are summed, in part or all, ahead or behind.
func TestHashOverItself(t *testing.T) {
	for to := range 21 {
		for from := range 17 {
			for _, size := range []int{0, 1, 8, 31, 32, 33, 64} {
				data := letters(24)
				want := letters(24)
				copy(want[to:], sumOf(append([]byte{9}, flat(data[from:])[:min(size, 8*(24-from))]...)))
				o := halted(1, 0, want...)
				if size > 8*(24-from) {
					o = trapped(1, data...)
				}
				wantOutcome(t, fmt.Sprintf("from %d to %d", from, to), of(0, 24, hash(9, con(uint64(to)), con(uint64(from)), con(uint64(size)))), data, nil, o)
			}
		}
	}
}

// P14.1: all addresses that are named must be there; of no bytes none is named.
func TestHashAddresses(t *testing.T) {
	for _, n := range []int{0, 1, 3, 4, 5, 16, 17, 20} {
		data := letters(n)
		about := []uint64{0, 1, uint64(n) - 17, uint64(n) - 16, uint64(n) - 5, uint64(n) - 4, uint64(n) - 3, uint64(n) - 2, uint64(n) - 1, uint64(n), uint64(n) + 1, 1 << 63, most - 15, most - 4, most - 3, most - 2, most - 1, most}
		for _, to := range about {
			for _, from := range about {
				for _, size := range []uint64{0, 1, 8, 9, 16, 17, 24, 32, 127, 128, 129, most} {
					p := of(0, n, hash(256, con(to), con(from), con(size)))
					o := wantRun(t, p, data, nil, 9)
					words := (min(size, 129) + 7) / 8
					there := to < uint64(n) && uint64(n)-to >= 4 && (words == 0 || from < uint64(n) && uint64(n)-from >= words) && size <= 128
					if (o.Status == api.Halted) != there || o.Steps != 1 || !there && !slices.Equal(o.Data, data) {
						t.Fatalf("%d words, to %d from %d, %d bytes: %v", n, to, from, size, o)
					}
				}
			}
		}
	}
}

// entry is bytes with their sum.
func entry(b []byte) api.Hashed { return api.Hashed{Bytes: b, Sum: sha256.Sum256(b)} }

// strings are bytes of many lengths.
func strings() [][]byte {
	var l [][]byte
	for _, n := range []int{0, 1, 2, 7, 8, 9, 15, 16, 17, 63, 64, 128, 129, 1000, 70000} {
		l = append(l, flat(letters(n/8 + 1))[:n])
	}
	return l
}

// P14.1: a preimage's length, and its bytes from a place on with noughts behind its end.
func TestPreimages(t *testing.T) {
	for _, b := range strings() {
		n := uint64(len(b))
		known := []api.Hashed{entry([]byte("another one")), entry(b)}
		data := sumOf(b)
		wantOutcome(t, fmt.Sprint("the length ", n), of(1, 4, plen(0, con(0)), ret(vr(0))), data, known, halted(2, n, data...))
		for _, at := range []uint64{0, 1, 2, 7, 8, 9, n - 9, n - 8, n - 7, n - 2, n - 1, n, n + 1, n + 8, 1<<32 + 1, 1 << 63, most - 7, most - 1, most} {
			var eight [8]byte
			if at < n {
				copy(eight[:], b[at:])
			}
			p := of(2, 4, set(1, con(77)), pre(1, con(0), con(at)), ret(vr(1)))
			wantOutcome(t, fmt.Sprintf("at %d of %d bytes", at, n), p, data, known, halted(3, binary.BigEndian.Uint64(eight[:]), data...))
		}
	}
}

// P14.1: the bytes of the first entry with a sum count, if they are its; no others.
func TestWhatIsKnown(t *testing.T) {
	b := []byte("what is known")
	right := entry(b)
	wrong := api.Hashed{Bytes: []byte("something else"), Sum: right.Sum}
	none := api.Hashed{Sum: right.Sum}
	other := entry([]byte("other"))
	mixed := api.Hashed{Bytes: b, Sum: other.Sum}
	for i, c := range []struct {
		known []api.Hashed
		is    bool
	}{
		{nil, false}, {[]api.Hashed{}, false}, {[]api.Hashed{right}, true}, {[]api.Hashed{other, right}, true}, {[]api.Hashed{right, right}, true},
		{[]api.Hashed{wrong}, false}, {[]api.Hashed{wrong, right}, false}, {[]api.Hashed{right, wrong}, true}, {[]api.Hashed{none}, false}, {[]api.Hashed{none, right}, false},
		{[]api.Hashed{other}, false}, {[]api.Hashed{mixed}, false}, {[]api.Hashed{mixed, right}, true}, {[]api.Hashed{{}, right}, true}, {[]api.Hashed{{Bytes: b}}, false},
	} {
		for _, s := range []api.Stmt{plen(0, con(1)), pre(0, con(1), con(2))} {
			p := of(1, 5, put(0, 1), s, put(0, 2), ret(vr(0)))
			data := append([]uint64{9}, sumOf(b)...)
			value := uint64(len(b))
			if s.Kind == api.SPre {
				value = binary.BigEndian.Uint64(b[2:])
			}
			want := trapped(2, append([]uint64{1}, sumOf(b)...)...)
			if c.is {
				want = halted(4, value, append([]uint64{2}, sumOf(b)...)...)
			}
			wantOutcome(t, fmt.Sprintf("%d, kind %d", i, s.Kind), p, data, c.known, want)
		}
	}
	// The empty preimage: a sum of its own, with no bytes.
	empty := sumOf(nil)
	for _, b := range [][]byte{nil, {}} {
		wantOutcome(t, "empty", of(1, 4, plen(0, con(0)), ret(add(vr(0), con(1)))), empty, []api.Hashed{entry(b)}, halted(2, 1, empty...))
		wantOutcome(t, "empty", of(1, 4, pre(0, con(0), con(0)), ret(vr(0))), empty, []api.Hashed{entry(b)}, halted(2, 0, empty...))
		wantOutcome(t, "empty", of(1, 4, pre(0, con(0), con(most)), ret(vr(0))), empty, []api.Hashed{entry(b)}, halted(2, 0, empty...))
	}
	wantOutcome(t, "nothing but noughts", of(1, 4, plen(0, con(0))), nil, []api.Hashed{{}}, trapped(1, 0, 0, 0, 0))
}

// P14.1: all four words of a sum must be there.
func TestPreimageAddresses(t *testing.T) {
	right := entry([]byte("here"))
	for _, n := range []int{0, 1, 3, 4, 5, 9} {
		for at := -5; at <= n+1; at++ {
			data := make([]uint64, n)
			for i, w := range sumOf(right.Bytes) {
				if k := at + i; k >= 0 && k < n {
					data[k] = w
				}
			}
			want := trapped(1, data...)
			if at >= 0 && at+4 <= n {
				want = halted(1, 0, data...)
			}
			for _, s := range []api.Stmt{plen(0, con(uint64(at))), pre(0, con(uint64(at)), con(0)), pre(0, con(uint64(at)), con(most))} {
				wantOutcome(t, fmt.Sprintf("at %d of %d", at, n), of(1, n, s), data, []api.Hashed{right}, want)
			}
		}
		for _, at := range []uint64{most, most - 1, most - 2, most - 3, most - 4, 1 << 63, 1 << 32} {
			wantOutcome(t, fmt.Sprintf("at %d of %d", at, n), of(1, n, plen(0, con(at))), nil, []api.Hashed{right}, trapped(1, make([]uint64, n)...))
		}
	}
}

// P14.1: preimages that are asked for over and over, by turns, and one that is not known behind one that is.
func TestPreimagesByTurns(t *testing.T) {
	x, y := []byte("eightbytes, and more"), []byte("other bytes")
	data := slices.Concat(sumOf(x), sumOf(y), make([]uint64, 4))
	body := countdown(0, 4,
		pre(1, con(0), vr(0)), store(con(8), bin(api.XOR, load(con(8)), vr(1))),
		pre(1, con(4), vr(0)), store(con(9), bin(api.XOR, load(con(9)), vr(1))),
		plen(1, con(0)), store(con(10), add(load(con(10)), vr(1))),
		plen(1, con(4)), store(con(11), add(load(con(11)), vr(1))))
	want := slices.Clone(data)
	for at := 1; at <= 4; at++ {
		want[8] ^= binary.BigEndian.Uint64(x[at:])
		want[9] ^= binary.BigEndian.Uint64(append(bytes.Clone(y), make([]byte, 8)...)[at:])
		want[10] += uint64(len(x))
		want[11] += uint64(len(y))
	}
	known := []api.Hashed{entry(y), entry(x)}
	wantOutcome(t, "by turns", of(2, 12, body...), data, known, halted(2+4*10, 0, want...))
	wantOutcome(t, "the second one alone", of(2, 12, body...), data, known[:1], trapped(3, data...))
	half := of(1, 12, plen(0, con(0)), store(con(8), vr(0)), plen(0, con(4)))
	left := slices.Clone(data)
	left[8] = uint64(len(x))
	wantOutcome(t, "the first one alone", half, data, known[1:], trapped(3, left...))
}

// P14.1: a run ends soon, even if it asks for a long preimage as often as it can.
func TestLongPreimages(t *testing.T) {
	b := strings()[len(strings())-1]
	p := of(1, 4, while(con(1), pre(0, con(0), con(69992)), plen(0, con(0))))
	if o, e := Run(p, sumOf(b), []api.Hashed{entry(b)}, 1<<22); e != api.OK || o.Status != api.Running || o.Steps != 1<<22 {
		t.Errorf("%v, %d", o, e)
	}
}

// P14.1: a sum that is made is a sum that is found.
func TestSumsThatAreMade(t *testing.T) {
	b := flat(letters(3))
	tagged := append([]byte{5}, b...)
	known := []api.Hashed{entry(b), entry(tagged)}
	p := of(2, 12, hash(256, con(8), con(0), con(24)), plen(0, con(8)), hash(5, con(8), con(0), con(24)), plen(1, con(8)), pre(0, con(8), con(1)), ret(add(vr(0), vr(1))))
	data := letters(3)
	want := slices.Concat(data, make([]uint64, 5), sumOf(tagged))
	wantOutcome(t, "made", p, data, known, halted(6, data[0]+25, want...))
}
