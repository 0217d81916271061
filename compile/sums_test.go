package compile

import (
	"encoding/binary"
	"slices"
	"testing"

	"proctor/api"
)

// letters are so many words whose bytes are all unlike their neighbours.
func letters(n int) []uint64 {
	l := make([]uint64, n)
	for i := range l {
		for k := range 8 {
			l[i] = l[i]<<8 | uint64(byte(8*i+k+1))
		}
	}
	return l
}

// flat are the bytes of words.
func flat(words []uint64) []byte {
	var b []byte
	for _, w := range words {
		b = binary.BigEndian.AppendUint64(b, w)
	}
	return b
}

// workedOut are statements with each argument as it is, and with each as a variable that is set ahead, so that nobody knows it when the program is compiled.
func workedOut(s api.Stmt) [][]api.Stmt {
	var ahead []api.Stmt
	later := s
	later.Args = nil
	for i, x := range s.Args {
		ahead = append(ahead, set(i, x))
		later.Args = append(later.Args, vr(i))
	}
	return [][]api.Stmt{{s}, append(ahead, later)}
}

// P15.3: what is summed: the byte Tag, none of 256, and so many bytes of the words.
func TestSums(t *testing.T) {
	for _, tag := range []int{0, 1, 2, 127, 128, 254, 255, 256} {
		for _, size := range []int{0, 1, 2, 7, 8, 9, 15, 16, 17, 55, 56, 63, 64, 65, 119, 120, 127, 128} {
			data := letters(24)
			b := flat(data[3:])[:size]
			if tag < 256 {
				b = append([]byte{byte(tag)}, b...)
			}
			for _, body := range workedOut(hash(tag, con(20), con(3), con(uint64(size)))) {
				wantHalted(t, of(3, 24, body...), data, nil, 0, slices.Concat(data[:20], sumOf(b))...)
			}
		}
		for _, size := range []uint64{129, 130, 136, 192, 256, 1 << 16, 1<<32 + 1, 1<<63 + 1, most - 7, most - 6, most - 1, most} {
			for _, body := range workedOut(hash(tag, con(20), con(3), con(size))) {
				wantTrapped(t, of(3, 40, body...), letters(40), nil)
			}
		}
	}
}

// P15.3: the words that are written over those that are summed, in part or all, ahead or behind.
func TestSumsOverThemselves(t *testing.T) {
	for to := range 21 {
		for from := range 17 {
			for _, size := range []int{0, 1, 8, 31, 32, 33, 56} {
				data := letters(24)
				want := letters(24)
				copy(want[to:], sumOf(append([]byte{9}, flat(data[from:])[:size]...)))
				for _, body := range workedOut(hash(9, con(uint64(to)), con(uint64(from)), con(uint64(size)))) {
					wantHalted(t, of(3, 24, body...), data, nil, 0, want...)
				}
			}
		}
	}
}

// near are addresses about the first and the last ones of data of so many words, those of which too few words stand ahead of the end, and such that wrap.
func near(data int) []uint64 {
	n := uint64(data)
	return []uint64{0, 1, n - 17, n - 16, n - 5, n - 4, n - 3, n - 2, n - 1, n, n + 1, 1 << 32, 1 << 63, most - 15, most - 4, most - 3, most - 2, most - 1, most}
}

// P15.3: all addresses that a sum names must be there; of no bytes none is named.
func TestAddressesOfSums(t *testing.T) {
	for _, n := range []int{0, 1, 3, 4, 5, 17, 20} {
		data := letters(n)
		for _, to := range near(n) {
			for _, from := range near(n) {
				for _, size := range []uint64{0, 1, 7, 8, 9, 16, 17, 128, 129, most} {
					words := (min(size, 129) + 7) / 8
					there := to < uint64(n) && uint64(n)-to >= 4 && (words == 0 || from < uint64(n) && uint64(n)-from >= words) && size <= 128
					for _, body := range workedOut(hash(256, con(to), con(from), con(size))) {
						if o := wantRight(t, of(3, n, body...), data, nil); (o.Status == api.Halted) != there {
							t.Fatalf("%d words, to %d from %d, %d bytes: %v", n, to, from, size, o)
						}
					}
				}
			}
		}
	}
}

// beside are addresses that would come to lie in an image beside its data, if its Base were put to them: in code, in slots, at the memory's end.
func beside(i api.Image) []uint64 {
	base, all := uint64(i.Base), uint64(len(i.Words))
	var l []uint64
	for k := range all + 8 {
		l = append(l, k-base-4)
	}
	return append(l, all-base, all-base-1, all-4, all-3, all-1, all, all+1, 2*all-base-1, 2*all-base, 2*all, most-all, most-all+1)
}

// P15.3: no statement reads or writes anything of an image beside the data, whatever the address.
func TestNothingBesideTheData(t *testing.T) {
	known := []api.Hashed{entry([]byte("known"))}
	address := func() api.Expr { return load(con(0)) }
	for _, n := range []int{2, 7, 12, 40} {
		for _, s := range []api.Stmt{
			set(0, load(address())), store(address(), con(3)), pre(0, address(), con(1)), plen(0, address()),
			hash(5, address(), con(1), con(3)), hash(5, con(0), address(), con(3)), hash(256, con(0), address(), con(16)), hash(256, address(), address(), con(0)), hash(256, con(0), address(), con(0)),
		} {
			p := of(1, n, set(0, con(9)), s, ret(vr(0)))
			i := wantImage(t, p)
			for _, at := range beside(i) {
				data := append([]uint64{at}, numbered(n)[1:]...)
				copy(data[min(n, 4):], sumOf([]byte("known")))
				wantRightOf(t, p, i, data, known)
			}
		}
	}
}

// inputs are bytes of many lengths.
func inputs() [][]byte {
	var l [][]byte
	for _, n := range []int{0, 1, 2, 7, 8, 9, 15, 16, 17, 63, 64, 128, 129, 1000, 70000} {
		l = append(l, flat(letters(n/8 + 1))[:n])
	}
	return l
}

// P15.3: a preimage's length, and its bytes from a place on with noughts behind its end.
func TestPreimages(t *testing.T) {
	for _, b := range inputs() {
		n := uint64(len(b))
		known := []api.Hashed{entry([]byte("another one")), entry(b)}
		data := sumOf(b)
		wantHalted(t, of(1, 4, plen(0, con(0)), ret(vr(0))), data, known, n, data...)
		for _, at := range []uint64{0, 1, 2, 7, 8, 9, n - 9, n - 8, n - 7, n - 2, n - 1, n, n + 1, n + 8, 1<<32 + 1, 1 << 63, most - 7, most - 1, most} {
			var eight [8]byte
			if at < n {
				copy(eight[:], b[at:])
			}
			for _, body := range workedOut(pre(2, con(0), con(at))) {
				wantHalted(t, of(3, 4, append(body, ret(vr(2)))...), data, known, binary.BigEndian.Uint64(eight[:]), data...)
			}
		}
	}
}

// P15.3: the bytes of the first entry with a sum count, if they are its; no others.
func TestWhatIsKnown(t *testing.T) {
	b := []byte("what is known")
	right, other := entry(b), entry([]byte("other"))
	wrong := api.Hashed{Bytes: []byte("something else"), Sum: right.Sum}
	none := api.Hashed{Sum: right.Sum}
	mixed := api.Hashed{Bytes: b, Sum: other.Sum}
	data := append([]uint64{9}, sumOf(b)...)
	for i, c := range []struct {
		known []api.Hashed
		is    bool
	}{
		{nil, false}, {[]api.Hashed{}, false}, {[]api.Hashed{right}, true}, {[]api.Hashed{other, right}, true}, {[]api.Hashed{right, right}, true},
		{[]api.Hashed{wrong}, false}, {[]api.Hashed{wrong, right}, false}, {[]api.Hashed{right, wrong}, true}, {[]api.Hashed{none}, false}, {[]api.Hashed{none, right}, false},
		{[]api.Hashed{other}, false}, {[]api.Hashed{mixed}, false}, {[]api.Hashed{mixed, right}, true}, {[]api.Hashed{{}, right}, true}, {[]api.Hashed{{Bytes: b}}, false},
	} {
		for _, s := range []api.Stmt{plen(0, con(1)), pre(0, con(1), con(2))} {
			p := of(1, 5, put(0, 1), s, put(0, 2), ret(vr(0)))
			if !c.is {
				wantTrapped(t, p, data, c.known)
				continue
			}
			value := uint64(len(b))
			if s.Kind == api.SPre {
				value = binary.BigEndian.Uint64(b[2:])
			}
			if o := wantRight(t, p, data, c.known); o.Status != api.Halted || o.Value != value {
				t.Errorf("%d: %v", i, o)
			}
		}
	}
	// No bytes have a sum, too; four noughts are none that is known.
	empty := sumOf(nil)
	for _, b := range [][]byte{nil, {}} {
		known := []api.Hashed{entry(b)}
		wantHalted(t, of(1, 4, plen(0, con(0)), ret(add(vr(0), con(1)))), empty, known, 1, empty...)
		wantHalted(t, of(1, 4, pre(0, con(0), con(0)), ret(vr(0))), empty, known, 0, empty...)
		wantHalted(t, of(1, 4, pre(0, con(0), con(most)), ret(vr(0))), empty, known, 0, empty...)
	}
	wantTrapped(t, of(1, 4, plen(0, con(0))), nil, []api.Hashed{{}})
}

// P15.3: all four words of a sum must be there, not the first or the last one alone.
func TestAddressesOfPreimages(t *testing.T) {
	right := entry([]byte("here"))
	for _, n := range []int{0, 1, 3, 4, 5, 9} {
		for at := -5; at <= n+1; at++ {
			data := make([]uint64, n)
			for i, w := range sumOf(right.Bytes) {
				if k := at + i; k >= 0 && k < n {
					data[k] = w
				}
			}
			for _, s := range []api.Stmt{plen(1, con(uint64(at))), pre(1, con(uint64(at)), con(0)), pre(1, con(uint64(at)), con(most))} {
				for _, body := range workedOut(s) {
					o := wantRight(t, of(2, n, body...), data, []api.Hashed{right})
					if (o.Status == api.Halted) != (at >= 0 && at+4 <= n) {
						t.Errorf("at %d of %d: %v", at, n, o)
					}
				}
			}
		}
		for _, at := range near(n) {
			for _, body := range workedOut(pre(1, con(at), con(0))) {
				wantRight(t, of(2, n, body...), nil, []api.Hashed{right})
			}
		}
	}
}

// P15.3: sums that are made, and then found; and preimages that are asked for by turns.
func TestSumsThatAreMade(t *testing.T) {
	b := flat(letters(3))
	tagged := append([]byte{5}, b...)
	known := []api.Hashed{entry(b), entry(tagged)}
	body := []api.Stmt{
		hash(256, con(8), con(0), con(24)), plen(0, con(8)), hash(5, con(8), con(0), con(24)), plen(1, con(8)), pre(0, con(8), con(1)), ret(add(vr(0), vr(1))),
	}
	data := letters(3)
	want := slices.Concat(data, make([]uint64, 5), sumOf(tagged))
	wantHalted(t, of(2, 12, body...), data, known, data[0]+25, want...)
	wantTrapped(t, of(2, 12, body...), data, known[:1])
	wantTrapped(t, of(2, 12, body...), data, known[1:])
	turns := countdown(0, 5, pre(1, con(0), vr(0)), store(con(8), bin(api.XOR, load(con(8)), vr(1))), plen(1, con(4)), store(con(9), add(load(con(9)), vr(1))))
	p := of(2, 10, append(turns, ret(load(con(9))))...)
	o := wantRight(t, p, slices.Concat(sumOf(b), sumOf(tagged)), known)
	if o.Status != api.Halted || o.Value != 5*25 {
		t.Errorf("%v", o)
	}
}
