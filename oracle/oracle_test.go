package oracle

import (
	"math/rand"
	"slices"
	"strings"
	"testing"

	"proctor/api"
)

// P16.1: the document's examples.
func TestExamples(t *testing.T) {
	o := New()
	one, e := o.Add([]byte{1})
	again, f := o.Add([]byte{1})
	if one != sumOf("\x01") || again != one || e != api.OK || f != api.OK || len(o.List()) != 1 {
		t.Errorf("Add = %x, %d, and %x, %d", one, e, again, f)
	}
	if b, ok := o.Get(sumOf("\x01")); string(b) != "\x01" || !ok {
		t.Errorf("Get = %x, %v", b, ok)
	}
	wantNothing(t, o, sumOf("\x02"))
}

// P16.1: a new oracle has nothing, not even no bytes.
func TestNew(t *testing.T) {
	wantSame(t, New(), nil)
	wantNothing(t, New(), api.Hash{}, sumOf(""), sumOf("\x00"))
	one, other := New(), New()
	one.Add([]byte{1})
	wantSame(t, one, judge{"\x01"})
	wantSame(t, other, nil)
}

// P16.1: all calls of an oracle that is not there, and of a zero one.
func TestOracleThatIsNotThere(t *testing.T) {
	var none *Oracle
	zero := &Oracle{}
	tooMany := some(33)
	for _, o := range []*Oracle{none, zero} {
		for _, b := range [][]byte{nil, {}, {1}, make([]byte, 100)} {
			if sum, e := o.Add(b); sum != (api.Hash{}) || e != api.ErrNil {
				t.Errorf("Add = %x, %d", sum, e)
			}
			wantNothing(t, o, sumOf(string(b)))
		}
		for _, s := range []api.State{{}, some(3), tooMany} {
			if e := o.Learn(s); e != api.ErrNil {
				t.Errorf("Learn = %d", e)
			}
		}
		wantNothing(t, o, api.Hash{}, rootOf(api.State{}), sumOf(leafOf(api.Account{})))
		if l := o.List(); len(l) != 0 {
			t.Errorf("List = %x", l)
		}
		if c := o.Copy(); c != nil {
			t.Errorf("Copy = %v", c)
		}
	}
	if zero.places != nil || zero.list != nil {
		t.Error("a zero oracle keeps something")
	}
}

// P16.1: no bytes are bytes, too, nil and empty ones the same.
func TestAddOfNoBytes(t *testing.T) {
	for _, l := range [][][]byte{{nil, {}}, {{}, nil}, {nil, nil}, {{}, {}}, {make([]byte, 0, 9), nil}} {
		o := New()
		for _, b := range l {
			if sum, e := o.Add(b); sum != sumOf("") || e != api.OK {
				t.Errorf("Add of none = %x, %d", sum, e)
			}
			wantSame(t, o, judge{""})
		}
		o.Add([]byte{0})
		o.Add(nil)
		wantSame(t, o, judge{"", "\x00"})
	}
}

// P16.1: each byte alone, and all once more.
func TestAddOfOneByte(t *testing.T) {
	o, j := New(), judge{}
	for range 2 {
		for n := range 256 {
			wantAdd(t, o, &j, string([]byte{byte(n)}))
		}
		wantSame(t, o, j)
	}
	wantNothing(t, o, sumOf(""), sumOf("\x00\x00"))
}

// P16.1: the same bytes again, at once and behind others, stand where they stood.
func TestAddAgain(t *testing.T) {
	o, j := New(), judge{}
	for _, b := range []string{"abc", "abc", "", "abc", "ab", "", "abd", "abc", "ab", "ABC", "abd", ""} {
		wantAdd(t, o, &j, b)
		wantSame(t, o, j)
	}
	if !slices.Equal(j, judge{"abc", "", "ab", "abd", "ABC"}) {
		t.Errorf("the judge has %q", j)
	}
}

// P16.1: bytes that have others as their beginning, or as their end, the shorter ones first and last.
func TestAddOfBeginnings(t *testing.T) {
	long := strings.Repeat("a", 70) + strings.Repeat("\x00", 70)
	o, j := New(), judge{}
	for n := range len(long) {
		wantAdd(t, o, &j, long[:n])
		wantAdd(t, o, &j, long[n:])
	}
	wantSame(t, o, j)
	o, j = New(), judge{}
	for n := len(long); n >= 0; n-- {
		wantAdd(t, o, &j, long[:n])
		wantAdd(t, o, &j, long[n:])
	}
	wantSame(t, o, j)
}

// P16.1: bytes that differ in one bit are unlike.
func TestAddSeesEachBit(t *testing.T) {
	o, j := New(), judge{}
	base := make([]byte, 65)
	wantAdd(t, o, &j, string(base))
	for bit := range 8 * len(base) {
		other := slices.Clone(base)
		other[bit/8] ^= 1 << (bit % 8)
		wantAdd(t, o, &j, string(other))
	}
	wantSame(t, o, j)
	if len(j) != 1+8*65 {
		t.Errorf("%d entries", len(j))
	}
}

// P16.1, P16.2: very many byte strings, and all of them once more.
func TestAddOfVeryMany(t *testing.T) {
	const n = 60000
	o := New()
	first, _ := o.Add([]byte("the first one"))
	for range 2 {
		for i := range uint64(n) {
			o.Add([]byte(numbers(i)))
		}
		o.Add([]byte("the first one"))
	}
	l := o.List()
	if len(l) != n+1 || l[0].Sum != first || string(l[0].Bytes) != "the first one" {
		t.Fatalf("%d entries", len(l))
	}
	for i := range uint64(n) {
		b, ok := o.Get(sumOf(numbers(i)))
		if string(b) != numbers(i) || !ok || !sameEntry(l[i+1], api.Hashed{Bytes: b, Sum: sumOf(numbers(i))}) {
			t.Fatalf("Get of the entry %d = %x, %v", i+1, b, ok)
		}
	}
	wantNothing(t, o, sumOf(numbers(n)))
}

// P16.1: lengths about a block's, about MaxBytes, and beyond.
func TestAddOfLongOnes(t *testing.T) {
	o, j := New(), judge{}
	for _, n := range []int{55, 56, 63, 64, 65, 119, 120, 4096, api.MaxBytes - 1, api.MaxBytes, api.MaxBytes + 1, 1<<21 + 3} {
		wantAdd(t, o, &j, strings.Repeat("x", n))
		wantAdd(t, o, &j, strings.Repeat("x", n-1)+"y")
		wantAdd(t, o, &j, strings.Repeat("x", n))
	}
	wantSame(t, o, j)
}

// P16.1: sums that are near to one that is there, and the sum of a sum.
func TestGetOfOtherSums(t *testing.T) {
	o := New()
	sum, _ := o.Add([]byte("abc"))
	for bit := range 256 {
		near := sum
		near[bit/8] ^= 1 << (bit % 8)
		wantNothing(t, o, near)
	}
	wantNothing(t, o, api.Hash{}, sumOf(string(sum[:])), sumOf("\x00abc"), sumOf(""))
	wantSame(t, o, judge{"abc"})
}

// P16.1: a copy stands as what it was made of; neither sees what the other one was given.
func TestCopy(t *testing.T) {
	for n := range 20 {
		one, ofOne := New(), judge{}
		for i := range n {
			wantAdd(t, one, &ofOne, numbers(uint64(i)))
		}
		other, ofOther := one.Copy(), slices.Clone(ofOne)
		wantSame(t, other, ofOther)
		wantAdd(t, one, &ofOne, "one")
		wantNothing(t, other, sumOf("one"))
		wantAdd(t, other, &ofOther, "other")
		wantAdd(t, other, &ofOther, "one")
		wantNothing(t, one, sumOf("other"))
		wantLearn(t, one, &ofOne, some(n))
		wantNothing(t, other, rootOf(some(n)))
		wantLearn(t, other, &ofOther, some(n+1))
		wantAdd(t, other, &ofOther, numbers(0))
		wantAdd(t, one, &ofOne, numbers(0))
		third := other.Copy()
		wantSame(t, one, ofOne)
		wantSame(t, other, ofOther)
		wantSame(t, third, ofOther)
	}
}

// P16.1: copies of nothing are there, and know nothing of each other.
func TestCopyOfNothing(t *testing.T) {
	one := New()
	other, third := one.Copy(), one.Copy()
	other.Add([]byte{1})
	third.Add([]byte{2})
	wantSame(t, one, nil)
	wantSame(t, other, judge{"\x01"})
	wantSame(t, third, judge{"\x02"})
}

// wantPut holds an oracle against entries in the order in which they came, each once, whatever their sums.
func wantPut(t *testing.T, o *Oracle, entries []api.Hashed) {
	t.Helper()
	if l := o.List(); !slices.EqualFunc(l, entries, sameEntry) {
		t.Errorf("List = %x, not %x", l, entries)
	}
	for _, entry := range entries {
		first := entries[slices.IndexFunc(entries, func(x api.Hashed) bool { return x.Sum == entry.Sum })]
		if b, ok := o.Get(entry.Sum); string(b) != string(first.Bytes) || !ok {
			t.Errorf("Get = %x, %v, not %x", b, ok, first.Bytes)
		}
	}
}

// P16.1: unlike bytes that come with one sum are there both, each once, and the first ones are got: in all rows of up to five of two sums and three byte strings.
func TestUnlikeBytesOfOneSum(t *testing.T) {
	var kinds []api.Hashed
	for _, sum := range []api.Hash{{}, h(1)} {
		for n := range 3 {
			kinds = append(kinds, api.Hashed{Bytes: make([]byte, n), Sum: sum})
		}
	}
	var grow func(row []api.Hashed)
	grow = func(row []api.Hashed) {
		o, entries := New(), []api.Hashed(nil)
		for _, entry := range row {
			o.put(entry)
			if !slices.ContainsFunc(entries, func(x api.Hashed) bool { return sameEntry(x, entry) }) {
				entries = append(entries, entry)
			}
		}
		wantPut(t, o, entries)
		wantPut(t, o.Copy(), entries)
		for _, kind := range kinds {
			if len(row) < 5 && !t.Failed() {
				grow(append(slices.Clone(row), kind))
			}
		}
	}
	grow(nil)
}

// P16.1: copies of an oracle in which one sum has many byte strings are apart.
func TestCopyOfOneSum(t *testing.T) {
	one, entries := New(), []api.Hashed(nil)
	for n := range 9 {
		entries = append(entries, api.Hashed{Bytes: make([]byte, n), Sum: h(1)})
		one.put(entries[n])
		other, third := one.Copy(), one.Copy()
		x, y := api.Hashed{Bytes: []byte("x"), Sum: h(1)}, api.Hashed{Bytes: []byte("y"), Sum: h(1)}
		other.put(x)
		third.put(y)
		third.put(y)
		other.put(x)
		wantPut(t, one, entries)
		wantPut(t, other, append(slices.Clone(entries), x))
		wantPut(t, third, append(slices.Clone(entries), y))
	}
}

// P16.1: what is told may be left early, and gone over again.
func TestAllIsLeftEarly(t *testing.T) {
	o := New()
	for i := range uint64(9) {
		o.Add([]byte(numbers(i)))
	}
	for most := range 10 {
		n := 0
		for entry := range o.all() {
			if string(entry.Bytes) != numbers(uint64(n)) {
				t.Errorf("the entry %d is %x", n, entry.Bytes)
			}
			if n == most {
				break
			}
			n++
		}
		if n != most && n != 9 {
			t.Errorf("%d entries, not %d", n, most)
		}
	}
}

// play plays calls that bytes stand for, and holds each oracle that comes of it against the second judge.
func play(t *testing.T, calls []byte) {
	oracles, judges := []*Oracle{New()}, []judge{{}}
	for at := 0; at+1 < len(calls); at += 2 {
		which, n := int(calls[at]>>3)%len(oracles), int(calls[at+1])
		o, j := oracles[which], &judges[which]
		switch calls[at] & 7 {
		case 0, 1:
			wantAdd(t, o, j, string(calls[at:min(len(calls), at+n%9)]))
		case 2:
			wantAdd(t, o, j, strings.Repeat("x", n))
		case 3:
			if len(*j) > 0 {
				wantAdd(t, o, j, (*j)[n%len(*j)])
			}
		case 4:
			wantLearn(t, o, j, some(n%36))
		case 5:
			s := some(n % 3)
			s.Accounts[n%32].Balance += uint64(n) << 55
			wantLearn(t, o, j, s)
		case 6:
			if len(oracles) < 4 {
				oracles, judges = append(oracles, o.Copy()), append(judges, slices.Clone(*j))
			}
		case 7:
			if l := o.List(); len(l) > 0 {
				spoil(l)
				b, _ := o.Get(sumOf((*j)[n%len(*j)]))
				clear(b)
			}
		}
	}
	for i, o := range oracles {
		wantSame(t, o, judges[i])
	}
}

// P16.1, P16.2: whatever calls, one behind the other.
func TestDrawnCalls(t *testing.T) {
	r := rand.New(rand.NewSource(161))
	for range 150 {
		calls := make([]byte, 2*r.Intn(60))
		r.Read(calls)
		play(t, calls)
	}
}

func FuzzOracle(f *testing.F) {
	f.Add([]byte{})
	f.Add([]byte{0, 3, 0, 3, 6, 0, 8, 4, 0, 5, 7, 0})
	f.Add([]byte{4, 3, 4, 35, 5, 9, 5, 255, 3, 7, 6, 1, 12, 33, 15, 2})
	f.Fuzz(func(t *testing.T, calls []byte) { play(t, calls[:min(len(calls), 120)]) })
}
