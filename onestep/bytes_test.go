package onestep

import (
	"bytes"
	"math"
	"math/big"
	"math/rand"
	"slices"
	"testing"

	"proctor/api"
	"proctor/rlp"
)

// by is bytes as an item, of a list of items.
func by(b ...byte) api.Item     { return api.Item{Bytes: b} }
func of(l ...api.Item) api.Item { return api.Item{IsList: true, List: l} }

// formed is an item's form, which it must have.
func formed(t *testing.T, x api.Item) []byte {
	t.Helper()
	b, e := rlp.Encode(x)
	if e != api.OK {
		t.Fatalf("no form: %d", e)
	}
	return b
}

// numberBy is the shortest bytes of a number, as an item.
func numberBy(n uint64) api.Item { return by(new(big.Int).SetUint64(n).Bytes()...) }

// itemBy is a proof's item.
func itemBy(p api.StepProof) api.Item {
	x := of(numberBy(p.PC))
	for _, r := range p.Regs {
		x.List = append(x.List, numberBy(r))
	}
	x.List = append(x.List, numberBy(uint64(p.Status)), numberBy(uint64(p.Depth)), by(bytes.Clone(p.Root[:])...))
	all := of()
	for _, a := range p.Touched {
		entry := of(numberBy(a.Addr), numberBy(a.Value))
		for _, h := range a.Path {
			entry.List = append(entry.List, by(bytes.Clone(h[:])...))
		}
		all.List = append(all.List, entry)
	}
	x.List = append(x.List, all, by(p.Pre...))
	return x
}

// isNumber says whether an item is a number's, and which.
func isNumber(x api.Item, bits int) (uint64, bool) {
	n := new(big.Int).SetBytes(x.Bytes)
	return n.Uint64(), !x.IsList && bytes.Equal(n.Bytes(), x.Bytes) && n.BitLen() <= bits
}

// readBy is the proof whose item x is; false, if it is none's.
func readBy(x api.Item) (p api.StepProof, ok bool) {
	if !x.IsList || len(x.List) != 22 {
		return api.StepProof{}, false
	}
	var n [19]uint64
	for i := range n {
		if n[i], ok = isNumber(x.List[i], 64); !ok {
			return api.StepProof{}, false
		}
	}
	if root := x.List[19]; n[17] > 2 || n[18] > 12 || root.IsList || len(root.Bytes) != 32 || !x.List[20].IsList || x.List[21].IsList {
		return api.StepProof{}, false
	}
	p = api.StepProof{PC: n[0], Regs: [16]uint64(n[1:17]), Status: api.Status(n[17]), Depth: int(n[18]), Root: api.Hash(x.List[19].Bytes), Pre: x.List[21].Bytes}
	for _, y := range x.List[20].List {
		if !y.IsList || len(y.List) < 2 {
			return api.StepProof{}, false
		}
		at, isAt := isNumber(y.List[0], 64)
		value, isValue := isNumber(y.List[1], 64)
		a := api.Access{Addr: at, Value: value}
		for _, z := range y.List[2:] {
			if z.IsList || len(z.Bytes) != 32 {
				return api.StepProof{}, false
			}
			a.Path = append(a.Path, api.Hash(z.Bytes))
		}
		if !isAt || !isValue {
			return api.StepProof{}, false
		}
		p.Touched = append(p.Touched, a)
	}
	return p, true
}

// wantRead holds Read of b against rlp.Decode and the judge, and Write of what was read against b.
func wantRead(t *testing.T, b []byte) (api.StepProof, api.Errno) {
	t.Helper()
	var want api.StepProof
	x, wrong := rlp.Decode(b)
	if wrong == api.OK {
		var ok bool
		if want, ok = readBy(x); !ok {
			wrong = api.ErrForm
		}
	}
	p, e := Read(b)
	if e != wrong || !same(p, want) {
		t.Fatalf("Read(%.30x, %d bytes) = %s, %d, want %s, %d", b, len(b), shown(p), e, shown(want), wrong)
	}
	if e == api.OK {
		if again, f := Write(p); f != api.OK || !bytes.Equal(again, b) {
			t.Fatalf("Write of what was read of %.30x = %.30x, %d", b, again, f)
		}
	}
	return p, e
}

// wantWrong asks for an error of Read.
func wantWrong(t *testing.T, b []byte, want api.Errno) {
	t.Helper()
	if p, e := wantRead(t, b); e != want || !same(p, api.StepProof{}) {
		t.Fatalf("Read(%.30x, %d bytes) = %s, %d, want %d", b, len(b), shown(p), e, want)
	}
}

// sample is a proof with something in every field.
func sample() api.StepProof {
	p := api.StepProof{PC: 258, Status: api.Trapped, Depth: 3, Root: leafBy(9), Pre: []byte{1, 2, 200}}
	for i := range p.Regs {
		p.Regs[i] = 1<<(4*i) - 1
	}
	for i := range uint64(3) {
		p.Touched = append(p.Touched, api.Access{Addr: i * 127, Value: most >> (20 * i), Path: []api.Hash{leafBy(i), {}, leafBy(i + 1)}})
	}
	return p
}

// samples are proofs that can be written, whether they check or not.
func samples() []api.StepProof {
	all := []api.StepProof{{}, sample()}
	for _, n := range []uint64{1, 127, 128, 255, 256, 1 << 32, 1 << 63, most} {
		p := sample()
		p.PC, p.Regs[7], p.Touched[1].Addr, p.Touched[2].Value = n, n, n, n
		all = append(all, p)
	}
	for depth := range 13 {
		all = append(all, api.StepProof{Depth: depth, Status: api.Status(depth % 3), Touched: []api.Access{{}}})
	}
	for _, n := range []int{0, 1, 2, 54, 55, 56, 57, 255, 256, 257, 65000} {
		p := sample()
		p.Pre = bytes.Repeat([]byte{byte(n)}, n)
		all = append(all, p)
	}
	for _, n := range []int{0, 1, 2, 12, 13, 16, 17, 100, 1000} {
		p := sample()
		p.Touched[1].Path = slices.Repeat([]api.Hash{leafBy(4)}, n)
		all = append(all, p)
		p = sample()
		p.Touched = make([]api.Access, n)
		all = append(all, p)
	}
	for b := range 256 {
		p := sample()
		p.Pre, p.Root = []byte{byte(b)}, api.Hash{byte(b)}
		all = append(all, p)
	}
	return all
}

// P12.3: the bytes of proofs, of the second judge's item, both ways.
func TestForms(t *testing.T) {
	for i, p := range samples() {
		want := formed(t, itemBy(p))
		if b, e := Write(p); e != api.OK || !bytes.Equal(b, want) {
			t.Fatalf("%d: Write = %.30x, %d, want %.30x", i, b, e, want)
		}
		if q, e := wantRead(t, want); e != api.OK || !same(p, q) {
			t.Fatalf("%d: Read = %s, %d", i, shown(q), e)
		}
	}
}

// P12.3: the bytes of two proofs, written out.
func TestFormsWrittenOut(t *testing.T) {
	b, e := Write(api.StepProof{})
	want := slices.Concat([]byte{0xf6}, bytes.Repeat([]byte{0x80}, 19), []byte{0xa0}, make([]byte, 32), []byte{0xc0, 0x80})
	if e != api.OK || !bytes.Equal(b, want) {
		t.Errorf("Write = %x, %d", b, e)
	}
	h := leafBy(1)
	p := api.StepProof{PC: 1024, Regs: [16]uint64{0: 5, 15: 128}, Status: api.Halted, Depth: 12, Root: h, Touched: []api.Access{{Addr: 7, Value: 0}, {Addr: 0, Value: 255, Path: []api.Hash{h}}}, Pre: []byte("dog")}
	want = slices.Concat([]byte{0x82, 4, 0, 5}, bytes.Repeat([]byte{0x80}, 14), []byte{0x81, 0x80, 1, 12, 0xa0}, h[:], []byte{0xe8, 0xc2, 7, 0x80, 0xe4, 0x80, 0x81, 0xff, 0xa0}, h[:], []byte{0x83, 'd', 'o', 'g'})
	want = append([]byte{0xf8, byte(len(want))}, want...)
	if b, e = Write(p); e != api.OK || !bytes.Equal(b, want) {
		t.Errorf("Write = %x, %d, want %x", b, e, want)
	}
	if q, e := Read(want); e != api.OK || !same(p, q) {
		t.Errorf("Read = %s, %d", shown(q), e)
	}
}

// P12.3: proofs that may not be are not written; others that don't check are.
func TestWriteOfNoProof(t *testing.T) {
	wrong := func(p api.StepProof) {
		t.Helper()
		if b, e := Write(p); e != api.ErrArg || len(b) != 0 {
			t.Errorf("Write of %s: %d bytes, %d", shown(p), len(b), e)
		}
	}
	for _, depth := range []int{math.MinInt, -13, -1, 13, 14, 16, 64, 255, 256, 1 << 32, 1<<32 + 1, math.MaxInt} {
		p := sample()
		p.Depth = depth
		wrong(p)
		wrong(api.StepProof{Depth: depth})
	}
	for status := range 256 {
		p := sample()
		p.Status = api.Status(status)
		if status > 2 {
			wrong(p)
		} else if _, e := Write(p); e != api.OK {
			t.Errorf("Write with the Status %d: %d", status, e)
		}
	}
}

// P12.3: bytes of just as many as layer 2 allows, and one more, by Pre, by a path, and by entries.
func TestLongestForms(t *testing.T) {
	for _, p := range []api.StepProof{{}, sample(), {Touched: make([]api.Access, 300)}, {Touched: []api.Access{{Path: make([]api.Hash, 1900)}}}} {
		p.Pre = make([]byte, 1000)
		b, _ := Write(p)
		p.Pre = make([]byte, 1000+65536-len(b))
		for i, want := range []api.Errno{api.OK, api.ErrArg, api.ErrArg} {
			b, e := Write(p)
			if length := []int{65536, 0, 0}[i]; e != want || len(b) != length {
				t.Errorf("%d bytes more than may be: %d bytes, %d", i, len(b), e)
			}
			if e == api.OK {
				if q, f := wantRead(t, b); f != api.OK || !same(p, q) {
					t.Errorf("Read of the longest form: %d", f)
				}
			}
			p.Pre = append(p.Pre, 0)
		}
	}
	for _, n := range []int{21000, 21800, 21829, 21830, 21840, 21844, 21845, 21846, 30000, 1 << 16, 1 << 20} {
		wantFits(t, api.StepProof{Touched: make([]api.Access, n)})
	}
	for _, n := range []int{1900, 1980, 1981, 1982, 1983, 1984, 1985, 1986, 2048, 1 << 16} {
		wantFits(t, api.StepProof{Touched: []api.Access{{Path: make([]api.Hash, n)}}})
		wantFits(t, api.StepProof{Touched: []api.Access{{}, {Path: make([]api.Hash, n-900)}, {Path: make([]api.Hash, 900)}}})
	}
}

// wantFits asks that a proof is written just if its item may be.
func wantFits(t *testing.T, p api.StepProof) {
	t.Helper()
	want, wrong := rlp.Encode(itemBy(p))
	if b, e := Write(p); e != wrong || !bytes.Equal(b, want) {
		t.Errorf("%d entries, the last one of %d sums: %d bytes, %d, want %d bytes, %d", len(p.Touched), len(p.Touched[len(p.Touched)-1].Path), len(b), e, len(want), wrong)
	}
}

// P12.3: lists that stand in many entries, and would never end if all of them were gone through.
func TestWriteOfEndlessProofs(t *testing.T) {
	path := make([]api.Hash, 1<<20)
	p := api.StepProof{Touched: slices.Repeat([]api.Access{{Path: path}}, 1<<18), Pre: make([]byte, 1<<24)}
	if b, e := Write(p); e != api.ErrArg || len(b) != 0 {
		t.Errorf("Write: %d", e)
	}
	p.Touched = slices.Repeat([]api.Access{{Path: path[:12]}}, 1<<18)
	if b, e := Write(p); e != api.ErrArg || len(b) != 0 {
		t.Errorf("Write: %d", e)
	}
}

// P12.3: bytes that are no item's have rlp.Decode's error; those that are cut, or have more behind them.
func TestReadOfNoItem(t *testing.T) {
	wantWrong(t, nil, api.ErrShort)
	wantWrong(t, []byte{}, api.ErrShort)
	wantWrong(t, make([]byte, 65537), api.ErrLimit)
	wantWrong(t, bytes.Repeat([]byte{0xff}, 65537), api.ErrLimit)
	wantWrong(t, bytes.Repeat([]byte{0xc1}, 20), api.ErrShort)
	// Lists within lists, one more than may be.
	wantWrong(t, []byte{0xd0, 0xcf, 0xce, 0xcd, 0xcc, 0xcb, 0xca, 0xc9, 0xc8, 0xc7, 0xc6, 0xc5, 0xc4, 0xc3, 0xc2, 0xc1, 0xc0}, api.ErrForm)
	for _, p := range []api.StepProof{{}, sample()} {
		b, _ := Write(p)
		for n := range b {
			wantWrong(t, b[:n], api.ErrShort)
		}
		wantWrong(t, append(bytes.Clone(b), 0), api.ErrForm)
		wantWrong(t, append(bytes.Clone(b), b...), api.ErrForm)
		wantWrong(t, append(bytes.Clone(b), make([]byte, 65536)...), api.ErrLimit)
	}
}

// P12.3: other forms of the same numbers, with a length or a 0 ahead where none belongs.
func TestReadOfOtherForms(t *testing.T) {
	b := formed(t, itemBy(api.StepProof{PC: 5}))
	if b[0] != 0xf6 || b[1] != 5 {
		t.Fatalf("%x", b)
	}
	long := func(pc ...byte) []byte {
		return slices.Concat([]byte{0xf7, byte(len(b) - 2 + len(pc))}, pc, b[2:])
	}
	short := func(pc ...byte) []byte {
		return slices.Concat([]byte{0xc0 + byte(len(b)-2+len(pc))}, pc, b[2:])
	}
	wantWrong(t, short(0x81, 5), api.ErrForm)
	wantWrong(t, append([]byte{0xf8, byte(len(b) - 1)}, b[1:]...), api.ErrForm)
	wantWrong(t, append([]byte{0xf9, 0, byte(len(b) - 1)}, b[1:]...), api.ErrForm)
	wantWrong(t, long(0xb8, 1, 5), api.ErrForm)
	for _, pc := range [][]byte{{0}, {0, 5}, {0, 0, 0, 0, 0, 0, 0, 5}, {0, 1, 0, 0, 0, 0, 0, 0, 0}} {
		x := itemBy(api.StepProof{PC: 5})
		x.List[0] = by(pc...)
		wantWrong(t, formed(t, x), api.ErrForm)
	}
}

// turnedItems are a proof's item with one part turned, of which none is a proof's.
func turnedItems(p api.StepProof) []api.Item {
	var all []api.Item
	put := func(turn func(x *api.Item)) {
		x := itemBy(p)
		turn(&x)
		all = append(all, x)
	}
	nine := by(1, 0, 0, 0, 0, 0, 0, 0, 0)
	put(func(x *api.Item) { *x = of(*x) })
	put(func(x *api.Item) { *x = by(5) })
	put(func(x *api.Item) { *x = of() })
	for i := range 22 {
		put(func(x *api.Item) { x.List = x.List[:i] })
		put(func(x *api.Item) { x.List = slices.Delete(x.List, i, i+1) })
		put(func(x *api.Item) { x.List = slices.Insert(x.List, i, by(1)) })
		put(func(x *api.Item) { x.List[i] = of(x.List[i]) })
		put(func(x *api.Item) { x.List[i] = of(of(), by(1)) })
	}
	put(func(x *api.Item) { x.List = append(x.List, by()) })
	put(func(x *api.Item) { x.List = append(x.List, of()) })
	put(func(x *api.Item) { x.List = append(x.List, x.List...) })
	// Numbers that are none's, or greater than their field, whatever of them the field would hold.
	for i := range 19 {
		for _, y := range []api.Item{by(0), by(0, 1), nine, by(make([]byte, 8)...), by(bytes.Repeat([]byte{1}, 60)...), of()} {
			put(func(x *api.Item) { x.List[i] = y })
		}
	}
	for _, n := range []uint64{3, 4, 127, 128, 255, 256, 257, 258, 1 << 32, 1<<32 + 1, 1 << 63, most - 255, most} {
		put(func(x *api.Item) { x.List[17] = numberBy(n) })
	}
	for _, n := range []uint64{13, 14, 64, 255, 256, 1 << 31, 1 << 32, 1<<32 + 1, 1<<63 - 1, 1 << 63, 1<<63 + 1, most - 11, most} {
		put(func(x *api.Item) { x.List[18] = numberBy(n) })
	}
	for _, n := range []int{0, 1, 31, 33, 64} {
		put(func(x *api.Item) { x.List[19] = by(make([]byte, n)...) })
		put(func(x *api.Item) { x.List[20].List[0].List[2] = by(make([]byte, n)...) })
		put(func(x *api.Item) { x.List[20].List[2].List[4] = by(make([]byte, n)...) })
	}
	for _, y := range []api.Item{by(), by(1), by(make([]byte, 32)...)} {
		put(func(x *api.Item) { x.List[20] = y })
		put(func(x *api.Item) { x.List[20].List[1] = y })
		put(func(x *api.Item) { x.List[20].List = append(x.List[20].List, y) })
	}
	for _, y := range []api.Item{of(), of(by(1)), of(by()), of(of(), by()), of(by(), of()), of(by(0), by()), of(by(), by(0)), of(nine, by()), of(by(), nine), of(by(), by(), of()), of(by(), by(), by(1))} {
		put(func(x *api.Item) { x.List[20].List[1] = y })
		put(func(x *api.Item) { x.List[20] = of(y) })
		put(func(x *api.Item) { x.List[20].List = append(x.List[20].List, y) })
	}
	put(func(x *api.Item) { x.List[20] = x.List[20].List[0] })
	put(func(x *api.Item) { x.List[20].List[0].List[3] = of(x.List[20].List[0].List[3]) })
	put(func(x *api.Item) { x.List[21] = of() })
	put(func(x *api.Item) { x.List[20], x.List[21] = x.List[21], x.List[20] })
	put(func(x *api.Item) { x.List[19], x.List[20] = x.List[20], x.List[19] })
	return all
}

// P12.3: items that are no proof's.
func TestReadOfOtherItems(t *testing.T) {
	for i, x := range turnedItems(sample()) {
		b := formed(t, x)
		if _, e := wantRead(t, b); e != api.ErrForm {
			t.Errorf("%d: Read(%.40x): %d", i, b, e)
		}
	}
	for _, b := range [][]byte{{0}, {5}, {0x80}, {0xc0}, {0xc1, 0x80}, {0xc1, 0xc0}} {
		wantWrong(t, b, api.ErrForm)
	}
}

// P12.3, P0.8: proofs' bytes with a byte changed, taken out or put in: one proof that is written as they are, or one error.
func TestReadOfSpoiltForms(t *testing.T) {
	for _, p := range []api.StepProof{{}, sample(), {Regs: [16]uint64{3, 300}, Touched: []api.Access{{Path: make([]api.Hash, 1)}}}} {
		b, _ := Write(p)
		for i := range b {
			wantRead(t, slices.Delete(bytes.Clone(b), i, i+1))
			for _, c := range []byte{0, 1, 2, 3, 12, 13, 0x7f, 0x80, 0x81, 0x82, 0x88, 0x89, 0xa0, 0xb7, 0xb8, 0xc0, 0xc1, 0xf7, 0xf8, 0xf9, 0xff} {
				spoilt := bytes.Clone(b)
				spoilt[i] = c
				wantRead(t, spoilt)
				wider := slices.Insert(bytes.Clone(b), i, c)
				wantRead(t, wider)
				// With a head that goes with it.
				wider[0]++
				wantRead(t, wider)
				wider[0]--
				wider[1]++
				wantRead(t, wider)
			}
		}
	}
}

// P12.3: items at random that are nearly a proof's.
func TestReadOfRandomItems(t *testing.T) {
	r := rand.New(rand.NewSource(3))
	good := 0
	part := func() api.Item {
		return []api.Item{by(), by(1), by(0), numberBy(r.Uint64() >> r.Intn(64)), by(make([]byte, 32)...), of(), of(by(), by(1)), of(of(by(), by()))}[r.Intn(8)]
	}
	for range 30000 {
		x := itemBy(sample())
		for range r.Intn(3) {
			switch at := r.Intn(len(x.List)); r.Intn(4) {
			case 0:
				x.List[at] = part()
			case 1:
				x.List[20] = of(of(part(), part()), of(part(), part(), part()))
			case 2:
				x.List[at], x.List[r.Intn(at+1)] = x.List[r.Intn(at+1)], x.List[at]
			case 3:
				x.List[r.Intn(19)] = numberBy(r.Uint64() >> r.Intn(64))
			}
		}
		if _, e := wantRead(t, formed(t, x)); e == api.OK {
			good++
		}
	}
	if good < 5000 || good > 28000 {
		t.Errorf("%d of these are proofs'", good)
	}
}
