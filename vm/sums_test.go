package vm

import (
	"bytes"
	"crypto/sha256"
	"encoding/binary"
	"slices"
	"testing"

	"proctor/api"
)

// rising are so many words whose bytes are all unlike their neighbours.
func rising(count int) []uint64 {
	words := make([]uint64, count)
	for i := range words {
		b := uint64(8 * i)
		words[i] = (b+1)<<56 | (b+2)&255<<48 | (b+3)&255<<40 | (b+4)&255<<32 | (b+5)&255<<24 | (b+6)&255<<16 | (b+7)&255<<8 | (b+8)&255
	}
	return words
}

// sumWordsOf are a sum's words.
func sumWordsOf(h api.Hash) []uint64 {
	var words []uint64
	for i := range 4 {
		words = append(words, binary.BigEndian.Uint64(h[8*i:]))
	}
	return words
}

// hasher is a machine of 64 words at a HASH from the address 20 on to the address 40 on, of so many bytes.
func hasher(size uint64, imm uint32) api.Machine {
	m := api.Machine{Mem: rising(64), Regs: [16]uint64{3: 40, 5: 20, 7: size}}
	m.Mem[0] = Word(in(api.HASH, 3, 5, 7, imm))
	return m
}

// P10.2: HASH of every number of bytes that may be summed, with no byte ahead and with some.
func TestHashOfEverySize(t *testing.T) {
	for size := range uint64(129) {
		var all []byte
		for i := range size {
			all = append(all, byte(8*20+i+1))
		}
		for _, imm := range []uint32{0, 256, 257, 511} {
			ahead := []byte{byte(imm)}[:min(imm, 1)]
			sum := sha256.Sum256(slices.Concat(ahead, all))
			m := hasher(size, imm)
			want := copyOf(m)
			want.PC = 1
			copy(want.Mem[40:], sumWordsOf(sum))
			if n := wantStep(t, m, nil); !Same(n, want) {
				t.Errorf("HASH of %d bytes, Imm %d: %x, %d", size, imm, n.Mem[38:46], n.Status)
			}
		}
	}
}

// P10.2: HASH of too many bytes traps, and of each Imm that is none.
func TestHashTraps(t *testing.T) {
	for _, imm := range []uint32{0, 256, 511} {
		for _, size := range []uint64{129, 130, 136, 255, 256, 1024, 1 << 32, 1<<32 + 1, 1 << 63, most - 7, most - 6, most - 1, most} {
			wantTrap(t, hasher(size, imm), nil)
		}
	}
	for imm := range uint32(1100) {
		m := hasher(8, imm)
		if imm == 0 || imm >= 256 && imm <= 511 {
			if n := wantStep(t, m, nil); n.Status != api.Running || n.PC != 1 {
				t.Errorf("HASH with Imm %d: PC %d, %d", imm, n.PC, n.Status)
			}
		} else {
			wantTrap(t, m, nil)
		}
	}
	for _, imm := range []uint32{1 << 16, 1<<16 + 256, 1 << 31, 1<<32 - 256, 1<<32 - 1} {
		for _, size := range []uint64{0, 8, 129} {
			wantTrap(t, hasher(size, imm), nil)
		}
	}
}

// P10.2: HASH from and to every address of small memories, one behind their ends, and far off; words that are read and written alike.
func TestHashAtEveryAddress(t *testing.T) {
	for size := 1; size <= 32; size *= 2 {
		var places []uint64
		for at := range uint64(size) + 3 {
			places = append(places, at)
		}
		places = append(places, 1<<32, 1<<63, most-16, most-4, most-3, most-2, most-1, most)
		for _, to := range places {
			for _, from := range places {
				for _, count := range []uint64{0, 1, 7, 8, 9, 16, 17, 32, 64, 127, 128, 129, most} {
					m := api.Machine{Mem: rising(size), Regs: [16]uint64{3: to, 5: from, 7: count}}
					m.Mem[0] = Word(in(api.HASH, 3, 5, 7, 256+uint32(to%256)))
					wantStep(t, m, nil)
				}
			}
		}
	}
}

// P10.2: where a HASH traps and where it does not, written out: 16 words, of which just some are the memory's.
func TestHashAtTheEdges(t *testing.T) {
	for _, c := range []struct {
		to, from, count uint64
		trap            bool
	}{
		{12, 0, 8, false}, {13, 0, 8, true}, {15, 0, 8, true}, {16, 0, 8, true}, {most, 0, 8, true}, {most - 3, 0, 0, true}, {most - 3, 4, 8, true}, {1 << 63, 0, 0, true},
		{0, 15, 8, false}, {0, 15, 9, true}, {0, 16, 1, true}, {0, 16, 0, false}, {0, most, 0, false}, {0, 1 << 63, 0, false}, {0, most, 1, true}, {0, most, 9, true}, {0, most, 128, true},
		{0, 0, 128, false}, {0, 1, 128, true}, {0, 1, 120, false}, {0, 1, 121, true}, {12, 12, 32, false}, {12, 12, 33, true}, {4, 2, 32, false}, {2, 4, 32, false},
	} {
		for _, imm := range []uint32{0, 256, 511} {
			m := api.Machine{Mem: rising(16), Regs: [16]uint64{1: c.to, 2: c.from, 3: c.count}}
			m.Mem[0] = Word(in(api.HASH, 1, 2, 3, imm))
			if c.trap {
				wantTrap(t, m, nil)
			} else if n := wantStep(t, m, nil); n.Status != api.Running || n.PC != 1 || n.Regs != m.Regs || slices.Equal(n.Mem, m.Mem) {
				t.Errorf("HASH of %d from %d to %d: %d, PC %d", c.count, c.from, c.to, n.Status, n.PC)
			}
		}
	}
	for _, r := range [][3]uint8{{1, 1, 1}, {1, 1, 2}, {1, 2, 1}, {2, 1, 1}, {0, 0, 0}} {
		for n := range uint64(17) {
			m := api.Machine{Mem: rising(16), Regs: [16]uint64{1: n, 2: n / 2}}
			m.Mem[0] = Word(in(api.HASH, r[0], r[1], r[2], 0))
			wantStep(t, m, nil)
		}
	}
}

func hashed(b []byte) api.Hashed { return api.Hashed{Bytes: b, Sum: sha256.Sum256(b)} }

// someBytes are so many bytes none of which is 0.
func someBytes(n int) []byte {
	b := make([]byte, n)
	for i := range b {
		b[i] = byte(i%251 + 1)
	}
	return b
}

// library is what is known: byte strings of many lengths, some twice, some with bytes of another sum.
func library() []api.Hashed {
	var known []api.Hashed
	for _, n := range []int{0, 1, 7, 8, 9, 15, 16, 17, 32, 65, 104, 128, 129, 1000, 65536} {
		known = append(known, hashed(someBytes(n)))
	}
	right, wrong := hashed([]byte("stands twice, right first")), hashed([]byte("stands twice, right second"))
	return append(known,
		right, api.Hashed{Bytes: []byte("no"), Sum: right.Sum}, right,
		api.Hashed{Bytes: []byte("no"), Sum: wrong.Sum}, wrong, wrong,
		api.Hashed{Bytes: []byte("bytes of another sum"), Sum: api.Hash{1}}, api.Hashed{},
		api.Hashed{Bytes: someBytes(3), Sum: sha256.Sum256(someBytes(4))}, hashed(someBytes(2)),
	)
}

// askable are sums that are known, that are not, and that are badly known.
func askable() []api.Hash {
	var all []api.Hash
	for _, x := range library() {
		all = append(all, x.Sum)
		for _, bit := range []int{0, 13, 31} {
			x.Sum[bit] ^= 1 << (bit % 8)
			all = append(all, x.Sum)
		}
	}
	return append(all, api.Hash{}, api.Hash{31: 1}, sha256.Sum256([]byte("not known")))
}

// P10.1: the preimage is that of the first entry with the sum, if its bytes have it.
func TestPreimage(t *testing.T) {
	known := library()
	for _, h := range askable() {
		b, ok := Preimage(known, h)
		want, is := preimageOf(known, h)
		if !bytes.Equal(b, want) || ok != is {
			t.Errorf("Preimage(%x) = %.40x, %v, want %.40x, %v", h, b, ok, want, is)
		}
		if _, ok := Preimage(nil, h); ok {
			t.Errorf("Preimage of nothing known: %v", ok)
		}
		if b, ok := Preimage([]api.Hashed{}, h); ok || len(b) != 0 {
			t.Errorf("Preimage of nothing known: %x, %v", b, ok)
		}
	}
	x, y := hashed([]byte("x")), hashed([]byte("y"))
	bad := api.Hashed{Bytes: []byte("y"), Sum: x.Sum}
	for i, c := range []struct {
		known []api.Hashed
		h     api.Hash
		want  string
		ok    bool
	}{
		{[]api.Hashed{x, y}, x.Sum, "x", true}, {[]api.Hashed{y, x}, x.Sum, "x", true}, {[]api.Hashed{x, x, x}, x.Sum, "x", true}, {[]api.Hashed{x, bad}, x.Sum, "x", true}, {[]api.Hashed{y, x, bad}, x.Sum, "x", true},
		{[]api.Hashed{bad, x}, x.Sum, "", false}, {[]api.Hashed{bad}, x.Sum, "", false}, {[]api.Hashed{bad, x}, y.Sum, "", false}, {[]api.Hashed{y}, x.Sum, "", false}, {[]api.Hashed{bad, y}, y.Sum, "y", true},
		{[]api.Hashed{hashed(nil)}, sha256.Sum256(nil), "", true}, {[]api.Hashed{hashed([]byte{})}, sha256.Sum256(nil), "", true}, {[]api.Hashed{{}}, api.Hash{}, "", false}, {[]api.Hashed{{}, hashed(nil)}, sha256.Sum256(nil), "", true},
	} {
		if b, ok := Preimage(c.known, c.h); string(b) != c.want || ok != c.ok {
			t.Errorf("%d: Preimage = %q, %v", i, b, ok)
		}
	}
}

// asker is a machine of 16 words at a PRE or PLEN of the sum at the address 9, at that place.
func asker(op api.Op, h api.Hash, place uint64) api.Machine {
	m := api.Machine{Mem: rising(16), Regs: [16]uint64{2: 77, 4: 9, 6: place}}
	m.Mem[0] = Word(in(op, 2, 4, 6, 1<<32-1))
	copy(m.Mem[9:], sumWordsOf(h))
	return m
}

// P10.2: PRE and PLEN of sums that are known and that are not, at places before, at and beyond the end.
func TestAsking(t *testing.T) {
	known := library()
	for _, h := range askable() {
		b, ok := preimageOf(known, h)
		end := uint64(len(b))
		for _, place := range []uint64{0, 1, 2, 7, 8, 9, end - 9, end - 8, end - 7, end - 1, end, end + 1, end + 8, 1 << 32, 1<<32 + 1, 1 << 63, most - 8, most - 7, most - 1, most} {
			pre, plen := asker(api.PRE, h, place), asker(api.PLEN, h, place)
			if !ok {
				wantTrap(t, pre, known)
				wantTrap(t, plen, known)
				continue
			}
			n := wantStep(t, plen, known)
			if n.Regs[2] != end || n.PC != 1 || n.Status != api.Running {
				t.Errorf("PLEN of %d bytes: %d, PC %d, %d", end, n.Regs[2], n.PC, n.Status)
			}
			wantStep(t, pre, known)
			wantTrap(t, pre, nil)
			wantTrap(t, plen, []api.Hashed{})
		}
	}
}

// P10.2: pieces of a preimage, written out.
func TestPieces(t *testing.T) {
	x := hashed([]byte("ABCDEFGHIJK"))
	for _, c := range []struct{ place, want uint64 }{
		{0, 0x4142434445464748}, {1, 0x4243444546474849}, {3, 0x4445464748494a4b}, {4, 0x45464748494a4b00}, {9, 0x4a4b000000000000}, {10, 0x4b00000000000000}, {11, 0}, {12, 0}, {1 << 32, 0}, {1 << 63, 0}, {most, 0},
	} {
		m := asker(api.PRE, x.Sum, c.place)
		want := copyOf(m)
		want.PC, want.Regs[2] = 1, c.want
		if n := wantStep(t, m, []api.Hashed{hashed(nil), x}); !Same(n, want) {
			t.Errorf("the piece at %d: %x, PC %d, %d", c.place, n.Regs[2], n.PC, n.Status)
		}
	}
	for _, place := range []uint64{0, 1, most} {
		if n := wantStep(t, asker(api.PRE, sha256.Sum256(nil), place), []api.Hashed{{Sum: sha256.Sum256(nil)}}); n.Regs[2] != 0 || n.Status != api.Running {
			t.Errorf("the piece of no bytes: %x, %d", n.Regs[2], n.Status)
		}
	}
}

// P10.2: PRE and PLEN with the sum at every address of small memories, one behind their ends, and far off; one register as all three.
func TestAskingAtEveryAddress(t *testing.T) {
	x := hashed([]byte("somewhere"))
	for size := 1; size <= 16; size *= 2 {
		for stands := 1; stands+4 <= size || stands == 1; stands++ {
			for _, op := range []api.Op{api.PRE, api.PLEN} {
				for at := range uint64(size) + 2 {
					for _, far := range []uint64{0, 1 << 32, 1 << 63, 0 - uint64(size)} {
						m := api.Machine{Mem: make([]uint64, size), Regs: [16]uint64{1: at + far, 2: 3}}
						copy(m.Mem[min(stands, size):], sumWordsOf(x.Sum))
						m.Mem[0] = Word(in(op, 3, 1, 2, 0))
						n := wantStep(t, m, []api.Hashed{x})
						if is := size >= 8 && at+far == uint64(stands); is != (n.Status == api.Running) {
							t.Errorf("%d of %d words at %d: %d", op, size, at+far, n.Status)
						}
						m.Mem[0] = Word(in(op, 1, 1, 1, 0))
						wantStep(t, m, []api.Hashed{x})
					}
				}
			}
		}
	}
	whole := api.Machine{Mem: sumWordsOf(x.Sum), Regs: [16]uint64{1: most - 2}}
	for at := most - uint64(6); at != 8; at++ {
		whole.Regs[1] = at
		wantStep(t, whole, []api.Hashed{x})
	}
}

// P10.2: a run that asks for many preimages in turn, over and over, and at last for one that is badly known.
func TestAskingInTurn(t *testing.T) {
	x, y := hashed(someBytes(65536)), hashed([]byte("y"))
	bad := api.Hashed{Bytes: y.Bytes, Sum: sha256.Sum256([]byte("bad"))}
	known := []api.Hashed{y, x, bad, {Bytes: y.Bytes, Sum: x.Sum}}
	code := []api.Code{
		in(api.PLEN, 1, 10, 0, 0), in(api.PRE, 2, 11, 12, 0), in(api.ADD, 3, 3, 1, 0), in(api.XOR, 4, 4, 2, 0), in(api.PRE, 5, 10, 12, 0), in(api.XOR, 4, 4, 5, 0), in(api.ADD, 12, 12, 13, 0),
		in(api.SUB, 14, 14, 13, 0), in(api.JNZ, 14, 0, 0, 0), in(api.PLEN, 1, 15, 0, 0), in(api.HALT, 0, 0, 0, 0),
	}
	regs := [16]uint64{10: 16, 11: 20, 13: 1, 14: 300_000, 15: 24}
	m := loaded(t, 32, regs, code, slices.Concat(make([]uint64, 5), sumWordsOf(x.Sum), sumWordsOf(y.Sum), sumWordsOf(bad.Sum))...)
	n, steps, e := Run(m, known, api.MaxFuel)
	if e != api.OK || steps != 9*300_000+1 || n.Status != api.Trapped || n.PC != 9 || n.Regs[3] != 300_000*65536 {
		t.Errorf("Run: PC %d, %d, Regs %x, %d steps, %d", n.PC, n.Status, n.Regs, steps, e)
	}
	wantRuns(t, m, known, 30)
	m.Regs[14] = 3
	if all := wantRuns(t, m, known, 30); len(all) != 29 || all[28].Status != api.Trapped {
		t.Errorf("%d machines, the last one %d", len(all), all[len(all)-1].Status)
	}
}
