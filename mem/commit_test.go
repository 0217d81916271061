package mem

import (
	"crypto/sha256"
	"math"
	"testing"

	"proctor/api"
)

// filled are sixteen registers that are all that word.
func filled(w uint64) [16]uint64 {
	var regs [16]uint64
	for i := range regs {
		regs[i] = w
	}
	return regs
}

// mixed are sixteen registers, no two of them alike.
func mixed() [16]uint64 { return [16]uint64(rising(16)) }

// wantParts holds Parts against the chapter's words.
func wantParts(t *testing.T, pc uint64, regs [16]uint64, s api.Status, depth int, root api.Hash) {
	t.Helper()
	h, e := Parts(pc, regs, s, depth, root)
	if s > 2 || depth < 0 || depth > 12 {
		if h != zero || e != api.ErrArg {
			t.Fatalf("Parts(Status %d, depth %d) = %x, %d", s, depth, h, e)
		}
		return
	}
	b := partsBy(pc, regs, byte(s), byte(depth), root)
	if len(b) != 171 || h != sha256.Sum256(b) || e != api.OK {
		t.Fatalf("Parts(Status %d, depth %d) = %x, %d, of %d bytes", s, depth, h, e, len(b))
	}
}

// P11.3: every Status with every depth about those that may be, and with depths of which the lowest byte may be.
func TestParts(t *testing.T) {
	depths := []int{-1, -2, -256, 13, 14, 63, 64, 255, 256, 257, 268, 1 << 32, 1<<32 + 1, math.MinInt, math.MinInt + 1, math.MaxInt}
	for depth := range 13 {
		depths = append(depths, depth)
	}
	for s := range 256 {
		for _, depth := range depths {
			wantParts(t, 258, mixed(), api.Status(s), depth, sum(1))
		}
	}
	for _, pc := range []uint64{0, 1, 255, 1 << 56, most} {
		for _, w := range []uint64{0, 1, 1 << 63, most} {
			for _, depth := range depths {
				for s := range 4 {
					wantParts(t, pc, filled(w), api.Status(s), depth, zero)
					wantParts(t, pc, filled(w), api.Status(s), depth, sum(2))
				}
			}
		}
	}
}

// P11.3: the bytes that are summed, one by one, as the chapter lays them out.
func TestPartsByteByByte(t *testing.T) {
	place := func(b []byte, at int, w uint64) {
		for i := range 8 {
			b[at+i] = byte(w >> (56 - 8*i))
		}
	}
	b := make([]byte, 171)
	b[0] = 2
	place(b, 1, 0x0102030405060708)
	for i, w := range mixed() {
		place(b, 9+8*i, w)
	}
	b[137], b[138] = 1, 11
	root := sum(4)
	for i := range 32 {
		b[139+i] = root[i]
	}
	if h, e := Parts(0x0102030405060708, mixed(), api.Halted, 11, root); h != sha256.Sum256(b) || e != api.OK {
		t.Errorf("Parts = %x, %d", h, e)
	}
}

// P11.3: whatever is another one, the commitment is another one.
func TestPartsBind(t *testing.T) {
	first := map[api.Hash]int{}
	count := 0
	add := func(pc uint64, regs [16]uint64, s api.Status, depth int, root api.Hash) {
		h, e := Parts(pc, regs, s, depth, root)
		if at, seen := first[h]; seen || e != api.OK {
			t.Fatalf("the commitments %d and %d are one: %d", at, count, e)
		}
		first[h] = count
		count++
	}
	add(5, mixed(), api.Running, 0, sum(1))
	for bit := range 64 {
		add(5^1<<bit, mixed(), api.Running, 0, sum(1))
		for i := range 16 {
			regs := mixed()
			regs[i] ^= 1 << bit
			add(5, regs, api.Running, 0, sum(1))
		}
	}
	for bit := range 256 {
		root := sum(1)
		root[bit/8] ^= 1 << (bit % 8)
		add(5, mixed(), api.Running, 0, root)
	}
	for depth := range 13 {
		for s := range 3 {
			if depth+s > 0 {
				add(5, mixed(), api.Status(s), depth, sum(1))
			}
		}
	}
	for i := range 15 {
		regs := mixed()
		regs[i], regs[i+1] = regs[i+1], regs[i]
		add(5, regs, api.Running, 0, sum(1))
	}
}

// P11.3: machines of every size that may be, at every Status.
func TestCommit(t *testing.T) {
	for depth, size := range sizes() {
		for s := range 3 {
			for _, m := range []api.Machine{
				{Mem: make([]uint64, size)},
				{PC: 258, Regs: mixed(), Mem: rising(size)},
				{PC: most, Regs: filled(most), Mem: rising(size)},
				{PC: uint64(size), Regs: filled(0), Mem: rising(size)},
			} {
				m.Status = api.Status(s)
				want := sha256.Sum256(partsBy(m.PC, m.Regs, byte(s), byte(depth), rootBy(m.Mem)))
				if h, e := Commit(m); h != want || e != api.OK {
					t.Fatalf("Commit of %d words, Status %d = %x, %d", size, s, h, e)
				}
				parts, _ := Parts(m.PC, m.Regs, m.Status, depth, made(t, m.Mem...).Root())
				if parts != want {
					t.Fatalf("Parts of %d words, Status %d = %x", size, s, parts)
				}
			}
		}
	}
}

// P11.3: machines that may not be, by their memory or by their Status.
func TestCommitOfWrongMachines(t *testing.T) {
	wrong := []api.Machine{{}, {Mem: []uint64{}}, {Mem: rising(4)[:0]}, {PC: 3, Regs: mixed(), Status: api.Halted}}
	for _, size := range wrongSizes() {
		for s := range 4 {
			wrong = append(wrong, api.Machine{Status: api.Status(s), Mem: rising(size)})
		}
	}
	for s := 3; s < 256; s++ {
		for _, size := range []int{1, 2, 3, 8} {
			wrong = append(wrong, api.Machine{PC: 1, Regs: mixed(), Status: api.Status(s), Mem: rising(size)})
		}
	}
	wrong = append(wrong, api.Machine{Status: 3, Mem: rising(4096)}, api.Machine{Status: 255, Mem: rising(4097)})
	for _, m := range wrong {
		if h, e := Commit(m); h != zero || e != api.ErrArg {
			t.Errorf("Commit of %d words, Status %d = %x, %d", len(m.Mem), m.Status, h, e)
		}
	}
}

// P11.3: a memory of words alike is another one at another depth.
func TestCommitOfDepths(t *testing.T) {
	seen := map[api.Hash]int{}
	for _, size := range sizes() {
		h, _ := Commit(api.Machine{Mem: make([]uint64, size)})
		if n, is := seen[h]; is {
			t.Errorf("%d words and %d words have one commitment", n, size)
		}
		seen[h] = size
	}
}
