package mem

import (
	"crypto/sha256"
	"slices"
	"testing"

	"proctor/api"
)

// A Set sums one way up anew, and nothing beside it: sums that were spoilt elsewhere stay spoilt.
func TestOneWayUp(t *testing.T) {
	for depth, size := range sizes() {
		m := made(t, rising(size)...)
		for _, at := range []int{0, size / 2, size - 1} {
			for i := range m.levels {
				m.levels[i] = zero
			}
			m.Set(uint64(at), 7)
			changed := 0
			for _, h := range m.levels {
				if h != zero {
					changed++
				}
			}
			if changed != depth+1 || len(m.levels) != 2*size-1 {
				t.Errorf("Set(%d) of %d words summed %d anew, of %d", at, size, changed, len(m.levels))
			}
		}
	}
}

// The tree is one over whatever it is told to sum.
func TestTreeOfTexts(t *testing.T) {
	text := func(s string) api.Hash { return sha256.Sum256([]byte(s)) }
	tr := grow([]string{"a", "b", "c", "d"}, text)
	ab, cd := pairBy(text("a"), text("b")), pairBy(text("c"), text("d"))
	if tr.levels[tr.top()] != pairBy(ab, cd) || !slices.Equal(tr.path(2), []api.Hash{text("d"), ab}) {
		t.Errorf("the tree of four texts")
	}
	tr.put(2, "x")
	xd := pairBy(text("x"), text("d"))
	if tr.levels[tr.top()] != pairBy(ab, xd) || !slices.Equal(tr.path(0), []api.Hash{text("b"), xd}) || tr.things[2] != "x" {
		t.Errorf("the tree of four texts with another one")
	}
	one := grow([]string{"a"}, text)
	if one.put(0, "b"); one.levels[one.top()] != text("b") || len(one.path(0)) != 0 {
		t.Errorf("the tree of one text")
	}
}
