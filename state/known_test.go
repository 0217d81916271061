package state

import (
	"bytes"
	"slices"
	"testing"

	"proctor/api"
	"proctor/collide"
	"proctor/sha"
)

func sameEntry(x, y api.Hashed) bool { return bytes.Equal(x.Bytes, y.Bytes) && x.Sum == y.Sum }

// wantKnown holds Known against the second judge.
func wantKnown(t *testing.T, s api.State) {
	t.Helper()
	l, e := Known(s)
	if e != api.OK || !slices.EqualFunc(l, knownOf(s), sameEntry) {
		t.Errorf("Known with %d withdrawals = %d entries, %d", len(s.Outs), len(l), e)
	}
}

// P6.4: what is known with each number of withdrawals.
func TestKnown(t *testing.T) {
	for n := range 33 {
		wantKnown(t, some(n))
		wantKnown(t, api.State{Outs: make([]api.Out, n)})
		if l, _ := Known(some(n)); len(l) != 96+n {
			t.Errorf("Known with %d withdrawals has %d entries", n, len(l))
		}
	}
}

// P6.4: the document's example, and where the entries stand.
func TestKnownOfNothing(t *testing.T) {
	l, e := Known(api.State{})
	if len(l) != 96 || e != api.OK {
		t.Fatalf("Known = %d entries, %d", len(l), e)
	}
	root, _ := Root(api.State{})
	for i, x := range l {
		length := 65
		if i < 32 {
			length = 49
		}
		if len(x.Bytes) != length || x.Sum != sha.Sum(x.Bytes) {
			t.Errorf("the entry %d has %d bytes", i, len(x.Bytes))
		}
	}
	if l[95].Sum != root || !bytes.Equal(l[95].Bytes[1:33], l[94].Sum[:]) || !bytes.Equal(l[95].Bytes[33:], make([]byte, 32)) {
		t.Error("the root is not at the end")
	}
}

// P6.4: what is known may be left early, at each entry.
func TestKnownLeftEarly(t *testing.T) {
	s := some(3)
	want := knownOf(s)
	for n := range len(want) + 1 {
		var got []api.Hashed
		for x := range known(s) {
			got = append(got, x)
			if len(got) > n {
				break
			}
		}
		if !slices.EqualFunc(got, want[:min(n+1, len(want))], sameEntry) {
			t.Errorf("%d entries were told ahead of the end %d", len(got), n)
		}
	}
}

// P6.5: the bytes of each leaf and of its way up to the root are among what is known, so that whoever comes to the root by another way exhibits two byte strings with one sum.
func TestWaysAreKnown(t *testing.T) {
	for _, n := range []int{0, 1, 7, 32} {
		s := some(n)
		root, _ := Root(s)
		l, _ := Known(s)
		log := map[string]api.Hash{}
		for _, x := range l {
			log[string(x.Bytes)] = x.Sum
		}
		want := func(i int, leaf []byte, w api.Witness) {
			way, e := collide.Path(i, sha.Sum(leaf), w.Path[0], w.Path[1], w.Path[2], w.Path[3], w.Path[4], w.Other, countOf(w.Count))
			if e != api.OK || way[6].Sum != root {
				t.Fatalf("the way from %d does not lead to the root", i)
			}
			for _, x := range append(way, hashed(leaf)) {
				if sum, there := log[string(x.Bytes)]; !there || sum != x.Sum {
					t.Errorf("the way from %d is not known", i)
				}
			}
		}
		for i, a := range s.Accounts {
			w, _ := Prove(s, i)
			want(i, accountLeafBytes(a), w)
		}
		for i, o := range s.Outs {
			w, _ := ProveOut(s, i)
			want(32+i, outLeafBytes(o), w)
		}
		if _, _, ok := collide.Find(l...); ok {
			t.Error("what is known collides")
		}
	}
}
