package rlp

import (
	"bytes"
	"slices"
	"testing"
	"unsafe"

	"proctor/api"
)

// span is where a list lies, the room behind its end with it.
type span struct{ begin, end uintptr }

func spanOf[T any](l []T) span {
	var one T
	begin := uintptr(unsafe.Pointer(unsafe.SliceData(l)))
	return span{begin, begin + uintptr(cap(l))*unsafe.Sizeof(one)}
}

// spansOf are where all lists of an item lie.
func spansOf(x api.Item) []span {
	all := []span{spanOf(x.Bytes), spanOf(x.List)}
	for _, y := range x.List {
		all = append(all, spansOf(y)...)
	}
	return all
}

// held keeps items where they are until they were held against each other.
var held []api.Item

// wantApart finds two lists of some items that share memory.
func wantApart(t *testing.T, items ...api.Item) {
	t.Helper()
	held = items
	var all []span
	for _, x := range held {
		all = append(all, spansOf(x)...)
	}
	all = slices.DeleteFunc(all, func(s span) bool { return s.begin == s.end })
	slices.SortFunc(all, func(s, u span) int {
		if s.begin < u.begin {
			return -1
		}
		return 1
	})
	for i := 1; i < len(all); i++ {
		if all[i].begin < all[i-1].end {
			t.Errorf("two lists share memory")
			return
		}
	}
}

// roomy is an item whose every list has filled room behind its end.
func roomy(x api.Item) api.Item {
	b := append(bytes.Clone(x.Bytes), bytes.Repeat([]byte{0xa5}, 40)...)
	l := make([]api.Item, 0, len(x.List)+3)
	for _, y := range x.List {
		l = append(l, roomy(y))
	}
	l = append(l, by(0xa5), of(by(0xa5)), by())
	return api.Item{IsList: x.IsList, Bytes: b[:len(x.Bytes)], List: l[:len(x.List)]}
}

// wholly is an item with the room behind each list's end as a part of it.
func wholly(x api.Item) api.Item {
	x.Bytes = bytes.Clone(x.Bytes[:cap(x.Bytes)])
	x.List = slices.Clone(x.List[:cap(x.List)])
	for i := range x.List {
		x.List[i] = wholly(x.List[i])
	}
	return x
}

// few are the items of unlike of which it doesn't take long to go through every part, over and over.
func few() []api.Item {
	return slices.DeleteFunc(unlike(), func(x api.Item) bool { return len(x.List) > 1000 })
}

// P2.1, P2.3: items that are handed in stay as they are, the room behind their ends too, which is not to be seen in an answer.
func TestItemsStay(t *testing.T) {
	for i, x := range append(few(), append(mal(), within(17, by()), some(65534), by(0), by(1, 2, 3))...) {
		loose := roomy(x)
		kept := wholly(loose)
		form, e := Encode(loose)
		may, same := May(loose), Same(loose, x)
		n, f := ReadNum(loose)
		if !equal(wholly(loose), kept) {
			t.Errorf("%d did not stay", i)
		}
		wantForm, wantE := Encode(x)
		wantN, wantF := ReadNum(x)
		if !bytes.Equal(form, wantForm) || e != wantE || may != May(x) || same != May(x) || n != wantN || f != wantF {
			t.Errorf("%d: the room is to be seen in an answer", i)
		}
	}
}

// P2.2: bytes that are handed in stay as they are, the room behind their end too.
func TestBytesStay(t *testing.T) {
	for _, x := range few() {
		form, _ := Encode(x)
		for n := range min(len(form), 70) {
			for _, b := range [][]byte{form[:len(form)-n], append([]byte{0xc1 + byte(n)}, form...)} {
				whole := append(bytes.Clone(b), bytes.Repeat([]byte{0x05}, 300)...)
				kept := bytes.Clone(whole)
				got, e := Decode(whole[:len(b)])
				if !bytes.Equal(whole, kept) {
					t.Fatalf("%.20x did not stay", b)
				}
				if want, wantE := Decode(slices.Clip(bytes.Clone(b))); !equal(got, want) || e != wantE {
					t.Fatalf("the room behind %.20x is to be seen in the answer", b)
				}
			}
		}
	}
}

// P2.1, P2.2, P2.3: what is answered is new memory.
func TestAnswersAreNew(t *testing.T) {
	for _, x := range unlike() {
		x = copied(x)
		first, _ := Encode(x)
		second, _ := Encode(x)
		wantApart(t, x, by(first...), by(second...))
		one, _ := Decode(first)
		two, _ := Decode(first)
		wantApart(t, one, two, by(first...))
	}
	for _, n := range someNumbers() {
		wantApart(t, Num(n), Num(n))
	}
}

// P2.1: items whose lists share memory may be, and are written as any others.
func TestItemsThatShare(t *testing.T) {
	part := some(3)
	x := of(part, part, of(part, part))
	x.List[2].List[1].Bytes = part.Bytes[:2]
	want := of(some(3), some(3), of(some(3), by(200, 201)))
	if !Same(x, want) {
		t.Error("Same")
	}
	wantForm(t, x, []byte{0xd0, 0x83, 200, 201, 202, 0x83, 200, 201, 202, 0xc7, 0x83, 200, 201, 202, 0x82, 200, 201})
}
