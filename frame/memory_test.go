package frame

import (
	"bytes"
	"slices"
	"testing"
	"unsafe"

	"proctor/api"
)

// span is where a list lies, the room behind its end with it.
type span struct{ begin, end uintptr }

func spanOf[T any](l []T) span {
	var one T
	begin := uintptr(unsafe.Pointer(unsafe.SliceData(l)))
	return span{begin, begin + uintptr(cap(l))*unsafe.Sizeof(one)}
}

// spansOf are where all lists of some frames lie.
func spansOf(l []api.Frame) []span {
	all := []span{spanOf(l)}
	for _, f := range l {
		all = append(all, spanOf(f.Body))
	}
	return all
}

// held keeps lists where they are until they were held against each other.
var held [][]api.Frame

// wantApart finds two lists among some that share memory.
func wantApart(t *testing.T, lists ...[]api.Frame) {
	t.Helper()
	held = lists
	var all []span
	for _, l := range held {
		all = append(all, spansOf(l)...)
	}
	all = slices.DeleteFunc(all, func(s span) bool { return s.begin == s.end })
	slices.SortFunc(all, func(s, u span) int {
		if s.begin < u.begin {
			return -1
		}
		return 1
	})
	for i := 1; i < len(all); i++ {
		if all[i].begin < all[i-1].end {
			t.Errorf("two lists share memory")
			return
		}
	}
}

// only is bytes as the body of a frame, that they may be held against frames.
func only(b []byte) []api.Frame { return []api.Frame{{Body: b}} }

// roomy is bytes with filled room behind their end.
func roomy(b []byte) []byte {
	return append(bytes.Clone(b), bytes.Repeat([]byte{0xa5}, 40)...)[:len(b)]
}

// wholly is bytes with the room behind their end.
func wholly(b []byte) []byte { return bytes.Clone(b[:cap(b)]) }

// P3.1: what is handed to Write and Read stays, the room behind its end too, which is not to be seen in an answer.
func TestOneFrameStays(t *testing.T) {
	for _, f := range append(unlike(), mayNot()...) {
		loose := f
		loose.Body = roomy(f.Body)
		kept := wholly(loose.Body)
		b, e := Write(loose)
		if want, wantE := Write(f); !bytes.Equal(b, want) || e != wantE || !bytes.Equal(wholly(loose.Body), kept) {
			t.Errorf("Write of the frame %s", tell(f))
		}
		for n := range min(len(b)+1, 12) {
			part := roomy(b[:len(b)-n])
			kept := wholly(part)
			g, e := Read(part)
			want, wantE := Read(slices.Clip(bytes.Clone(part)))
			if !equal(g, want) || e != wantE || !bytes.Equal(wholly(part), kept) {
				t.Errorf("Read of the bytes of the frame %s less %d", tell(f), n)
			}
		}
	}
}

// P3.2: what is handed to Split and Join stays, the room behind its end too, which is not to be seen in an answer.
func TestChannelStays(t *testing.T) {
	for n := range 40 {
		for size := -1; size < 42; size++ {
			data := roomy(some(n))
			kept := wholly(data)
			l, e := Split(7, data, size)
			want, wantE := Split(7, slices.Clip(bytes.Clone(data)), size)
			if !slices.EqualFunc(l, want, equal) || e != wantE || !bytes.Equal(wholly(data), kept) {
				t.Errorf("Split of %d bytes by %d", n, size)
			}
			wantFramesStay(t, l)
			slices.Reverse(l)
			wantFramesStay(t, l)
			if len(l) > 0 {
				wantFramesStay(t, l[1:])
			}
		}
	}
	wantFramesStay(t, append(unlike(), mayNot()...))
}

func wantFramesStay(t *testing.T, l []api.Frame) {
	t.Helper()
	want, ok := Join(7, l...)
	// Frames in the room behind the end that would count.
	loose := append(slices.Clone(l), fr(7, 0, true, 99), fr(7, 1, true, 99), fr(7, len(l), true, 99))
	for i := range loose {
		loose[i].Body = roomy(loose[i].Body)
	}
	kept := slices.Clone(loose)
	var bodies [][]byte
	for _, f := range loose {
		bodies = append(bodies, wholly(f.Body))
	}
	if got, o := Join(7, loose[:len(l)]...); !bytes.Equal(got, want) || o != ok {
		t.Errorf("the room is to be seen in Join of %d frames", len(l))
	}
	for i, f := range loose {
		if !equal(f, kept[i]) || !bytes.Equal(wholly(f.Body), bodies[i]) {
			t.Errorf("Join of %d frames did not leave the frame %d", len(l), i)
		}
	}
}

// P3.1, P3.2: what is answered is new memory.
func TestAnswersAreNew(t *testing.T) {
	for _, f := range unlike() {
		f.Body = bytes.Clone(f.Body)
		one, _ := Write(f)
		two, _ := Write(f)
		first, _ := Read(one)
		second, _ := Read(one)
		wantApart(t, only(f.Body), only(one), only(two), []api.Frame{first}, []api.Frame{second})
	}
	for n := range 40 {
		data := some(n)
		for size := 1; size < 42; size++ {
			one, _ := Split(7, data, size)
			two, _ := Split(7, data, size)
			first, _ := Join(7, one...)
			second, _ := Join(7, one...)
			wantApart(t, only(data), one, two, only(first), only(second))
		}
	}
}

// P3.2: a frame of Split that grows leaves the others.
func TestFramesGrowApart(t *testing.T) {
	data := some(30)
	l, _ := Split(7, data, 4)
	for i := range l {
		l[i].Body = append(l[i].Body, 0xee, 0xee, 0xee)
	}
	for i, f := range l {
		if want := append(bytes.Clone(data[4*i:min(30, 4*i+4)]), 0xee, 0xee, 0xee); !bytes.Equal(f.Body, want) {
			t.Errorf("the frame %d holds %x", i, f.Body)
		}
	}
	if !bytes.Equal(data, some(30)) {
		t.Error("the data did not stay")
	}
}
