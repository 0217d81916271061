package frame

import (
	"bytes"
	"math"
	"math/rand"
	"slices"
	"testing"

	"proctor/api"
)

// wantSplit asks Split against frames that are cut by their places.
func wantSplit(t *testing.T, channel uint64, data []byte, size int) []api.Frame {
	t.Helper()
	l, e := Split(channel, data, size)
	count := max(1, (len(data)+size-1)/size)
	if e != api.OK || len(l) != count {
		t.Fatalf("Split(%d bytes, %d) has %d frames, %d", len(data), size, len(l), e)
	}
	for i, f := range l {
		want := fr(channel, i, i == count-1, data[i*size:min(len(data), i*size+size)]...)
		if !equal(f, want) {
			t.Errorf("Split(%d bytes, %d) has the frame %s at %d", len(data), size, tell(f), i)
		}
	}
	return l
}

// P3.2: Split of the document's examples.
func TestSplitOfExamples(t *testing.T) {
	cases := []struct {
		data []byte
		size int
		want []api.Frame
	}{
		{[]byte{1, 2, 3}, 2, []api.Frame{fr(7, 0, false, 1, 2), fr(7, 1, true, 3)}},
		{[]byte{1, 2, 3}, 3, []api.Frame{fr(7, 0, true, 1, 2, 3)}},
		{[]byte{1, 2, 3}, 4096, []api.Frame{fr(7, 0, true, 1, 2, 3)}},
		{[]byte{1, 2, 3}, 1, []api.Frame{fr(7, 0, false, 1), fr(7, 1, false, 2), fr(7, 2, true, 3)}},
		{[]byte{1, 2, 3, 4}, 2, []api.Frame{fr(7, 0, false, 1, 2), fr(7, 1, true, 3, 4)}},
		{nil, 5, []api.Frame{fr(7, 0, true)}},
		{[]byte{}, 1, []api.Frame{fr(7, 0, true)}},
		{nil, 4096, []api.Frame{fr(7, 0, true)}},
	}
	for i, c := range cases {
		if l, e := Split(7, c.data, c.size); e != api.OK || !slices.EqualFunc(l, c.want, equal) {
			t.Errorf("%d: Split = %s, %d", i, tell(l...), e)
		}
	}
}

// P3.2: Split of all lengths and sizes that are small, and of those about the limits.
func TestSplit(t *testing.T) {
	for n := range 70 {
		for size := 1; size <= 72; size++ {
			wantSplit(t, uint64(n*size), some(n), size)
		}
	}
	for _, size := range []int{1, 2, 3, 255, 256, 1000, 4095, 4096} {
		for _, n := range []int{0, 1, size - 1, size, size + 1, 2 * size, 1023*size - 1, 1023 * size, 1023*size + 1, 1024*size - 1, 1024 * size} {
			for _, channel := range []uint64{0, math.MaxUint64} {
				wantSplit(t, channel, some(n), size)
			}
		}
	}
}

// P3.2: sizes that may not be, and more frames than a channel has.
func TestSplitRefused(t *testing.T) {
	refused := func(data []byte, size int) {
		t.Helper()
		if l, e := Split(7, data, size); len(l) != 0 || e != api.ErrArg {
			t.Errorf("Split(%d bytes, %d) has %d frames, %d", len(data), size, len(l), e)
		}
	}
	for _, size := range []int{0, -1, -2, -4096, math.MinInt, 4097, 4098, 8192, 1 << 32, 1<<32 + 1, 1 << 53, 1 << 54, math.MaxInt} {
		for _, n := range []int{0, 1, 100, 5000} {
			refused(some(n), size)
		}
	}
	for _, size := range []int{1, 2, 3, 255, 256, 1000, 4095, 4096} {
		for _, more := range []int{1, 2, size, size + 1, 1024 * size} {
			refused(make([]byte, 1024*size+more), size)
		}
	}
}

// joined is what Join should answer: each Seq looked for from the list's beginning on.
func joined(channel uint64, l []api.Frame) ([]byte, bool) {
	var data []byte
	for seq := range 1024 {
		i := slices.IndexFunc(l, func(f api.Frame) bool { return f.Channel == channel && f.Seq == seq && len(f.Body) <= 4096 })
		if i < 0 {
			return nil, false
		}
		data = append(data, l[i].Body...)
		if l[i].Last {
			return data, true
		}
	}
	return nil, false
}

func wantJoin(t *testing.T, channel uint64, l []api.Frame, want []byte, ok bool) {
	t.Helper()
	if got, o := Join(channel, l...); !bytes.Equal(got, want) || o != ok {
		t.Errorf("Join(%d, %s) = %.24x (%d bytes), %v, not %.24x (%d bytes), %v", channel, tell(l...), got, len(got), o, want, len(want), ok)
	}
}

// P3.2: Join.
func TestJoin(t *testing.T) {
	long := make([]byte, 4097)
	cases := []struct {
		l    []api.Frame
		want []byte
		ok   bool
	}{
		{nil, nil, false},
		{[]api.Frame{}, nil, false},
		{[]api.Frame{fr(7, 0, true)}, nil, true},
		{[]api.Frame{fr(7, 0, false)}, nil, false},
		{[]api.Frame{fr(8, 0, true, 1)}, nil, false},
		{[]api.Frame{fr(7, 1, true, 3), fr(8, 0, true, 9), fr(7, 0, false, 1, 2)}, []byte{1, 2, 3}, true},
		{[]api.Frame{fr(7, 1, true, 3)}, nil, false},
		{[]api.Frame{fr(7, 1, true, 3), fr(8, 0, false, 9)}, nil, false},
		{[]api.Frame{fr(7, 0, false), fr(7, 1, true), fr(7, 2, false, 1)}, nil, true},
		{[]api.Frame{fr(7, 0, false, 1), fr(7, 1, false), fr(7, 2, true, 2)}, []byte{1, 2}, true},
		// The first of one Seq counts, be it the Last or the other.
		{[]api.Frame{fr(7, 0, true, 1), fr(7, 0, false, 2)}, []byte{1}, true},
		{[]api.Frame{fr(7, 0, false, 2), fr(7, 0, true, 1)}, nil, false},
		{[]api.Frame{fr(7, 0, false, 1), fr(7, 0, true, 2), fr(7, 1, true, 3), fr(7, 2, true, 4)}, []byte{1, 3}, true},
		{[]api.Frame{fr(7, 0, true, 1), fr(7, 0, true, 2), fr(7, 0, true, 3)}, []byte{1}, true},
		{[]api.Frame{fr(7, 0, true), fr(7, 0, true, 2)}, nil, true},
		// The least Last is the end, wherever it stands: what is behind it is not asked for.
		{[]api.Frame{fr(7, 2, true, 4), fr(7, 1, true, 3), fr(7, 0, false, 1)}, []byte{1, 3}, true},
		{[]api.Frame{fr(7, 0, false, 1), fr(7, 1, true, 3), fr(7, 2, true, 4)}, []byte{1, 3}, true},
		{[]api.Frame{fr(7, 1023, true, 4), fr(7, 0, true, 1)}, []byte{1}, true},
		{[]api.Frame{fr(7, 2, true, 4), fr(7, 0, false, 1)}, nil, false},
		{[]api.Frame{fr(7, 3, false, 4), fr(7, 0, false, 1), fr(7, 1, true, 2)}, []byte{1, 2}, true},
		// Frames that may not be are not there, neither as the first of their Seq nor as the Last.
		{[]api.Frame{fr(7, -1, true, 4), fr(7, 0, true, long...), fr(7, 0, true, 1)}, []byte{1}, true},
		{[]api.Frame{fr(7, 0, false, long...), fr(7, 0, true, 1)}, []byte{1}, true},
		{[]api.Frame{fr(7, 0, true, long...), fr(7, 0, false, 1), fr(7, 1, true, 2)}, []byte{1, 2}, true},
		{[]api.Frame{fr(7, 0, true, long...)}, nil, false},
		{[]api.Frame{fr(7, 0, false, 1), fr(7, 1, true, long...)}, nil, false},
		{[]api.Frame{fr(7, 0, false, 1), fr(7, 1, false, long...), fr(7, 2, true, 2)}, nil, false},
		{[]api.Frame{fr(7, -1, true, 4), fr(7, 0, false, 1), fr(7, 1, true, 2)}, []byte{1, 2}, true},
		{[]api.Frame{fr(7, math.MinInt, true, 4), fr(7, math.MaxInt, true, 4)}, nil, false},
		{[]api.Frame{fr(7, 1<<32, true, 4), fr(7, 1024, true)}, nil, false},
		// Others' frames, whatever they are.
		{[]api.Frame{fr(6, 0, false, 9), fr(7|1<<32, 0, true, 9), fr(7|1<<63, 0, true, 9), fr(7, 0, true, 1)}, []byte{1}, true},
		{[]api.Frame{fr(8, 0, true, 9), fr(7, 0, false, 1), fr(8, 1, true, 9), fr(7, 1, false, 2), fr(7, 2, true, 3)}, []byte{1, 2, 3}, true},
	}
	for _, c := range cases {
		wantJoin(t, 7, c.l, c.want, c.ok)
	}
	for _, channel := range []uint64{0, math.MaxUint64} {
		l := []api.Frame{fr(7, 0, true, 9), fr(channel, 0, true, 1)}
		wantJoin(t, channel, l, []byte{1}, true)
		wantJoin(t, 7, l, []byte{9}, true)
		wantJoin(t, 8, l, nil, false)
	}
}

// P3.2: a channel of all frames that there may be, and one that has them all, but none of them the Last.
func TestJoinOfMostFrames(t *testing.T) {
	data := some(api.MaxSeq * api.MaxFrame)
	l := wantSplit(t, 7, data, api.MaxFrame)
	wantJoin(t, 7, l, data, true)
	slices.Reverse(l)
	wantJoin(t, 7, l, data, true)
	l[0].Last = false
	wantJoin(t, 7, l, nil, false)
	wantJoin(t, 7, append(slices.Clone(l), fr(7, 1024, true)), nil, false)
	wantJoin(t, 7, append(slices.Clone(l), fr(7, 1023, true)), nil, false)
}

// P3.2: all lists of up to four frames of kinds that matter.
func TestJoinOfFewFrames(t *testing.T) {
	kinds := []api.Frame{
		fr(7, 0, false, 1), fr(7, 0, false, 2), fr(7, 0, true, 3), fr(7, 0, true),
		fr(7, 1, false, 4), fr(7, 1, true, 5), fr(7, 1, true, 6, 7), fr(7, 2, false), fr(7, 2, true, 8),
		fr(8, 0, false, 10), fr(8, 0, true, 11), fr(8, 1, true, 12),
		fr(7, -1, true, 13), fr(7, 1024, true, 14), fr(7, 0, true, make([]byte, 4097)...), fr(7, 1, false, make([]byte, 4097)...),
	}
	for n := range 5 {
		everyChoice(n, kinds, func(l []api.Frame) {
			want, ok := joined(7, l)
			if got, o := Join(7, l...); !bytes.Equal(got, want) || o != ok {
				wantJoin(t, 7, l, want, ok)
			}
		})
	}
}

// orders hands out l in every order.
func orders(l []api.Frame, take func([]api.Frame)) {
	if len(l) == 0 {
		take(nil)
		return
	}
	for i, f := range l {
		orders(slices.Delete(slices.Clone(l), i, i+1), func(rest []api.Frame) { take(append(rest, f)) })
	}
}

// P3.3: Join of Split is the data, in every order, and nothing without one of them.
func TestJoinInEveryOrder(t *testing.T) {
	for _, n := range []int{0, 1, 2, 3, 4, 5, 6, 11, 12} {
		data := some(n)
		for size := (n + 5) / 6; size <= n+1; size++ {
			l := wantSplit(t, 7, data, max(size, 1))
			orders(l, func(some []api.Frame) { wantJoin(t, 7, some, data, true) })
			for i := range l {
				orders(slices.Delete(slices.Clone(l), i, i+1), func(some []api.Frame) { wantJoin(t, 7, some, nil, false) })
			}
		}
	}
}

// P3.3: Join of Split with frames doubled, others' and such as may not be between, in some orders, and without each of them.
func TestJoinAmongOthers(t *testing.T) {
	source := rand.New(rand.NewSource(3))
	for range 300 {
		data := make([]byte, source.Intn(400))
		source.Read(data)
		size := source.Intn(60) + 1
		own := wantSplit(t, 7, data, size)
		noise := append(wantSplit(t, 8, some(source.Intn(300)), size), wantSplit(t, 7|1<<32, some(90), 7)...)
		noise = append(noise, mayNot()...)
		mixed := func(l []api.Frame) []api.Frame {
			all := slices.Concat(l, l, noise, l[:source.Intn(len(l)+1)])
			source.Shuffle(len(all), func(i, j int) { all[i], all[j] = all[j], all[i] })
			return all
		}
		wantJoin(t, 7, mixed(own), data, true)
		for i := range own {
			wantJoin(t, 7, mixed(slices.Delete(slices.Clone(own), i, i+1)), nil, false)
		}
	}
}

// P3.3: a channel that goes as bytes and comes back.
func TestChannelAsBytes(t *testing.T) {
	data := some(3000)
	var back []api.Frame
	for _, f := range wantSplit(t, math.MaxUint64, data, 3) {
		b, e := Write(f)
		g, h := Read(b)
		if e != api.OK || h != api.OK {
			t.Fatalf("the frame %v: %d, %d", f, e, h)
		}
		back = append([]api.Frame{g}, back...)
	}
	wantJoin(t, math.MaxUint64, back, data, true)
}

// FuzzJoin makes frames of three bytes each, and asks Join against joined.
func FuzzJoin(f *testing.F) {
	f.Add([]byte{0, 0, 1, 0, 0x81, 2, 1, 0x82, 3})
	f.Fuzz(func(t *testing.T, b []byte) {
		var l []api.Frame
		for ; len(b) >= 3; b = b[3:] {
			l = append(l, fr(uint64(b[0]%3), int(b[1]%8)-1, b[1] >= 128, bytes.Repeat(b[2:3], int(b[2])*17)...))
		}
		want, ok := joined(1, l)
		wantJoin(t, 1, l, want, ok)
	})
}
