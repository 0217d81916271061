package collide

import (
	"bytes"
	"crypto/sha256"
	"slices"
	"testing"

	"proctor/api"
)

// wantList holds what a log tells against byte strings in order.
func wantList(t *testing.T, l *Log, summed ...string) {
	t.Helper()
	list := l.List()
	if len(list) != len(summed) {
		t.Fatalf("%d entries, not %d", len(list), len(summed))
	}
	for i, b := range summed {
		if string(list[i].Bytes) != b || list[i].Sum != sha256.Sum256([]byte(b)) {
			t.Errorf("the entry %d is %x, %x", i, list[i].Bytes, list[i].Sum)
		}
	}
}

// P5.3: a new log is empty; what is summed stands behind all others, also if it stands there already.
func TestLog(t *testing.T) {
	l := New()
	wantList(t, l)
	var summed []string
	for _, b := range []string{"abc", "", "abc", "\x00", "", "ab", "abc", "abcd"} {
		if l.Sum([]byte(b)) != sha256.Sum256([]byte(b)) {
			t.Errorf("Sum(%q)", b)
		}
		summed = append(summed, b)
		wantList(t, l, summed...)
		wantList(t, l, summed...)
	}
	if l.Sum(nil) != sha256.Sum256(nil) {
		t.Error("Sum(nil)")
	}
	wantList(t, l, append(summed, "")...)
}

// P5.3: many byte strings, of all lengths about a block's.
func TestLogGrows(t *testing.T) {
	l := New()
	var summed []string
	for n := range 2000 {
		b := bytes.Repeat([]byte{byte(n)}, n%150)
		if l.Sum(b) != sha256.Sum256(b) {
			t.Errorf("Sum of %d bytes", len(b))
		}
		summed = append(summed, string(b))
	}
	wantList(t, l, summed...)
}

// P5.3: a log that is not there sums, and remembers nothing.
func TestLogThatIsNotThere(t *testing.T) {
	var none *Log
	zero := &Log{}
	for _, l := range []*Log{none, zero} {
		wantList(t, l)
		for _, b := range []string{"", "a", "abc", "a"} {
			if l.Sum([]byte(b)) != sha256.Sum256([]byte(b)) {
				t.Errorf("Sum(%q)", b)
			}
			wantList(t, l)
		}
		if l.Sum(nil) != sha256.Sum256(nil) {
			t.Error("Sum(nil)")
		}
	}
	if zero.made || zero.summed != nil {
		t.Error("a zero log keeps something")
	}
}

// P5.3: logs know nothing of each other.
func TestLogsApart(t *testing.T) {
	one, other := New(), New()
	one.Sum([]byte("a"))
	wantList(t, other)
	other.Sum([]byte("b"))
	one.Sum([]byte("c"))
	wantList(t, one, "a", "c")
	wantList(t, other, "b")
	wantList(t, New())
}

// P5.3: what was summed is in the log as it was, whatever becomes of it.
func TestLogKeepsItsOwn(t *testing.T) {
	l := New()
	b := roomy([]byte("abc"))
	kept := slices.Clone(b[:cap(b)])
	l.Sum(b)
	if !slices.Equal(b[:cap(b)], kept) {
		t.Error("bytes that were summed did not stay")
	}
	clear(b[:cap(b)])
	wantList(t, l, "abc")
	l.Sum(b)
	_ = append(b, 1, 2, 3)
	wantList(t, l, "abc", "\x00\x00\x00")
}

// P5.3: a list that is changed after it was told changes neither the log nor another list.
func TestLogTellsItsOwn(t *testing.T) {
	l := New()
	var summed []string
	for n := range 40 {
		b := bytes.Repeat([]byte{byte(n)}, n)
		l.Sum(b)
		summed = append(summed, string(b))
		one, other := l.List(), l.List()
		spoil(one)
		_ = append(one, en(h(1), 1), en(h(2), 2))
		if !slices.EqualFunc(other, l.List(), sameEntry) {
			t.Fatalf("a changed list of %d entries is to be seen", len(one))
		}
		wantList(t, l, summed...)
	}
	spoil(l.List())
	l.Sum([]byte("z"))
	wantList(t, l, append(summed, "z")...)
}

// spoil changes all that a list reaches, the room behind the ends too.
func spoil(l []api.Hashed) {
	for i := range l {
		room := l[i].Bytes[:cap(l[i].Bytes)]
		for j := range room {
			room[j] ^= 0xff
		}
	}
	clear(l[:cap(l)])
}

func sameEntry(x, y api.Hashed) bool { return x.Sum == y.Sum && bytes.Equal(x.Bytes, y.Bytes) }

// P5.3, P5.1: nobody knows bytes that collide, so no log holds any.
func TestLogCollidesNowhere(t *testing.T) {
	l := New()
	for n := range 3000 {
		l.Sum([]byte{byte(n % 7), byte(n % 256), byte(n % 300)})
	}
	wantFind(t, "a log", l.List(), 0, 0, false)
}
