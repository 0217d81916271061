package exec

import (
	"bytes"
	"slices"
	"testing"
	"unsafe"

	"proctor/api"
	"proctor/state"
)

// held keeps lists where they are until they were held against each other.
var held [][]api.Out

// overlap says whether two lists share memory, the room behind their ends with it.
func overlap(a, b []api.Out) bool {
	held = append(held, a, b)
	size := unsafe.Sizeof(api.Out{})
	x, y := uintptr(unsafe.Pointer(unsafe.SliceData(a))), uintptr(unsafe.Pointer(unsafe.SliceData(b)))
	return x < y+uintptr(cap(b))*size && y < x+uintptr(cap(a))*size
}

// roomy is a list with filled room behind its end.
func roomy(l []api.Out) []api.Out {
	return append(slices.Clone(l), slices.Repeat([]api.Out{{To: 5, Amount: 6}}, 40)...)[:len(l)]
}

// asked are bytes to ask of a state: messages that do something, and such as do nothing.
func asked(s api.State) [][]byte {
	all := [][]byte{nil, {}, make([]byte, 104), bytesOf(deposit(0, most)), bytesOf(spending(api.MWithdraw, s, 3, 4, supply, 5))}
	for _, m := range working(s) {
		all = append(all, bytesOf(m), bytesOf(m)[:103], append(bytesOf(m), 0))
	}
	return all
}

// P8.1: a state that is handed in stays, with the room behind its withdrawals, which is not to be seen in an answer.
func TestStatesStay(t *testing.T) {
	for n := range 35 {
		tight := some(n)
		for _, b := range asked(tight) {
			loose := tight
			loose.Outs = roomy(tight.Outs)
			kept, accounts := slices.Clone(loose.Outs[:cap(loose.Outs)]), loose.Accounts
			wantDelta(t, loose, b)
			next, did, e := Delta(loose, b)
			want, wantDid, wantE := Delta(tight, b)
			if !state.Same(next, want) || did != wantDid || e != wantE {
				t.Errorf("the room behind %d withdrawals is to be seen", n)
			}
			if !slices.Equal(loose.Outs[:cap(loose.Outs)], kept) || loose.Accounts != accounts || !state.Same(tight, some(n)) {
				t.Errorf("a state of %d withdrawals did not stay", n)
			}
		}
	}
}

// P8.1, P8.2: bytes that are handed in stay, with the room behind their end, which is not to be seen in an answer.
func TestBytesStay(t *testing.T) {
	s := some(7)
	for _, m := range working(s) {
		for _, n := range []int{0, 103, 104, 105} {
			whole := append(bytesOf(m), bytesOf(m)...)
			kept := bytes.Clone(whole)
			wantDelta(t, s, whole[:n])
			next, did, _ := Delta(s, whole[:n])
			if want, wantDid, _ := Delta(s, bytes.Clone(whole[:n:n])); !state.Same(next, want) || did != wantDid {
				t.Errorf("the room behind %d bytes is to be seen", n)
			}
			if !bytes.Equal(whole, kept) {
				t.Errorf("%d bytes did not stay", n)
			}
		}
	}
}

// P8.1: what is answered is new memory, whether something was done or not.
func TestAnswersAreNew(t *testing.T) {
	for _, n := range []int{0, 1, 2, 31, 32, 33} {
		s := some(n)
		s.Outs = roomy(s.Outs)
		for _, b := range asked(s) {
			one, _, _ := Delta(s, b)
			other, _, _ := Delta(s, b)
			behind, _, _ := Delta(one, b)
			for i, pair := range [][2][]api.Out{{s.Outs, one.Outs}, {s.Outs, other.Outs}, {one.Outs, other.Outs}, {one.Outs, behind.Outs}, {s.Outs, behind.Outs}} {
				if overlap(pair[0], pair[1]) {
					t.Errorf("%d withdrawals: the lists %d share memory", n, i)
				}
			}
			held = nil
		}
	}
}

// P8.1: answers that are changed after they were told, and arguments that are changed behind a call, change nothing that is told later or was told earlier.
func TestChangedAnswers(t *testing.T) {
	for _, n := range []int{0, 1, 31, 32} {
		s := some(n)
		s.Outs = roomy(s.Outs)
		for _, b := range asked(s) {
			spoilt, _, _ := Delta(s, b)
			for i := range spoilt.Outs[:cap(spoilt.Outs)] {
				spoilt.Outs[:cap(spoilt.Outs)][i] = api.Out{To: 3, Amount: 9}
			}
			spoilt.Accounts = [32]api.Account{}
			if !state.Same(s, some(n)) {
				t.Errorf("a changed answer changed the state of %d withdrawals", n)
			}
			wantDelta(t, s, b)
			given := some(n)
			message := bytes.Clone(b)
			told, _, _ := Delta(given, message)
			clear(given.Outs)
			clear(message)
			if want, _ := judge(s, b); !state.Same(told, want) {
				t.Errorf("changed arguments are to be seen in an answer of %d withdrawals", n)
			}
		}
	}
}

// P8.1: two messages from one state do not meet in one list, though there is room behind its end.
func TestBranches(t *testing.T) {
	s := some(3)
	s.Outs = roomy(s.Outs)
	for range 20 {
		left, _, _ := Delta(s, bytesOf(spending(api.MWithdraw, s, 1, 11, 1, 1)))
		right, _, _ := Delta(s, bytesOf(spending(api.MWithdraw, s, 2, 22, 2, 2)))
		n := len(s.Outs)
		if left.Outs[n] != (api.Out{To: 11, Amount: 1}) || right.Outs[n] != (api.Out{To: 22, Amount: 2}) {
			t.Fatalf("two branches meet: %v, %v", left.Outs[n], right.Outs[n])
		}
		s = right
	}
}
