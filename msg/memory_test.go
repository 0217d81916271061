package msg

import (
	"bytes"
	"testing"
	"unsafe"

	"proctor/api"
)

// held keeps answers where they are until they were held against each other.
var held [][]byte

// overlap says whether two lists share memory, the room behind their ends with it.
func overlap(a, b []byte) bool {
	held = append(held, a, b)
	x, y := uintptr(unsafe.Pointer(unsafe.SliceData(a))), uintptr(unsafe.Pointer(unsafe.SliceData(b)))
	return x < y+uintptr(cap(b)) && y < x+uintptr(cap(a))
}

// P7.1: bytes that are handed in stay, with the room behind their end, which is not to be seen in an answer.
func TestBytesStay(t *testing.T) {
	for _, m := range []api.Msg{{}, deposit, transfer, withdraw} {
		for _, n := range []int{0, 103, 104, 105} {
			for fill := range 4 {
				whole := append(bytesOf(m), bytes.Repeat([]byte{byte(fill)}, 104)...)
				kept := bytes.Clone(whole)
				wantBytes(t, whole[:n])
				read, e := Read(whole[:n])
				if want, f := Read(bytes.Clone(whole[:n:n])); read != want || e != f {
					t.Errorf("the room behind %d bytes is to be seen", n)
				}
				if !bytes.Equal(whole, kept) {
					t.Errorf("%d bytes did not stay", n)
				}
			}
		}
	}
}

// P7.1: what is answered is new memory, and stays when the bytes that were handed in are changed.
func TestAnswersAreNew(t *testing.T) {
	for _, m := range []api.Msg{deposit, transfer, withdraw} {
		one, _ := Write(m)
		other, _ := Write(m)
		if overlap(one, other) {
			t.Errorf("two answers for %v share memory", m)
		}
		read, _ := Read(one)
		words, _ := Words(one)
		clear(one)
		if read != m || words != numbersOf(other) {
			t.Errorf("what was read of %v is not its own", m)
		}
	}
	held = nil
}

// P7.1, P7.2: an answer that is changed after it was told changes nothing that is told later.
func TestChangedAnswers(t *testing.T) {
	for _, m := range []api.Msg{deposit, transfer, withdraw} {
		b, _ := Write(m)
		for i := range b[:cap(b)] {
			b[:cap(b)][i] ^= 255
		}
		w, _ := Words(bytesOf(m))
		clear(w[:])
		read, _ := Read(bytesOf(m))
		read.Key[3], read.Next[4], read.Amount = 9, 9, 0
		wantMessage(t, m)
	}
}

func FuzzRead(f *testing.F) {
	for _, m := range []api.Msg{{}, deposit, transfer, withdraw} {
		f.Add(bytesOf(m))
	}
	f.Add([]byte{})
	f.Fuzz(func(t *testing.T, b []byte) {
		kept := bytes.Clone(b)
		wantBytes(t, b)
		if !bytes.Equal(b, kept) {
			t.Errorf("%x did not stay", kept)
		}
	})
}

func FuzzWrite(f *testing.F) {
	for _, m := range []api.Msg{deposit, transfer, withdraw} {
		f.Add(uint8(m.Kind), m.From, m.To, m.Amount, m.Nonce, m.Key[:], m.Next[:])
	}
	f.Fuzz(func(t *testing.T, kind uint8, from, to, amount, nonce uint64, key, next []byte) {
		m := api.Msg{Kind: api.MsgKind(kind), From: from, To: to, Amount: amount, Nonce: nonce}
		copy(m.Key[:], key)
		copy(m.Next[:], next)
		wantMessage(t, m)
	})
}
