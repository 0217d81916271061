package msg

import (
	"encoding/binary"
	"math"
	"slices"

	"proctor/api"
)

// The second judge: the chapter's table as bounds of the 13 words, with the library's way to write numbers.

const most = math.MaxUint64

// bounds is the least and the greatest that a word may be.
type bounds struct{ least, greatest uint64 }

var (
	none    = bounds{0, 0}
	any64   = bounds{0, most}
	account = bounds{0, 31}
	some    = bounds{1, most}
)

// boundsOf is the bounds of each word of a message of a Kind, behind the Kind itself.
func boundsOf(kind uint64) ([]bounds, bool) {
	anySums, noSums := slices.Repeat([]bounds{any64}, 8), slices.Repeat([]bounds{none}, 8)
	switch kind {
	case 1:
		return append([]bounds{none, account, some, none}, noSums...), true
	case 2:
		return append([]bounds{account, account, any64, any64}, anySums...), true
	case 3:
		return append([]bounds{account, any64, some, any64}, anySums...), true
	}
	return nil, false
}

// wordsMay says whether words are those of a message that may be.
func wordsMay(words [13]uint64) bool {
	l, ok := boundsOf(words[0])
	for i, b := range l {
		ok = ok && b.least <= words[i+1] && words[i+1] <= b.greatest
	}
	return ok
}

// bytesOf is the words of a message as bytes, whether it may be or not.
func bytesOf(m api.Msg) []byte {
	var b []byte
	for _, n := range []uint64{uint64(m.Kind), m.From, m.To, m.Amount, m.Nonce} {
		b = binary.BigEndian.AppendUint64(b, n)
	}
	return slices.Concat(b, m.Key[:], m.Next[:])
}

// numbersOf is the 13 numbers of 104 bytes.
func numbersOf(b []byte) [13]uint64 {
	var words [13]uint64
	for i := range words {
		words[i] = binary.BigEndian.Uint64(b[8*i:])
	}
	return words
}

func mayBe(m api.Msg) bool { return wordsMay(numbersOf(bytesOf(m))) }

// errorOfWords is what Words must answer beside its numbers.
func errorOfWords(b []byte) api.Errno {
	switch {
	case len(b) < 104:
		return api.ErrShort
	case len(b) > 104:
		return api.ErrForm
	}
	return api.OK
}

// readOf is what Read must answer.
func readOf(b []byte) (api.Msg, api.Errno) {
	if e := errorOfWords(b); e != api.OK {
		return api.Msg{}, e
	}
	w := numbersOf(b)
	if !wordsMay(w) {
		return api.Msg{}, api.ErrForm
	}
	return api.Msg{Kind: api.MsgKind(b[7]), From: w[1], To: w[2], Amount: w[3], Nonce: w[4], Key: api.Hash(b[40:72]), Next: api.Hash(b[72:104])}, api.OK
}
