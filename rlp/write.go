package rlp

import (
	"slices"

	"proctor/api"
)

// What a form's first byte is counted from, and up to which length it holds the length itself.
const (
	bytesMark = 128
	listMark  = 192
	shortMost = 55
)

// grow lays the form of x behind what is there, of which at most MaxBytes bytes are; lists is how many lists deep x may be.
func grow(form []byte, x api.Item, lists int) []byte {
	if x.IsList {
		return growList(form, x, lists)
	}
	if len(x.List) > 0 || len(x.Bytes) > api.MaxBytes-len(form) {
		panic(wrong{api.ErrArg})
	}
	if len(x.Bytes) != 1 || x.Bytes[0] >= bytesMark {
		form = append(form, head(bytesMark, len(x.Bytes))...)
	}
	return bounded(append(form, x.Bytes...))
}

// growList puts a list's head ahead of the forms of its items when these are there, for it tells their length.
func growList(form []byte, x api.Item, lists int) []byte {
	if lists == 0 || len(x.Bytes) > 0 {
		panic(wrong{api.ErrArg})
	}
	begin := len(form)
	for _, y := range x.List {
		form = grow(form, y, lists-1)
	}
	return bounded(slices.Insert(form, begin, head(listMark, len(form)-begin)...))
}

// bounded leaves as soon as the bytes are too many: an item may have far more in it than its limits let be looked at.
func bounded(form []byte) []byte {
	if len(form) > api.MaxBytes {
		panic(wrong{api.ErrArg})
	}
	return form
}

// head is what stands ahead of n bytes of a form.
func head(mark byte, n int) []byte {
	if n <= shortMost {
		return []byte{mark + byte(n)}
	}
	length := highestFirst(n)
	return append([]byte{mark + shortMost + byte(len(length))}, length...)
}

// highestFirst are the bytes of a number, without a 0 ahead.
func highestFirst[N int | uint64](n N) []byte {
	var b []byte
	for ; n > 0; n >>= 8 {
		b = append(b, byte(n))
	}
	slices.Reverse(b)
	return b
}
