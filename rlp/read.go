package rlp

import (
	"bytes"

	"proctor/api"
)

const numberBytes = 8

// readWhole is the item of which b is the form from its beginning to its end.
func readWhole(b []byte) api.Item {
	x, rest := read(b, api.MaxDepth)
	if len(rest) > 0 {
		panic(wrong{api.ErrForm})
	}
	return x
}

// read is the item at the beginning of b, and what is left of b; lists is how many lists deep it may be.
func read(b []byte, lists int) (api.Item, []byte) {
	first, rest := cut(b, 1)
	switch mark := first[0]; {
	case mark < bytesMark:
		return api.Item{Bytes: bytes.Clone(first)}, rest
	case mark < listMark:
		body, rest := readBody(rest, int(mark-bytesMark))
		if len(body) == 1 && body[0] < bytesMark {
			panic(wrong{api.ErrForm})
		}
		return api.Item{Bytes: bytes.Clone(body)}, rest
	case lists == 0:
		panic(wrong{api.ErrForm})
	default:
		body, rest := readBody(rest, int(mark-listMark))
		return api.Item{IsList: true, List: readList(body, lists-1)}, rest
	}
}

// readList are the items whose forms fill b.
func readList(b []byte, lists int) []api.Item {
	var items []api.Item
	for len(b) > 0 {
		var x api.Item
		x, b = read(b, lists)
		items = append(items, x)
	}
	return items
}

// readBody is what the head stands ahead of, and what is left behind that. The head told short: a length, or, above shortMost, of how many bytes the length is that comes first.
func readBody(b []byte, short int) (body, rest []byte) {
	if short <= shortMost {
		return cut(b, short)
	}
	length, rest := cut(b, short-shortMost)
	n := number(length)
	if length[0] == 0 || n <= shortMost {
		panic(wrong{api.ErrForm})
	}
	// Held against what is left ahead of the conversion, for it may be more than an int holds.
	if n > uint64(len(rest)) {
		panic(wrong{api.ErrShort})
	}
	return cut(rest, int(n))
}

// cut is the first n bytes of b, and the others; neither reaches beyond its own end.
func cut(b []byte, n int) (first, rest []byte) {
	if n > len(b) {
		panic(wrong{api.ErrShort})
	}
	return b[:n:n], b[n:len(b):len(b)]
}

// number is what at most numberBytes bytes say, the highest first.
func number(b []byte) uint64 {
	var n uint64
	for _, c := range b {
		n = n<<8 | uint64(c)
	}
	return n
}
