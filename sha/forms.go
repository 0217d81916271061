package sha

import "proctor/api"

const hexDigits = "0123456789abcdef"

// Words is a sum as four numbers, the highest byte of each first.
func Words(h api.Hash) [4]uint64 {
	var w [4]uint64
	for i, b := range h {
		w[i/8] <<= 8
		w[i/8] |= uint64(b)
	}
	return w
}

// From is the sum whose Words w is.
func From(w [4]uint64) api.Hash {
	var h api.Hash
	for i := range h {
		h[i] = byte(w[i/8] >> (56 - 8*(i%8)))
	}
	return h
}

// Hex is a sum as 64 digits.
func Hex(h api.Hash) string {
	digits := make([]byte, 0, 2*len(h))
	for _, b := range h {
		digits = append(digits, hexDigits[b>>4], hexDigits[b&15])
	}
	return string(digits)
}

// Unhex is the sum whose Hex s is, or ErrForm.
func Unhex(s string) (api.Hash, api.Errno) {
	var h api.Hash
	if len(s) != 2*len(h) {
		return api.Hash{}, api.ErrForm
	}
	for i := range h {
		high, okHigh := digitValue(s[2*i])
		low, okLow := digitValue(s[2*i+1])
		if !okHigh || !okLow {
			return api.Hash{}, api.ErrForm
		}
		h[i] = high<<4 | low
	}
	return h, api.OK
}

// digitValue takes small letters alone: a sum has one Hex.
func digitValue(c byte) (byte, bool) {
	switch {
	case '0' <= c && c <= '9':
		return c - '0', true
	case 'a' <= c && c <= 'f':
		return c - 'a' + 10, true
	}
	return 0, false
}
