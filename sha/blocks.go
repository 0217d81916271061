package sha

import "proctor/api"

const (
	blockBytes  = 64
	lengthBytes = 8
)

// roundNumbers are the first 32 bits of the fractional parts of the cube roots of the first 64 primes.
func roundNumbers() [64]uint32 {
	return [64]uint32{
		0x428a2f98, 0x71374491, 0xb5c0fbcf, 0xe9b5dba5, 0x3956c25b, 0x59f111f1, 0x923f82a4, 0xab1c5ed5,
		0xd807aa98, 0x12835b01, 0x243185be, 0x550c7dc3, 0x72be5d74, 0x80deb1fe, 0x9bdc06a7, 0xc19bf174,
		0xe49b69c1, 0xefbe4786, 0x0fc19dc6, 0x240ca1cc, 0x2de92c6f, 0x4a7484aa, 0x5cb0a9dc, 0x76f988da,
		0x983e5152, 0xa831c66d, 0xb00327c8, 0xbf597fc7, 0xc6e00bf3, 0xd5a79147, 0x06ca6351, 0x14292967,
		0x27b70a85, 0x2e1b2138, 0x4d2c6dfc, 0x53380d13, 0x650a7354, 0x766a0abb, 0x81c2c92e, 0x92722c85,
		0xa2bfe8a1, 0xa81a664b, 0xc24b8b70, 0xc76c51a3, 0xd192e819, 0xd6990624, 0xf40e3585, 0x106aa070,
		0x19a4c116, 0x1e376c08, 0x2748774c, 0x34b0bcb5, 0x391c0cb3, 0x4ed8aa4a, 0x5b9cca4f, 0x682e6ff3,
		0x748f82ee, 0x78a5636f, 0x84c87814, 0x8cc70208, 0x90befffa, 0xa4506ceb, 0xbef9a3f7, 0xc67178f2,
	}
}

// firstWords are h0 to h7 ahead of the first block.
func firstWords() [8]uint32 {
	return [8]uint32{
		0x6a09e667, 0xbb67ae85, 0x3c6ef372, 0xa54ff53a,
		0x510e527f, 0x9b05688c, 0x1f83d9ab, 0x5be0cd19,
	}
}

// lastRounds is how many blocks hold the rest of the bytes, the byte behind them and their length.
func lastRounds(rest int) int {
	if rest+1+lengthBytes > blockBytes {
		return 2
	}
	return 1
}

// lastBlocks are the bytes that fill no block, padded; total is how many bytes there are in all.
// They are laid in new memory, for the room behind the rest is the caller's.
func lastBlocks(rest []byte, total int) []byte {
	padded := make([]byte, lastRounds(len(rest))*blockBytes)
	copy(padded, rest)
	padded[len(rest)] = 0x80
	bits := uint64(total) << 3
	for i := range lengthBytes {
		padded[len(padded)-1-i] = byte(bits >> (8 * i))
	}
	return padded
}

// absorb goes through whole blocks.
func absorb(h [8]uint32, b []byte, k *[64]uint32) [8]uint32 {
	for i := 0; i < len(b); i += blockBytes {
		w := schedule(b[i : i+blockBytes : i+blockBytes])
		h = compress(h, &w, k)
	}
	return h
}

// schedule are w0 to w63 of a block.
func schedule(block []byte) [64]uint32 {
	var w [64]uint32
	for t := range 16 {
		p := block[4*t : 4*t+4 : 4*t+4]
		w[t] = uint32(p[0])<<24 | uint32(p[1])<<16 | uint32(p[2])<<8 | uint32(p[3])
	}
	for t := 16; t < 64; t++ {
		w[t] = smallSigma1(w[t-2]) + w[t-7] + smallSigma0(w[t-15]) + w[t-16]
	}
	return w
}

// compress is h behind one block more.
func compress(h [8]uint32, w, k *[64]uint32) [8]uint32 {
	a, b, c, d, e, f, g, last := h[0], h[1], h[2], h[3], h[4], h[5], h[6], h[7]
	for t := range 64 {
		t1 := last + bigSigma1(e) + choose(e, f, g) + k[t] + w[t]
		t2 := bigSigma0(a) + majority(a, b, c)
		last, g, f, e, d, c, b, a = g, f, e, d+t1, c, b, a, t1+t2
	}
	h[0] += a
	h[1] += b
	h[2] += c
	h[3] += d
	h[4] += e
	h[5] += f
	h[6] += g
	h[7] += last
	return h
}

func turnRight(x uint32, n uint) uint32 { return x>>n | x<<(32-n) }

func smallSigma0(x uint32) uint32 { return turnRight(x, 7) ^ turnRight(x, 18) ^ x>>3 }

func smallSigma1(x uint32) uint32 { return turnRight(x, 17) ^ turnRight(x, 19) ^ x>>10 }

func bigSigma0(x uint32) uint32 { return turnRight(x, 2) ^ turnRight(x, 13) ^ turnRight(x, 22) }

func bigSigma1(x uint32) uint32 { return turnRight(x, 6) ^ turnRight(x, 11) ^ turnRight(x, 25) }

func choose(x, y, z uint32) uint32 { return x&y | ^x&z }

func majority(x, y, z uint32) uint32 { return x&y | x&z | y&z }

// fromWords lays eight words of 32 bits out as a sum.
func fromWords(words [8]uint32) api.Hash {
	var h api.Hash
	for i, w := range words {
		h[4*i] = byte(w >> 24)
		h[4*i+1] = byte(w >> 16)
		h[4*i+2] = byte(w >> 8)
		h[4*i+3] = byte(w)
	}
	return h
}
