package digest

import (
	"math/bits"

	"cavalcade/api"
)

// block is how many bytes go into the state at a time.
const block = 64

// state is SHA-256's.
type state [8]uint32

var rounds = [64]uint32{
	0x428a2f98, 0x71374491, 0xb5c0fbcf, 0xe9b5dba5, 0x3956c25b, 0x59f111f1, 0x923f82a4, 0xab1c5ed5,
	0xd807aa98, 0x12835b01, 0x243185be, 0x550c7dc3, 0x72be5d74, 0x80deb1fe, 0x9bdc06a7, 0xc19bf174,
	0xe49b69c1, 0xefbe4786, 0x0fc19dc6, 0x240ca1cc, 0x2de92c6f, 0x4a7484aa, 0x5cb0a9dc, 0x76f988da,
	0x983e5152, 0xa831c66d, 0xb00327c8, 0xbf597fc7, 0xc6e00bf3, 0xd5a79147, 0x06ca6351, 0x14292967,
	0x27b70a85, 0x2e1b2138, 0x4d2c6dfc, 0x53380d13, 0x650a7354, 0x766a0abb, 0x81c2c92e, 0x92722c85,
	0xa2bfe8a1, 0xa81a664b, 0xc24b8b70, 0xc76c51a3, 0xd192e819, 0xd6990624, 0xf40e3585, 0x106aa070,
	0x19a4c116, 0x1e376c08, 0x2748774c, 0x34b0bcb5, 0x391c0cb3, 0x4ed8aa4a, 0x5b9cca4f, 0x682e6ff3,
	0x748f82ee, 0x78a5636f, 0x84c87814, 0x8cc70208, 0x90befffa, 0xa4506ceb, 0xbef9a3f7, 0xc67178f2,
}

// start is the state ahead of all bytes.
func start() state {
	return state{0x6a09e667, 0xbb67ae85, 0x3c6ef372, 0xa54ff53a, 0x510e527f, 0x9b05688c, 0x1f83d9ab, 0x5be0cd19}
}

func turned(x uint32, n int) uint32 { return bits.RotateLeft32(x, -n) }

// step is the state behind one block more.
func step(now state, s string) state {
	w := spread(s)
	a, b, c, d, e, f, g, h := now[0], now[1], now[2], now[3], now[4], now[5], now[6], now[7]
	for t := range 64 {
		x := h + (turned(e, 6) ^ turned(e, 11) ^ turned(e, 25)) + (e&f ^ ^e&g) + rounds[t] + w[t]
		y := (turned(a, 2) ^ turned(a, 13) ^ turned(a, 22)) + (a&b ^ a&c ^ b&c)
		h, g, f, e, d, c, b, a = g, f, e, d+x, c, b, a, x+y
	}
	return state{now[0] + a, now[1] + b, now[2] + c, now[3] + d, now[4] + e, now[5] + f, now[6] + g, now[7] + h}
}

// spread makes a block's words of its bytes.
func spread(s string) [64]uint32 {
	var w [64]uint32
	for t := range 16 {
		w[t] = uint32(s[4*t])<<24 | uint32(s[4*t+1])<<16 | uint32(s[4*t+2])<<8 | uint32(s[4*t+3])
	}
	for t := 16; t < 64; t++ {
		x, y := w[t-15], w[t-2]
		w[t] = (turned(y, 17) ^ turned(y, 19) ^ y>>10) + w[t-7] + (turned(x, 7) ^ turned(x, 18) ^ x>>3) + w[t-16]
	}
	return w
}

// hash lays the state's words, the highest byte first.
func (x state) hash() api.Hash {
	var h api.Hash
	for i := range len(h) {
		h[i] = byte(x[i/4] >> (24 - 8*(i%4)))
	}
	return h
}
