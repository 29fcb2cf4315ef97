package sha

import "math/bits"

// begin tells s0 to s7 ahead of the first piece: the first 32 bits behind the point of the square roots of the first eight primes.
func begin() [8]uint32 {
	return [8]uint32{
		0x6a09e667, 0xbb67ae85, 0x3c6ef372, 0xa54ff53a, 0x510e527f, 0x9b05688c, 0x1f83d9ab, 0x5be0cd19,
	}
}

// rounds tells k0 to k63: the first 32 bits behind the point of the cube roots of the first 64 primes.
func rounds() [64]uint32 {
	return [64]uint32{
		0x428a2f98, 0x71374491, 0xb5c0fbcf, 0xe9b5dba5, 0x3956c25b, 0x59f111f1, 0x923f82a4, 0xab1c5ed5,
		0xd807aa98, 0x12835b01, 0x243185be, 0x550c7dc3, 0x72be5d74, 0x80deb1fe, 0x9bdc06a7, 0xc19bf174,
		0xe49b69c1, 0xefbe4786, 0x0fc19dc6, 0x240ca1cc, 0x2de92c6f, 0x4a7484aa, 0x5cb0a9dc, 0x76f988da,
		0x983e5152, 0xa831c66d, 0xb00327c8, 0xbf597fc7, 0xc6e00bf3, 0xd5a79147, 0x06ca6351, 0x14292967,
		0x27b70a85, 0x2e1b2138, 0x4d2c6dfc, 0x53380d13, 0x650a7354, 0x766a0abb, 0x81c2c92e, 0x92722c85,
		0xa2bfe8a1, 0xa81a664b, 0xc24b8b70, 0xc76c51a3, 0xd192e819, 0xd6990624, 0xf40e3585, 0x106aa070,
		0x19a4c116, 0x1e376c08, 0x2748774c, 0x34b0bcb5, 0x391c0cb3, 0x4ed8aa4a, 0x5b9cca4f, 0x682e6ff3,
		0x748f82ee, 0x78a5636f, 0x84c87814, 0x8cc70208, 0x90befffa, 0xa4506ceb, 0xbef9a3f7, 0xc67178f2,
	}
}

// turn tells x turned to the right by n bits.
func turn(x uint32, n int) uint32 { return bits.RotateLeft32(x, -n) }

// spread tells w0 to w63 of a piece.
func spread(p [piece]byte) [64]uint32 {
	var w [64]uint32
	for t := range 16 {
		w[t] = uint32(p[4*t])<<24 | uint32(p[4*t+1])<<16 | uint32(p[4*t+2])<<8 | uint32(p[4*t+3])
	}
	for t := 16; t < 64; t++ {
		x, y := w[t-15], w[t-2]
		w[t] = w[t-16] + (turn(x, 7) ^ turn(x, 18) ^ (x >> 3)) + w[t-7] + (turn(y, 17) ^ turn(y, 19) ^ (y >> 10))
	}
	return w
}

// mix tells what the words s become by a piece.
func mix(s [8]uint32, p [piece]byte) [8]uint32 {
	k, w := rounds(), spread(p)
	a, b, c, d, e, f, g, h := s[0], s[1], s[2], s[3], s[4], s[5], s[6], s[7]
	for t := range 64 {
		u := h + (turn(e, 6) ^ turn(e, 11) ^ turn(e, 25)) + ((e & f) ^ (^e & g)) + k[t] + w[t]
		v := (turn(a, 2) ^ turn(a, 13) ^ turn(a, 22)) + ((a & b) ^ (a & c) ^ (b & c))
		h, g, f, e, d, c, b, a = g, f, e, d+u, c, b, a, u+v
	}
	return [8]uint32{s[0] + a, s[1] + b, s[2] + c, s[3] + d, s[4] + e, s[5] + f, s[6] + g, s[7] + h}
}
