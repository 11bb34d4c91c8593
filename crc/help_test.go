package crc_test

import (
	"math/big"
	"testing"

	"matron/crc"
)

// rest is a sum in another way, of a seed from 0 to 7fff (hexadecimal): bytes and seed are polynomials, the last bit the
// lowest; the bytes times x^15 and the seed times x^(bits), together, leave it when they are divided by x^15 + 4599.
func rest(seed int, b []byte) int {
	n := 8 * len(b)
	text := new(big.Int).Lsh(new(big.Int).SetBytes(b), 15)
	text.Xor(text, new(big.Int).Lsh(big.NewInt(int64(seed)), uint(n)))
	by := big.NewInt(0xc599)
	for text.BitLen() > 15 {
		text.Xor(text, new(big.Int).Lsh(by, uint(text.BitLen()-16)))
	}
	return int(text.Int64())
}

// some is n bytes of which neighbours are unlike.
func some(n int) []byte {
	b := make([]byte, n)
	for i := range b {
		b[i] = byte(i*37 + 11)
	}
	return b
}

func wantSum(t *testing.T, want, seed int, l ...[]byte) {
	t.Helper()
	if s := crc.Sum(seed, l...); s != want {
		t.Errorf("Sum(%x, %x): got %x, want %x", seed, l, s, want)
	}
}
