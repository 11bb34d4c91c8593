package crc_test

import (
	"math"
	"testing"

	"matron/crc"
)

// P2.1: what a sum is.

func TestSumExample(t *testing.T) {
	wantSum(t, 0x059e, 0, []byte("123456789"))
}

// Each of these follows from the chapter's words by hand, one bit behind the other.
func TestSumByHand(t *testing.T) {
	for _, x := range []struct {
		seed int
		b    []byte
		want int
	}{
		{0, []byte{0x00}, 0},
		{0, []byte{0x01}, 0x4599},
		{0, []byte{0x02}, 0x4eab},
		{0, []byte{0x03}, 0x0b32},
		{0x0001, []byte{0x00}, 0x0100},
		{0x0040, []byte{0x00}, 0x4000},
		{0x0080, []byte{0x00}, 0x4599},
		{0x0080, []byte{0x01}, 0},
		{0x4000, []byte{0x80}, 0},
		{0x4000, []byte{0x80, 0x00}, 0},
		{0x7f80, []byte{0xff}, 0},
		{0x7f81, []byte{0xff}, 0x0100},
	} {
		wantSum(t, x.want, x.seed, x.b)
	}
}

func TestSumOfEachByte(t *testing.T) {
	for _, seed := range []int{0, 1, 0x2aaa, 0x4000, 0x5555, 0x7fff} {
		for i := range 256 {
			b := []byte{byte(i)}
			wantSum(t, rest(seed, b), seed, b)
			b = []byte{0x5a, byte(i), 0xc3}
			wantSum(t, rest(seed, b), seed, b)
		}
	}
}

func TestSumOfEachLength(t *testing.T) {
	for n := range 70 {
		for _, seed := range []int{0, 0x1234, 0x7fff} {
			wantSum(t, rest(seed, some(n)), seed, some(n))
			wantSum(t, rest(seed, make([]byte, n)), seed, make([]byte, n))
		}
	}
}

func TestSumOfALongRow(t *testing.T) {
	b := some(20000)
	wantSum(t, rest(0x7fff, b), 0x7fff, b)
}

// Of no bytes at all the sum is the seed's lowest fifteen digits.
func TestSumOfNoBytes(t *testing.T) {
	for _, l := range [][][]byte{nil, {}, {nil}, {{}}, {nil, {}, nil}, {some(3)[:0], some(3)[3:]}} {
		for _, x := range seeds {
			wantSum(t, x.lowest, x.seed, l...)
		}
	}
}

// seeds are whole numbers of all kinds, and their lowest fifteen binary digits.
var seeds = []struct{ seed, lowest int }{
	{0, 0},
	{1, 1},
	{0x4000, 0x4000},
	{0x7fff, 0x7fff},
	{0x8000, 0},
	{0x8001, 1},
	{0xffff, 0x7fff},
	{0x18000, 0},
	{0x12345, 0x2345},
	{0x7fffabcd, 0x2bcd},
	{math.MaxInt32, 0x7fff},
	{math.MinInt32, 0},
	{math.MaxInt, 0x7fff},
	{math.MaxInt - 1, 0x7ffe},
	{math.MinInt, 0},
	{math.MinInt + 5, 5},
	{-1, 0x7fff},
	{-2, 0x7ffe},
	{-0x4000, 0x4000},
	{-0x7fff, 1},
	{-0x8000, 0},
	{-0x8001, 0x7fff},
}

func TestSumTakesTheLowestFifteen(t *testing.T) {
	for _, x := range seeds {
		for n := range 6 {
			wantSum(t, rest(x.lowest, some(n)), x.seed, some(n))
		}
	}
}

func TestSumHasFifteenDigits(t *testing.T) {
	for _, x := range seeds {
		for i := range 256 {
			if s := crc.Sum(x.seed, []byte{byte(i), byte(i * 3)}); s < 0 || s > 0x7fff {
				t.Errorf("Sum(%d, %d): %x", x.seed, i, s)
			}
		}
	}
}

// The sum so far is the seed of what comes behind it.
func TestSumGoesOn(t *testing.T) {
	b := some(40)
	for i := range len(b) + 1 {
		wantSum(t, crc.Sum(0x7fff, b), crc.Sum(0x7fff, b[:i]), b[i:])
	}
}
