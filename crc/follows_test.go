package crc_test

import (
	"bytes"
	"testing"

	"matron/crc"
)

// P2.2: how bytes are parted into rows.

func TestPartsDoNotMatter(t *testing.T) {
	b := some(12)
	for _, seed := range []int{0, 0x3c5a, 0x7fff, -1, 0x12345} {
		want := crc.Sum(seed, b)
		for i := range len(b) + 1 {
			wantSum(t, want, seed, b[:i], b[i:])
			for k := i; k <= len(b); k++ {
				wantSum(t, want, seed, b[:i], b[i:k], b[k:])
				wantSum(t, want, seed, nil, b[:i], []byte{}, b[i:k], b[k:k], b[k:], nil)
			}
		}
	}
}

func TestEachParting(t *testing.T) {
	b := some(10)
	want := crc.Sum(0x1d0f, b)
	for cuts := range 1 << (len(b) - 1) {
		var l [][]byte
		from := 0
		for i := 1; i < len(b); i++ {
			if cuts>>(i-1)&1 == 1 {
				l = append(l, b[from:i])
				from = i
			}
		}
		wantSum(t, want, 0x1d0f, append(l, b[from:])...)
	}
}

func TestManyRows(t *testing.T) {
	b := some(5000)
	var l [][]byte
	for i := range b {
		l = append(l, b[i:i+1])
	}
	wantSum(t, rest(7, b), 7, l...)
}

func TestOneRowOftener(t *testing.T) {
	b := some(5)
	wantSum(t, rest(0, bytes.Repeat(b, 3)), 0, b, b, b)
}

// The order of rows does matter, as that of bytes does.
func TestOrderMatters(t *testing.T) {
	a, b := []byte{0x12, 0x34}, []byte{0x56}
	wantSum(t, rest(0, []byte{0x12, 0x34, 0x56}), 0, a, b)
	wantSum(t, rest(0, []byte{0x56, 0x12, 0x34}), 0, b, a)
	if crc.Sum(0, a, b) == crc.Sum(0, b, a) {
		t.Error("alike")
	}
}

// P2.2: rows that differ in one byte.

func TestOneByteOff(t *testing.T) {
	for _, seed := range []int{0, 0x7fff, 0x2b4d} {
		for _, n := range []int{1, 2, 3, 9, 30} {
			for at := range n {
				allUnlike(t, seed, some(n), at)
				allUnlike(t, seed, make([]byte, n), at)
			}
		}
	}
}

// allUnlike puts each of the 256 bytes at that place: no two sums are alike.
func allUnlike(t *testing.T, seed int, b []byte, at int) {
	t.Helper()
	of := map[int]int{}
	for i := range 256 {
		b[at] = byte(i)
		s := crc.Sum(seed, b)
		if k, there := of[s]; there {
			t.Fatalf("%d bytes, seed %x: %d and %d at %d: both %x", len(b), seed, k, i, at, s)
		}
		of[s] = i
	}
}

func TestOneByteOffFarAhead(t *testing.T) {
	b := some(5000)
	was := crc.Sum(0, b)
	for bit := range 8 {
		b[0] ^= 1 << bit
		if crc.Sum(0, b) == was {
			t.Error(bit)
		}
		b[0] ^= 1 << bit
	}
}

// P2.2: one row, unlike seeds.

func TestUnlikeSeeds(t *testing.T) {
	for _, b := range [][]byte{nil, {0x00}, {0xff}, {0x80, 0x01}, some(3), some(14)} {
		seen := make([]bool, 1<<15)
		for seed := range 1 << 15 {
			s := crc.Sum(seed, b)
			if s < 0 || s >= len(seen) || seen[s] {
				t.Fatalf("%x: seed %x: %x", b, seed, s)
			}
			seen[s] = true
		}
	}
}

// Seeds are unlike in their lowest fifteen digits alone.
func TestSeedsThatAreAlike(t *testing.T) {
	for _, b := range [][]byte{nil, {0x00}, some(9)} {
		for _, seed := range []int{0, 1, 0x4000, 0x7fff} {
			for _, more := range []int{0x8000, 0x10000, -0x8000, 7 << 15, 1 << 30, -1 << 31} {
				wantSum(t, crc.Sum(seed, b), seed+more, b)
			}
		}
	}
}
