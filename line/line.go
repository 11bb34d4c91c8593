// Package line is two channels as one number: see DOC.md, chapter 1.
package line

import "matron/api"

// Drive is bytes as samples.
func Drive(b []byte, first, second bool) []complex128 {
	b = b[:min(len(b), api.MaxRow/8)]
	row := make([]complex128, 0, 8*len(b))
	for _, x := range b {
		for bit := range 8 {
			v := -1.0
			if x&(0x80>>bit) != 0 {
				v = 1
			}
			row = append(row, keep(complex(v, v), first, second))
		}
	}
	return row
}

// Mix is rows at once.
func Mix(l ...[]complex128) []complex128 {
	longest := 0
	for _, row := range l {
		longest = max(longest, len(row))
	}
	sum := make([]complex128, longest)
	for _, row := range l {
		for i, s := range row {
			sum[i] += s
		}
	}
	return sum
}

// Gate is a row in some channels alone.
func Gate(row []complex128, first, second bool) []complex128 {
	out := make([]complex128, len(row))
	for i, s := range row {
		out[i] = keep(s, first, second)
	}
	return out
}

// Turn is a row with a sample turned.
func Turn(row []complex128, at int) []complex128 {
	out := make([]complex128, len(row))
	copy(out, row)
	if at >= 0 && at < len(out) {
		out[at] = 0 - out[at] // -x would give a nought a sign, and a level 0 has none
	}
	return out
}

// Read is what both channels tell.
func Read(row []complex128) (a int, x []byte, b int, y []byte) {
	a, x = tell(row, false)
	b, y = tell(row, true)
	return a, x, b, y
}

// Energy is the sum of all squares.
func Energy(row []complex128) float64 {
	sum := 0.0
	for _, s := range row {
		sum += real(s)*real(s) + imag(s)*imag(s)
	}
	return sum
}

// keep picks parts and does not multiply by noughts and ones: -1 times 0 has a sign.
func keep(s complex128, first, second bool) complex128 {
	a, b := 0.0, 0.0
	if first {
		a = real(s)
	}
	if second {
		b = imag(s)
	}
	return complex(a, b)
}

func level(s complex128, second bool) float64 {
	if second {
		return imag(s)
	}
	return real(s)
}

// tell asks for silence first: an empty row is silent, though it would be no bytes, too.
func tell(row []complex128, second bool) (int, []byte) {
	silent, whole := true, len(row)%8 == 0
	for _, s := range row {
		v := level(s, second)
		silent = silent && v == 0
		whole = whole && (v == 1 || v == -1)
	}
	switch {
	case silent:
		return api.Silent, nil
	case whole:
		return api.Bytes, pack(row, second)
	}
	return api.Noise, nil
}

func pack(row []complex128, second bool) []byte {
	b := make([]byte, len(row)/8)
	for i, s := range row {
		if level(s, second) == 1 {
			b[i/8] |= 0x80 >> (i % 8)
		}
	}
	return b
}
