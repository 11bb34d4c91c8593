package line_test

import (
	"math"
	"testing"

	"matron/api"
	"matron/line"
)

// P1.1: Drive.

func TestDriveExample(t *testing.T) {
	want := []complex128{1 + 1i, -1 - 1i, -1 - 1i, -1 - 1i, -1 - 1i, -1 - 1i, -1 - 1i, -1 - 1i}
	wantRow(t, "80", line.Drive([]byte{0x80}, true, true), want)
}

func TestDriveBits(t *testing.T) {
	for _, x := range []struct {
		name          string
		b             []byte
		first, second bool
		a, z          string
	}{
		{"both", []byte{0x01}, true, true, "-------+", "-------+"},
		{"the first", []byte{0x35}, true, false, "--++-+-+", "00000000"},
		{"the second", []byte{0x35}, false, true, "00000000", "--++-+-+"},
		{"none", []byte{0x35}, false, false, "00000000", "00000000"},
		{"two bytes", []byte{0xf0, 0x0f}, true, true, "++++--------++++", "++++--------++++"},
		{"three bytes, the second", []byte{0x00, 0xff, 0x81}, false, true, noughts(24), "--------+++++++++------+"},
	} {
		wantRow(t, x.name, line.Drive(x.b, x.first, x.second), spelt(x.a, x.z))
	}
}

func TestDriveEachByte(t *testing.T) {
	for i := range 256 {
		b := []byte{byte(i)}
		wantRow(t, "first", line.Drive(b, true, false), spelt(signs(b), ""))
		wantRow(t, "second", line.Drive(b, false, true), spelt("", signs(b)))
		wantRow(t, "both", line.Drive(b, true, true), spelt(signs(b), signs(b)))
	}
}

func TestDriveNoBytes(t *testing.T) {
	for _, b := range [][]byte{nil, {}} {
		for _, x := range [][2]bool{{false, false}, {true, false}, {false, true}, {true, true}} {
			if row := line.Drive(b, x[0], x[1]); len(row) != 0 {
				t.Errorf("Drive(%v, %v): %v", b, x, row)
			}
		}
	}
}

func TestDriveTakesTheFirstBytes(t *testing.T) {
	most := api.MaxRow / 8
	for _, n := range []int{most - 1, most, most + 1, most + 2, 2 * most, api.MaxRow, 5000} {
		b := some(n)
		want := signs(b[:min(n, most)])
		wantRow(t, "both", line.Drive(b, true, true), spelt(want, want))
		wantRow(t, "none", line.Drive(b, false, false), spelt(noughts(len(want)), ""))
	}
}

// P1.1: Mix.

func TestMix(t *testing.T) {
	for _, x := range []struct {
		name string
		l    [][]complex128
		want []complex128
	}{
		{"no rows", nil, nil},
		{"rows that are empty", [][]complex128{nil, {}, nil}, nil},
		{"one row", [][]complex128{{1 + 2i, -3}}, []complex128{1 + 2i, -3}},
		{"two", [][]complex128{{1 + 2i, -3}, {4 - 5i, 6i}}, []complex128{5 - 3i, -3 + 6i}},
		{"the first is the longest", [][]complex128{{1, 2, 3i}, {10}}, []complex128{11, 2, 3i}},
		{"the last is the longest", [][]complex128{{10}, {1, 2, 3i}}, []complex128{11, 2, 3i}},
		{"the middle is the longest", [][]complex128{{10}, {1, 2, 3i}, {5i, 5i}}, []complex128{11 + 5i, 2 + 5i, 3i}},
		{"one is nil", [][]complex128{nil, {1, 2i}, nil}, []complex128{1, 2i}},
		{"noughts are long, too", [][]complex128{{1}, {0, 0, 0}}, []complex128{1, 0, 0}},
		{"opposites", [][]complex128{{1 - 1i, 7}, {-1 + 1i, -7}}, []complex128{0, 0}},
		{"great ones", [][]complex128{{1000 - 1000i}, {1000 - 1000i}, {1 + 1i}}, []complex128{2001 - 1999i}},
	} {
		wantRow(t, x.name, line.Mix(x.l...), x.want)
	}
}

func TestMixOfOneRowTwice(t *testing.T) {
	a := []complex128{1, -1i, 2 + 3i}
	wantRow(t, "twice", line.Mix(a, a), []complex128{2, -2i, 4 + 6i})
	wantRow(t, "then it is", a, []complex128{1, -1i, 2 + 3i})
}

func TestMixOfManyRows(t *testing.T) {
	var l [][]complex128
	for i := range 1000 {
		l = append(l, make([]complex128, i+1))
		l[i][i], l[i][0] = 1i, 1
	}
	m := line.Mix(l...)
	if len(m) != 1000 || m[0] != 1000 {
		t.Fatal(len(m), m[0])
	}
	for i, s := range m[1:] {
		if s != 1i {
			t.Fatal(i+1, s)
		}
	}
}

// P1.1: Gate.

func TestGate(t *testing.T) {
	row := []complex128{1 + 1i, -1 + 4i, 0, 5, -7i, 1000 - 1000i}
	wantRow(t, "both", line.Gate(row, true, true), []complex128{1 + 1i, -1 + 4i, 0, 5, -7i, 1000 - 1000i})
	wantRow(t, "the first", line.Gate(row, true, false), []complex128{1, -1, 0, 5, 0, 1000})
	wantRow(t, "the second", line.Gate(row, false, true), []complex128{1i, 4i, 0, 0, -7i, -1000i})
	wantRow(t, "none", line.Gate(row, false, false), make([]complex128, 6))
}

func TestGateOfNothing(t *testing.T) {
	for _, row := range [][]complex128{nil, {}} {
		if g := line.Gate(row, true, true); len(g) != 0 {
			t.Error(g)
		}
		if g := line.Gate(row, false, false); len(g) != 0 {
			t.Error(g)
		}
	}
}

// P1.1: Turn.

func TestTurn(t *testing.T) {
	row := []complex128{1 + 2i, -3, 0, 4i, -5 + 6i}
	for _, x := range []struct {
		at   int
		want []complex128
	}{
		{0, []complex128{-1 - 2i, -3, 0, 4i, -5 + 6i}},
		{1, []complex128{1 + 2i, 3, 0, 4i, -5 + 6i}},
		{2, []complex128{1 + 2i, -3, 0, 4i, -5 + 6i}},
		{3, []complex128{1 + 2i, -3, 0, -4i, -5 + 6i}},
		{4, []complex128{1 + 2i, -3, 0, 4i, 5 - 6i}},
		{5, row}, {6, row}, {-1, row}, {-5, row}, {math.MaxInt, row}, {math.MinInt, row}, {1 << 32, row},
	} {
		wantRow(t, "turned", line.Turn(row, x.at), x.want)
	}
}

func TestTurnOfNothing(t *testing.T) {
	for _, at := range []int{0, 1, -1, math.MaxInt, math.MinInt} {
		if row := line.Turn(nil, at); len(row) != 0 {
			t.Error(at, row)
		}
		if row := line.Turn([]complex128{}, at); len(row) != 0 {
			t.Error(at, row)
		}
	}
}

func TestTurnTwiceIsTheRow(t *testing.T) {
	row := line.Drive([]byte{0x5c}, true, false)
	for at := range row {
		once := line.Turn(row, at)
		if once[at] != -row[at] || math.Signbit(imag(once[at])) {
			t.Error(at, once)
		}
		wantRow(t, "twice", line.Turn(once, at), row)
	}
}
