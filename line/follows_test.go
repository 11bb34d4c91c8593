package line_test

import (
	"bytes"
	"math"
	"slices"
	"testing"

	"matron/api"
	"matron/line"
)

// P1.3: two rows in one channel at once.

func TestTwoInOneChannel(t *testing.T) {
	for i := range 256 {
		for k := range 256 {
			kind := api.Noise
			if i^k == 0xff {
				kind = api.Silent
			}
			b, c := []byte{byte(i)}, []byte{byte(k)}
			wantRead(t, line.Mix(line.Drive(b, true, false), line.Drive(c, true, false)), kind, nil, api.Silent, nil)
			wantRead(t, line.Mix(line.Drive(b, false, true), line.Drive(c, false, true)), api.Silent, nil, kind, nil)
		}
	}
}

func TestTwoOfUnlikeLength(t *testing.T) {
	long := some(9)
	for n := 1; n < len(long); n++ {
		opposite := slices.Clone(long[:n])
		for i := range opposite {
			opposite[i] ^= 0xff
		}
		for _, b := range [][]byte{long[:n], opposite, bytes.Repeat([]byte{0x55}, n)} {
			wantRead(t, line.Mix(line.Drive(b, true, false), line.Drive(long, true, false)), api.Noise, nil, api.Silent, nil)
			wantRead(t, line.Mix(line.Drive(long, false, true), line.Drive(b, false, true)), api.Silent, nil, api.Noise, nil)
		}
	}
}

func TestOppositeRows(t *testing.T) {
	b := some(50)
	row := line.Drive(b, true, true)
	turned := row
	for at := range row {
		wantRead(t, line.Mix(row, turned), api.Noise, nil, api.Noise, nil)
		turned = line.Turn(turned, at)
	}
	wantRead(t, line.Mix(row, turned), api.Silent, nil, api.Silent, nil)
	wantRead(t, line.Mix(row, line.Gate(turned, true, false)), api.Silent, nil, api.Bytes, b)
	wantRead(t, line.Mix(row, line.Gate(turned, false, true)), api.Bytes, b, api.Silent, nil)
	if e := line.Energy(line.Mix(row, turned)); e != 0 {
		t.Error(e)
	}
}

func TestChannelsDoNotMeet(t *testing.T) {
	b, c := []byte{0x0f, 0xa0}, []byte{0xf0, 0x5f}
	wantRead(t, line.Mix(line.Drive(b, true, false), line.Drive(c, false, true)), api.Bytes, b, api.Bytes, c)
	wantRead(t, line.Mix(line.Drive(b, true, false), line.Drive(c[:1], false, true)), api.Bytes, b, api.Noise, nil)
	wantRead(t, line.Mix(line.Drive(b, true, true), line.Drive(b, false, true)), api.Bytes, b, api.Noise, nil)
}

func TestReadOfDrive(t *testing.T) {
	wantRead(t, line.Drive(nil, true, true), api.Silent, nil, api.Silent, nil)
	for n := 1; n <= api.MaxRow/8; n++ {
		b := some(n)
		wantRead(t, line.Drive(b, true, true), api.Bytes, b, api.Bytes, b)
		wantRead(t, line.Drive(b, true, false), api.Bytes, b, api.Silent, nil)
		wantRead(t, line.Drive(b, false, true), api.Silent, nil, api.Bytes, b)
		wantRead(t, line.Drive(b, false, false), api.Silent, nil, api.Silent, nil)
	}
	for i := range 256 {
		b := []byte{byte(i), byte(255 - i)}
		wantRead(t, line.Drive(b, true, true), api.Bytes, b, api.Bytes, b)
	}
}

// P1.3 (and W6): what is handed in is neither changed nor kept.

// room is a row with room behind its end, and a check that neither it nor the room was changed.
func room(t *testing.T, row ...complex128) ([]complex128, func()) {
	whole := append(slices.Clone(row), 91, 92i, 93)
	was := slices.Clone(whole)
	return whole[:len(row)], func() {
		t.Helper()
		if !slices.Equal(whole, was) {
			t.Errorf("changed: got %v, want %v", whole, was)
		}
	}
}

func TestNothingIsChanged(t *testing.T) {
	a, same := room(t, 1+2i, -3, 4i)
	b, likewise := room(t, 1, -1, 1, -1, 1, -1, 1, -1)
	for range 2 {
		line.Mix(a)
		line.Mix(a, b)
		line.Mix(b, a, a)
		for _, row := range [][]complex128{a, b} {
			for i := range 4 {
				line.Gate(row, i&1 > 0, i&2 > 0)
			}
			for at := -1; at <= len(row)+1; at++ {
				line.Turn(row, at)
			}
			line.Read(row)
			line.Energy(row)
		}
		same()
		likewise()
	}
}

func TestDriveChangesNoBytes(t *testing.T) {
	for _, n := range []int{0, 1, 3, 50, 51, 90} {
		whole := some(n + 5)
		for i := range 4 {
			line.Drive(whole[:n], i&1 > 0, i&2 > 0)
		}
		if !bytes.Equal(whole, some(n+5)) {
			t.Error(n, whole)
		}
	}
}

func TestMixChangesNoList(t *testing.T) {
	a, b, c := []complex128{1}, []complex128{2, 3}, []complex128{4, 5, 6}
	l := [][]complex128{a, b, c}
	wantRow(t, "two of the list", line.Mix(l[:2]...), []complex128{3, 3})
	wantRow(t, "all of the list", line.Mix(l...), []complex128{7, 8, 6})
	for i, want := range [][]complex128{{1}, {2, 3}, {4, 5, 6}} {
		wantRow(t, "of the list", l[i], want)
	}
}

func TestNothingIsKept(t *testing.T) {
	b := []byte{0x12, 0x34}
	driven := line.Drive(b, true, true)
	b[0], b[1] = 0xff, 0xff
	wantRow(t, "Drive", driven, spelt("---+--+---++-+--", "---+--+---++-+--"))

	row := spelt("+-------", "-------+")
	mixed, gated, turned, outside := line.Mix(row), line.Gate(row, true, true), line.Turn(row, 0), line.Turn(row, 8)
	_, x, _, y := line.Read(row)
	for i := range row {
		row[i] = 77
	}
	wantRow(t, "Mix", mixed, spelt("+-------", "-------+"))
	wantRow(t, "Gate", gated, spelt("+-------", "-------+"))
	wantRow(t, "Turn", turned, spelt("--------", "+------+"))
	wantRow(t, "Turn outside", outside, spelt("+-------", "-------+"))
	if !bytes.Equal(x, []byte{0x80}) || !bytes.Equal(y, []byte{0x01}) {
		t.Error("Read", x, y)
	}
}

// P1.3 (and W6, W7): what is answered is new memory, spare room too.

// scribble writes all over a list and the room behind it.
func scribble[T complex128 | byte](l []T) {
	l = l[:cap(l)]
	for i := range l {
		l[i] = 99
	}
}

func TestAnswersAreNewMemory(t *testing.T) {
	a, same := room(t, 1+2i, -3, 4i)
	for name, call := range map[string]func() []complex128{
		"Mix":            func() []complex128 { return line.Mix(a) },
		"Mix of more":    func() []complex128 { return line.Mix(nil, a, []complex128{0}) },
		"Gate":           func() []complex128 { return line.Gate(a, true, true) },
		"Gate of one":    func() []complex128 { return line.Gate(a, true, false) },
		"Turn":           func() []complex128 { return line.Turn(a, 1) },
		"Turn outside":   func() []complex128 { return line.Turn(a, 3) },
		"Turn below":     func() []complex128 { return line.Turn(a, -1) },
		"Drive":          func() []complex128 { return line.Drive([]byte{7, 8}, true, true) },
		"Drive of none":  func() []complex128 { return line.Drive([]byte{7, 8}, false, false) },
		"Gate of none":   func() []complex128 { return line.Gate(a, false, false) },
		"Mix of nothing": func() []complex128 { return line.Mix(a[:0]) },
		"Gate, empty":    func() []complex128 { return line.Gate(a[:0], true, true) },
		"Turn, empty":    func() []complex128 { return line.Turn(a[:0], 0) },
	} {
		first := call()
		want := slices.Clone(first)
		second := call()
		scribble(second)
		wantRow(t, name+": the first answer", first, want)
		wantRow(t, name+": a later answer", call(), want)
		same()
	}
}

func TestBytesReadAreNewMemory(t *testing.T) {
	row := line.Drive([]byte{0x12, 0x34, 0x56}, true, true)
	_, x, _, y := line.Read(row)
	scribble(x)
	if !bytes.Equal(y, []byte{0x12, 0x34, 0x56}) {
		t.Error("the channels share", y)
	}
	_, x2, _, _ := line.Read(row)
	scribble(y)
	if !bytes.Equal(x2, []byte{0x12, 0x34, 0x56}) {
		t.Error("two answers share", x2)
	}
	wantRead(t, row, api.Bytes, []byte{0x12, 0x34, 0x56}, api.Bytes, []byte{0x12, 0x34, 0x56})
}

// W1: of such samples nothing is said, but each call ends.
func TestStrangeSamples(t *testing.T) {
	inf, nan := math.Inf(1), math.NaN()
	row := []complex128{complex(nan, inf), complex(-inf, 0.5), complex(math.MaxFloat64, math.SmallestNonzeroFloat64), complex(-0.25, nan)}
	for n := range len(row) + 1 {
		for at := -1; at <= n; at++ {
			if len(line.Turn(row[:n], at)) != n {
				t.Error(n, at)
			}
		}
		if len(line.Mix(row[:n], row)) != len(row) || len(line.Gate(row[:n], true, false)) != n {
			t.Error(n)
		}
		line.Read(row[:n])
		line.Energy(row[:n])
	}
}
