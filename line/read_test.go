package line_test

import (
	"bytes"
	"strings"
	"testing"

	"matron/api"
	"matron/line"
)

func wantRead(t *testing.T, row []complex128, a int, x []byte, b int, y []byte) {
	t.Helper()
	ga, gx, gb, gy := line.Read(row)
	if ga != a || gb != b || !bytes.Equal(gx, x) || !bytes.Equal(gy, y) {
		t.Errorf("Read(%v): got %d %v, %d %v, want %d %v, %d %v", row, ga, gx, gb, gy, a, x, b, y)
	}
}

// channels are what one channel of a row tells; two of one length make a row.
var channels = []struct {
	levels string
	kind   int
	b      []byte
}{
	{"", api.Silent, nil},
	{"0", api.Silent, nil},
	{"+", api.Noise, nil},
	{"-", api.Noise, nil},
	{"2", api.Noise, nil},
	{"0000000", api.Silent, nil},
	{"+++++++", api.Noise, nil},
	{"+-+-+-+", api.Noise, nil},
	{"00000000", api.Silent, nil},
	{"--------", api.Bytes, []byte{0x00}},
	{"++++++++", api.Bytes, []byte{0xff}},
	{"+-------", api.Bytes, []byte{0x80}},
	{"-------+", api.Bytes, []byte{0x01}},
	{"-+--+---", api.Bytes, []byte{0x48}},
	{"0+++++++", api.Noise, nil},
	{"+++++++0", api.Noise, nil},
	{"---0----", api.Noise, nil},
	{"+0000000", api.Noise, nil},
	{"0000000-", api.Noise, nil},
	{"2+++++++", api.Noise, nil},
	{"+++++++=", api.Noise, nil},
	{"2=2=2=2=", api.Noise, nil},
	{"3-------", api.Noise, nil},
	{"0000002=", api.Noise, nil},
	{"000000000", api.Silent, nil},
	{"+++++++++", api.Noise, nil},
	{"-+--+---0", api.Noise, nil},
	{"000000000000000", api.Silent, nil},
	{"---+--+---++-+-", api.Noise, nil},
	{"0000000000000000", api.Silent, nil},
	{"---+--+---++-+--", api.Bytes, []byte{0x12, 0x34}},
	{"++-++---++-+---+", api.Bytes, []byte{0xd8, 0xd1}},
	{"---+--+-00000000", api.Noise, nil},
	{"00000000---+--+-", api.Noise, nil},
	{"---+--+---++-+-2", api.Noise, nil},
	{"00000000000000000", api.Silent, nil},
	{"---+--+---++-+--+", api.Noise, nil},
}

// P1.2: each channel is read for itself.
func TestReadChannels(t *testing.T) {
	for _, p := range channels {
		for _, q := range channels {
			if len(p.levels) == len(q.levels) {
				wantRead(t, spelt(p.levels, q.levels), p.kind, p.b, q.kind, q.b)
			}
		}
	}
}

func TestReadEachByte(t *testing.T) {
	for i := range 256 {
		b, c := []byte{byte(i)}, []byte{byte(i*7 + 1)}
		wantRead(t, spelt(signs(b), signs(c)), api.Bytes, b, api.Bytes, c)
	}
}

// TestReadEachShortRow goes through all channels of up to nine levels, each of them a nought or a one or nothing.
func TestReadEachShortRow(t *testing.T) {
	all := []string{""}
	for range 10 {
		var longer []string
		for _, s := range all {
			kind, b := toldOf(s)
			wantRead(t, spelt(s, noughts(len(s))), kind, b, api.Silent, nil)
			wantRead(t, spelt(noughts(len(s)), s), api.Silent, nil, kind, b)
			longer = append(longer, s+"0", s+"+", s+"-")
		}
		all = longer
	}
}

func toldOf(s string) (int, []byte) {
	nothing := strings.Count(s, "0")
	switch {
	case nothing == len(s):
		return api.Silent, nil
	case nothing > 0 || len(s) != 8:
		return api.Noise, nil
	}
	v := 0
	for _, c := range s {
		v *= 2
		if c == '+' {
			v++
		}
	}
	return api.Bytes, []byte{byte(v)}
}

// A row that was not Driven may be longer than MaxRow: the chapter names no bound for Read.
func TestReadLongRow(t *testing.T) {
	b := some(3 * api.MaxRow)
	wantRead(t, spelt(signs(b), noughts(8*len(b))), api.Bytes, b, api.Silent, nil)
	wantRead(t, spelt(noughts(8*len(b)), signs(b)), api.Silent, nil, api.Bytes, b)
	wantRead(t, spelt(signs(b), "")[:8*len(b)-1], api.Noise, nil, api.Silent, nil)
}

// A row that is cut within a byte tells no bytes, not even the whole ones ahead of the cut.
func TestReadCutRow(t *testing.T) {
	b := some(4)
	row := line.Drive(b, true, false)
	for n := range len(row) + 1 {
		switch {
		case n == 0:
			wantRead(t, row[:n], api.Silent, nil, api.Silent, nil)
		case n%8 == 0:
			wantRead(t, row[:n], api.Bytes, b[:n/8], api.Silent, nil)
		default:
			wantRead(t, row[:n], api.Noise, nil, api.Silent, nil)
		}
	}
}

// P1.2: Energy.
func TestEnergy(t *testing.T) {
	for _, x := range []struct {
		row  []complex128
		want float64
	}{
		{nil, 0},
		{[]complex128{}, 0},
		{make([]complex128, 9), 0},
		{[]complex128{1}, 1},
		{[]complex128{-1}, 1},
		{[]complex128{-1i}, 1},
		{[]complex128{1 - 1i}, 2},
		{[]complex128{3 + 4i}, 25},
		{[]complex128{3 + 4i, -5 + 12i, 2}, 25 + 169 + 4},
		{[]complex128{7i, 0, -7i}, 98},
		{[]complex128{1000 - 1000i, 999}, 2000000 + 998001},
	} {
		if e := line.Energy(x.row); e != x.want {
			t.Errorf("Energy(%v): got %v, want %v", x.row, e, x.want)
		}
	}
}

func TestEnergyOfDrive(t *testing.T) {
	b := some(50)
	for _, x := range []struct {
		first, second bool
		want          float64
	}{{true, true, 800}, {true, false, 400}, {false, true, 400}, {false, false, 0}} {
		if e := line.Energy(line.Drive(b, x.first, x.second)); e != x.want {
			t.Error(x, e)
		}
	}
}

// Sums of whole numbers stay exact beyond 2^32, where a float32 or an int32 would not.
func TestEnergyOfMany(t *testing.T) {
	row := make([]complex128, 1<<16+1)
	for i := range row {
		row[i] = 999 - 1000i
	}
	if e := line.Energy(row); e != 65537*1998001 {
		t.Error(e)
	}
}
