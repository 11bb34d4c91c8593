package frame_test

import (
	"math"
	"testing"

	"matron/api"
	"matron/crc"
	"matron/frame"
)

// P3.1: which frames may be.

func TestIs(t *testing.T) {
	for _, f := range frames() {
		if !frame.Is(f) {
			t.Error(f)
		}
	}
}

func TestIsOfNoData(t *testing.T) {
	for _, kind := range kinds {
		if !frame.Is(api.Frame{Kind: kind}) || !frame.Is(api.Frame{Kind: kind, Data: []byte{}}) {
			t.Error(kind)
		}
	}
}

// notFrames are frames that may not be, each for one thing alone, and one for all of them.
func notFrames() []api.Frame {
	var l []api.Frame
	for _, kind := range []int{0, -1, 4, 5, 256 + api.Normal, -api.Cold, 1<<32 + api.Info, math.MaxInt, math.MinInt} {
		l = append(l, api.Frame{Kind: kind}, api.Frame{Kind: kind, State: good[len(good)-1], Data: some(8)})
	}
	for _, kind := range kinds {
		for _, s := range bad {
			l = append(l, api.Frame{Kind: kind, State: s}, api.Frame{Kind: kind, State: s, Data: some(3)})
		}
		for _, n := range []int{api.MaxData + 1, 2 * api.MaxData, 255, 256, 257, 264, 70000} {
			l = append(l, api.Frame{Kind: kind, Data: make([]byte, n)})
		}
	}
	return append(l, api.Frame{Kind: 9, State: bad[0], Data: some(9)})
}

func TestIsNot(t *testing.T) {
	for _, f := range notFrames() {
		if frame.Is(f) {
			t.Error(f.Kind, f.State, len(f.Data))
		}
	}
}

// P3.1: a state's seed.

// The sums here come from a division of polynomials, not from package crc.
func TestSeed(t *testing.T) {
	for _, x := range []struct {
		s    api.CState
		want int
	}{
		{api.CState{}, 0x7d40},
		{api.CState{Round: 1}, 0x0d54},
		{api.CState{Slot: 1}, 0x3966},
		{api.CState{Members: 1}, 0x38d9},
		{api.CState{Round: 256}, 0x63b8},
		{api.CState{Round: 0x1234, Slot: 5, Members: 0xa7}, 0x3f49},
		{api.CState{Round: api.MaxRound, Slot: 7, Members: 255}, 0x2741},
	} {
		if n := frame.Seed(x.s); n != x.want {
			t.Errorf("Seed(%v): got %x, want %x", x.s, n, x.want)
		}
	}
}

func TestSeedOfEachNumber(t *testing.T) {
	for i := range api.MaxRound + 1 {
		s := api.CState{Round: i, Slot: i % api.MaxNodes, Members: i / 3 % 256}
		if n := frame.Seed(s); n != crc.Sum(0x7fff, []byte{byte(i / 256), byte(i % 256), byte(s.Slot), byte(s.Members)}) {
			t.Fatalf("Seed(%v): got %x", s, n)
		}
	}
}

func TestSeedOfNoState(t *testing.T) {
	for _, s := range bad {
		if n := frame.Seed(s); n != 0 {
			t.Errorf("Seed(%v): got %x", s, n)
		}
	}
}

// P3.1: frames as bytes.

// The sums here come from a division of polynomials, not from package crc.
func TestEncode(t *testing.T) {
	mid := api.CState{Round: 0x1234, Slot: 5, Members: 0xa7}
	most := api.CState{Round: api.MaxRound, Slot: 7, Members: 255}
	eight := []byte{1, 2, 3, 4, 5, 6, 7, 8}
	for _, x := range []struct {
		f    api.Frame
		want string
	}{
		{api.Frame{Kind: api.Normal}, "01 00 2c b9"},
		{api.Frame{Kind: api.Normal, Data: []byte{7}}, "01 01 07 41 17"},
		{api.Frame{Kind: api.Normal, State: mid}, "01 00 29 bc"},
		{api.Frame{Kind: api.Normal, State: mid, Data: []byte{9, 8}}, "01 02 09 08 3e 85"},
		{api.Frame{Kind: api.Normal, State: most, Data: eight}, "01 08 01 02 03 04 05 06 07 08 4d 43"},
		{api.Frame{Kind: api.Info}, "02 00 00 00 00 00 3c 58"},
		{api.Frame{Kind: api.Info, State: mid, Data: []byte{7}}, "02 12 34 05 a7 01 07 3b a5"},
		{api.Frame{Kind: api.Info, State: most, Data: eight}, "02 ff ff 07 ff 08 01 02 03 04 05 06 07 08 72 8e"},
		{api.Frame{Kind: api.Cold}, "03 00 00 00 00 00 22 74"},
		{api.Frame{Kind: api.Cold, State: mid, Data: []byte{9, 8}}, "03 12 34 05 a7 02 09 08 6f 0a"},
		{api.Frame{Kind: api.Cold, State: most}, "03 ff ff 07 ff 00 2f 11"},
		{api.Frame{Kind: api.Cold, State: most, Data: spelt("ff ff ff ff ff ff ff ff")}, "03 ff ff 07 ff 08 ff ff ff ff ff ff ff ff 2d ff"},
	} {
		wantEncode(t, x.f, spelt(x.want))
	}
}

func TestEncodeOfEachKind(t *testing.T) {
	for _, f := range frames() {
		wantEncode(t, f, whole(f))
	}
}

// The example of the chapter, and how long the others are.
func TestEncodeLength(t *testing.T) {
	for n := range api.MaxData + 1 {
		for _, x := range []struct{ kind, want int }{{api.Normal, 4 + n}, {api.Info, 8 + n}, {api.Cold, 8 + n}} {
			if b, _ := frame.Encode(api.Frame{Kind: x.kind, Data: make([]byte, n)}); len(b) != x.want {
				t.Error(x.kind, n, len(b))
			}
		}
	}
}

// A Normal frame does not tell its state: it is in the sum alone.
func TestEncodeHidesTheState(t *testing.T) {
	for _, s := range good[1:] {
		for n := range api.MaxData + 1 {
			b, _ := frame.Encode(api.Frame{Kind: api.Normal, State: s, Data: some(n)})
			c, _ := frame.Encode(api.Frame{Kind: api.Normal, Data: some(n)})
			if len(b) != n+4 || string(b[:n+2]) != string(c[:n+2]) || string(b) == string(c) {
				t.Errorf("%v: %x %x", s, b, c)
			}
		}
	}
}

func TestEncodeErrs(t *testing.T) {
	for _, f := range notFrames() {
		if b, e := frame.Encode(f); e != api.ErrArg || len(b) != 0 {
			t.Error(f.Kind, f.State, len(f.Data), b, e)
		}
	}
}
