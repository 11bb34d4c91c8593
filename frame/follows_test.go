package frame_test

import (
	"math"
	"testing"

	"matron/api"
	"matron/frame"
)

// P3.3: Decode of Encode.

func TestDecodeOfEncode(t *testing.T) {
	for _, f := range frames() {
		b, e := frame.Encode(f)
		if e != api.OK {
			t.Fatal(f, e)
		}
		wantDecode(t, b, f.State, f)
	}
}

func TestEncodeOfDecode(t *testing.T) {
	for _, f := range frames() {
		g, e := frame.Decode(whole(f), f.State)
		if e != api.OK {
			t.Fatal(f, e)
		}
		wantEncode(t, g, whole(f))
	}
}

func TestDecodeOfEncodeOfEachByte(t *testing.T) {
	for i := range 256 {
		for _, kind := range kinds {
			f := api.Frame{Kind: kind, State: api.CState{Round: i * 257, Slot: i % 8, Members: i}, Data: []byte{byte(i), 0, byte(255 - i)}}
			b, _ := frame.Encode(f)
			wantDecode(t, b, f.State, f)
		}
	}
}

// A Normal frame is read by its own state alone, where seeds are unlike.
func TestUnlikeSeeds(t *testing.T) {
	f := api.Frame{Kind: api.Normal, State: api.CState{Round: 0x1234, Slot: 5, Members: 0xa7}, Data: some(4)}
	b, _ := frame.Encode(f)
	for round := range api.MaxRound + 1 {
		own := f.State
		own.Round = round
		g, e := frame.Decode(b, own)
		if frame.Seed(own) == frame.Seed(f.State) {
			f.State = own
			if e != api.OK || !same(g, f) {
				t.Fatal(own, g, e)
			}
		} else if e != api.ErrSum || !same(g, api.Frame{}) {
			t.Fatal(own, g, e)
		}
	}
	for i := range 256 * api.MaxNodes {
		own := api.CState{Round: 0x1234, Slot: i % api.MaxNodes, Members: i / api.MaxNodes}
		if own.Slot != 5 || own.Members != 0xa7 { // in these two bytes fifteen digits are enough for all
			wantErr(t, b, own, api.ErrSum)
		}
	}
}

// Rounds that differ by c599 (hexadecimal), bit by bit, have like seeds: then the frame is read, and the state is the reader's.
func TestLikeSeeds(t *testing.T) {
	for _, s := range good {
		other := s
		other.Round ^= 0xc599
		if frame.Seed(s) != frame.Seed(other) {
			t.Fatal(s, other)
		}
		for n := range api.MaxData + 1 {
			b, _ := frame.Encode(api.Frame{Kind: api.Normal, State: s, Data: some(n)})
			wantDecode(t, b, other, api.Frame{Kind: api.Normal, State: other, Data: some(n)})
			b, _ = frame.Encode(api.Frame{Kind: api.Info, State: s, Data: some(n)})
			wantDecode(t, b, other, api.Frame{Kind: api.Info, State: s, Data: some(n)})
		}
	}
}

// P3.3: Same.

func TestSame(t *testing.T) {
	var l []api.Frame
	for _, kind := range []int{0, api.Normal, api.Info, api.Cold, -1, math.MaxInt} {
		for _, s := range []api.CState{{}, {Round: 1}, {Slot: 1}, {Members: 1}, {Round: -1, Slot: 9, Members: 300}, {Round: 1, Slot: 1, Members: 1}} {
			for _, data := range [][]byte{nil, {0}, {1}, {0, 0}, {0, 1}, {1, 0}, some(8), some(9), some(300)} {
				l = append(l, api.Frame{Kind: kind, State: s, Data: data})
			}
		}
	}
	for i, a := range l {
		for k, b := range l {
			b.Data = append([]byte{}, b.Data...)
			if frame.Same(a, b) != (i == k) || frame.Same(b, a) != (i == k) {
				t.Error(a, b)
			}
		}
	}
}

// W5: a nil list and an empty one are the same.
func TestNilAndEmpty(t *testing.T) {
	for _, kind := range []int{0, api.Normal, api.Info, api.Cold} {
		a, b := api.Frame{Kind: kind}, api.Frame{Kind: kind, Data: []byte{}}
		if !frame.Same(a, b) || !frame.Same(b, a) || !frame.Same(a, a) || !frame.Same(b, b) {
			t.Error("Same", kind)
		}
		if kind != 0 {
			wantEncode(t, a, whole(a))
			wantEncode(t, b, whole(a))
		}
	}
}
