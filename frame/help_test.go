package frame_test

import (
	"bytes"
	"encoding/hex"
	"math"
	"strings"
	"testing"

	"matron/api"
	"matron/crc"
	"matron/frame"
)

var kinds = []int{api.Normal, api.Info, api.Cold}

// good are states that may be, to their bounds.
var good = []api.CState{
	{},
	{Round: 1}, {Slot: 1}, {Members: 1},
	{Round: 255}, {Round: 256}, {Round: 0x8000}, {Round: api.MaxRound}, {Round: api.MaxRound - 1},
	{Slot: 6}, {Slot: 7},
	{Members: 0x80}, {Members: 254}, {Members: 255},
	{Round: 0x1234, Slot: 5, Members: 0xa7},
	{Round: api.MaxRound, Slot: 7, Members: 255},
}

// bad are states that may not be: each number beyond each of its bounds, the rest as it may be.
var bad = []api.CState{
	{Round: -1}, {Round: api.MaxRound + 1}, {Round: math.MaxInt}, {Round: math.MinInt}, {Round: 1 << 32}, {Round: -1 << 32},
	{Slot: -1}, {Slot: api.MaxNodes}, {Slot: 255}, {Slot: 256}, {Slot: math.MaxInt}, {Slot: math.MinInt}, {Slot: 1 << 32},
	{Members: -1}, {Members: 256}, {Members: 257}, {Members: math.MaxInt}, {Members: math.MinInt}, {Members: 1 << 32},
	{Round: 7, Slot: 3, Members: 256}, {Round: 7, Slot: 8, Members: 9}, {Round: 65536, Slot: 3, Members: 9},
	{Round: -1, Slot: -1, Members: -1},
}

// some is n bytes of which neighbours are unlike.
func some(n int) []byte {
	b := make([]byte, n)
	for i := range b {
		b[i] = byte(i*37 + 11)
	}
	return b
}

// plain is a frame's bytes without the sum, by the chapter's words.
func plain(f api.Frame) []byte {
	b := []byte{byte(f.Kind)}
	if f.Kind == api.Info || f.Kind == api.Cold {
		b = append(b, byte(f.State.Round/256), byte(f.State.Round%256), byte(f.State.Slot), byte(f.State.Members))
	}
	return append(append(b, byte(len(f.Data))), f.Data...)
}

// seedOf is the Seed of a state that may be.
func seedOf(s api.CState) int {
	return crc.Sum(0x7fff, []byte{byte(s.Round / 256), byte(s.Round % 256), byte(s.Slot), byte(s.Members)})
}

// sealed is bytes with their sum behind them.
func sealed(seed int, b ...byte) []byte {
	n := crc.Sum(seed, b)
	return append(bytes.Clone(b), byte(n/256), byte(n%256))
}

// start is what a frame's sum begins with.
func start(f api.Frame) int {
	if f.Kind == api.Normal {
		return seedOf(f.State)
	}
	return 0
}

// whole is a frame's bytes with the sum.
func whole(f api.Frame) []byte { return sealed(start(f), plain(f)...) }

// spelt is bytes of two hexadecimal digits each.
func spelt(s string) []byte {
	b, err := hex.DecodeString(strings.ReplaceAll(s, " ", ""))
	if err != nil {
		panic(err)
	}
	return b
}

// frames is a frame of each kind and state that may be, with that many bytes of data, each number of them.
func frames() []api.Frame {
	var l []api.Frame
	for _, kind := range kinds {
		for _, s := range good {
			for n := range api.MaxData + 1 {
				l = append(l, api.Frame{Kind: kind, State: s, Data: some(n)})
			}
		}
	}
	return l
}

// same is asked by the tests instead of package frame's own Same.
func same(a, b api.Frame) bool {
	return a.Kind == b.Kind && a.State == b.State && bytes.Equal(a.Data, b.Data)
}

func wantEncode(t *testing.T, f api.Frame, want []byte) {
	t.Helper()
	if b, e := frame.Encode(f); e != api.OK || !bytes.Equal(b, want) {
		t.Errorf("Encode(%v): got %x, %v, want %x", f, b, e, want)
	}
}

func wantDecode(t *testing.T, b []byte, own api.CState, want api.Frame) {
	t.Helper()
	if f, e := frame.Decode(b, own); e != api.OK || !same(f, want) {
		t.Errorf("Decode(%x, %v): got %v, %v, want %v", b, own, f, e, want)
	}
}

// wantErr: with the error the frame is its zero value.
func wantErr(t *testing.T, b []byte, own api.CState, want api.Errno) {
	t.Helper()
	if f, e := frame.Decode(b, own); e != want || !same(f, api.Frame{}) {
		t.Errorf("Decode(%x, %v): got %v, %v, want %v", b, own, f, e, want)
	}
}
