package frame_test

import (
	"bytes"
	"sync"
	"testing"

	"matron/api"
	"matron/frame"
)

// P3.3 (and W6): what is handed in is neither changed nor kept.

// room is bytes with room behind their end, and a check that neither they nor the room were changed.
func room(t *testing.T, b []byte) ([]byte, func()) {
	all := append(bytes.Clone(b), some(20)...)
	was := bytes.Clone(all)
	return all[:len(b)], func() {
		t.Helper()
		if !bytes.Equal(all, was) {
			t.Errorf("changed: got %x, want %x", all, was)
		}
	}
}

func TestNothingIsChanged(t *testing.T) {
	for _, f := range append(frames(), notFrames()...) {
		data, unchanged := room(t, f.Data)
		g := api.Frame{Kind: f.Kind, State: f.State, Data: data}
		frame.Is(g)
		frame.Encode(g)
		frame.Same(g, f)
		frame.Same(f, g)
		unchanged()
		for _, b := range [][]byte{whole(f), plain(f), append(whole(f), 0)} {
			b, unchanged := room(t, b)
			frame.Decode(b, f.State)
			frame.Decode(b, api.CState{Round: 1})
			frame.Decode(b, bad[0])
			unchanged()
		}
	}
}

// scribble writes all over bytes and the room behind them.
func scribble(b []byte) {
	b = b[:cap(b)]
	for i := range b {
		b[i] ^= 0x5a
	}
}

func TestNothingIsKept(t *testing.T) {
	for _, f := range frames() {
		data := bytes.Clone(f.Data)
		b, _ := frame.Encode(api.Frame{Kind: f.Kind, State: f.State, Data: data})
		scribble(data)
		if !bytes.Equal(b, whole(f)) {
			t.Errorf("Encode: %v: %x", f, b)
		}
		g, _ := frame.Decode(b, f.State)
		scribble(b)
		if !same(g, f) {
			t.Errorf("Decode: %v: %v", f, g)
		}
	}
}

// P3.3 (and W6, W7): what is answered is new memory, spare room too.

func TestAnswersAreNewMemory(t *testing.T) {
	for _, f := range frames() {
		data, unchanged := room(t, f.Data)
		first, _ := frame.Encode(api.Frame{Kind: f.Kind, State: f.State, Data: data})
		second, _ := frame.Encode(api.Frame{Kind: f.Kind, State: f.State, Data: data})
		scribble(second)
		unchanged()
		if !bytes.Equal(first, whole(f)) {
			t.Errorf("Encode: %v: %x", f, first)
		}
		b, unchanged := room(t, whole(f))
		g, _ := frame.Decode(b, f.State)
		h, _ := frame.Decode(b, f.State)
		scribble(h.Data)
		unchanged()
		if !same(g, f) {
			t.Errorf("Decode: %v: %v", f, g)
		}
		wantDecode(t, b, f.State, f)
	}
}

// W2: a call hangs on its arguments alone, not on the calls ahead of it nor on those beside it.
func TestNothingHangsOnOtherCalls(t *testing.T) {
	var all sync.WaitGroup
	for range 8 {
		all.Go(func() {
			for _, f := range frames() {
				b, e := frame.Encode(f)
				g, d := frame.Decode(b, f.State)
				if e != api.OK || d != api.OK || !bytes.Equal(b, whole(f)) || !same(g, f) {
					t.Errorf("%v: %x %v, %v %v", f, b, e, g, d)
				}
			}
		})
	}
	all.Wait()
}
