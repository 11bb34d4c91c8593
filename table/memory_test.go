package table_test

import (
	"bytes"
	"slices"
	"sync"
	"testing"

	"matron/api"
	"matron/table"
)

// P4.3 (and W6): what is handed in is neither changed nor kept.

// room is a list with room behind its end, and a check that neither it nor the room was changed.
func room[T comparable](t *testing.T, l []T, behind T) ([]T, func()) {
	all := append(slices.Clone(l), slices.Repeat([]T{behind}, 60)...)
	was := slices.Clone(all)
	return all[:len(l)], func() {
		t.Helper()
		if !slices.Equal(all, was) {
			t.Errorf("changed: got %v, want %v", all, was)
		}
	}
}

var filler = api.Def{Sync: true, Info: true, Listen: -7, Size: 99}

func TestNothingIsChanged(t *testing.T) {
	for _, x := range append(tables(), notTables()...) {
		nodes, unchanged := room(t, x.Nodes, filler)
		y := x
		y.Nodes = nodes
		table.Is(y)
		table.Pack(y)
		table.Same(y, x)
		table.Same(x, y)
		table.Next(y, api.CState{})
		table.Next(y, api.CState{Slot: len(nodes) - 1})
		unchanged()
		for _, b := range [][]byte{whole(x), whole(x)[1:], append(whole(x), 0)} {
			b, unchanged := room(t, b, 0x5a)
			table.Unpack(b)
			unchanged()
		}
	}
}

// scribble writes all over bytes, or nodes, and the room behind them.
func scribble[T any](l []T, with T) {
	l = l[:cap(l)]
	for i := range l {
		l[i] = with
	}
}

func TestNothingIsKept(t *testing.T) {
	for _, x := range tables() {
		y := x
		y.Nodes = slices.Clone(x.Nodes)
		b, _ := table.Pack(y)
		scribble(y.Nodes, filler)
		if !bytes.Equal(b, whole(x)) {
			t.Errorf("Pack: %v: %x", x, b)
		}
		z, _ := table.Unpack(b)
		scribble(b, 0x5a)
		if !same(z, x) {
			t.Errorf("Unpack: %v: %v", x, z)
		}
	}
}

// P4.3 (and W6, W7): what is answered is new memory, spare room too.

func TestAnswersAreNewMemory(t *testing.T) {
	for _, x := range tables() {
		nodes, unchanged := room(t, x.Nodes, filler)
		y := x
		y.Nodes = nodes
		first, _ := table.Pack(y)
		second, _ := table.Pack(y)
		scribble(second, 0x5a)
		unchanged()
		if !bytes.Equal(first, whole(x)) {
			t.Errorf("Pack: %v: %x", x, first)
		}
		b, unchanged := room(t, whole(x), 0x5a)
		v, _ := table.Unpack(b)
		w, _ := table.Unpack(b)
		scribble(w.Nodes, filler)
		unchanged()
		if !same(v, x) {
			t.Errorf("Unpack: %v: %v", x, v)
		}
		wantUnpack(t, b, x)
	}
}

// W2: a call hangs on its arguments alone, not on the calls ahead of it nor on those beside it.
func TestNothingHangsOnOtherCalls(t *testing.T) {
	var all sync.WaitGroup
	for range 8 {
		all.Go(func() {
			for _, x := range tables() {
				b, e := table.Pack(x)
				y, d := table.Unpack(b)
				s := table.Next(x, api.CState{Slot: len(x.Nodes) - 1, Members: 3})
				if e != api.OK || d != api.OK || !bytes.Equal(b, whole(x)) || !same(y, x) || s != (api.CState{Round: 1, Members: 3}) {
					t.Errorf("%v: %x %v, %v %v, %v", x, b, e, y, d, s)
				}
			}
		})
	}
	all.Wait()
}
