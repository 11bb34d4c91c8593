package store_test

import (
	"testing"

	"matron/api"
	"matron/store"
)

// P8.1: New, Put, Get.

func TestNew(t *testing.T) {
	s := store.New()
	want(t, s, nothing())
	for _, node := range noNodes {
		wantOf(t, s, node, never)
	}
}

// Each node, one behind the other: its bytes, Age 0, and not Good by that; all others are as they were.
func TestPutOfEachNode(t *testing.T) {
	s, v := store.New(), nothing()
	for node := range api.MaxNodes {
		s.Put(node, row(node, node+1))
		v[node] = api.Message{Data: row(node, node+1)}
		want(t, s, v)
	}
	for node := api.MaxNodes - 1; node >= 0; node-- {
		s.Put(node, row(node+50, 8-node))
		v[node] = api.Message{Data: row(node+50, 8-node)}
		want(t, s, v)
	}
}

func TestPutOfOneNodeAlone(t *testing.T) {
	for node := range api.MaxNodes {
		for many := range api.MaxData + 1 {
			s := store.New()
			s.Put(node, row(3, many))
			want(t, s, nothing().with(node, api.Message{Data: row(3, many)}))
		}
	}
}

// What was said last holds, whether it is longer or shorter than what was said ahead of it.
func TestPutAnew(t *testing.T) {
	for node := range api.MaxNodes {
		for first := range api.MaxData + 1 {
			for second := range api.MaxData + 1 {
				s := store.New()
				s.Put(node, row(1, first))
				s.Put(node, row(2, second))
				want(t, s, nothing().with(node, api.Message{Data: row(2, second)}))
				s.Put(node, row(1, first))
				want(t, s, nothing().with(node, api.Message{Data: row(1, first)}))
			}
		}
	}
}

// Bytes of all kinds, noughts at the end too.
func TestPutOfAllBytes(t *testing.T) {
	s := store.New()
	for b := range 256 {
		for _, data := range [][]byte{{byte(b)}, {byte(b), 0}, {0, byte(b), 0, 0}, {byte(b), 255, 0, 1, 128, 127, 7, byte(b)}} {
			s.Put(5, data)
			want(t, s, nothing().with(5, api.Message{Data: data}))
		}
	}
}

// No bytes, of a nil list or an empty one, are said as well as others.
func TestPutOfNoBytes(t *testing.T) {
	for _, data := range [][]byte{nil, {}, row(1, 5)[:0]} {
		for node := range api.MaxNodes {
			s := store.New()
			s.Put(node, data)
			want(t, s, nothing().with(node, api.Message{}))
			s.Age()
			want(t, s, nothing().with(node, api.Message{Age: 1}))
			s.Put(node, row(9, 4))
			s.Put(node, data)
			want(t, s, nothing().with(node, api.Message{}))
		}
	}
}

// More than MaxData bytes: nothing is done, to a node that said something, and to one that did not.
func TestPutOfTooMany(t *testing.T) {
	for node := range api.MaxNodes {
		for _, many := range []int{9, 10, 16, 17, 100, 255, 256, 257, 264, 1 << 16, 1<<16 + 3} {
			s := store.New()
			s.Put(node, row(1, many))
			want(t, s, nothing())
			s.Member(node, true)
			s.Put(node, row(1, many))
			want(t, s, nothing().with(node, api.Message{Age: -1, Good: true}))
			s.Put(node, row(2, 8))
			ages(s, 3)
			s.Put(node, row(1, many))
			want(t, s, nothing().with(node, api.Message{Data: row(2, 8), Age: 3, Good: true}))
		}
	}
}

// The length counts, not the room behind the list's end.
func TestPutOfRoom(t *testing.T) {
	s := store.New()
	for many := range 20 {
		s.Put(7, []byte{9})
		s.Put(7, row(many, 100)[:many])
		m := api.Message{Data: row(many, many)}
		if many > 8 {
			m.Data = []byte{9}
		}
		want(t, s, nothing().with(7, m))
	}
}

// Of what is no node nothing is done, and its message is as New's.
func TestPutOfNoNode(t *testing.T) {
	s, v := store.New(), nothing()
	for node := range api.MaxNodes {
		for _, no := range noNodes {
			s.Put(no, row(no, 3))
			s.Put(no, nil)
			s.Put(no, row(1, 9))
			wantOf(t, s, no, never)
		}
		want(t, s, v)
		s.Put(node, row(node, 2))
		s.Member(node, true)
		v[node] = api.Message{Data: row(node, 2), Good: true}
	}
	for _, no := range noNodes {
		s.Put(no, row(5, 8))
		wantOf(t, s, no, never)
	}
	want(t, s, v)
}
