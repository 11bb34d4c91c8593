package store_test

import (
	"bytes"
	"sync"
	"testing"

	"matron/api"
	"matron/store"
)

// P8.2 (and W6): what is handed in is neither changed nor kept; what is answered is new memory.

// Nor is the room behind its end, whatever is called later.
func TestNothingIsChanged(t *testing.T) {
	for many := range 14 {
		s := store.New()
		room := row(many, 40)
		was := bytes.Clone(room)
		for node := range api.MaxNodes {
			s.Put(node, room[:many])
			s.Put(node+100, room[:many])
			s.Age()
			m := s.Get(node)
			spoil(m.Data)
			s.Put(node, row(99, 8))
			s.Member(node, true)
			s.Put(node, room[:many])
		}
		s.Clear()
		for node := range api.MaxNodes {
			s.Put(node, row(77, 8))
		}
		if !bytes.Equal(room, was) {
			t.Errorf("changed: %x, want %x", room, was)
		}
	}
}

// spoil writes over a list, and over the room behind its end.
func spoil(b []byte) {
	b = b[:cap(b)]
	for i := range b {
		b[i] ^= 0x5a
	}
}

// A list that was handed in may be changed afterwards.
func TestNothingIsKept(t *testing.T) {
	for many := range api.MaxData + 1 {
		s, v := store.New(), nothing()
		data := make([]byte, many, 30)
		for node := range api.MaxNodes {
			copy(data, row(node, many))
			s.Put(node, data)
			v[node].Data, v[node].Age = row(node, many), 0
			spoil(data)
			want(t, s, v)
		}
		s.Age()
		for node := range v {
			v[node].Age = 1
		}
		spoil(data)
		want(t, s, v)
	}
}

// A list that was answered may be changed too: no later Get is another for it, nor is another answer.
func TestAnswersAreNew(t *testing.T) {
	for many := range api.MaxData + 1 {
		s, v := store.New(), nothing()
		for node := range api.MaxNodes {
			s.Put(node, row(node, many))
			v[node] = api.Message{Data: row(node, many)}
		}
		for node := range api.MaxNodes {
			first, second := s.Get(node), s.Get(node)
			spoil(first.Data)
			_ = append(first.Data[:0], 1, 2, 3, 4, 5, 6, 7, 8)
			if !same(second, v[node]) {
				t.Errorf("got %+v, want %+v", second, v[node])
			}
			want(t, s, v)
		}
	}
}

// W7: what was answered stays what it is, whatever is called later.
func TestAnswersStay(t *testing.T) {
	var d dice
	var m model
	s := store.New()
	var got, were []api.Message
	for range 300 {
		a := d.act()
		m.do(s, a)
		node := d.below(api.MaxNodes)
		got, were = append(got, s.Get(node)), append(were, m.of(node))
	}
	for i := range got {
		if !same(got[i], were[i]) {
			t.Errorf("%d: got %+v, want %+v", i, got[i], were[i])
		}
	}
}

// What a Put took from an answer is not that answer's memory either.
func TestPutOfAnAnswer(t *testing.T) {
	s := store.New()
	s.Put(2, row(1, 6))
	m := s.Get(2)
	s.Put(5, m.Data)
	s.Put(2, m.Data)
	spoil(m.Data)
	want(t, s, nothing().with(2, api.Message{Data: row(1, 6)}).with(5, api.Message{Data: row(1, 6)}))
}

// A Store has nothing of another one, whatever becomes of it.
func TestStoresAreApart(t *testing.T) {
	a, b, c := store.New(), store.New(), store.New()
	data := row(8, 8)
	b.Put(3, data)
	for node := range api.MaxNodes {
		a.Put(node, data)
		a.Member(node, true)
		a.Age()
		want(t, b, nothing().with(3, api.Message{Data: row(8, 8)}))
		want(t, c, nothing())
	}
	a.Clear()
	want(t, b, nothing().with(3, api.Message{Data: row(8, 8)}))
	store.New()
	want(t, b, nothing().with(3, api.Message{Data: row(8, 8)}))
}

// W9: each goroutine may have its own Store, beside all others.
func TestNothingHangsOnOtherCalls(t *testing.T) {
	var wait sync.WaitGroup
	for i := range 8 {
		wait.Go(func() {
			var m model
			d, s := dice(i), store.New()
			for range 150 {
				m.do(s, d.act())
				want(t, s, m.view())
			}
		})
	}
	wait.Wait()
}
