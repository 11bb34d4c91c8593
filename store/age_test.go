package store_test

import (
	"testing"

	"matron/api"
	"matron/store"
)

// P8.1: Age, Clear.

// The chapter's example.
func TestTwoAges(t *testing.T) {
	s := store.New()
	s.Put(3, []byte{1})
	s.Age()
	s.Age()
	want(t, s, nothing().with(3, api.Message{Data: []byte{1}, Age: 2}))
}

// What was never said stays so.
func TestAgeOfNever(t *testing.T) {
	s := store.New()
	for range 300 {
		s.Age()
		want(t, s, nothing())
	}
	s.Member(4, true)
	ages(s, api.MaxRound+3)
	want(t, s, nothing().with(4, api.Message{Age: -1, Good: true}))
	s.Put(4, nil)
	want(t, s, nothing().with(4, api.Message{Good: true}))
}

func TestAgeOfEachNodeAlone(t *testing.T) {
	for node := range api.MaxNodes {
		s := store.New()
		s.Put(node, row(node, 6))
		for rounds := range 300 {
			want(t, s, nothing().with(node, api.Message{Data: row(node, 6), Age: rounds}))
			s.Age()
		}
	}
}

// Each is as old as what it said itself, all together.
func TestAgeOfAll(t *testing.T) {
	s, v := store.New(), nothing()
	for node := range api.MaxNodes {
		s.Put(node, row(node, 8))
		v[node] = api.Message{Data: row(node, 8)}
		want(t, s, v)
		s.Age()
		for i := range node + 1 {
			v[i].Age = node + 1 - i
		}
		want(t, s, v)
	}
}

// MaxRound is as old as it gets.
func TestAgeAtMost(t *testing.T) {
	s := store.New()
	s.Put(0, row(1, 3))
	s.Member(0, true)
	ages(s, 10)
	s.Put(7, row(2, 8))
	for rounds := range api.MaxRound + 20 {
		first, second := min(rounds+10, 65535), min(rounds, 65535)
		a, b := s.Get(0), s.Get(7)
		if a.Age != first || b.Age != second {
			t.Fatalf("%d: got %d and %d", rounds, a.Age, b.Age)
		}
		s.Age()
	}
	v := nothing().with(0, api.Message{Data: row(1, 3), Age: 65535, Good: true}).with(7, api.Message{Data: row(2, 8), Age: 65535})
	want(t, s, v)
	ages(s, api.MaxRound+2)
	want(t, s, v)
}

// Put anew of what has aged is Age 0, and it goes on from there; what others said stays as old as it is.
func TestPutOfWhatHasAged(t *testing.T) {
	for node := range api.MaxNodes {
		other := (node + 3) % api.MaxNodes
		for _, rounds := range []int{1, 2, 3, 255, 256, 1000} {
			s := store.New()
			s.Put(node, row(1, 5))
			s.Put(other, row(3, 1))
			ages(s, rounds)
			s.Put(node, row(2, 4))
			v := nothing().with(node, api.Message{Data: row(2, 4)}).with(other, api.Message{Data: row(3, 1), Age: rounds})
			want(t, s, v)
			s.Age()
			v[node].Age, v[other].Age = 1, rounds+1
			want(t, s, v)
		}
	}
}

// The same bytes again are said anew, and so are those of who is as old as may be.
func TestPutOfTheSame(t *testing.T) {
	s := store.New()
	s.Put(6, row(1, 5))
	ages(s, api.MaxRound+1)
	s.Put(6, row(1, 5))
	want(t, s, nothing().with(6, api.Message{Data: row(1, 5)}))
	s.Age()
	want(t, s, nothing().with(6, api.Message{Data: row(1, 5), Age: 1}))
}

// Clear is as New, of bytes, Age and Good.
func TestClear(t *testing.T) {
	for said := range 256 {
		s := store.New()
		for node := range api.MaxNodes {
			if said>>node&1 == 1 {
				s.Put(node, row(node, 8-node))
			}
			s.Member(node, (said>>node+node)%3 != 0)
			if node%3 == 0 {
				s.Age()
			}
		}
		for range 2 {
			s.Clear()
			want(t, s, nothing())
		}
	}
}

// Behind Clear all begins anew; nothing of ahead of it comes back.
func TestBehindClear(t *testing.T) {
	for node := range api.MaxNodes {
		s := store.New()
		s.Put(node, row(1, 8))
		s.Member(node, true)
		ages(s, 5)
		s.Clear()
		s.Age()
		want(t, s, nothing())
		s.Member(node, true)
		want(t, s, nothing().with(node, api.Message{Age: -1, Good: true}))
		s.Clear()
		s.Put(node, row(2, 2))
		want(t, s, nothing().with(node, api.Message{Data: row(2, 2)}))
		s.Clear()
		s.Put(node, nil)
		s.Age()
		want(t, s, nothing().with(node, api.Message{Age: 1}))
	}
}
