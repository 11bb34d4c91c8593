package store_test

import (
	"testing"

	"matron/api"
	"matron/store"
)

// P8.1: Member.

func TestMemberOfEachNode(t *testing.T) {
	s, v := store.New(), nothing()
	for _, is := range []bool{true, true, false, false, true} {
		for node := range api.MaxNodes {
			s.Member(node, is)
			v[node].Good = is
			want(t, s, v)
		}
	}
}

func TestMemberOfOneNodeAlone(t *testing.T) {
	for node := range api.MaxNodes {
		s := store.New()
		for _, is := range []bool{false, true, true, false, true, false, false} {
			s.Member(node, is)
			want(t, s, nothing().with(node, api.Message{Age: -1, Good: is}))
		}
	}
}

// Ahead of a Put, behind it, and behind an Age: the last word holds, and nothing else is another by it.
func TestMemberAndPut(t *testing.T) {
	for node := range api.MaxNodes {
		for mask := range 16 {
			s, m := store.New(), never
			says := func(bit int) {
				t.Helper()
				m.Good = mask>>bit&1 == 1
				s.Member(node, m.Good)
				want(t, s, nothing().with(node, m))
			}
			says(0)
			s.Put(node, row(4, 7))
			m.Data, m.Age = row(4, 7), 0
			want(t, s, nothing().with(node, m))
			says(1)
			s.Age()
			m.Age = 1
			want(t, s, nothing().with(node, m))
			says(2)
			s.Put(node, row(5, 2))
			m.Data, m.Age = row(5, 2), 0
			want(t, s, nothing().with(node, m))
			says(3)
		}
	}
}

// Who is Good stays it, whatever it says, however old that is.
func TestGoodStays(t *testing.T) {
	for good := range 256 {
		s := store.New()
		v := nothing()
		for node := range api.MaxNodes {
			v[node].Good = good>>node&1 == 1
			s.Member(node, v[node].Good)
		}
		for i := range 4 {
			for node := range api.MaxNodes {
				if (node+i)%2 == 0 {
					s.Put(node, row(i, i+node%4))
					v[node].Data, v[node].Age = row(i, i+node%4), 0
				}
			}
			want(t, s, v)
			s.Age()
			for node := range v {
				if v[node].Age >= 0 {
					v[node].Age++
				}
			}
			want(t, s, v)
		}
	}
}

// Of what is no node nothing is done.
func TestMemberOfNoNode(t *testing.T) {
	for _, is := range []bool{true, false} {
		s, v := store.New(), nothing()
		for node := range api.MaxNodes {
			if node%2 == 1 {
				s.Put(node, row(node, 4))
				v[node] = api.Message{Data: row(node, 4)}
			}
			v[node].Good = !is
			s.Member(node, !is)
		}
		for _, no := range noNodes {
			s.Member(no, is)
			wantOf(t, s, no, never)
			want(t, s, v)
		}
	}
}
