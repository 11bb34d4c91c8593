package store_test

import (
	"bytes"
	"math"
	"testing"

	"matron/api"
	"matron/store"
)

// noNodes are numbers of no node: beside the nodes', and such as would be a node's if digits of them were lost.
var noNodes = []int{
	-1, 8, -2, 9, -7, -8, 10, 15, 16, 31, 32, 33, 63, 64, 65, 127, 128, 255, -255, -256, -249,
	1 << 8, 1<<8 + 7, 1 << 16, 1<<16 + 3, 1 << 31, 1<<31 + 1, 1 << 32, 1<<32 + 5, 1 << 40, -1 << 31, -1 << 32, -1<<32 + 2, -1 << 40,
	1 << 62, -1 << 62, math.MaxInt - 1, math.MaxInt, math.MinInt, math.MinInt + 1, math.MinInt + 7,
}

// never is the message of who never said a thing, and is no member.
var never = api.Message{Age: -1}

// same takes nil and empty bytes as alike.
func same(a, b api.Message) bool {
	return bytes.Equal(a.Data, b.Data) && a.Age == b.Age && a.Good == b.Good
}

func wantOf(t *testing.T, s *store.Store, node int, want api.Message) {
	t.Helper()
	if got := s.Get(node); !same(got, want) {
		t.Errorf("Get(%d): got %+v, want %+v", node, got, want)
	}
}

// view is the messages of all nodes.
type view [api.MaxNodes]api.Message

// nothing is the view of a new Store.
func nothing() view {
	var v view
	for node := range v {
		v[node] = never
	}
	return v
}

// with is that view, but of one node.
func (v view) with(node int, m api.Message) view {
	v[node] = m
	return v
}

// want: the messages are these, and of what is no node there is never one.
func want(t *testing.T, s *store.Store, v view) {
	t.Helper()
	for node, m := range v {
		wantOf(t, s, node, m)
	}
	for _, node := range noNodes[:4] {
		wantOf(t, s, node, never)
	}
}

func ages(s *store.Store, many int) {
	for range many {
		s.Age()
	}
}

// row is some bytes, which differ by seed.
func row(seed, many int) []byte {
	b := make([]byte, many)
	for i := range b {
		b[i] = byte(seed*37 + i*11 + 1)
	}
	return b
}

// Kinds of acts.
const (
	put = iota
	member
	age
	clear
)

// act is a call that may change a Store.
type act struct {
	kind, node int
	data       []byte
	is         bool
}

func (a act) do(s *store.Store) {
	switch a.kind {
	case put:
		s.Put(a.node, a.data)
	case member:
		s.Member(a.node, a.is)
	case age:
		s.Age()
	case clear:
		s.Clear()
	}
}

// model is a Store in another way: it keeps all that was ever done, and finds out anew each time.
type model []act

func (m *model) do(s *store.Store, a act) {
	a.do(s)
	*m = append(*m, a)
}

// sinceClear is what was done behind the last Clear.
func (m model) sinceClear() model {
	for i := len(m) - 1; i >= 0; i-- {
		if m[i].kind == clear {
			return m[i+1:]
		}
	}
	return m
}

// of goes back from the last act: the first Put that is met is what was said last, as many Ages ago as were met.
func (m model) of(node int) api.Message {
	done := m.sinceClear()
	found := api.Message{Age: -1, Good: done.good(node)}
	rounds := 0
	for i := len(done) - 1; i >= 0; i-- {
		a := done[i]
		if a.kind == age {
			rounds++
		}
		if a.kind == put && a.node == node && len(a.data) < 9 {
			found.Data, found.Age = a.data, min(rounds, 65535)
			return found
		}
	}
	return found
}

func (m model) good(node int) bool {
	for i := len(m) - 1; i >= 0; i-- {
		if m[i].kind == member && m[i].node == node {
			return m[i].is
		}
	}
	return false
}

func (m model) view() view {
	var v view
	for node := range v {
		v[node] = m.of(node)
	}
	return v
}

// dice are numbers that look like no row, and are the same each time.
type dice uint64

func (d *dice) below(n int) int {
	*d = *d*6364136223846793005 + 1442695040888963407
	return int(uint64(*d) >> 33 % uint64(n))
}

// node is a node mostly, now and then none.
func (d *dice) node() int {
	if d.below(6) == 0 {
		return noNodes[d.below(len(noNodes))]
	}
	return d.below(api.MaxNodes)
}

// act is a Put, a Member or an Age mostly, now and then a Clear.
func (d *dice) act() act {
	kind := d.below(3)
	if d.below(40) == 0 {
		kind = clear
	}
	return act{kind, d.node(), row(d.below(256), d.below(api.MaxData+2)), d.below(2) == 0}
}
