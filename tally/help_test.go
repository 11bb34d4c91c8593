package tally_test

import (
	"math"
	"testing"

	"matron/api"
	"matron/tally"
)

// noNodes are numbers of no node: beside the nodes', and such as would be a node's if digits of them were lost.
var noNodes = []int{
	-1, 8, -2, 9, -7, -8, 10, 15, 16, 31, 32, 33, 63, 64, 65, 127, 128, 255, -255, -256, -249,
	1 << 8, 1<<8 + 7, 1 << 16, 1<<16 + 3, 1 << 31, 1<<31 + 1, 1 << 32, 1<<32 + 5, 1 << 40, -1 << 31, -1 << 32, -1<<32 + 2, -1 << 40,
	1 << 62, -1 << 62, math.MaxInt - 1, math.MaxInt, math.MinInt, math.MinInt + 1, math.MinInt + 7,
}

// act is a call that may change a Tally.
type act struct {
	name string
	does func(t *tally.Tally, node int)
}

const (
	join = iota
	right
	wrong
	missing
	clear
)

var acts = []act{
	join:    {"Join", (*tally.Tally).Join},
	right:   {"Right", (*tally.Tally).Right},
	wrong:   {"Wrong", (*tally.Tally).Wrong},
	missing: {"Missing", (*tally.Tally).Missing},
	clear:   {"Clear", func(t *tally.Tally, _ int) { t.Clear() }},
}

// done is an act that was done to a node.
type done struct{ act, node int }

// model is a Tally in another way: it keeps all that was ever done, and finds out anew each time.
type model struct {
	first int // the number that New was handed
	done  []done
}

func (m *model) do(x *tally.Tally, act, node int) {
	acts[act].does(x, node)
	m.done = append(m.done, done{act, node})
}

// is: the last word about a node holds.
func (m model) is(node int) bool {
	for i := len(m.done) - 1; i >= 0; i-- {
		if d := m.done[i]; d.node == node && d.act != clear {
			return d.act == join || d.act == right
		}
	}
	return node >= 0 && node < 8 && (m.first%256+256)%256/power(node)%2 == 1
}

func power(n int) int {
	p := 1
	for range n {
		p *= 2
	}
	return p
}

func (m model) members() int {
	sum := 0
	for node := range 8 {
		if m.is(node) {
			sum += power(node)
		}
	}
	return sum
}

// count is how often that was done to a node since the last Clear.
func (m model) count(act int) int {
	n := 0
	for _, d := range m.done {
		if d.act == clear {
			n = 0
		} else if d.act == act && d.node >= 0 && d.node < 8 {
			n++
		}
	}
	return n
}

// view is all that a Tally tells.
type view struct {
	members       int
	agree, fail   int
	clique, alone bool
}

func look(x *tally.Tally) view {
	v := view{members: x.Members(), clique: x.Clique(), alone: x.Alone()}
	v.agree, v.fail = x.Counts()
	return v
}

// of is the view of these members and counts.
func of(members, agree, fail int) view {
	return view{members, agree, fail, fail < agree+1, agree == 0}
}

func (m model) view() view { return of(m.members(), m.count(right), m.count(wrong)) }

// want: what it tells is this, and each node is a member if its bit is there.
func want(t *testing.T, x *tally.Tally, w view) {
	t.Helper()
	if v := look(x); v != w {
		t.Errorf("got %+v, want %+v", v, w)
	}
	for node := range api.MaxNodes {
		if is := w.members/power(node)%2 == 1; x.Is(node) != is {
			t.Errorf("Is(%d): got %v of %08b", node, !is, w.members)
		}
	}
}

// with is a Tally of these members and counts, to which nothing else has happened that can be told.
func with(t *testing.T, members, agree, fail int) *tally.Tally {
	t.Helper()
	x := tally.New(members)
	for range agree {
		x.Right(0)
	}
	for range fail {
		x.Wrong(0)
	}
	x.Missing(0)
	if members&1 == 1 {
		x.Join(0)
	}
	want(t, x, of(members, agree, fail))
	return x
}

// dice are numbers that look like no row, and are the same each time.
type dice uint64

func (d *dice) below(n int) int {
	*d = *d*6364136223846793005 + 1442695040888963407
	return int(uint64(*d) >> 33 % uint64(n))
}

// node is a node mostly, now and then none.
func (d *dice) node() int {
	if d.below(5) == 0 {
		return noNodes[d.below(len(noNodes))]
	}
	return d.below(api.MaxNodes)
}
