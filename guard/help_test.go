package guard_test

import (
	"math"
	"slices"
	"testing"

	"matron/api"
	"matron/clock"
	"matron/frame"
	"matron/guard"
)

const far = 1 << 40 // ticks are -far to far, where the chapter speaks of them

// of is a table of that many nodes: bit i of syncs is node i's.
func of(n, syncs, window, limit int) api.Table {
	t := api.Table{Window: window, Limit: limit}
	for i := range n {
		t.Nodes = append(t.Nodes, api.Def{Sync: syncs>>i&1 == 1, Info: i%3 == 1, Listen: 2*n + i, Size: 1 + i%api.MaxData})
	}
	return t
}

// plain is a table of that many nodes that all have Sync.
func plain(n int) api.Table { return of(n, 1<<n-1, 8, 300) }

// eachTable goes through tables of 4 to 8 nodes.
func eachTable(do func(x api.Table)) {
	for n := api.MinNodes; n <= api.MaxNodes; n++ {
		do(plain(n))
	}
}

func fresh(t *testing.T, x api.Table) *guard.Guard {
	t.Helper()
	g, e := guard.New(x)
	if g == nil || e != api.OK {
		t.Fatalf("New(%v): got %v, %v", x, g, e)
	}
	return g
}

// knowing is a guardian that knows this slot, at that time, and has no measures.
func knowing(t *testing.T, x api.Table, slot, now int) *guard.Guard {
	t.Helper()
	g := fresh(t, x)
	n := len(x.Nodes)
	g.End(told(api.Cold, (slot+n-1)%n), now)
	wantKnows(t, g, slot, now)
	return g
}

// told is the bytes of a frame of that Slot; of a Normal one that tells none, but is read by a state of noughts.
func told(kind, slot int) []byte {
	s := api.CState{Round: 77, Slot: slot, Members: 3}
	if kind == api.Normal {
		s = api.CState{}
	}
	b, e := frame.Encode(api.Frame{Kind: kind, State: s, Data: []byte{5}})
	if e != api.OK {
		panic(e)
	}
	return b
}

// sends is who sends: bit i is node i's.
func sends(mask int) (l [api.MaxNodes]bool) {
	for i := range l {
		l[i] = mask>>i&1 == 1
	}
	return l
}

// all is that all nodes have one time.
func all(at int) (l [api.MaxNodes]int) {
	for i := range l {
		l[i] = at
	}
	return l
}

// end is what an End is given.
type end struct {
	b  []byte
	at int
}

// noise is bytes that are no frame.
var noise = []byte{9}

// quiet ends so many slots without bytes.
func quiet(g *guard.Guard, many int) {
	for range many {
		g.End(nil, 0)
	}
}

func wantKnows(t *testing.T, g *guard.Guard, slot, now int) {
	t.Helper()
	if n, ok := g.Knows(); n != slot || !ok || g.Now() != now {
		t.Errorf("got %d, %v at %d, want %d, true at %d", n, ok, g.Now(), slot, now)
	}
}

// wantLost: with false the slot is 0.
func wantLost(t *testing.T, g *guard.Guard, now int) {
	t.Helper()
	if n, ok := g.Knows(); n != 0 || ok || g.Now() != now {
		t.Errorf("got %d, %v at %d, want 0, false at %d", n, ok, g.Now(), now)
	}
}

func wantPass(t *testing.T, g *guard.Guard, mask int, at [api.MaxNodes]int, want int) {
	t.Helper()
	if n := g.Pass(sends(mask), at); n != want {
		t.Errorf("Pass(%08b, %v): got %d, want %d", mask, at, n, want)
	}
}

// model is a guardian in another way: it keeps all that ever ended, and finds out anew each time.
type model struct {
	t     api.Table
	ended []end
}

// told is the slot that a frame tells: -1, if it tells none.
func (m model) told(b []byte) int {
	f, e := frame.Decode(b, api.CState{})
	if e != api.OK || f.Kind != api.Info && f.Kind != api.Cold || f.State.Slot >= len(m.t.Nodes) {
		return -1
	}
	return f.State.Slot
}

// now is the slot (-1: it does not know), and the time.
func (m model) now() (slot, time int) {
	slot = -1
	silent, l := 0, []int(nil)
	for _, x := range m.ended {
		if slot == -1 {
			if slot = m.told(x.b); slot == -1 {
				continue
			}
			time, silent, l = x.at, 0, nil
		} else if silent++; len(x.b) > 0 {
			silent = 0
			if m.t.Nodes[slot].Sync {
				l = append(l, x.at-time)
			}
		} else if silent == 2*len(m.t.Nodes) {
			slot = -1
			continue
		}
		if slot++; slot < len(m.t.Nodes) {
			continue
		}
		slot = 0
		if n := clock.Average(l[max(0, len(l)-4):]); n >= -m.t.Limit && n <= m.t.Limit {
			time += n
		}
		l = nil
	}
	return slot, time
}

func (m model) pass(mask int, at [api.MaxNodes]int) int {
	slot, time := m.now()
	for i := range m.t.Nodes {
		if mask>>i&1 == 1 && (slot == -1 || slot == i && max(at[i]-time, time-at[i]) <= m.t.Window) {
			return i
		}
	}
	return -1
}

// dice are numbers that look like no row, and are the same each time.
type dice uint64

func (d *dice) below(n int) int {
	*d = *d*6364136223846793005 + 1442695040888963407
	return int(uint64(*d) >> 33 % uint64(n))
}

func (d *dice) of(l ...int) int { return l[d.below(len(l))] }

// extremes are numbers beyond what the chapter speaks of, at which a difference would wrap.
var extremes = []int{math.MinInt, math.MinInt + 1, -1 << 62, -1<<62 - 1, 1 << 62, 1<<62 + 1, math.MaxInt - 1, math.MaxInt}

// ticks are times, to the bounds that the chapter names.
var ticks = slices.Concat([]int{-far, -far + 1, far - 1, far}, []int{-1000, -9, -1, 0, 1, 8, 1000})
