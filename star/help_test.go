package star_test

import (
	"bytes"
	"testing"

	"matron/api"
	"matron/frame"
	"matron/star"
)

const (
	far    = 1 << 40 // ticks are -far to far
	lost   = -1      // a guardian that does not know the slot
	nobody = -1
	now    = 100 // a guardian's time, if not said else
	window = 40  // of the tables here
)

type (
	row    = [api.MaxNodes][]byte
	ticks  = [api.MaxNodes]int
	faults = []api.Fault
)

// when is each node's time, if not said else: no two are one, and all are near to now.
var when = ticks{100, 105, 98, 101, 103, 97, 102, 99}

var (
	x     = []byte{0x31, 0x32}
	y     = []byte{0x41, 0x42}
	notX  = []byte{^byte(0x31), ^byte(0x32)}
	three = []byte{1, 0x80, 0xff}
)

// of is a table of that many nodes that all have Sync.
func of(n int) api.Table {
	t := api.Table{Drift: 5, Window: window, Limit: 100}
	for i := range n {
		t.Nodes = append(t.Nodes, api.Def{Sync: true, Info: i%3 == 1, Listen: 2*n + i*3%8, Size: 1 + i*5%8})
	}
	return t
}

func eachTable(do func(t api.Table)) {
	for n := api.MinNodes; n <= api.MaxNodes; n++ {
		do(of(n))
	}
}

func fresh(t *testing.T, table api.Table) *star.Star {
	t.Helper()
	s, e := star.New(table)
	if s == nil || e != api.OK {
		t.Fatalf("New(%v): got %v, %v", table, s, e)
	}
	return s
}

// told is the bytes of a frame of that Slot.
func told(kind, slot int) []byte {
	b, e := frame.Encode(api.Frame{Kind: kind, State: api.CState{Round: 77, Slot: slot, Members: 3}, Data: []byte{5}})
	if e != api.OK {
		panic(e)
	}
	return b
}

// before is the slot ahead of one, in a table of n nodes.
func before(slot, n int) int { return (slot + n - 1) % n }

// learning is what has guardians know these slots, both at now; of lost one knows nothing.
func learning(n, first, second int) []given {
	switch {
	case first == second && first == lost:
		return nil
	case first == second:
		return []given{{row{0: told(api.Cold, before(first, n))}, all(now), nil}}
	case second == lost:
		return []given{{row{0: told(api.Cold, before(first, n))}, all(now), faults{fault(api.Block, 1)}}}
	}
	l := []given{{row{0: told(api.Cold, before(second, n))}, all(now), faults{fault(api.Block, 0)}}}
	if first == lost {
		return l
	}
	// A slot more goes on for the first one till the second one knows, too.
	return append(learning(n, before(first, n), lost), l...)
}

func knowing(t *testing.T, table api.Table, first, second int) *star.Star {
	t.Helper()
	s := fresh(t, table)
	for _, g := range learning(len(table.Nodes), first, second) {
		g.pass(s)
	}
	wantKnow(t, s, "learnt", [2]int{first, second})
	return s
}

// all is that all nodes have one time.
func all(at int) (l ticks) {
	for i := range l {
		l[i] = at
	}
	return l
}

// each is that all nodes send the same.
func each(b []byte) (l row) {
	for i := range l {
		l[i] = b
	}
	return l
}

// one, and two, is that they send, and nobody else.
func one(n int, b []byte) (l row) {
	l[n] = b
	return l
}

func two(n int, b []byte, k int, c []byte) row {
	l := one(n, b)
	l[k] = c
	return l
}

func fault(kind, n int) api.Fault { return api.Fault{Kind: kind, N: n} }
func late(n, at int) api.Fault    { return api.Fault{Kind: api.Late, N: n, At: at} }
func garble(n, at int) api.Fault  { return api.Fault{Kind: api.Garble, N: n, At: at} }
func babble(n, at int, b ...byte) api.Fault {
	return api.Fault{Kind: api.Babble, N: n, At: at, Data: b}
}

// What is heard: the same bytes in both channels, others in each, or something in one alone.
func both(b []byte) api.Heard     { return apart(b, b) }
func apart(a, b []byte) api.Heard { return api.Heard{A: api.Bytes, X: a, B: api.Bytes, Y: b} }
func inA(b []byte) api.Heard      { return api.Heard{A: api.Bytes, X: b} }
func inB(b []byte) api.Heard      { return api.Heard{B: api.Bytes, Y: b} }

var (
	silence = api.Heard{}
	noise   = api.Heard{A: api.Noise, B: api.Noise}
)

// given is what a slot is given.
type given struct {
	sends row
	at    ticks
	l     faults
}

func (g given) pass(s *star.Star) (row [api.MaxNodes]api.Heard, e api.Errno) {
	return s.Slot(g.sends, g.at, g.l)
}

// turn is a slot, with what is to come of it.
type turn struct {
	sends row
	l     faults
	want  api.Heard // by all alike, but for the Offset
	from  int       // whose time counts; or nobody
	off   int       // what that is off
	know  [2]int    // slots that the guardians know behind it; or lost
}

// play has slots pass, at when, in a Star of a table of n nodes.
func play(t *testing.T, s *star.Star, n int, l ...turn) {
	t.Helper()
	for i, k := range l {
		got, e := s.Slot(k.sends, when, k.l)
		if e != api.OK {
			t.Errorf("slot %d: got %v", i, e)
		}
		wantHeard(t, i, got, hears(n, k.want, when, k.from, k.off))
		wantKnow(t, s, i, k.know)
	}
}

// hears is what all of n nodes hear; of what is no node nothing.
func hears(n int, h api.Heard, at ticks, from, off int) (l [api.MaxNodes]api.Heard) {
	for i := range n {
		l[i] = h
		if from != nobody {
			l[i].Offset = at[from] + off - at[i]
		}
	}
	return l
}

func same(a, b api.Heard) bool {
	return a.A == b.A && a.B == b.B && a.Offset == b.Offset && bytes.Equal(a.X, b.X) && bytes.Equal(a.Y, b.Y)
}

func wantHeard(t *testing.T, name any, got, want [api.MaxNodes]api.Heard) {
	t.Helper()
	for i := range got {
		if !same(got[i], want[i]) {
			t.Errorf("%v: node %d: got %v, want %v", name, i, got[i], want[i])
		}
	}
}

// know is what a Star's guardians know.
func know(s *star.Star) (l [2]int) {
	for i := range l {
		slot, ok := s.Guard(i)
		switch {
		case ok:
			l[i] = slot
		case slot == 0:
			l[i] = lost
		default:
			l[i] = -99 // with false there is no slot
		}
	}
	return l
}

func wantKnow(t *testing.T, s *star.Star, name any, want [2]int) {
	t.Helper()
	if got := know(s); got != want {
		t.Errorf("%v: guardians: got %v, want %v", name, got, want)
	}
}

// wantTime: behind these slots both guardians know a slot, and have this time. It is found by who is just near enough to be passed, in a Star of its own each time.
func wantTime(t *testing.T, table api.Table, i, want int, l ...given) {
	t.Helper()
	for _, x := range []struct {
		off    int
		passes bool
	}{{-window - 1, false}, {-window, true}, {window, true}, {window + 1, false}} {
		s := fresh(t, table)
		for _, g := range l {
			g.pass(s)
		}
		slot, ok := s.Guard(i)
		if !ok {
			t.Errorf("guardian %d knows nothing", i)
			return
		}
		got, _ := s.Slot(one(slot, y), all(want+x.off), faults{fault(api.Block, 1-i)})
		if passes := got[0].A == api.Bytes || got[0].B == api.Bytes; passes != x.passes {
			t.Errorf("guardian %d: of one at %d: got %v, want %v", i, want+x.off, passes, x.passes)
		}
	}
}

// dice are numbers that look like no row, and are the same each time.
type dice uint64

func (d *dice) below(n int) int {
	*d = *d*6364136223846793005 + 1442695040888963407
	return int(uint64(*d) >> 33 % uint64(n))
}

func (d *dice) of(l ...int) int { return l[d.below(len(l))] }
