package ward_test

import (
	"bytes"
	"math"
	"slices"
	"testing"

	"matron/api"
	"matron/ward"
)

const (
	drift  = 5 // of the tables here
	window = 40
	limit  = 100
)

// begun is a table of that many nodes, all with Sync, of which that one has the least Listen.
func begun(n, first int) api.Table {
	t := api.Table{Drift: drift, Window: window, Limit: limit}
	for i := range n {
		t.Nodes = append(t.Nodes, api.Def{Sync: true, Info: i%3 == 1, Listen: 2*n + (i-first+8)*3%8, Size: 1 + i*5%8})
	}
	return t
}

// of is one in which node 0 has the least Listen, which is two times as many as there are nodes.
func of(n int) api.Table { return begun(n, 0) }

func eachTable(do func(x api.Table)) {
	for n := api.MinNodes; n <= api.MaxNodes; n++ {
		do(of(n))
	}
}

// drifts are as far apart as may be, and no two neighbours' are one.
func drifts(x api.Table) []int {
	l := make([]int, len(x.Nodes))
	for i := range l {
		l[i] = []int{x.Drift, -x.Drift, 0, 3}[i%4]
	}
	return l
}

func none(x api.Table) []int { return make([]int, len(x.Nodes)) }

// someRules are on members of each table, and on what is none in most.
func someRules() []api.Rule {
	return []api.Rule{{Node: 2, Low: 12, High: 200, Stale: 1}, {Node: 1, High: 255, Stale: 9}, {Node: 0, Low: 5, High: 90}, {Node: 7, High: 90, Stale: 2}}
}

func made(t *testing.T, x api.Table, drifts []int, rules []api.Rule) *ward.Ward {
	t.Helper()
	w, e := ward.New(x, drifts, rules)
	if w == nil || e != api.OK {
		t.Fatalf("New(%v, %v, %v): got %v, %v", x, drifts, rules, w, e)
	}
	return w
}

func on(i, at int) api.Act              { return api.Act{Kind: api.ActOn, Node: i, N: at} }
func off(i int) api.Act                 { return api.Act{Kind: api.ActOff, Node: i} }
func write(i int, b ...byte) api.Act    { return api.Act{Kind: api.ActWrite, Node: i, Data: b} }
func ack(i, rule int) api.Act           { return api.Act{Kind: api.ActAck, Node: i, N: rule} }
func slot(l ...api.Fault) api.Act       { return api.Act{Kind: api.ActSlot, Faults: l} }
func slots(many int) []api.Act          { return slices.Repeat([]api.Act{slot()}, many) }
func fault(kind, n int) api.Fault       { return api.Fault{Kind: kind, N: n} }
func late(n, at int) api.Fault          { return api.Fault{Kind: api.Late, N: n, At: at} }
func garble(n, at int) api.Fault        { return api.Fault{Kind: api.Garble, N: n, At: at} }
func babble(n int, b ...byte) api.Fault { return api.Fault{Kind: api.Babble, N: n, Data: b} }

// do does acts that may be done.
func do(t *testing.T, w *ward.Ward, l ...api.Act) {
	t.Helper()
	for i, a := range l {
		if e := w.Step(a); e != api.OK {
			t.Fatalf("act %d, %v: got %v", i, a, e)
		}
	}
}

// ons switches those bits' nodes on at 0; each says 10 and its number.
func ons(members int) (l []api.Act) {
	for i := range api.MaxNodes {
		if members>>i&1 == 1 {
			l = append(l, on(i, 0), write(i, byte(10+i)))
		}
	}
	return l
}

func everybody(n int) int { return 1<<n - 1 }

// up is a Ward all of whose nodes are Active, at 0 and without drift: slot 0 of round 1 is over.
func up(t *testing.T, x api.Table, rules ...api.Rule) *ward.Ward {
	t.Helper()
	n := len(x.Nodes)
	w := made(t, x, none(x), rules)
	do(t, w, ons(everybody(n))...)
	do(t, w, slots(3*n)...)
	for i := range n {
		want(t, w, i, api.Active, c(1, 1, everybody(n)), 0)
	}
	return w
}

// c is a C-state.
func c(round, slot, members int) api.CState {
	return api.CState{Round: round, Slot: slot, Members: members}
}

func want(t *testing.T, w *ward.Ward, i, state int, view api.CState, clock int) {
	t.Helper()
	if w.State(i) != state || w.View(i) != view || w.Clock(i) != clock {
		t.Errorf("node %d behind %d slots: got %d, %v at %d, want %d, %v at %d", i, w.Slots(), w.State(i), w.View(i), w.Clock(i), state, view, clock)
	}
}

// never is the message of who never said a thing, and is no member.
var never = api.Message{Age: -1}

// good is the message of a member.
func good(age int, b ...byte) api.Message { return api.Message{Data: b, Age: age, Good: true} }

// same takes nil and empty bytes as alike.
func same(a, b api.Message) bool {
	return bytes.Equal(a.Data, b.Data) && a.Age == b.Age && a.Good == b.Good
}

func wantRead(t *testing.T, w *ward.Ward, i, node int, m api.Message) {
	t.Helper()
	if got := w.Read(i, node); !same(got, m) {
		t.Errorf("behind %d slots: Read(%d, %d): got %+v, want %+v", w.Slots(), i, node, got, m)
	}
}

func wantRings(t *testing.T, w *ward.Ward, i int, l ...int) {
	t.Helper()
	for rule, bits := range l {
		if got := w.Rings(i, rule); got != bits {
			t.Errorf("behind %d slots: Rings(%d, %d): got %d, want %d", w.Slots(), i, rule, got, bits)
		}
	}
}

// tells is all that a Ward tells, and what it tells of what is none of its nodes.
type tells struct {
	nodes, slots int
	l            [api.MaxNodes + 2]one
}

// one is all that one node tells.
type one struct {
	state int
	view  api.CState
	clock int
	reads [api.MaxNodes + 2]api.Message
	rings [api.MaxRules + 2]int
}

// teller is a Ward, or a model of one.
type teller interface {
	Nodes() int
	State(i int) int
	View(i int) api.CState
	Clock(i int) int
	Read(i, node int) api.Message
	Rings(i, rule int) int
	Slots() int
}

func all(w teller) tells {
	a := tells{nodes: w.Nodes(), slots: w.Slots()}
	for k := range a.l {
		i, x := k-1, &a.l[k]
		x.state, x.view, x.clock = w.State(i), w.View(i), w.Clock(i)
		for node := range x.reads {
			x.reads[node] = w.Read(i, node-1)
		}
		for rule := range x.rings {
			x.rings[rule] = w.Rings(i, rule-1)
		}
	}
	return a
}

func (a one) is(b one) bool {
	return a.state == b.state && a.view == b.view && a.clock == b.clock && a.rings == b.rings && slices.EqualFunc(a.reads[:], b.reads[:], same)
}

func wantAll(t *testing.T, name any, got, want tells) {
	t.Helper()
	if got.nodes != want.nodes || got.slots != want.slots {
		t.Errorf("%v: got %d nodes, %d slots, want %d, %d", name, got.nodes, got.slots, want.nodes, want.slots)
	}
	for k := range got.l {
		if !got.l[k].is(want.l[k]) {
			t.Errorf("%v: node %d: got %+v, want %+v", name, k-1, got.l[k], want.l[k])
		}
	}
}

// wantAlike: two Wards are one to whoever calls, now and in many acts to come.
func wantAlike(t *testing.T, a, b *ward.Ward) {
	t.Helper()
	wantAll(t, "now", all(a), all(b))
	d := dice(a.Slots())
	for i := range 60 {
		x := some(&d, max(b.Nodes(), 1))
		if got, want := a.Step(x), b.Step(x); got != want {
			t.Errorf("%d: Step(%v): got %v, want %v", i, x, got, want)
		}
		if i%5 == 0 {
			do(t, a, slot())
			do(t, b, slot())
		}
		wantAll(t, i, all(a), all(b))
		if t.Failed() {
			return
		}
	}
}

// dice are numbers that look like no row, and are the same each time.
type dice uint64

func (d *dice) below(n int) int {
	*d = *d*6364136223846793005 + 1442695040888963407
	return int(uint64(*d) >> 33 % uint64(n))
}

func (d *dice) of(l ...int) int { return l[d.below(len(l))] }

// row is some bytes, no more than that many.
func (d *dice) row(most int) []byte {
	b := make([]byte, d.below(most+1))
	for i := range b {
		b[i] = byte(d.below(256))
	}
	return b
}

// beyond are numbers that are far from each node, rule, kind and time, and such as would be near if digits of them were lost.
var beyond = []int{
	-2, -3, -7, -8, -9, -128, -256, -257, 255, 256, 257, 1 << 16, 1<<16 + 3, -1 << 16, 1 << 31, 1<<31 + 1, 1 << 32, 1<<32 + 5,
	-1 << 31, -1 << 32, -1<<32 + 2, 1 << 40, -1 << 40, 1 << 62, -1 << 62, math.MaxInt - 1, math.MaxInt, math.MinInt, math.MinInt + 1, math.MinInt + 5,
}
