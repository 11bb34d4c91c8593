package audit_test

import (
	"bytes"
	"math"
	"slices"
	"testing"

	"matron/api"
	"matron/audit"
	"matron/ward"
)

// of is a table of that many nodes, all with Sync, of which that one waits least: two times as many slots as there are nodes.
func of(n, first int) api.Table {
	x := api.Table{Drift: 5, Window: 40, Limit: 100}
	for i := range n {
		x.Nodes = append(x.Nodes, api.Def{Sync: true, Info: i%3 == 1, Listen: 2*n + (i-first+n)%n, Size: 1 + i*5%8})
	}
	return x
}

func eachTable(do func(x api.Table)) {
	for n := api.MinNodes; n <= api.MaxNodes; n++ {
		do(of(n, n*3%4))
	}
}

// windowed is that table with other bounds for its clocks.
func windowed(x api.Table, drift, window, limit int) api.Table {
	x.Drift, x.Window, x.Limit = drift, window, limit
	return x
}

// notTables are tables that may not be, each for one thing alone, but the first ones.
func notTables() []api.Table {
	l := []api.Table{{}, {Nodes: []api.Def{}}, {Window: 40, Limit: 100}, {Nodes: make([]api.Def, 4), Drift: 5, Window: 40, Limit: 100}}
	for _, n := range []int{1, 2, 3, 9, 10, 260, 70000} {
		l = append(l, of(n, 0))
	}
	for _, b := range [][3]int{{-1, 40, 100}, {10, 41, 100}, {1001, 1000, 1000}, {0, 1, 100}, {0, -40, 100}, {5, 40, 39}, {5, 40, -100}, {5, 40, 1001}, {5, 1001, 1001}, {math.MaxInt, 40, 100}, {5, math.MaxInt, 100}, {5, math.MinInt, 100}} {
		l = append(l, windowed(of(4, 0), b[0], b[1], b[2]))
	}
	for _, d := range []api.Def{{Listen: 20, Size: 1}, {Sync: true, Listen: 7, Size: 1}, {Sync: true, Listen: 201, Size: 1}, {Sync: true, Listen: 8, Size: 1}, {Sync: true, Listen: 20}, {Sync: true, Listen: 20, Size: 9}, {Sync: true, Listen: math.MinInt, Size: 1}} {
		x := of(4, 0)
		x.Nodes[3] = d
		l = append(l, x)
	}
	return l
}

func none(x api.Table) []int { return make([]int, len(x.Nodes)) }

// apart are drifts as far apart as may be; no two neighbours' are one.
func apart(x api.Table) []int {
	l := none(x)
	for i := range l {
		l[i] = []int{x.Drift, -x.Drift, 0}[i%3]
	}
	return l
}

// rulesOf is a rule on each node, by which nothing rings of who says something each round.
func rulesOf(x api.Table) (l []api.Rule) {
	for i := range x.Nodes {
		l = append(l, api.Rule{Node: i, High: 255, Stale: 1})
	}
	return l
}

func made(t *testing.T, x api.Table, drifts []int) *ward.Ward {
	t.Helper()
	w, e := ward.New(x, drifts, rulesOf(x))
	if w == nil || e != api.OK {
		t.Fatalf("New(%v, %v): got %v, %v", x, drifts, w, e)
	}
	return w
}

func on(i, at int) api.Act              { return api.Act{Kind: api.ActOn, Node: i, N: at} }
func off(i int) api.Act                 { return api.Act{Kind: api.ActOff, Node: i} }
func write(i int, b ...byte) api.Act    { return api.Act{Kind: api.ActWrite, Node: i, Data: b} }
func ack(i, rule int) api.Act           { return api.Act{Kind: api.ActAck, Node: i, N: rule} }
func slot(l ...api.Fault) api.Act       { return api.Act{Kind: api.ActSlot, Faults: l} }
func slots(many int) []api.Act          { return slices.Repeat([]api.Act{slot()}, many) }
func fault(kind, n int) api.Fault       { return api.Fault{Kind: kind, N: n} }
func late(n, at int) api.Fault          { return api.Fault{Kind: api.Late, N: n, At: at} }
func babble(n int, b ...byte) api.Fault { return api.Fault{Kind: api.Babble, N: n, Data: b} }

// do does acts that may be done.
func do(t *testing.T, w *ward.Ward, l ...api.Act) {
	t.Helper()
	for i, a := range l {
		if e := w.Step(a); e != api.OK {
			t.Fatalf("act %d, %v: got %v", i, a, e)
		}
	}
}

// within has that be done till it is so, no more than so many times.
func within(t *testing.T, most int, isSo func() bool, again func()) {
	t.Helper()
	for range most {
		if isSo() {
			return
		}
		again()
	}
	if !isSo() {
		t.Fatalf("it is not so yet after %d times", most)
	}
}

func everybody(n int) int { return 1<<n - 1 }

// bits are these nodes' bits.
func bits(l ...int) (b int) {
	for _, i := range l {
		b |= 1 << i
	}
	return b
}

// has tells whether a node's bit is one of those.
func has(b, i int) bool { return b>>i&1 == 1 }

// up is a Ward all of whose nodes are Active, by a table of those above.
func up(t *testing.T, x api.Table, drifts []int) *ward.Ward {
	t.Helper()
	n := len(x.Nodes)
	w := made(t, x, drifts)
	for i := range n {
		do(t, w, on(i, 60*i-100))
	}
	do(t, w, slots(3*n)...)
	for i := range n {
		if w.State(i) != api.Active || w.View(i).Members != everybody(n) {
			t.Fatalf("node %d: got %d, %v", i, w.State(i), w.View(i))
		}
	}
	return w
}

// wantAgree: Agree is that, whatever stands in but beyond the nodes.
func wantAgree(t *testing.T, w *ward.Ward, but int, want bool) {
	t.Helper()
	for _, more := range beyond {
		if got := audit.Agree(w, but|more&^everybody(w.Nodes())); got != want {
			t.Errorf("behind %d slots: Agree(%b and %x beyond): got %v, want %v", w.Slots(), but, more, got, want)
		}
	}
}

func wantSpread(t *testing.T, w *ward.Ward, but, want int) {
	t.Helper()
	for _, more := range beyond {
		if got := audit.Spread(w, but|more&^everybody(w.Nodes())); got != want {
			t.Errorf("behind %d slots: Spread(%b and %x beyond): got %d, want %d", w.Slots(), but, more, got, want)
		}
	}
}

// beyond are bits; those of what is no node do not count.
var beyond = []int{0, -1, 1 << 8, 0x5500, 0xaa00, 1 << 32, math.MinInt, math.MaxInt}

// far are numbers that are far from each kind, node and time, and such as would be near if digits of them were lost.
var far = []int{
	-1, -2, -3, -5, -8, 8, 9, 64, 65, 128, 255, 256, 257, 258, 1 << 16, 1<<16 + 3, 1 << 31, 1 << 32, 1<<32 + 1, 1<<32 + 5,
	-256, -251, -1 << 16, -1 << 31, -1 << 32, -1<<32 + 2, 1 << 62, -1 << 62, math.MaxInt - 1, math.MaxInt, math.MinInt, math.MinInt + 1, math.MinInt + 5,
}

// dice are numbers that look like no row, and are the same each time.
type dice uint64

func (d *dice) below(n int) int {
	*d = *d*6364136223846793005 + 1442695040888963407
	return int(uint64(*d) >> 33 % uint64(n))
}

func (d *dice) of(l ...int) int { return l[d.below(len(l))] }

// row is some bytes, no more than that many.
func (d *dice) row(most int) []byte {
	b := make([]byte, d.below(most+1))
	for i := range b {
		b[i] = byte(d.below(256))
	}
	return b
}

// same takes nil and empty bytes as alike.
func same(a, b api.Message) bool {
	return bytes.Equal(a.Data, b.Data) && a.Age == b.Age && a.Good == b.Good
}
