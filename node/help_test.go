package node_test

import (
	"bytes"
	"math"
	"slices"
	"testing"

	"matron/api"
	"matron/frame"
	"matron/node"
)

const far = 1 << 30 // an Offset is -far to far

// of is a table of that many nodes: bit i of syncs and infos is node i's. No two have one Listen, or one Size.
func of(n, syncs, infos int) api.Table {
	t := api.Table{Drift: 5, Window: 40, Limit: 100}
	for i := range n {
		t.Nodes = append(t.Nodes, api.Def{Sync: syncs>>i&1 == 1, Info: infos>>i&1 == 1, Listen: 2*n + i*3%8, Size: 1 + i*5%8})
	}
	return t
}

// plain is a table of that many nodes that all have Sync, and not Info.
func plain(n int) api.Table { return of(n, 255, 0) }

// eachNode goes through the nodes of tables of 4 to 8.
func eachNode(do func(x api.Table, i int)) {
	for n := api.MinNodes; n <= api.MaxNodes; n++ {
		for i := range n {
			do(plain(n), i)
		}
	}
}

// c is a C-state.
func c(round, slot, members int) api.CState {
	return api.CState{Round: round, Slot: slot, Members: members}
}

// told is a frame's bytes.
func told(kind int, s api.CState, data ...byte) []byte {
	b, e := frame.Encode(api.Frame{Kind: kind, State: s, Data: data})
	if e != api.OK {
		panic(e)
	}
	return b
}

func normal(s api.CState, data ...byte) []byte { return told(api.Normal, s, data...) }
func info(s api.CState, data ...byte) []byte   { return told(api.Info, s, data...) }
func cold(s api.CState, data ...byte) []byte   { return told(api.Cold, s, data...) }

// What is heard: the same bytes in both channels, in one of them, or others in each.
func both(b []byte, offset int) api.Heard { return apart(b, b, offset) }
func inX(b []byte, offset int) api.Heard {
	return api.Heard{A: api.Bytes, X: b, Offset: offset}
}
func inY(b []byte, offset int) api.Heard {
	return api.Heard{B: api.Bytes, Y: b, Offset: offset}
}
func apart(x, y []byte, offset int) api.Heard {
	return api.Heard{A: api.Bytes, X: x, B: api.Bytes, Y: y, Offset: offset}
}

var (
	quiet = api.Heard{Offset: 77} // of nobody an Offset should count
	noise = api.Heard{A: api.Noise, B: api.Noise, Offset: 77}
	bad   = []byte{9} // no frame
)

// quiets is so many slots of silence.
func quiets(many int) []api.Heard { return slices.Repeat([]api.Heard{quiet}, many) }

func made(t *testing.T, x api.Table, i, drift int, rules ...api.Rule) *node.Node {
	t.Helper()
	n, e := node.New(x, i, drift, rules)
	if n == nil || e != api.OK {
		t.Fatalf("New(%v, %d, %d, %v): got %v, %v", x, i, drift, rules, n, e)
	}
	return n
}

// on is one that is On at 0.
func on(t *testing.T, x api.Table, i, drift int, rules ...api.Rule) *node.Node {
	t.Helper()
	n := made(t, x, i, drift, rules...)
	if e := n.On(0); e != api.OK {
		t.Fatal(e)
	}
	return n
}

// joined is one that heard that state, told by its Slot's node: the slot behind that begins.
func joined(t *testing.T, x api.Table, i, drift int, s api.CState, rules ...api.Rule) *node.Node {
	t.Helper()
	n := on(t, x, i, drift, rules...)
	passes(n, both(info(s), 0))
	if n.State() != api.Passive {
		t.Fatal("not Passive:", n.State())
	}
	return n
}

// passes has slots pass, whatever is sent in them.
func passes(n *node.Node, l ...api.Heard) {
	for _, h := range l {
		n.Send()
		n.Take(h)
	}
}

// rights has slots pass, in each of which the node whose it is is heard rightly.
func rights(n *node.Node, many int) {
	for range many {
		n.Send()
		n.Take(both(info(own(n)), 0))
	}
}

// own is the state that the slot's node would tell.
func own(n *node.Node) api.CState {
	s := n.View()
	s.Members |= 1 << s.Slot
	return s
}

// slot is a slot of a node: what it sends and hears, and what it is behind that.
type slot struct {
	sends []byte
	h     api.Heard
	state int
	c     api.CState
	time  int
}

func play(t *testing.T, n *node.Node, l ...slot) {
	t.Helper()
	for i, s := range l {
		wantSend(t, n, s.sends)
		n.Take(s.h)
		if n.State() != s.state || n.View() != s.c || n.Clock() != s.time {
			t.Errorf("behind slot %d: got %d, %v at %d, want %d, %v at %d", i, n.State(), n.View(), n.Clock(), s.state, s.c, s.time)
		}
	}
}

func want(t *testing.T, n *node.Node, state int, s api.CState, time int) {
	t.Helper()
	if n.State() != state || n.View() != s || n.Clock() != time {
		t.Errorf("got %d, %v at %d, want %d, %v at %d", n.State(), n.View(), n.Clock(), state, s, time)
	}
}

func wantSend(t *testing.T, n *node.Node, b []byte) {
	t.Helper()
	if got := n.Send(); !bytes.Equal(got, b) {
		t.Errorf("Send: got %x, want %x", got, b)
	}
}

// never is the message of who never said a thing, and is no member.
var never = api.Message{Age: -1}

// same takes nil and empty bytes as alike.
func same(a, b api.Message) bool {
	return bytes.Equal(a.Data, b.Data) && a.Age == b.Age && a.Good == b.Good
}

func wantRead(t *testing.T, n *node.Node, who int, m api.Message) {
	t.Helper()
	if got := n.Read(who); !same(got, m) {
		t.Errorf("Read(%d): got %+v, want %+v", who, got, m)
	}
}

// wantEmpty: the Store is empty.
func wantEmpty(t *testing.T, n *node.Node) {
	t.Helper()
	for who := -1; who <= api.MaxNodes; who++ {
		wantRead(t, n, who, never)
	}
}

// tells is all that a node tells.
type tells struct {
	state int
	c     api.CState
	time  int
	reads [api.MaxNodes]api.Message
	rings [api.MaxRules]int
}

func all(n *node.Node) tells {
	a := tells{state: n.State(), c: n.View(), time: n.Clock()}
	for i := range a.reads {
		a.reads[i] = n.Read(i)
	}
	for i := range a.rings {
		a.rings[i] = n.Rings(i)
	}
	return a
}

func wantAll(t *testing.T, n *node.Node, want tells) {
	t.Helper()
	got := all(n)
	if got.state != want.state || got.c != want.c || got.time != want.time || got.rings != want.rings || !slices.EqualFunc(got.reads[:], want.reads[:], same) {
		t.Errorf("got %+v, want %+v", got, want)
	}
}

// wantAlike: two nodes are one to whoever calls, now and in many slots to come.
func wantAlike(t *testing.T, n, m *node.Node) {
	t.Helper()
	var d dice
	for i := range 90 {
		wantAll(t, n, all(m))
		if i%30 == 29 {
			if got, want := n.On(i), m.On(i); got != want {
				t.Errorf("On: got %v, want %v", got, want)
			}
		}
		rule := d.below(4)
		if got, want := n.Ack(rule), m.Ack(rule); got != want {
			t.Errorf("Ack: got %v, want %v", got, want)
		}
		wantSend(t, n, m.Send())
		wantAll(t, n, all(m))
		h := quiet
		if s := own(m); i > 15 && d.below(4) != 0 {
			h = both(info(s, byte(i)), d.below(30)-15)
		}
		n.Take(h)
		m.Take(h)
	}
	wantAll(t, n, all(m))
}

// Rules that look at the ways' messages.
func someRules() []api.Rule {
	return []api.Rule{{Node: 3, Low: 40, High: 50, Stale: 1}, {Node: 0, Low: 0, High: 9, Stale: 3}, {Node: 1, High: 255, Stale: 0}}
}

var states = []int{api.Off, api.Listen, api.Begun, api.Passive, api.Active, api.Frozen}

// inState is node 2 of five in that state, with a time, data, alarms that ring, and, where it has some, messages, members,
// counts and measures.
func inState(t *testing.T, state int) *node.Node {
	t.Helper()
	n := made(t, of(5, 0x1f, 2), 2, 3, someRules()...)
	n.Write([]byte{7, 8})
	n.On(40)
	passes(n, both(info(c(7, 3, 0x19), 60), 11), both(normal(c(7, 4, 0x19), 5, 6), 8), both(info(c(8, 0, 0x19), 200), -8))
	switch state {
	case api.Off:
		n.Off()
	case api.Listen:
		n.Off()
		n.On(-40)
		passes(n, noise)
		passes(n, quiets(5)...)
	case api.Begun:
		n.Off()
		n.On(-40)
		passes(n, quiets(16)...) // it waits for 16
		passes(n, both(info(c(0, 3, 0x0c), 61), 20))
	case api.Active, api.Frozen:
		passes(n, quiet, quiet)
		rights(n, 2)
	}
	if state == api.Frozen {
		passes(n, slices.Repeat([]api.Heard{noise}, 8)...) // as many fail as agree, in its own slot; then all fail
	}
	if n.State() != state || n.Clock() == 0 || n.Rings(0)|n.Rings(1) == 0 {
		t.Fatal("state", state, "is not reached:", n.State(), n.Clock(), n.Rings(0))
	}
	return n
}

// dice are numbers that look like no row, and are the same each time.
type dice uint64

func (d *dice) below(n int) int {
	*d = *d*6364136223846793005 + 1442695040888963407
	return int(uint64(*d) >> 33 % uint64(n))
}

func (d *dice) of(l ...int) int { return l[d.below(len(l))] }

// row is some bytes, no more than that many.
func (d *dice) row(most int) []byte {
	b := make([]byte, d.below(most+1))
	for i := range b {
		b[i] = byte(d.below(256))
	}
	return b
}

// beyond are numbers that are far from each node, rule and time, and such as would be near if digits of them were lost.
var beyond = []int{
	-2, -3, -7, -8, -9, -128, -256, -257, 255, 256, 257, 65535, 65536, -65536, 1<<16 + 3, 1 << 31, 1<<31 + 1, 1 << 32, 1<<32 + 5,
	-1 << 31, -1 << 32, -1<<32 + 2, 1 << 40, -1 << 40, 1 << 62, -1 << 62, math.MaxInt - 1, math.MaxInt, math.MinInt, math.MinInt + 1, math.MinInt + 7,
}
