package node_test

import (
	"bytes"
	"slices"
	"sync"
	"testing"

	"matron/api"
	"matron/node"
)

// P10.5 (and W6, W7): what is handed in is neither changed, nor the room behind its end, nor kept; what is answered is new memory.

// spoil writes into bytes, and into the room behind their end.
func spoil(b []byte) {
	b = b[:cap(b)]
	for i := range b {
		b[i] ^= 0x5a
	}
}

// roomy is those bytes, with room behind their end.
func roomy(b []byte) []byte {
	return append(bytes.Clone(b), 1, 2, 3, 4, 5, 6, 7, 8)[:len(b)]
}

// busy has a node do all that there is, in each state.
func busy(n *node.Node, d *dice, many int) {
	for i := range many {
		n.On(i)
		n.Write(d.row(9))
		n.Ack(d.below(4))
		n.Send()
		h := some(d, n.View(), 4)
		if d.below(3) == 0 {
			h = quiet
		}
		n.Take(h)
		all(n)
		if d.below(50) == 0 {
			n.Off()
		}
	}
}

func TestTablesAndRulesAreNotChanged(t *testing.T) {
	for _, x := range append(notTables(), plain(4), plain(7), plain(8)) {
		for _, rules := range append(slices.Clone(notRules), nil, someRules()) {
			nodes := append(slices.Clone(x.Nodes), slices.Repeat([]api.Def{{Sync: true, Listen: -7, Size: 99}}, 20)...)
			room := append(slices.Clone(rules), slices.Repeat([]api.Rule{{Node: 9, Low: -7, High: 300}}, 20)...)
			wasNodes, wasRoom := slices.Clone(nodes), slices.Clone(room)
			y := x
			y.Nodes = nodes[:len(x.Nodes)]
			if n, e := node.New(y, 1, -2, room[:len(rules)]); e == api.OK {
				d := dice(len(rules))
				busy(n, &d, 200)
			}
			if !slices.Equal(nodes, wasNodes) || !slices.Equal(room, wasRoom) || y.Drift != x.Drift || y.Window != x.Window || y.Limit != x.Limit {
				t.Errorf("changed: %v, %v, want %v, %v", nodes, room, wasNodes, wasRoom)
			}
		}
	}
}

// A node has a table and rules of its own.
func TestTablesAndRulesAreNotKept(t *testing.T) {
	for n := api.MinNodes; n <= api.MaxNodes; n++ {
		for i := range n {
			x, rules := of(n, 255, 2), someRules()
			a := on(t, x, i, 3, rules...)
			for k := range x.Nodes {
				x.Nodes[k] = api.Def{Sync: k%2 == 0, Info: k != 1, Listen: 2}
			}
			for k := range rules {
				rules[k] = api.Rule{Node: -1, Low: 255, Stale: -k}
			}
			for many := range 10 {
				x = of(n, 255, 2)
				if got, want := a.Write(make([]byte, many)) == api.OK, many <= x.Nodes[i].Size; got != want {
					t.Errorf("Write of %d: %v, want %v", many, got, want)
				}
			}
			a.Write([]byte{9})
			b := on(t, of(n, 255, 2), i, 3, someRules()...)
			b.Write([]byte{9})
			wantAlike(t, a, b)
		}
	}
}

func TestDataIsNotChangedNorKept(t *testing.T) {
	for many := range 11 {
		data := roomy([]byte{21, 22, 23, 24, 25, 26, 27, 28, 29, 30}[:many])
		was := bytes.Clone(data[:cap(data)])
		x := plain(4)
		x.Nodes[1].Size = 8
		n := on(t, x, 1, 0)
		n.Write([]byte{5})
		e := n.Write(data)
		passes(n, quiets(10)...)
		want := []byte{5}
		if many <= 8 {
			want = bytes.Clone(data)
		}
		if (e == api.OK) != (many <= 8) {
			t.Errorf("Write of %d: %v", many, e)
		}
		wantSend(t, n, cold(c(0, 1, 2), want...))
		n.Take(quiet)
		rights(n, 3)
		if !bytes.Equal(data[:cap(data)], was) {
			t.Errorf("changed: %x, want %x", data[:cap(data)], was)
		}
		spoil(data)
		wantSend(t, n, info(c(1, 1, 15), want...))
		n.Take(quiet)
	}
}

// Bytes that are heard are neither changed, whatever they are, nor do they hang on later with what is read.
func TestHeardIsNotChangedNorKept(t *testing.T) {
	for n := api.MinNodes; n <= api.MaxNodes; n++ {
		a, b := on(t, of(n, 255, 2), 2, 3, someRules()...), on(t, of(n, 255, 2), 2, 3, someRules()...)
		d := dice(n)
		for range 600 {
			wantSend(t, a, b.Send())
			h := some(&d, b.View(), n)
			mine := h
			mine.X, mine.Y = roomy(h.X), roomy(h.Y)
			wasX, wasY := bytes.Clone(mine.X[:cap(mine.X)]), bytes.Clone(mine.Y[:cap(mine.Y)])
			a.Take(mine)
			if !bytes.Equal(mine.X[:cap(mine.X)], wasX) || !bytes.Equal(mine.Y[:cap(mine.Y)], wasY) {
				t.Errorf("changed: %+v", mine)
			}
			spoil(mine.X)
			spoil(mine.Y)
			b.Take(h)
			wantAll(t, a, all(b))
			if a.State() == api.Frozen {
				a.On(0)
				b.On(0)
			}
		}
	}
}

// The same bytes in X and in Y, in one memory, are as in two.
func TestHeardOfOneMemory(t *testing.T) {
	n := on(t, plain(4), 1, 0)
	b := roomy(info(c(4, 2, 12), 7, 8))
	n.Send()
	n.Take(api.Heard{A: api.Bytes, X: b, B: api.Bytes, Y: b[:len(b)-1], Offset: 4})
	spoil(b)
	want(t, n, api.Passive, c(4, 3, 12), 4)
	wantRead(t, n, 2, api.Message{Data: []byte{7, 8}, Good: true})
}

// What was sent may be changed, with the room behind its end, and the node sends and tells what it would; what was sent ahead stays.
func TestSentIsNewMemory(t *testing.T) {
	for _, infos := range []int{0, 255} {
		x := of(5, 255, infos)
		a, b := on(t, x, 0, 0), on(t, x, 0, 0)
		a.Write([]byte{1, 2})
		b.Write([]byte{1, 2})
		var sent, was [][]byte
		for range 60 {
			got, want := a.Send(), b.Send()
			if !bytes.Equal(got, want) {
				t.Errorf("Send: got %x, want %x", got, want)
			}
			spoil(got)
			wantAll(t, a, all(b))
			if len(want) > 0 {
				sent, was = append(sent, want), append(was, bytes.Clone(want))
			}
			h := quiet
			if b.State() != api.Listen {
				h = both(info(own(b), 3), 0)
			}
			a.Take(h)
			b.Take(h)
		}
		if len(sent) < 10 {
			t.Fatal("sent only", len(sent))
		}
		for i := range sent {
			if !bytes.Equal(sent[i], was[i]) {
				t.Errorf("sent %x, which became %x", was[i], sent[i])
			}
		}
	}
}

// What was sent holds none of what was written, nor the other way round.
func TestSentIsNotWhatWasWritten(t *testing.T) {
	n := on(t, plain(4), 1, 0)
	data := []byte{1, 2, 3, 4, 5, 6}
	n.Write(data)
	passes(n, quiets(10)...)
	spoil(n.Send())
	n.Take(quiet)
	if !bytes.Equal(data, []byte{1, 2, 3, 4, 5, 6}) {
		t.Errorf("changed: %x", data)
	}
	rights(n, 3)
	wantSend(t, n, info(c(1, 1, 15), 1, 2, 3, 4, 5, 6))
}

// What was read may be changed, and is read again as it was; and it stays what it was as more is said.
func TestReadIsNewMemory(t *testing.T) {
	for _, state := range states {
		n := inState(t, state)
		was := all(n)
		for who := -1; who <= api.MaxNodes; who++ {
			spoil(n.Read(who).Data)
		}
		wantAll(t, n, was)
	}
	n := joined(t, plain(4), 1, 0, c(4, 2, 4))
	passes(n, both(info(own(n), 31, 32), 0))
	first, again := n.Read(3), n.Read(3)
	spoil(again.Data)
	rights(n, 3)
	passes(n, both(info(own(n), 41, 42), 0))
	if !same(first, api.Message{Data: []byte{31, 32}, Age: 1, Good: true}) {
		t.Errorf("became %+v", first)
	}
	spoil(first.Data)
	wantRead(t, n, 3, api.Message{Data: []byte{41, 42}, Age: 1, Good: true})
}

// W2: what is asked of a Node changes nothing.
func TestAskingChangesNothing(t *testing.T) {
	for _, state := range states {
		asked := inState(t, state)
		for i := range 100 {
			all(asked)
			asked.Read(i - 50)
			asked.Rings(i - 50)
		}
		wantAlike(t, asked, inState(t, state))
	}
}

// W2: a Node has nothing of another one, also of one of the same table and rules.
func TestNodesAreApart(t *testing.T) {
	x, rules := plain(5), someRules()
	for _, state := range states {
		d := dice(state)
		a, b := on(t, x, 2, 1, rules...), on(t, x, 2, 1, rules...)
		busy(a, &d, 300)
		wantAlike(t, b, on(t, plain(5), 2, 1, someRules()...))
		n := inState(t, state)
		busy(on(t, x, 2, 1, rules...), &d, 100)
		wantAlike(t, n, inState(t, state))
	}
}

// W9: each goroutine may have its own Node, beside all others of the same table and rules.
func TestNothingHangsOnOtherCalls(t *testing.T) {
	var wait sync.WaitGroup
	x, rules := plain(5), someRules()
	for i := range 8 {
		wait.Go(func() {
			d := dice(i)
			script(pairOf(t, x, i%5, i%6, rules), &d, seen{}, 150)
		})
	}
	wait.Wait()
}
