package node_test

import (
	"bytes"
	"math/bits"
	"testing"

	"matron/api"
)

// P10.2 to P10.4, of nodes that go by turns at one bus: each is held against its model behind each Send and each Take.

// bus is all nodes of a table, each with a drift of its own.
type bus []*pair

func busOf(t *testing.T, x api.Table, rules ...api.Rule) bus {
	var b bus
	for i := range x.Nodes {
		b = append(b, pairOf(t, x, i, i*3%11-5, rules))
	}
	return b
}

// ons switches those bits' nodes on, each at a time of its own.
func (b bus) ons(members int) {
	for i, p := range b {
		if members>>i&1 == 1 {
			p.on(i*37%50 - 20)
		}
	}
}

// becomes is what becomes of what a node hears, or of what it sends.
type becomes struct {
	sent  func(who int, b []byte) []byte
	heard func(who int, h api.Heard) api.Heard
}

// slot has a slot pass: all send, and hear one who sends alone, in both channels; two at once are noise. It answers what each sent.
func (b bus) slot(x becomes) [][]byte {
	sent := make([][]byte, len(b))
	who, many := 0, 0
	for i, p := range b {
		sent[i] = p.send()
		if x.sent != nil {
			sent[i] = x.sent(i, sent[i])
		}
		if len(sent[i]) > 0 {
			who, many = i, many+1
		}
	}
	at := b[who].n.Clock()
	for i, p := range b {
		h := api.Heard{}
		switch {
		case many == 1:
			h = both(sent[who], at-p.n.Clock())
		case many > 1:
			h = noise
		}
		if x.heard != nil {
			h = x.heard(i, h)
		}
		p.take(h)
	}
	return sent
}

func (b bus) slots(many int) {
	for range many {
		b.slot(becomes{})
	}
}

// wantClique: those bits' nodes are Active, have one view, and just they are members in it.
func (b bus) wantClique(t *testing.T, members int) {
	t.Helper()
	s := b[bits.TrailingZeros(uint(members))].n.View()
	if s.Members != members {
		t.Errorf("members %b, want %b", s.Members, members)
	}
	for i, p := range b {
		if members>>i&1 == 1 && (p.n.State() != api.Active || p.n.View() != s) {
			t.Errorf("node %d: got %d, %v, want Active, %v", i, p.n.State(), p.n.View(), s)
		}
	}
}

// least is the least Listen of those bits' nodes.
func (b bus) least(members int) int {
	least := api.MaxListen
	for i, p := range b {
		if members>>i&1 == 1 {
			least = min(least, p.m.x.Nodes[i].Listen)
		}
	}
	return least
}

// bare is a bus of four nodes without drift, so that their clocks are alike from the first frame on.
func bare(t *testing.T, rules ...api.Rule) bus {
	var b bus
	for i := range 4 {
		b = append(b, pairOf(t, plain(4), i, 0, rules))
	}
	return b
}

// wantSlots has slots pass, in each of which that node sends those bytes; none where there are none.
func (b bus) wantSlots(t *testing.T, l ...[]byte) {
	t.Helper()
	for k, want := range l {
		for i, got := range b.slot(becomes{}) {
			if len(got) > 0 && !bytes.Equal(got, want) {
				t.Errorf("slot %d: node %d sends %x, want %x", k, i, got, want)
			}
			if len(got) > 0 {
				want = nil
			}
		}
		if len(want) > 0 {
			t.Errorf("slot %d: nobody sends %x", k, want)
		}
	}
}

// Two nodes, worked out by hand: one begins, the other one hears that; one goes, a third one comes.
func TestTwoAtABus(t *testing.T) {
	b := bare(t, api.Rule{Node: 1, High: 90, Stale: 1})
	b[0].on(7) // it waits for 8
	b[0].write([]byte{10})
	b[1].on(-20) // it waits for 11
	b[1].write([]byte{91, 1})
	b.wantSlots(t, make([][]byte, 7)...)
	b.wantSlots(t, cold(c(0, 0, 1), 10))
	want(t, b[0].n, api.Begun, c(0, 1, 1), 7)
	want(t, b[1].n, api.Passive, c(0, 1, 1), 7)
	wantRead(t, b[1].n, 0, api.Message{Data: []byte{10}, Good: true})
	b.wantSlots(t, info(c(0, 1, 3), 91, 1), nil, nil)
	want(t, b[0].n, api.Begun, c(1, 0, 3), 7)
	want(t, b[1].n, api.Active, c(1, 0, 3), 7)
	wantRead(t, b[0].n, 1, api.Message{Data: []byte{91, 1}, Age: 1, Good: true})
	if b[0].n.Rings(0) != api.TooHigh || b[1].n.Rings(0) != api.TooOld|api.Lost {
		t.Error("rings", b[0].n.Rings(0), b[1].n.Rings(0)) // who sends does not put it in its own Store
	}
	b.wantSlots(t, info(c(1, 0, 3), 10), normal(c(1, 1, 3), 91, 1), nil, nil)
	b.wantSlots(t, info(c(2, 0, 3), 10), info(c(2, 1, 3), 91, 1))
	b[2].on(500) // it hears none but an Info frame
	b.wantSlots(t, nil, nil, normal(c(3, 0, 3), 10), normal(c(3, 1, 3), 91, 1), nil, nil)
	want(t, b[2].n, api.Listen, c(0, 0, 0), 500)
	b.wantSlots(t, info(c(4, 0, 3), 10))
	want(t, b[2].n, api.Passive, c(4, 1, 3), 7)
	b[1].off()
	b.wantSlots(t, nil)
	want(t, b[0].n, api.Active, c(4, 2, 1), 7)
	want(t, b[2].n, api.Passive, c(4, 2, 1), 7)
	b.wantSlots(t, info(c(4, 2, 5)), nil, normal(c(5, 0, 5), 10), nil, normal(c(5, 2, 5)))
	b[0].off()
	b.wantSlots(t, nil, nil, nil)
	want(t, b[2].n, api.Active, c(6, 2, 4), 7)
	b.wantSlots(t, nil)
	want(t, b[2].n, api.Listen, c(0, 0, 0), 7)
	b.wantSlots(t, make([][]byte, 13)...)
	b.wantSlots(t, cold(c(0, 2, 4))) // it waits for 14, and the slot in which it was alone does not count
}

// Two that begin in one slot hear nobody rightly: each begins anew in its own slot, and who waits for less begins alone.
func TestTwoThatBeginAtOnce(t *testing.T) {
	b := bare(t)
	b[1].on(0) // it waits for 11
	b.slots(3)
	b[0].on(0) // it waits for 8
	b.slots(7)
	for i, sent := range b.slot(becomes{}) {
		if (len(sent) > 0) != (i < 2) {
			t.Errorf("node %d sends %x", i, sent)
		}
	}
	want(t, b[0].n, api.Begun, c(0, 1, 1), 0)
	want(t, b[1].n, api.Begun, c(0, 2, 2), 0)
	b.wantSlots(t, nil, nil, nil)
	want(t, b[0].n, api.Begun, c(1, 0, 1), 0)
	want(t, b[1].n, api.Begun, c(1, 1, 2), 0)
	b.wantSlots(t, nil)
	want(t, b[0].n, api.Listen, c(0, 0, 0), 0)
	want(t, b[1].n, api.Listen, c(0, 0, 0), 0)
	b.wantSlots(t, make([][]byte, 7)...)
	b.wantSlots(t, cold(c(0, 0, 1)), info(c(0, 1, 3)))
	want(t, b[1].n, api.Active, c(0, 2, 3), 0)
}

// Of each number of nodes any two and more that are on from the beginning are one clique: as many slots on as the least of them waits, and a round.
func TestBeginTogether(t *testing.T) {
	for n := api.MinNodes; n <= api.MaxNodes; n++ {
		for members := range 1 << n {
			if bits.OnesCount(uint(members)) < 2 {
				continue
			}
			b := busOf(t, plain(n))
			b.ons(members)
			b.slots(b.least(members) + n)
			b.wantClique(t, members)
			for range 2 * n {
				b.slots(1)
				b.wantClique(t, members)
			}
		}
		if t.Failed() {
			t.Fatal(n, "nodes")
		}
	}
}

// up is a bus of which all nodes are a clique.
func up(t *testing.T, x api.Table, rules ...api.Rule) bus {
	t.Helper()
	b := busOf(t, x, rules...)
	for i, p := range b {
		p.write([]byte{byte(100 + i)})
	}
	all := 1<<len(b) - 1
	b.ons(all)
	b.slots(b.least(all) + len(b))
	b.wantClique(t, all)
	return b
}

// One that goes is a member no more behind its slot; it comes back, and is one in three rounds and a slot. Nobody's view is another one for it.
func TestGoesAndComesBack(t *testing.T) {
	for n := api.MinNodes; n <= api.MaxNodes; n++ {
		for who := range n {
			for ahead := range 2 * n {
				b := up(t, plain(n))
				all, others := 1<<n-1, (1<<n-1)&^(1<<who)
				b.slots(ahead)
				b[who].off()
				b.slots(n)
				b.wantClique(t, others)
				b[who].on(900)
				for range 3*n + 1 {
					b.slots(1)
					members := b[(who+1)%n].n.View().Members
					for i, p := range b {
						if i != who && (p.n.State() != api.Active || p.n.View().Members != members || members&others != others) {
							t.Error("node", i, p.n.State(), p.n.View())
						}
					}
				}
				b.wantClique(t, all)
			}
		}
	}
}

// hit is what becomes of what node who sends or hears, in one slot.
func hit(d *dice, who int) becomes {
	switch d.below(4) {
	case 0: // it sends nothing
		return becomes{sent: func(i int, b []byte) []byte {
			if i == who {
				return nil
			}
			return b
		}}
	case 1: // a bit of what it sends is turned
		bit := d.below(1000)
		return becomes{sent: func(i int, b []byte) []byte {
			if i == who && len(b) > 0 {
				b[bit/8%len(b)] ^= 1 << (bit % 8)
			}
			return b
		}}
	case 2: // it hears nothing
		return becomes{heard: func(i int, h api.Heard) api.Heard {
			if i == who {
				return quiet
			}
			return h
		}}
	}
	first := d.below(2) == 0 // one channel is lost, to all
	return becomes{heard: func(_ int, h api.Heard) api.Heard {
		if first {
			h.A, h.X = d.below(2), nil
		} else {
			h.B, h.Y = d.below(2), nil
		}
		return h
	}}
}

// However one node is hit, now and then: all others stay Active, have one view, are members in it, and read what each of them last sent.
func TestOneThatIsHit(t *testing.T) {
	for script := range 120 {
		d := dice(script)
		n := 4 + script%5
		who := d.below(n)
		b := up(t, of(n, 255, d.below(256)), api.Rule{Node: (who + 1) % n, High: 255, Stale: 1})
		others := (1<<n - 1) &^ (1 << who)
		last := make([]byte, n) // what each of them said last
		for i := range last {
			last[i] = byte(100 + i)
		}
		for k := range 12 * n {
			x := becomes{}
			if k%(4*n) == n {
				x = hit(&d, who)
			}
			writer := d.below(n)
			b[writer].write([]byte{byte(d.below(256))})
			for i, sent := range b.slot(x) {
				if len(sent) > 0 {
					last[i] = sent[len(sent)-3] // ahead of its sum
				}
			}
			b.wantOthers(t, others, last)
		}
		if t.Failed() {
			t.Fatal("script", script)
		}
	}
}

func (b bus) wantOthers(t *testing.T, others int, last []byte) {
	t.Helper()
	s := b[bits.TrailingZeros(uint(others))].n.View()
	least, most := 1<<40, -1<<40
	for i, p := range b {
		if others>>i&1 == 0 {
			continue
		}
		if p.n.State() != api.Active || p.n.View() != s || s.Members&others != others {
			t.Errorf("node %d: got %d, %v, want Active, %v", i, p.n.State(), p.n.View(), s)
		}
		least, most = min(least, p.n.Clock()), max(most, p.n.Clock())
		for who := range b {
			if who == i || others>>who&1 == 0 {
				continue
			}
			if m := p.n.Read(who); !bytes.Equal(m.Data, last[who:who+1]) || m.Age > 1 || !m.Good {
				t.Errorf("node %d reads of %d: %+v, want %x", i, who, m, last[who])
			}
		}
	}
	if most-least > 2*b[0].m.x.Drift {
		t.Errorf("clocks: %d to %d", least, most)
	}
}

// Whatever happens at a bus, each node does as its model.
func TestBusScripts(t *testing.T) {
	for script := range 150 {
		d := dice(script + 1000)
		n := 4 + script%5
		b := busOf(t, of(n, d.of(255, 15, 15<<(n-4)), d.below(256)), someRules()...)
		b.ons(d.below(1 << n))
		for range 60 + script {
			b.acts(&d)
			b.slot(b.harm(&d))
		}
		if t.Failed() {
			t.Fatal("script", script)
		}
	}
}

func (b bus) acts(d *dice) {
	p := b[d.below(len(b))]
	switch d.below(30) {
	case 0:
		p.off()
	case 1, 2, 3:
		p.on(d.below(2100) - 1050)
	case 4, 5, 6:
		p.ack(d.below(5) - 1)
	case 7, 8, 9, 10, 11, 12:
		p.write(d.row(9))
	}
}

// harm is now and then whatever may happen in a slot.
func (b bus) harm(d *dice) becomes {
	who := d.below(len(b))
	switch d.below(20) {
	case 0, 1, 2:
		return hit(d, who)
	case 3: // it hears whatever
		return becomes{heard: func(i int, h api.Heard) api.Heard {
			if i == who {
				return some(d, b[who].m.view(), len(b))
			}
			return h
		}}
	case 4: // it sends whatever
		return becomes{sent: func(i int, x []byte) []byte {
			if i == who {
				return told(1+d.below(3), ownOf(b[who].m.view()), d.row(8)...)
			}
			return x
		}}
	case 5: // it is far off
		return becomes{heard: func(i int, h api.Heard) api.Heard {
			h.Offset += d.of(0, 0, -1000, 300)
			return h
		}}
	}
	return becomes{}
}
