package star_test

import (
	"testing"

	"matron/api"
	"matron/guard"
)

// model is a Star in another way: it keeps all that its channels ever ended with, and has guardians hear it anew each time.
// What nodes send it asks of the whole list of faults, not of one behind the other, and a channel is whole numbers.
type model struct {
	table api.Table
	ended [2][]ended
}

type ended struct {
	b  []byte
	at int
}

func (m *model) guard(i int) *guard.Guard {
	g, _ := guard.New(m.table)
	for _, x := range m.ended[i] {
		g.End(x.b, x.at)
	}
	return g
}

func (m *model) know() (l [2]int) {
	for i := range l {
		slot, ok := m.guard(i).Knows()
		if l[i] = slot; !ok {
			l[i] = lost
		}
	}
	return l
}

// sent is what node n sends: what it was given last, with each bit turned that was garbled an odd number of times since.
func (g given) sent(n int) []byte {
	b, since := g.sends[n], 0
	for i, f := range g.l {
		switch {
		case f.N != n:
		case f.Kind == api.Omit:
			b, since = nil, i
		case f.Kind == api.Babble:
			b, since = f.Data, i
		}
	}
	if len(b) > 50 {
		b = b[:50]
	}
	var out []byte
	for i, v := range b {
		for bit := range 8 {
			for _, f := range g.l[since:] {
				if f.Kind == api.Garble && f.N == n && turns(f.At, 8*i+bit, 8*len(b)) {
					v ^= 1 << (7 - bit)
				}
			}
		}
		out = append(out, v)
	}
	return out
}

// turns tells whether a Garble's At is this bit of so many.
func turns(at, bit, bits int) bool {
	if at < 0 {
		at = -at
	}
	return at >= bit && (at-bit)%bits == 0
}

// time is when node n sends.
func (g given) time(n int) int {
	at := g.at[n]
	for _, f := range g.l {
		if f.N == n && (f.Kind == api.Late || f.Kind == api.Babble) {
			at += f.At
		}
	}
	return at
}

func (g given) has(kind, n int) bool {
	for _, f := range g.l {
		if f.Kind == kind && f.N == n {
			return true
		}
	}
	return false
}

// through is the nodes whose bytes come through a channel: all that send, one, or none.
func (m *model) through(g given, i int) (who []int) {
	var sends [api.MaxNodes]bool
	var at ticks
	for n := range m.table.Nodes {
		if sends[n], at[n] = len(g.sent(n)) > 0, g.time(n); sends[n] {
			who = append(who, n)
		}
	}
	if g.has(api.Block, i) {
		return nil
	}
	if g.has(api.Leak, i) {
		return who
	}
	if one := m.guard(i).Pass(sends, at); one != nobody {
		return []int{one}
	}
	return nil
}

// levels is a channel's, so many bits long.
func (g given) levels(who []int, long int) []int {
	l := make([]int, long)
	for _, n := range who {
		for i, v := range g.sent(n) {
			for bit := range 8 {
				l[8*i+bit] += int(v>>(7-bit)&1)*2 - 1
			}
		}
	}
	return l
}

func tell(levels []int) (int, []byte) {
	many := map[int]int{}
	b := make([]byte, len(levels)/8)
	for i, v := range levels {
		many[v]++
		if v == 1 {
			b[i/8] += 1 << (7 - i%8)
		}
	}
	switch len(levels) {
	case many[0]:
		return api.Silent, nil
	case many[1] + many[-1]:
		return api.Bytes, b
	}
	return api.Noise, nil
}

// pass has a slot pass.
func (m *model) pass(g given) (out [api.MaxNodes]api.Heard) {
	a, b := m.through(g, 0), m.through(g, 1)
	long := 0
	for _, n := range append(append([]int(nil), a...), b...) {
		long = max(long, 8*len(g.sent(n)))
	}
	var h api.Heard
	h.A, h.X = tell(g.levels(a, long))
	h.B, h.Y = tell(g.levels(b, long))
	for n := range m.table.Nodes {
		if !g.has(api.Deaf, n) {
			out[n] = h
		}
		if l := append(append([]int(nil), a...), b...); len(l) > 0 {
			out[n].Offset = g.time(l[0]) - g.at[n]
		}
	}
	m.end(0, h.X, g, a)
	m.end(1, h.Y, g, b)
	return out
}

func (m *model) end(i int, b []byte, g given, who []int) {
	x := ended{b: b}
	if len(who) > 0 {
		x.at = g.time(who[0])
	}
	m.ended[i] = append(m.ended[i], x)
}

// some is a slot that may be, such that guardians come to know slots, and to lose them.
func some(d *dice, m *model) given {
	var g given
	n := len(m.table.Nodes)
	known, time := m.guard(0), m.guard(0).Now()
	if d.below(3) == 0 {
		time = m.guard(1).Now()
	}
	slot, ok := known.Knows()
	for i := range g.sends {
		g.at[i] = time + d.of(0, 3, -3, 10, -20, window, -window, window+1, -window-1, 300)
		if d.below(4) == 0 || ok && i == slot && d.below(4) > 0 {
			g.sends[i] = someBytes(d, n)
		}
	}
	for range d.of(0, 0, 0, 0, 1, 1, 1, 2, 3, 4) {
		g.l = append(g.l, someFault(d, n))
	}
	return g
}

func someBytes(d *dice, n int) []byte {
	switch d.below(8) {
	case 0:
		return told(api.Cold, d.below(n))
	case 1:
		return told(api.Info, d.below(8))
	case 2:
		return notX
	case 3:
		return three
	case 4:
		b := make([]byte, d.of(1, 49, 50, 51, 70))
		b[0], b[len(b)-1] = byte(d.below(256)), 1
		return b
	case 5:
		return y
	}
	return x
}

func someFault(d *dice, n int) api.Fault {
	f := api.Fault{Kind: 1 + d.below(7), N: d.below(8), At: d.of(0, 0, 1, -1, 7, 8, 15, -16, 30, -41, 399, 400, 1000, -1000)}
	if d.below(2) == 0 {
		f.N = d.below(2)
	}
	if f.Kind == api.Block || f.Kind == api.Leak {
		f.N = d.below(2)
	}
	if b := someBytes(d, n); d.below(4) > 0 && len(b) <= 24 {
		f.Data = b
	}
	return f
}

// P11.1 and P11.2: of each script each answer, and what the guardians know, is as the model's.
func TestScriptsAsTheModel(t *testing.T) {
	for script := range 60 {
		table := of(4 + script%5)
		if script%3 == 0 && len(table.Nodes) > 4 {
			table.Nodes[script%len(table.Nodes)].Sync = false
		}
		s, m, d := fresh(t, table), model{table: table}, dice(script)
		for i := range 120 {
			g := some(&d, &m)
			got, e := g.pass(s)
			if e != api.OK {
				t.Fatalf("%d: Slot(%v): got %v", i, g, e)
			}
			wantHeard(t, g, got, m.pass(g))
			wantKnow(t, s, g, m.know())
			if t.Failed() {
				t.Fatal("slot", i, "of script", script)
			}
		}
	}
}
