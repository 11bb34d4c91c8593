package ward_test

import (
	"testing"

	"matron/api"
	"matron/ward"
)

// P0.2 to P0.6, as far as a Ward tells of them: from all up, with faults that have three rounds each to be got over,
// and that hit one of four nodes at most, two of more.

// whole is a Ward in which all are up, with a rule on each node; who was hit, and what each said, and what of that it sent.
type whole struct {
	w          *ward.Ward
	x          api.Table
	hit        int
	said, sent [][]byte
}

func wholeOf(t *testing.T, x api.Table, drifts []int) *whole {
	t.Helper()
	n := len(x.Nodes)
	var rules []api.Rule
	least := api.MaxListen
	for i, def := range x.Nodes {
		rules = append(rules, api.Rule{Node: i, High: 255, Stale: 1})
		least = min(least, def.Listen)
	}
	h := &whole{w: made(t, x, drifts, rules), x: x, said: make([][]byte, n), sent: make([][]byte, n)}
	for i := range n {
		do(t, h.w, on(i, 37*i%200-90))
	}
	do(t, h.w, slots(least+2*n)...)
	for i := range n {
		for rule := range n {
			h.w.Step(ack(i, rule)) // who was not heard yet, as the first round ended, was told lost
		}
	}
	h.want(t)
	return h
}

func (h *whole) isHit(i int) bool { return h.hit>>i&1 == 1 }

// view is that of all that were not hit.
func (h *whole) view() api.CState {
	i := 0
	for h.isHit(i) {
		i++
	}
	return h.w.View(i)
}

func (h *whole) write(t *testing.T, i int, b []byte) {
	t.Helper()
	h.said[i] = b
	do(t, h.w, write(i, b...))
}

func (h *whole) slot(t *testing.T, l ...api.Fault) {
	t.Helper()
	who := h.view().Slot
	h.sent[who] = h.said[who]
	for _, f := range l {
		if f.Kind != api.Block && f.Kind != api.Leak {
			h.hit |= 1 << f.N
		}
	}
	do(t, h.w, slot(l...))
	h.want(t)
}

// want: all that were not hit are Active, have one view, are members in it, have near clocks, read one another, and are not told lost.
func (h *whole) want(t *testing.T) {
	t.Helper()
	view := h.view()
	least, most := 1<<40, -1<<40
	for i := range h.x.Nodes {
		if h.isHit(i) {
			continue
		}
		least, most = min(least, h.w.Clock(i)), max(most, h.w.Clock(i))
		if h.w.State(i) != api.Active || h.w.View(i) != view || view.Members>>i&1 == 0 {
			t.Errorf("behind %d slots: node %d: got %d, %v, want %v", h.w.Slots(), i, h.w.State(i), h.w.View(i), view)
		}
		h.wantReads(t, i)
	}
	if most-least > 2*h.x.Drift {
		t.Errorf("behind %d slots: clocks are %d apart", h.w.Slots(), most-least)
	}
	if t.Failed() {
		t.FailNow()
	}
}

func (h *whole) wantReads(t *testing.T, i int) {
	t.Helper()
	for node, sent := range h.sent {
		if node == i || h.isHit(node) {
			continue
		}
		if m := h.w.Read(i, node); m.Age > 1 || !same(m, good(m.Age, sent...)) {
			t.Errorf("behind %d slots: Read(%d, %d): got %+v, want %v", h.w.Slots(), i, node, m, sent)
		}
		if got := h.w.Rings(i, node); got != 0 {
			t.Errorf("behind %d slots: Rings(%d, %d): got %d", h.w.Slots(), i, node, got)
		}
	}
}

// fair is a fault of one of those two, or of a guardian.
func fair(d *dice, a, b int) api.Fault {
	f := api.Fault{Kind: api.Omit + d.below(7), N: d.of(a, b)}
	switch f.Kind {
	case api.Block, api.Leak:
		f.N = d.below(2)
	case api.Garble:
		f.At = d.below(2001) - 1000
	case api.Late:
		f.At = d.of(2*window+1, -2*window-1, 300, -1000)
	case api.Babble:
		f.Data = someFrame(d)
	}
	return f
}

func someFrame(d *dice) []byte {
	switch d.below(4) {
	case 0:
		return nil
	case 1:
		return d.row(24)
	}
	return spelt(d.of(api.Info, api.Cold), c(d.below(5), d.below(8), d.below(256)), d.row(8))
}

func TestFairScripts(t *testing.T) {
	for i := range 200 {
		d := dice(i)
		x := someTable(&d)
		n := len(x.Nodes)
		h := wholeOf(t, x, someDrifts(&d, x))
		a, b := d.below(n), d.below(n)
		if n == 4 {
			b = a
		}
		since := 3 * n
		for range 30 * n {
			if k := d.below(n); d.below(3) == 0 {
				h.write(t, k, d.row(x.Nodes[k].Size))
			}
			if since >= 3*n && d.below(n) == 0 {
				h.slot(t, fair(&d, a, b))
				since = 0
				continue
			}
			h.slot(t)
			since++
		}
	}
}

// P0.4: one that babbles in each slot, or a guardian that passes nothing, or everything, for ever, takes nobody else's place or view.
func TestForEver(t *testing.T) {
	eachTable(func(x api.Table) {
		n := len(x.Nodes)
		d := dice(n)
		for who := range n {
			h := wholeOf(t, x, drifts(x))
			for range 12 * n {
				h.slot(t, babble(who, someFrame(&d)...))
			}
		}
		for g := range 2 {
			h := wholeOf(t, x, drifts(x))
			for range 12 * n {
				h.write(t, d.below(n), d.row(1))
				h.slot(t, fault(d.of(api.Block, api.Leak), g))
			}
			if h.hit != 0 || h.view().Members != everybody(n) {
				t.Errorf("got members %b", h.view().Members)
			}
		}
	})
}

// P0.5: who falls silent is told lost by all others, two rounds on.
func TestWhoFallsSilent(t *testing.T) {
	eachTable(func(x api.Table) {
		n := len(x.Nodes)
		for who := range n {
			for ahead := range n {
				h := wholeOf(t, x, drifts(x))
				for range ahead {
					h.slot(t)
				}
				do(t, h.w, off(who))
				h.hit = 1 << who
				for range 2 * n {
					h.slot(t)
				}
				for i := range n {
					if i != who && h.w.Rings(i, who)&api.Lost == 0 {
						t.Errorf("node %d, off at %d, is not lost to %d", who, ahead, i)
					}
				}
			}
		}
	})
}

// P0.6: who comes back is a member in three rounds and a slot, and nobody's view is another one for it.
func TestWhoComesBack(t *testing.T) {
	eachTable(func(x api.Table) {
		n := len(x.Nodes)
		for who := range n {
			for ahead := range 2 * n {
				h := wholeOf(t, x, drifts(x))
				for range ahead {
					h.slot(t)
				}
				do(t, h.w, off(who))
				h.hit = 1 << who
				for range ahead * who {
					h.slot(t)
				}
				do(t, h.w, on(who, 300))
				for range 3*n + 1 {
					h.slot(t)
				}
				h.hit = 0 // it is one of them now
				if h.view().Members != everybody(n) || h.w.View(who) != h.view() || h.w.State(who) != api.Active {
					t.Errorf("node %d, off at %d: got %d, %v, want %v", who, ahead, h.w.State(who), h.w.View(who), h.view())
				}
			}
		}
	})
}
