package audit_test

import (
	"testing"

	"matron/api"
	"matron/audit"
	"matron/ward"
)

// P0.6: two and more that are on from the beginning are one clique, as many slots on as the least of them waits, and a round;
// who comes back is a member in three rounds and a slot, and nobody's view is another one for it.

// wantClique: those nodes are Active, are members of one view, and nobody else is; all others are off.
func wantClique(t *testing.T, w *ward.Ward, members int) {
	t.Helper()
	var view api.CState
	for i := range w.Nodes() {
		if !has(members, i) {
			if w.State(i) != api.Off {
				t.Errorf("node %d: got %d", i, w.State(i))
			}
			continue
		}
		if view.Members == 0 {
			view = w.View(i)
		}
		if w.State(i) != api.Active || w.View(i) != view || view.Members != members {
			t.Errorf("behind %d slots: node %d of %b: got %d, %v, want %v", w.Slots(), i, members, w.State(i), w.View(i), view)
		}
	}
	wantAgree(t, w, 0, true)
}

// waits is how long the least of those waits.
func waits(x api.Table, members int) int {
	least := api.MaxListen
	for i, def := range x.Nodes {
		if has(members, i) {
			least = min(least, def.Listen)
		}
	}
	return least
}

// Each two and more, in each order in which the least of them may be another one.
func TestEachBeginning(t *testing.T) {
	for n := api.MinNodes; n <= api.MaxNodes; n++ {
		for members := range 1 << n {
			if members&(members-1) == 0 {
				continue // fewer than two
			}
			for _, first := range []int{0, members % n, n - 1} {
				x := of(n, first)
				w := made(t, x, apart(x))
				for k := range n {
					if i := (k + first) % n; has(members, i) {
						do(t, w, on(i, 400-100*i))
					}
				}
				do(t, w, slots(waits(x, members)+n)...)
				wantClique(t, w, members)
				if members == everybody(n) && w.Slots() != audit.Lead(x) {
					t.Errorf("Lead: got %d, want %d", audit.Lead(x), w.Slots())
				}
			}
		}
	}
}

// Two of whom nobody but they is on begin as well with the longest Listen, and in any slot of who waits least.
func TestLateBeginnings(t *testing.T) {
	for n := api.MinNodes; n <= api.MaxNodes; n++ {
		for i := range n {
			for k := range n {
				if i == k {
					continue
				}
				x := of(n, 0)
				x.Nodes[i].Listen, x.Nodes[k].Listen = api.MaxListen, api.MaxListen-1
				w := made(t, x, apart(x))
				do(t, w, on(i, 1000), on(k, -1000))
				do(t, w, slots(api.MaxListen-1+n)...)
				wantClique(t, w, bits(i, k))
			}
		}
	}
}

// At the edges of what clocks, and their tables, may be.
func TestSomeBeginnings(t *testing.T) {
	for i := range 300 {
		d := dice(i)
		x := someTable(&d)
		n := len(x.Nodes)
		members := bits(d.below(n)) | d.below(1<<n) | d.below(1<<n)
		if members&(members-1) == 0 {
			continue
		}
		w := made(t, x, someDrifts(&d, x))
		for k := range n {
			if has(members, k) {
				do(t, w, on(k, d.of(1000, -1000, d.below(2001)-1000)))
			}
		}
		do(t, w, slots(waits(x, members)+n)...)
		wantClique(t, w, members)
		if members == everybody(n) && w.Slots() != audit.Lead(x) {
			t.Errorf("Lead: got %d, want %d", audit.Lead(x), w.Slots())
		}
	}
}

// wantBack has that one, which is off or frozen, be on again, and asks behind each slot of three rounds and one more
// that others' views are as in a bed in which it stays away, but for itself.
func (b *bed) wantBack(t *testing.T, away *bed, who, at int) {
	t.Helper()
	do(t, b.w, on(who, at))
	for range 3*b.n() + 1 {
		b.slot(t)
		away.slot(t)
		b.wantViews(t)
		b.wantReads(t)
		b.wantAs(t, away)
		wantAgree(t, b.w, 0, true)
	}
	b.hit, b.acked = 0, false // that it was lost rings till it is acknowledged
	b.wantViews(t)
	if b.view().Members != everybody(b.n()) {
		t.Errorf("node %d is back: got %v", who, b.view())
	}
	b.stop(t)
}

// leaves has one leave in both beds: it is switched off, or is hit, and falls.
func (b *bed) leaves(t *testing.T, who int, f ...api.Fault) {
	t.Helper()
	b.hit = bits(who)
	if len(f) == 0 {
		do(t, b.w, off(who))
		return
	}
	within(t, 3*b.n(), func() bool { return b.w.State(who) == api.Frozen }, func() { b.slot(t, f...) })
}

// Whoever left, in whichever slot, and however long ago it was.
func TestWhoComesBack(t *testing.T) {
	eachTable(func(x api.Table) {
		n := len(x.Nodes)
		for who := range n {
			for ahead := range 2 * n {
				b, away := bedOf(t, x, apart(x), none(x)), bedOf(t, x, apart(x), none(x))
				gap := []int{0, 1, n - 1, n, 2*n + 1, 5 * n}[(ahead+who)%6]
				for _, l := range []*bed{b, away} {
					l.slots(t, n+ahead)
					l.leaves(t, who)
					l.slots(t, gap)
				}
				b.wantBack(t, away, who, 500-ahead*50)
			}
		}
	})
}

// Who fell, as it was hit, comes back likewise.
func TestWhoWasFrozenComesBack(t *testing.T) {
	eachTable(func(x api.Table) {
		n := len(x.Nodes)
		for who := range n {
			for ahead := range n {
				for _, f := range []api.Fault{fault(api.Omit, who), fault(api.Garble, who), late(who, 100), babble(who, 1, 2)} {
					b, away := bedOf(t, x, apart(x), none(x)), bedOf(t, x, apart(x), none(x))
					for _, l := range []*bed{b, away} {
						l.slots(t, n+ahead)
						l.leaves(t, who, f)
						l.slots(t, ahead*who)
					}
					b.wantBack(t, away, who, -1000)
				}
			}
		}
	})
}

// Nodes come back one after the other, at the edges of what clocks, and their tables, may be.
func TestSomeComeBack(t *testing.T) {
	for i := range 80 {
		d, e := dice(i), dice(i)
		b, away := someBed(t, &d), someBed(t, &e)
		for range 8 {
			who, ahead, gap, at := d.below(b.n()), d.below(2*b.n()), d.below(3*b.n()), d.of(-1000, 0, 1000)
			for _, l := range []*bed{b, away} {
				l.slots(t, ahead)
				l.leaves(t, who)
				l.slots(t, gap)
			}
			b.wantBack(t, away, who, at)
			do(t, away.w, on(who, at))
			away.slots(t, 3*b.n()+1)
			away.hit = 0
			b.slots(t, 3*b.n()+1)
			b.wantAs(t, away)
		}
	}
}
