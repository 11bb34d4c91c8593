package audit_test

import (
	"slices"
	"testing"

	"matron/api"
	"matron/audit"
	"matron/ward"
)

// P13.2: nodes that are not Active count for nothing, neither their views nor their clocks.

// fallen is a Ward of five all of whose nodes but that one are Active; that one is in that state.
// All run fast by 5 ticks a round, so that what stands still is soon far from them.
func fallen(t *testing.T, i, state int) *ward.Ward {
	t.Helper()
	x := of(5, 0)
	w := up(t, x, slices.Repeat([]int{5}, 5))
	switch state {
	case api.Off:
		do(t, w, off(i))
		do(t, w, slots(10)...)
	case api.Listen:
		do(t, w, off(i))
		do(t, w, slots(10)...)
		do(t, w, on(i, -1000))
	case api.Begun: // it hears nothing as long as it waits, and in its own slot nobody, so that none is wrong to it
		do(t, w, off(i), on(i, 1000))
		do(t, w, slices.Repeat([]api.Act{slot(fault(api.Deaf, i))}, x.Nodes[i].Listen)...)
	case api.Frozen:
		if w.View(0).Slot == i {
			do(t, w, slot())
		}
		do(t, w, slot(fault(api.Deaf, i)))
		do(t, w, slots(20)...)
	}
	if w.State(i) != state {
		t.Fatalf("node %d: got %d, want %d", i, w.State(i), state)
	}
	return w
}

// butOne wants that the others agree, and how far they are apart, and that this node, whether left out or not, does not matter.
func butOne(t *testing.T, w *ward.Ward, i int) {
	t.Helper()
	n := w.Nodes()
	for but := range everybody(n) + 1 {
		var l []int
		for k := range n {
			if k != i && !has(but, k) {
				l = append(l, w.Clock(k))
			}
		}
		if !audit.Agree(w, but) || audit.Spread(w, but) != widest(l) {
			t.Errorf("but %b: got %v, %d, want %d", but, audit.Agree(w, but), audit.Spread(w, but), widest(l))
		}
	}
}

func TestWhoIsNotActive(t *testing.T) {
	for _, state := range []int{api.Off, api.Listen, api.Begun, api.Frozen} {
		for i := range 5 {
			w := fallen(t, i, state)
			other := (i + 1) % 5
			if w.View(i) == w.View(other) || w.Clock(i) == w.Clock(other) {
				t.Fatalf("in state %d node %d tells as others do", state, i)
			}
			butOne(t, w, i)
		}
	}
}

// Who is Passive, and comes back, may have another view, and be ahead of all others, or behind them.
func TestWhoIsPassive(t *testing.T) {
	views, clocks := 0, 0
	for i := range 5 {
		for ahead := range 10 {
			for _, drifts := range [][]int{{5, 5, -5, -5, 5}, {-5, 5, 5, -5, -5}, {5, -5, 5, -5, 0}} {
				x := of(5, 0)
				w := up(t, x, drifts)
				do(t, w, off(i))
				do(t, w, slots(5+ahead)...)
				do(t, w, on(i, 0))
				within(t, 15, func() bool { return w.State(i) == api.Passive }, func() { do(t, w, slot()) })
				within(t, 5, func() bool { return w.State(i) == api.Active }, func() {
					butOne(t, w, i)
					if w.View(i) != w.View((i+1)%5) {
						views++
					}
					if widest(clocksOf(w)) > audit.Spread(w, 0) {
						clocks++
					}
					do(t, w, slot(fault(api.Deaf, i)))
				})
			}
		}
	}
	if views < 20 || clocks < 20 {
		t.Errorf("another view %d times, a clock beyond the others' %d times", views, clocks)
	}
}

func clocksOf(w *ward.Ward) (l []int) {
	for i := range w.Nodes() {
		l = append(l, w.Clock(i))
	}
	return l
}

// Nobody is Active: all are Off; all listen, at other times; one has begun, and others heard it, or did not.
func TestNobodyIsActive(t *testing.T) {
	eachTable(func(x api.Table) {
		n := len(x.Nodes)
		w := made(t, x, apart(x))
		wantNobody := func() {
			t.Helper()
			for but := range 1 << n {
				wantAgree(t, w, but, true)
				wantSpread(t, w, but, 0)
			}
		}
		wantNobody()
		for i := range n {
			do(t, w, on(i, 100*i-200))
			wantNobody()
		}
		do(t, w, slots(2*n-1)...)
		wantNobody()
		first := slices.IndexFunc(x.Nodes, func(d api.Def) bool { return d.Listen == 2*n })
		do(t, w, slot(fault(api.Deaf, (first+1)%n)))
		if w.State(first) != api.Begun || w.View(first) == w.View((first+1)%n) {
			t.Errorf("got %d, %v", w.State(first), w.View(first))
		}
		wantNobody()
	})
}

// One alone is Active, as the others are off, or were left out.
func TestOneIsActive(t *testing.T) {
	eachTable(func(x api.Table) {
		n := len(x.Nodes)
		for i := range n {
			w := up(t, x, apart(x))
			wantAgree(t, w, everybody(n)&^bits(i), true)
			wantSpread(t, w, everybody(n)&^bits(i), 0)
			for k := range n {
				if k != i {
					do(t, w, off(k))
				}
			}
			for but := range 1 << n {
				wantAgree(t, w, but, true)
				wantSpread(t, w, but, 0)
			}
		}
	})
}

// Some are on, or all, or none, and there are no faults: at each slot those that are Active agree, whoever is left out.
func TestSomeAreOn(t *testing.T) {
	l := seen{}
	for _, n := range []int{4, 6} {
		for members := range 1 << n {
			d := dice(members)
			x := of(n, members%n)
			w := made(t, x, apart(x))
			for i := range n {
				if has(members, i) {
					do(t, w, on(i, 70*i))
				}
			}
			for range 6 * n {
				wantAudit(t, w, 0, l)
				wantAgree(t, w, 0, true)
				for _, but := range []int{everybody(n), members, everybody(n) &^ members, d.below(1 << n), d.below(1 << n)} {
					wantAudit(t, w, but, l)
					wantAgree(t, w, but, true)
				}
				do(t, w, slot())
			}
		}
	}
	for _, name := range []string{"nobody", "one", "some agree", "apart"} {
		if l[name] < 500 {
			t.Errorf("%s: only %d times", name, l[name])
		}
	}
}

// seen is how often something was so.
type seen map[string]int

func (l seen) count(name string, is bool) {
	if is {
		l[name]++
	}
}

// wantAudit: Agree and Spread, as each two that are Active, but the bits, are held against each other.
func wantAudit(t *testing.T, w *ward.Ward, but int, l seen) {
	t.Helper()
	agree, spread, many := true, 0, 0
	for i := range w.Nodes() {
		for k := range w.Nodes() {
			if w.State(i) != api.Active || w.State(k) != api.Active || has(but, i) || has(but, k) {
				continue
			}
			many++
			agree = agree && w.View(i) == w.View(k)
			spread = max(spread, w.Clock(i)-w.Clock(k))
		}
	}
	if audit.Agree(w, but) != agree || audit.Spread(w, but) != spread {
		t.Errorf("behind %d slots: but %b: got %v, %d, want %v, %d", w.Slots(), but, audit.Agree(w, but), audit.Spread(w, but), agree, spread)
	}
	l.count("nobody", many == 0)
	l.count("one", many == 1)
	l.count("some agree", many > 1 && agree)
	l.count("some do not", !agree)
	l.count("apart", spread > 0)
}

// Behind each act of scripts with many faults, whoever is left out.
func TestAuditOfScripts(t *testing.T) {
	l := seen{}
	for i := range 60 {
		d := dice(i)
		b := someBeginning(&d)
		w := made(t, b.x, b.drifts)
		for _, a := range someActs(&d, b.n(), 150) {
			w.Step(a)
			wantAudit(t, w, 0, l)
			for range 4 {
				wantAudit(t, w, d.below(1<<b.n()), l)
			}
		}
	}
	for _, name := range []string{"nobody", "one", "some agree", "some do not", "apart"} {
		if l[name] < 500 {
			t.Errorf("%s: only %d times", name, l[name])
		}
	}
}
