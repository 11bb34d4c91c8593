package guard_test

import (
	"slices"
	"testing"

	"matron/api"
	"matron/guard"
)

// P6.3, and all of P6.1 and P6.2 against the model.

// some is what may end a slot of a guardian of such a table that has this time.
func some(d *dice, x api.Table, now int) end {
	at := now + d.of(0, 1, -1, 5, -6, d.below(60)-30, x.Limit, -x.Limit, x.Limit+1, -x.Limit-1, far)
	switch d.below(8) {
	case 0:
		return end{told(d.of(api.Normal, api.Info, api.Cold), d.below(api.MaxNodes)), at}
	case 1:
		return end{make([]byte, d.below(4)), at}
	case 2, 3, 4:
		return end{nil, at}
	}
	return end{noise, at}
}

func wantAsModel(t *testing.T, g *guard.Guard, m model, d *dice) {
	t.Helper()
	slot, time := m.now()
	if slot == -1 {
		wantLost(t, g, time)
	} else {
		wantKnows(t, g, slot, time)
	}
	at := all(time)
	for i := range at {
		at[i] += d.of(0, m.t.Window, -m.t.Window, m.t.Window+1, -m.t.Window-1, far)
	}
	for _, mask := range []int{0, 255, d.below(256), 1 << d.below(8)} {
		n := g.Pass(sends(mask), at)
		if want := m.pass(mask, at); n != want {
			t.Errorf("Pass(%08b, %v): got %d, want %d", mask, at, n, want)
		}
		if slot != -1 && n != -1 && n != slot {
			t.Errorf("%d is passed in slot %d", n, slot)
		}
	}
}

// Scripts of all kinds of ends; each of some length comes to where it is lost, and learns again.
func TestScripts(t *testing.T) {
	var d dice
	losses, turns := 0, 0
	for script := range 150 {
		n := d.of(4, 5, 6, 7, 8)
		syncs := d.of(1<<n-1, 1<<n-1, 15, 15<<(n-4))
		window := d.of(2, 8, 40)
		x := of(n, syncs, window, window+d.of(0, 1, 10, 300))
		g, m := fresh(t, x), model{t: x}
		for range 60 + script {
			was, time := m.now()
			e := some(&d, x, time)
			many := 1
			if d.below(20) == 0 {
				many = d.of(2*n-1, 2*n, 2*n+1)
				e.b = nil
			}
			for range many {
				g.End(e.b, e.at)
				m.ended = append(m.ended, e)
			}
			wantAsModel(t, g, m, &d)
			slot, now := m.now()
			if was != -1 && slot == -1 {
				losses++
			}
			if was != -1 && slot != -1 && now != time {
				turns++
			}
		}
	}
	if losses < 100 || turns < 100 {
		t.Error("too few scripts:", losses, turns)
	}
}

// P6.3: who is not the slot's node is not passed by one who knows it, whatever it sends, whenever.
func TestOneThatBabbles(t *testing.T) {
	eachTable(func(x api.Table) {
		n := len(x.Nodes)
		for who := range n {
			g := knowing(t, x, 0, 100)
			for i := range 10 * n {
				slot := i % n
				want := -1
				if slot == who {
					want = who
				}
				wantPass(t, g, 1<<who, all(100), want)
				wantPass(t, g, 255, all(100), slot)
				at := all(100)
				at[who] = 100 + i*i*31 - 900
				if slot != who {
					wantPass(t, g, 1<<slot|1<<who, at, slot)
				}
				g.End(noise, 100)
			}
		}
	})
}

// P6.3 (and W8): a nil Guard is one to which nothing happens.
func TestNilGuard(t *testing.T) {
	var g *guard.Guard
	wantNothing := func() {
		t.Helper()
		wantLost(t, g, 0)
		for _, mask := range []int{0, 1, 128, 255} {
			for _, at := range slices.Concat(ticks, extremes) {
				wantPass(t, g, mask, all(at), -1)
			}
		}
	}
	wantNothing()
	for _, b := range [][]byte{nil, noise, told(api.Info, 0), told(api.Cold, 3)} {
		for _, at := range []int{0, 100, -far} {
			g.End(b, at)
			wantNothing()
		}
	}
}

// W1: one that New did not make has no nodes: nothing panics, and nobody is passed.
func TestGuardWithoutNew(t *testing.T) {
	var g guard.Guard
	for _, b := range [][]byte{nil, noise, told(api.Info, 0), told(api.Cold, 7), nil, nil} {
		g.End(b, 50)
		wantLost(t, &g, 0)
		wantPass(t, &g, 255, all(0), -1)
	}
}

// W8: of a Guard that is copied as a value the copy alone may go on, and it does as the first one would.
func TestCopy(t *testing.T) {
	x := plain(5)
	l := []end{{noise, 4}, {told(api.Cold, 2), 100}, {noise, 107}, {nil, 0}, {noise, 103}, {noise, 300}, {noise, 109}, {noise, 108}, {nil, 0}, {noise, 104}, {noise, 120}}
	for ahead := range l {
		g := fresh(t, x)
		for _, e := range l[:ahead] {
			g.End(e.b, e.at)
		}
		h := *g
		m, d := model{t: x, ended: slices.Clone(l[:ahead])}, dice(1)
		for _, e := range l[ahead:] {
			h.End(e.b, e.at)
			m.ended = append(m.ended, e)
			wantAsModel(t, &h, m, &d)
		}
	}
}
