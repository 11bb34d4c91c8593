package guard_test

import (
	"testing"

	"matron/api"
	"matron/guard"
)

// P6.2: End of one that knows the slot: how the slot goes on, and how it is lost.

// Whatever passes, or nothing, the next slot is one more; behind the last one it is 0.
func TestSlotGoesOn(t *testing.T) {
	eachTable(func(x api.Table) {
		n := len(x.Nodes)
		for _, b := range [][]byte{noise, {0}, make([]byte, 50), make([]byte, 5000), told(api.Normal, 0), told(api.Info, 0), told(api.Cold, 2)} {
			g := knowing(t, x, 0, 5)
			for i := 1; i <= 5*n; i++ {
				g.End(b, 5)
				wantKnows(t, g, i%n, 5)
			}
		}
		for first := range n {
			g := knowing(t, x, first, 5)
			for i := 1; i < 2*n; i++ {
				g.End(nil, 5)
				wantKnows(t, g, (first+i)%n, 5)
			}
		}
	})
}

// One slot of silence fewer than twice the nodes, and it knows; as many, and it does not, in whatever slot that is.
func TestLost(t *testing.T) {
	eachTable(func(x api.Table) {
		n := len(x.Nodes)
		for slot := range n {
			for _, none := range [][]byte{nil, {}, noise[:0]} {
				g := knowing(t, x, slot, 5)
				for i := 1; i < 2*n; i++ {
					g.End(none, 1000)
					wantKnows(t, g, (slot+i)%n, 5)
				}
				g.End(none, 1000)
				wantLost(t, g, 5)
				for range 5 * n {
					g.End(none, 1000)
					wantLost(t, g, 5)
				}
			}
		}
	})
}

// Any bytes end the silence, whoever's slot it is: it is counted anew behind them.
func TestSilenceIsCountedAnew(t *testing.T) {
	for n := api.MinNodes; n <= api.MaxNodes; n++ {
		x := of(n, 15, 8, 300)
		for _, b := range [][]byte{noise, {0}, told(api.Normal, 0), told(api.Cold, 1)} {
			for slot := range n {
				g := knowing(t, x, slot, 5)
				for range 4 {
					quiet(g, 2*n-1)
					g.End(b, 5)
					wantKnows(t, g, (slot+2*n)%n, 5)
				}
				for i := range 3 * n {
					g.End(b[:1], 5)
					wantKnows(t, g, (slot+i+1)%n, 5)
				}
				quiet(g, 2*n-1)
				wantKnows(t, g, (slot+5*n-1)%n, 5)
				quiet(g, 1)
				wantLost(t, g, 5)
			}
		}
	}
}

// Silence counts in a row alone: every other slot may be silent for ever.
func TestSilenceNowAndThen(t *testing.T) {
	eachTable(func(x api.Table) {
		n := len(x.Nodes)
		for every := 2; every <= 2*n; every++ {
			g := knowing(t, x, 0, 5)
			for i := 1; i <= 20*n; i++ {
				if i%every == 0 {
					g.End(noise, 5)
				} else {
					g.End(nil, 5)
				}
				wantKnows(t, g, i%n, 5)
			}
		}
	})
}

// What was silent ahead of the slot that is learnt does not count.
func TestSilenceAheadDoesNotCount(t *testing.T) {
	eachTable(func(x api.Table) {
		n := len(x.Nodes)
		lost := knowing(t, x, 2, 5)
		quiet(lost, 2*n)
		for _, g := range []*guard.Guard{fresh(t, x), lost} {
			quiet(g, 2*n-1)
			g.End(told(api.Info, 0), 5)
			quiet(g, 2*n-1)
			wantKnows(t, g, 0, 5)
			quiet(g, 1)
			wantLost(t, g, 5)
		}
	})
}

// Whether anybody was passed has no part in it, nor how often that was asked.
func TestSlotsGoOnWithoutPass(t *testing.T) {
	g, h := knowing(t, plain(5), 3, 5), knowing(t, plain(5), 3, 5)
	for i := range 50 {
		for range i % 4 {
			h.Pass(sends(i*7), all(5))
		}
		b := noise[:min(1, i%3)]
		g.End(b, 5+i%3)
		h.End(b, 5+i%3)
		slot, _ := g.Knows()
		wantKnows(t, h, slot, g.Now())
	}
}
