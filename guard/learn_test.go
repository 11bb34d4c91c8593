package guard_test

import (
	"bytes"
	"slices"
	"testing"

	"matron/api"
	"matron/frame"
	"matron/guard"
)

// P6.2: End of one that does not know the slot.

func TestLearns(t *testing.T) {
	eachTable(func(x api.Table) {
		for slot := range x.Nodes {
			next := slot + 1
			if next == len(x.Nodes) {
				next = 0
			}
			for _, kind := range []int{api.Info, api.Cold} {
				for _, at := range slices.Concat(ticks, extremes) {
					g := fresh(t, x)
					g.End(told(kind, slot), at)
					wantKnows(t, g, next, at)
				}
			}
		}
	})
}

// The Slot alone counts, not what else a frame tells.
func TestLearnsOfAnyState(t *testing.T) {
	for _, s := range []api.CState{{Slot: 2}, {Round: api.MaxRound, Slot: 2, Members: 255}, {Round: 1, Slot: 2, Members: 0}, {Slot: 2, Members: 0x80}} {
		for _, kind := range []int{api.Info, api.Cold} {
			for _, many := range []int{0, 1, api.MaxData} {
				b, _ := frame.Encode(api.Frame{Kind: kind, State: s, Data: make([]byte, many)})
				g := fresh(t, plain(4))
				g.End(b, 7)
				wantKnows(t, g, 3, 7)
			}
		}
	}
}

// notLearnt are bytes of which a guardian of n nodes learns nothing.
func notLearnt(n int) [][]byte {
	l := [][]byte{nil, {}, noise, {api.Info}, {api.Cold, 0, 0}, make([]byte, 9), make([]byte, 1000), told(api.Normal, 0)}
	for _, s := range []api.CState{{}, {Slot: 1}, {Round: 77, Slot: 1, Members: 3}} {
		for many := range api.MaxData + 1 {
			b, _ := frame.Encode(api.Frame{Kind: api.Normal, State: s, Data: make([]byte, many)})
			l = append(l, b)
		}
	}
	for _, kind := range []int{api.Info, api.Cold} {
		for slot := n; slot < api.MaxNodes; slot++ {
			l = append(l, told(kind, slot))
		}
		b := told(kind, 1)
		l = append(l, b[1:], b[:len(b)-1], append(bytes.Clone(b), 0), slices.Concat(b, b), append([]byte{0}, b...))
		for bit := range 8 * len(b) {
			turned := bytes.Clone(b)
			turned[bit/8] ^= 0x80 >> (bit % 8)
			l = append(l, turned)
		}
	}
	return l
}

func TestLearnsOfNothingElse(t *testing.T) {
	eachTable(func(x api.Table) {
		one := fresh(t, x)
		for _, b := range notLearnt(len(x.Nodes)) {
			for _, g := range []*guard.Guard{one, fresh(t, x)} {
				g.End(b, 9)
				wantLost(t, g, 0)
				wantPass(t, g, 1<<3|1<<2, all(-9), 2)
			}
		}
		one.End(told(api.Info, 0), 31)
		wantKnows(t, one, 1, 31)
	})
}

// The slot that was told is over: the last one is it, and where 0 begins nothing was measured yet.
func TestLearnsInTheLastSlot(t *testing.T) {
	eachTable(func(x api.Table) {
		g := fresh(t, x)
		g.End(told(api.Info, len(x.Nodes)-1), -33)
		wantKnows(t, g, 0, -33)
	})
}

// What was there ahead of it counts no more: neither the time, nor the silence, nor what would have been measured.
func TestLearnsAnew(t *testing.T) {
	eachTable(func(x api.Table) {
		n := len(x.Nodes)
		g := knowing(t, x, 1, 100)
		for round := range 3 {
			g.End(noise, 107+round)
			quiet(g, 2*n)
			if _, ok := g.Knows(); ok {
				t.Fatal("silent for so long")
			}
			was := g.Now()
			for _, b := range notLearnt(n) {
				g.End(b, 5000)
			}
			wantLost(t, g, was)
			g.End(told(api.Cold, 0), 40*round)
			wantKnows(t, g, 1, 40*round)
			quiet(g, n-1)
			wantKnows(t, g, 0, 40*round)
			quiet(g, n)
			wantKnows(t, g, 0, 40*round)
			g.End(told(api.Info, n-1), 40*round+9)
			wantKnows(t, g, 1, 40*round)
		}
	})
}

// One that knows the slot learns none, whatever slot is told.
func TestLearnsOnce(t *testing.T) {
	eachTable(func(x api.Table) {
		n := len(x.Nodes)
		for slot := range api.MaxNodes {
			for _, kind := range []int{api.Normal, api.Info, api.Cold} {
				g := knowing(t, x, 0, 60)
				for i := 1; i <= 3*n; i++ {
					g.End(told(kind, slot), 60)
					wantKnows(t, g, i%n, 60)
				}
			}
		}
	})
}
