package guard_test

import (
	"math"
	"math/bits"
	"slices"
	"testing"

	"matron/api"
)

// P6.1: Pass.

func TestTheChaptersExample(t *testing.T) {
	wantPass(t, fresh(t, plain(4)), 1<<2|1<<3, all(0), 2)
}

// By one that does not know the slot the least node that sends is passed, whenever it sends; what is no node is not looked at.
func TestPassOfOneThatDoesNotKnow(t *testing.T) {
	eachTable(func(x api.Table) {
		g, lost := fresh(t, x), knowing(t, x, 0, 50)
		quiet(lost, 2*len(x.Nodes))
		wantLost(t, lost, 50)
		for mask := range 1 << api.MaxNodes {
			want := -1
			if nodes := mask & (1<<len(x.Nodes) - 1); nodes != 0 {
				want = bits.TrailingZeros(uint(nodes))
			}
			for _, at := range slices.Concat(ticks, extremes) {
				wantPass(t, g, mask, all(at), want)
				wantPass(t, lost, mask, all(at), want)
			}
			wantPass(t, g, mask, [api.MaxNodes]int{far, -far, 9, -9, 1, 0, -1, far}, want)
		}
	})
}

// By one that knows the slot its node is passed, if it sends, and nobody else, whoever sends, and whenever the others do.
func TestPassOfOneThatKnows(t *testing.T) {
	eachTable(func(x api.Table) {
		for slot := range x.Nodes {
			g := knowing(t, x, slot, 100)
			for mask := range 1 << api.MaxNodes {
				want := -1
				if mask>>slot&1 == 1 {
					want = slot
				}
				for _, others := range []int{100, 0, 109, far, -far, math.MinInt, math.MaxInt} {
					at := all(others)
					at[slot] = 100
					wantPass(t, g, mask, at, want)
				}
				for _, off := range []int{-9, 9} {
					at := all(100)
					at[slot] += off
					wantPass(t, g, mask, at, -1)
				}
			}
		}
	})
}

// Just Window away, before and behind, is near; one more is not. Limit has no part in it, nor has Drift.
func TestWindow(t *testing.T) {
	for _, x := range []api.Table{of(4, 15, 2, 2), of(4, 15, 8, 300), of(5, 31, 8, 1000), of(7, 15, 999, 1000), of(8, 255, 1000, 1000), {Nodes: plain(6).Nodes, Drift: 7, Window: 40, Limit: 41}} {
		for _, now := range append([]int{77, -77, 12345}, ticks...) {
			for slot := range x.Nodes {
				g := knowing(t, x, slot, now)
				for _, off := range []int{0, 1, x.Window / 2, x.Window - 1, x.Window} {
					wantPass(t, g, 1<<slot, all(now+off), slot)
					wantPass(t, g, 1<<slot, all(now-off), slot)
				}
				for _, off := range []int{x.Window + 1, x.Window + 2, x.Limit + 1, 3*x.Window + 3, far} {
					wantPass(t, g, 1<<slot, all(now+off), -1)
					wantPass(t, g, 1<<slot, all(now-off), -1)
				}
			}
		}
	}
}

// From one bound of the ticks to the other it is far.
func TestWindowAtTheBounds(t *testing.T) {
	for _, x := range []struct {
		now, at int
		near    bool
	}{
		{far, far, true}, {far, far - 8, true}, {far, far - 9, false}, {far, -far, false}, {far, 0, false},
		{-far, -far, true}, {-far, -far + 8, true}, {-far, -far + 9, false}, {-far, far, false}, {-far, 0, false},
		{0, far, false}, {0, -far, false}, {8, 0, true}, {-9, 0, false},
	} {
		want := -1
		if x.near {
			want = 3
		}
		wantPass(t, knowing(t, plain(5), 3, x.now), 255, all(x.at), want)
	}
}

// W10: how far apart two numbers are wraps nowhere, not even of the greatest and of the least that there are.
func TestWindowDoesNotWrap(t *testing.T) {
	least, most := math.MinInt, math.MaxInt
	for _, x := range []struct {
		now, at int
		near    bool
	}{
		{least, most, false}, {most, least, false}, {least, most - 8, false}, {least + 3, most - 3, false}, {most - 3, least + 3, false}, {least, 0, false}, {0, least, false}, {most, -1, false}, {-1, most, false}, {most, -8, false},
		{least, least, true}, {most, most, true}, {least, least + 8, true}, {least, least + 9, false}, {most - 8, most, true}, {most, most - 9, false}, {least + 8, least, true},
	} {
		want := -1
		if x.near {
			want = 1
		}
		wantPass(t, knowing(t, plain(4), 1, x.now), 255, all(x.at), want)
	}
}

// Near is what is near to the time that the guardian has now, not to that at which it began, nor to what passed last.
func TestPassByTheTimeItHas(t *testing.T) {
	g := knowing(t, plain(4), 0, 100)
	for range 4 {
		g.End(noise, 120)
		wantPass(t, g, 255, all(111), -1)
	}
	wantKnows(t, g, 0, 120)
	for range 4 {
		at, _ := g.Knows()
		wantPass(t, g, 255, all(112), at)
		wantPass(t, g, 255, all(128), at)
		wantPass(t, g, 255, all(111), -1)
		wantPass(t, g, 255, all(129), -1)
		g.End(nil, 100)
	}
}
