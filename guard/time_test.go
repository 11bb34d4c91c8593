package guard_test

import (
	"math"
	"testing"

	"matron/api"
	"matron/guard"
)

// P6.2: how the time of one that knows the slot is turned.

// ends ends slots, one behind the other; nothing passed where the number is none.
func ends(g *guard.Guard, l ...int) {
	for _, n := range l {
		if n == none {
			g.End(nil, 12345)
		} else {
			g.End(noise, n)
		}
	}
}

const none = 1 << 50

// round is a round's ends, and the time behind it; at its beginning that is 100.
type round struct {
	l    []int
	want int
}

func wantRounds(t *testing.T, x api.Table, l ...round) {
	t.Helper()
	for _, r := range l {
		g := knowing(t, x, 0, 100)
		ends(g, r.l...)
		if slot, ok := g.Knows(); slot != len(r.l)%len(x.Nodes) || !ok || g.Now() != r.want {
			t.Errorf("%v: got %d, %v at %d, want %d", r.l, slot, ok, g.Now(), r.want)
		}
	}
}

func TestTurned(t *testing.T) {
	wantRounds(t, plain(4),
		round{[]int{100, 100, 100, 100}, 100},
		round{[]int{107, 107, 107, 107}, 107},
		round{[]int{93, 93, 93, 93}, 93},
		round{[]int{101, 109, 97, 102}, 101}, // of 1 9 -3 2
		round{[]int{none, none, none, none}, 100},
		round{[]int{none, 109, none, none}, 109},
		round{[]int{none, none, none, 99}, 99}, // the last slot's counts at once
		round{[]int{99, none, 100, none}, 99},
		round{[]int{103, none, none, 104}, 103},
		round{[]int{97, none, none, 96}, 96},
		round{[]int{101, 150, none, 105}, 105},
		round{[]int{100 + far, 100 - far, 101, 103}, 102},
		round{[]int{far, 103, 104, -far}, 103},
		round{[]int{far, -far, none, none}, 0}, // of far-100 and -far-100
	)
}

// Till slot 0 comes the time stays.
func TestTurnedOnceARound(t *testing.T) {
	eachTable(func(x api.Table) {
		n := len(x.Nodes)
		g := knowing(t, x, 0, 100)
		now := 100
		for r := range 5 {
			for i := 1; i < n; i++ {
				g.End(noise, now+6+r)
				wantKnows(t, g, i, now)
			}
			g.End(noise, now+6+r)
			now += 6 + r
			wantKnows(t, g, 0, now)
		}
	})
}

// The first round may be a part of one: what was measured in it counts where it ends; the frame that was learnt of is no measure.
func TestTurnedInTheFirstRound(t *testing.T) {
	eachTable(func(x api.Table) {
		n := len(x.Nodes)
		for first := range n - 1 {
			g := fresh(t, x)
			g.End(told(api.Cold, first), 100)
			for i := first + 1; i < n; i++ {
				wantKnows(t, g, i, 100)
				g.End(noise, 90)
			}
			wantKnows(t, g, 0, 90)
		}
	})
}

// Who has no Sync is heard, but not measured.
func TestWithoutSyncNotMeasured(t *testing.T) {
	for n := 5; n <= api.MaxNodes; n++ {
		for who := range n {
			x := of(n, (1<<n-1)&^(1<<who), 8, 300)
			g := knowing(t, x, 0, 100)
			for i := range n {
				if i == who {
					g.End(noise, 150)
				} else {
					quiet(g, 1)
				}
			}
			wantKnows(t, g, 0, 100)
			quiet(g, n-1)
			wantKnows(t, g, n-1, 100)

			g = knowing(t, x, 0, 100)
			for i := range n {
				if i == who {
					g.End(noise, 150)
				} else {
					g.End(noise, 103)
				}
			}
			wantKnows(t, g, 0, 103)
		}
	}
	wantRounds(t, of(8, 0x4d, 8, 300), // 0, 2, 3 and 6 have it
		round{[]int{101, 399, 102, none, 399, 399, 103, 399}, 102},
		round{[]int{none, 399, none, none, 399, 399, none, 399}, 100},
		round{[]int{none, 399, none, none, 399, 399, 95, 399}, 95},
		round{[]int{101, 0, 102, 103, 0, 0, 108, 0}, 102},
	)
}

// Any bytes are measured, of a frame or not.
func TestAnyBytesAreMeasured(t *testing.T) {
	for _, b := range [][]byte{noise, {0}, make([]byte, 50), told(api.Normal, 0), told(api.Info, 2), told(api.Cold, 0), told(api.Cold, 7)} {
		g := knowing(t, plain(4), 0, 100)
		quiet(g, 1)
		g.End(b, 94)
		quiet(g, 2)
		wantKnows(t, g, 0, 94)
	}
}

// Of more than four the last four count.
func TestLastFourMeasures(t *testing.T) {
	wantRounds(t, plain(5),
		round{[]int{399, 101, 102, 103, 104}, 102},
		round{[]int{101, 102, 103, 104, 399}, 103},
	)
	wantRounds(t, plain(8),
		round{[]int{399, 399, 399, 399, 101, 102, 103, 104}, 102},
		round{[]int{101, 102, 103, 104, 399, 399, 399, 399}, 399},
		round{[]int{101, none, 103, 104, none, 106, none, 107}, 105},
		round{[]int{399, 399, none, none, 101, 102, none, none}, 250}, // of 299 299 1 2
	)
}

// Just by Limit it is turned; by one more it is not; and then the measures go, too.
func TestLimit(t *testing.T) {
	for _, limit := range []int{8, 9, 300, 999, api.MaxTicks} {
		x := of(5, 31, 8, limit)
		for _, now := range append([]int{77}, ticks...) {
			for _, by := range []int{limit, limit - 1, 9 - limit, -limit} {
				g := knowing(t, x, 0, now)
				ends(g, now+by, now+by, now+by, now+by, now+by)
				wantKnows(t, g, 0, now+by)
			}
			for _, by := range []int{limit + 1, limit + 2, -limit - 1, -limit - 2, 5 * limit, -5 * limit, far, -far} {
				g := knowing(t, x, 0, now)
				ends(g, now+by, now+by, now+by, now+by, now+by)
				wantKnows(t, g, 0, now)
				ends(g, none, now+3, none, none, none)
				wantKnows(t, g, 0, now+3)
			}
		}
	}
}

// What counts for Limit is the Average, rounded down.
func TestLimitOfTheAverage(t *testing.T) {
	wantRounds(t, of(4, 15, 8, 10),
		round{[]int{none, 111, 110, none}, 110},
		round{[]int{none, 111, 111, none}, 100},
		round{[]int{none, 89, 91, none}, 90},
		round{[]int{none, 89, 90, none}, 100},
		round{[]int{900, 111, 109, -900}, 110},
	)
}

// Where slot 0 comes the measures go: a silent round behind it turns nothing, and the next one is measured by the time of then.
func TestMeasuresGo(t *testing.T) {
	eachTable(func(x api.Table) {
		n := len(x.Nodes)
		g := knowing(t, x, 0, 100)
		for range n {
			g.End(noise, 110)
		}
		wantKnows(t, g, 0, 110)
		quiet(g, n)
		wantKnows(t, g, 0, 110)
		g.End(noise, 114)
		quiet(g, n-1)
		wantKnows(t, g, 0, 114)
		for range n {
			g.End(noise, 110)
		}
		wantKnows(t, g, 0, 110)
	})
}

// The slot of a guardian that is lost does not go on: its time is what it was.
func TestLostIsNotTurned(t *testing.T) {
	eachTable(func(x api.Table) {
		n := len(x.Nodes)
		for slot := range n {
			g := knowing(t, x, slot, 100)
			g.End(noise, 107)
			quiet(g, n)
			wantKnows(t, g, (slot+1)%n, 107)
			quiet(g, n)
			wantLost(t, g, 107)
		}
	})
}

// W10: how far a time is off wraps nowhere: so far off is beyond each Limit.
func TestMeasuresDoNotWrap(t *testing.T) {
	for _, now := range extremes {
		for _, at := range extremes {
			g := knowing(t, plain(4), 0, now)
			ends(g, at, none, none, none)
			want := now
			if off := float64(at) - float64(now); math.Abs(off) < 10 {
				want = at
			}
			wantKnows(t, g, 0, want)
			g = knowing(t, plain(4), 0, now)
			ends(g, at, at, at, at)
			wantKnows(t, g, 0, want)
		}
	}
	least, most := math.MinInt, math.MaxInt
	g := knowing(t, plain(4), 0, 0)
	ends(g, 1<<62, none, none, -1<<62+6)
	wantKnows(t, g, 0, 3)
	g = knowing(t, plain(4), 0, most)
	ends(g, least, most-4, most-6, 0)
	wantKnows(t, g, 0, most) // of -6 and -most
	ends(g, least, most-4, most-6, most)
	wantKnows(t, g, 0, most-5)
	g = knowing(t, plain(4), 0, least)
	ends(g, most, least+4, least+6, most)
	wantKnows(t, g, 0, least)
	ends(g, most, least+4, least+6, least)
	wantKnows(t, g, 0, least+5)
}
