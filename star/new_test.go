package star_test

import (
	"math"
	"testing"

	"matron/api"
	"matron/star"
)

// P11.1: New, and Guard.

// Both guardians know nothing at first, have no time, and pass the least that sends.
func TestNewKnowsNothing(t *testing.T) {
	eachTable(func(table api.Table) {
		n := len(table.Nodes)
		s := fresh(t, table)
		wantKnow(t, s, n, [2]int{lost, lost})
		play(t, s, n,
			turn{row{}, nil, silence, nobody, 0, [2]int{lost, lost}},
			turn{two(n-2, y, n-1, x), nil, both(y), n - 2, 0, [2]int{lost, lost}},
		)
	})
}

// Each guardian is of this table: of its nodes, its Window, its Limit, and who has Sync.
func TestGuardiansAreOfTheTable(t *testing.T) {
	eachTable(func(table api.Table) {
		n := len(table.Nodes)
		for i := range 2 {
			s := knowing(t, table, n-1, n-1)
			play(t, s, n, turn{one(n-1, x), nil, both(x), n - 1, 0, [2]int{0, 0}})
			wantTime(t, table, i, now, learning(n, 2, 2)...)
			for _, off := range []int{30, 40, 41} {
				l := append(learning(n, n-4, n-4), lateOnes(n, n-4, off)...)
				want := now
				if off <= window {
					want += off
				}
				wantTime(t, table, i, want, l...)
			}
		}
	})
}

// lateOnes are the slots from this one to the last one of the round, each one's node so many ticks off.
func lateOnes(n, slot, off int) (l []given) {
	for ; slot < n; slot++ {
		l = append(l, given{one(slot, x), all(now + off), nil})
	}
	return l
}

// Who has no Sync is passed, and not measured; and a Limit below a measure holds a clock.
func TestSyncAndLimit(t *testing.T) {
	table := of(5)
	table.Nodes[4].Sync = false
	tight := of(5)
	tight.Window, tight.Limit = window, window
	for i := range 2 {
		l := append(learning(5, 3, 3), given{row{3: x}, all(now + 10), nil}, given{row{4: x}, all(now + 30), nil})
		wantTime(t, table, i, now+10, l...)
		wantTime(t, tight, i, now+20, l...)
	}
}

// notTables are tables that may not be, each for one thing alone, but the first ones.
func notTables() []api.Table {
	l := []api.Table{{}, {Nodes: []api.Def{}}, {Nodes: make([]api.Def, 4), Window: 8, Limit: 300}}
	for _, n := range []int{1, 2, 3, 9, 10, 260} {
		l = append(l, of(n))
	}
	for _, x := range []struct{ drift, window, limit int }{{-1, 8, 300}, {2, 9, 300}, {1001, 1000, 1000}, {0, 1, 300}, {0, -8, 300}, {0, 8, 7}, {0, 8, -300}, {0, 8, 1001}, {0, 1001, 1001}} {
		y := of(4)
		y.Drift, y.Window, y.Limit = x.drift, x.window, x.limit
		l = append(l, y)
	}
	for _, d := range []api.Def{{Listen: 20, Size: 1}, {Sync: true, Listen: 7, Size: 1}, {Sync: true, Listen: 201, Size: 1}, {Sync: true, Listen: 8, Size: 1}, {Sync: true, Listen: 20}, {Sync: true, Listen: 20, Size: 9}} {
		y := of(4)
		y.Nodes[3] = d
		l = append(l, y)
	}
	return l
}

func TestNewOfWhatMayNotBe(t *testing.T) {
	for _, x := range notTables() {
		if s, e := star.New(x); s != nil || e != api.ErrArg {
			t.Errorf("New(%v): got %v, %v", x, s, e)
		}
	}
}

// Guard tells guardian 0 of the first channel, 1 of the second; there is no other one.
func TestGuard(t *testing.T) {
	eachTable(func(table api.Table) {
		n := len(table.Nodes)
		for first := lost; first < n; first++ {
			for second := lost; second < n; second++ {
				s := knowing(t, table, first, second)
				for _, i := range []int{-1, 2, 3, -2, 255, 256, 1 << 32, math.MinInt, math.MaxInt} {
					if slot, ok := s.Guard(i); slot != 0 || ok {
						t.Errorf("Guard(%d): got %d, %v", i, slot, ok)
					}
				}
				wantKnow(t, s, "asked", [2]int{first, second})
			}
		}
	})
}
