package ward_test

import (
	"slices"
	"testing"

	"matron/api"
	"matron/ward"
)

// P12.1: New; P12.2 and the chapter's example: what a new one tells.

func TestTheChaptersExample(t *testing.T) {
	eachTable(func(x api.Table) {
		if got := made(t, x, none(x), nil).Slots(); got != 0 {
			t.Errorf("Slots: got %d, want 0", got)
		}
	})
}

// rulesOf is so many rules, no two of them alike.
func rulesOf(many int) (l []api.Rule) {
	for i := range many {
		l = append(l, api.Rule{Node: i * 3 % 8, Low: i, High: 100 + i, Stale: i})
	}
	return l
}

// All nodes of a new one are off, at 0, have heard nobody, and nothing rings there.
func TestNew(t *testing.T) {
	eachTable(func(x api.Table) {
		n := len(x.Nodes)
		for _, rules := range [][]api.Rule{nil, {}, rulesOf(1), someRules(), rulesOf(api.MaxRules)} {
			for _, l := range [][]int{none(x), drifts(x)} {
				want := tells{nodes: n}
				for k := range want.l {
					for node := range want.l[k].reads {
						want.l[k].reads[node] = never
					}
				}
				wantAll(t, n, all(made(t, x, l, rules)), want)
			}
		}
	})
}

// notTables are tables that may not be, each for one thing alone, but the first ones.
func notTables() []api.Table {
	l := []api.Table{{}, {Nodes: []api.Def{}}, {Nodes: make([]api.Def, 4), Window: window, Limit: limit}}
	for _, n := range []int{1, 2, 3, 9, 10, 260, 100000} {
		l = append(l, of(n))
	}
	for _, x := range []struct{ drift, window, limit int }{{-1, 8, 300}, {2, 9, 300}, {1001, 1000, 1000}, {0, 1, 300}, {0, -8, 300}, {0, 8, 7}, {0, 8, -300}, {0, 8, 1001}, {0, 1001, 1001}} {
		y := of(4)
		y.Drift, y.Window, y.Limit = x.drift, x.window, x.limit
		l = append(l, y)
	}
	for _, d := range []api.Def{{Listen: 20, Size: 1}, {Sync: true, Listen: 7, Size: 1}, {Sync: true, Listen: 201, Size: 1}, {Sync: true, Listen: 8, Size: 1}, {Sync: true, Listen: 20}, {Sync: true, Listen: 20, Size: 9}} {
		y := of(4)
		y.Nodes[3] = d
		l = append(l, y)
	}
	return l
}

func wantNone(t *testing.T, x api.Table, drifts []int, rules []api.Rule) {
	t.Helper()
	if w, e := ward.New(x, drifts, rules); w != nil || e != api.ErrArg {
		t.Errorf("New of %d nodes, %v, %v: got %v, %v", len(x.Nodes), drifts, rules, w, e)
	}
}

func TestTablesThatMayNotBe(t *testing.T) {
	for _, x := range notTables() {
		wantNone(t, x, none(x), nil)
		wantNone(t, x, none(x), someRules())
		wantNone(t, x, nil, nil)
		wantNone(t, x, make([]int, 4), nil)
		wantNone(t, x, make([]int, len(x.Nodes)+1), rulesOf(9))
	}
}

// Tables at the edges of what may be.
func TestTablesThatMayBe(t *testing.T) {
	least, most := of(4), of(8)
	least.Drift, least.Window, least.Limit = 0, 2, 2
	most.Drift, most.Window, most.Limit = 249, 1000, 1000
	most.Nodes[7].Listen = 200
	for i := range 4 {
		most.Nodes[2*i].Sync = false
	}
	for _, x := range []api.Table{least, most} {
		w := made(t, x, none(x), rulesOf(api.MaxRules))
		if w.Nodes() != len(x.Nodes) {
			t.Errorf("Nodes: got %d", w.Nodes())
		}
	}
}

// There are just as many drifts as nodes.
func TestHowManyDrifts(t *testing.T) {
	eachTable(func(x api.Table) {
		for many := range 40 {
			l := make([]int, many)
			if many == len(x.Nodes) {
				made(t, x, l, nil)
				continue
			}
			wantNone(t, x, l, nil)
		}
		wantNone(t, x, nil, nil)
		wantNone(t, x, make([]int, 1000000), nil)
		// What stands behind the end does not count.
		wantNone(t, x, none(x)[:len(x.Nodes)-1], nil)
		wantNone(t, x, none(x)[1:], nil)
	})
}

// Each node's drift is the table's at most, on both sides.
func TestWhichDrifts(t *testing.T) {
	for _, most := range []int{0, 1, drift, 9} {
		eachTable(func(x api.Table) {
			x.Drift = most
			for i := range x.Nodes {
				for _, by := range append([]int{-most - 1, -most, 0, most, most + 1}, beyond...) {
					l := none(x)
					if l[i] = by; by < -most || by > most {
						wantNone(t, x, l, nil)
						continue
					}
					made(t, x, l, nil)
				}
			}
		})
	}
}

// notRules are rules that may not be, each for one thing alone.
var notRules = []api.Rule{
	{Node: -1}, {Node: 8}, {Low: -1}, {Low: 256, High: 256}, {High: 256}, {Low: 3, High: 2}, {High: -1}, {Stale: -1}, {Stale: api.MaxRound + 1},
}

func TestRulesThatMayNotBe(t *testing.T) {
	eachTable(func(x api.Table) {
		for _, r := range notRules {
			wantNone(t, x, none(x), []api.Rule{r})
			for i := range api.MaxRules {
				wantNone(t, x, none(x), slices.Insert(rulesOf(api.MaxRules-1), i, r))
			}
		}
		for _, many := range []int{api.MaxRules + 1, 10, 1000} {
			wantNone(t, x, none(x), make([]api.Rule, many))
		}
		made(t, x, none(x), make([]api.Rule, api.MaxRules))
		made(t, x, none(x), []api.Rule{{Node: 7, Low: 255, High: 255, Stale: api.MaxRound}})
	})
}

// Each node has the drift at its place, and no other one.
func TestDriftsAreTheNodes(t *testing.T) {
	eachTable(func(x api.Table) {
		for i, def := range x.Nodes {
			for _, by := range []int{-drift, -1, 2, drift} {
				l := slices.Repeat([]int{1}, len(x.Nodes))
				l[i] = by
				w := made(t, x, l, nil)
				do(t, w, on(i, 100))
				do(t, w, slots(def.Listen+len(x.Nodes))...)
				if got := w.Clock(i); got != 100+by {
					t.Errorf("node %d with drift %d: got %d", i, by, got)
				}
			}
		}
	})
}

// Each node has all rules, in their order, and each for itself: what is acknowledged at one rings at others.
func TestRulesAreEachNodes(t *testing.T) {
	x := of(5)
	rules := []api.Rule{{Node: 2, Low: 13, High: 20, Stale: 1}, {Node: 3, High: 12, Stale: 1}, {Node: 7, High: 255}, {Node: 1, High: 255, Stale: 1}}
	w := up(t, x, rules...)
	gone := api.TooOld | api.Lost
	for i, want := range [][]int{
		{api.TooLow, api.TooHigh, gone, 0}, {api.TooLow, api.TooHigh, gone, gone}, {gone, api.TooHigh, gone, 0}, {api.TooLow, gone, gone, 0}, {api.TooLow, api.TooHigh, gone, 0},
	} {
		wantRings(t, w, i, want...)
		wantRings(t, w, i, want...)
	}
	do(t, w, write(2, 14))
	do(t, w, slots(5)...)
	do(t, w, ack(3, 0), ack(4, 0))
	for i, want := range []int{api.TooLow, api.TooLow, gone, 0, 0} {
		wantRings(t, w, i, want)
	}
}
