package guard_test

import (
	"testing"

	"matron/api"
	"matron/guard"
)

// P6.1: New.

func TestNewDoesNotKnow(t *testing.T) {
	eachTable(func(x api.Table) {
		wantLost(t, fresh(t, x), 0)
		wantPass(t, fresh(t, x), 0, all(0), -1)
	})
	for _, x := range []api.Table{of(4, 15, 2, 2), of(4, 15, 1000, 1000), of(8, 0xf0, 2, 1000), {Nodes: plain(5).Nodes, Drift: 249, Window: 998, Limit: 998}} {
		wantLost(t, fresh(t, x), 0)
	}
}

// notTables are tables that may not be, each for one thing alone, but the first ones.
func notTables() []api.Table {
	l := []api.Table{{}, {Nodes: []api.Def{}}, {Nodes: make([]api.Def, 4), Window: 8, Limit: 300}}
	for _, n := range []int{1, 2, 3, 9, 10, 260} {
		l = append(l, plain(n))
	}
	for _, x := range []struct{ drift, window, limit int }{{-1, 8, 300}, {2, 9, 300}, {1001, 1000, 1000}, {0, 1, 300}, {0, -8, 300}, {0, 8, 7}, {0, 8, -300}, {0, 8, 1001}, {0, 1001, 1001}} {
		y := plain(4)
		y.Drift, y.Window, y.Limit = x.drift, x.window, x.limit
		l = append(l, y)
	}
	for _, d := range []api.Def{{Listen: 20, Size: 1}, {Sync: true, Listen: 7, Size: 1}, {Sync: true, Listen: 201, Size: 1}, {Sync: true, Listen: 9, Size: 1}, {Sync: true, Listen: 20}, {Sync: true, Listen: 20, Size: 9}} {
		y := plain(4)
		y.Nodes[3] = d
		l = append(l, y)
	}
	return append(l, of(8, 7, 8, 300), of(8, 0, 8, 300))
}

func TestNewOfWhatMayNotBe(t *testing.T) {
	for _, x := range notTables() {
		if g, e := guard.New(x); g != nil || e != api.ErrArg {
			t.Errorf("New(%v): got %v, %v", x, g, e)
		}
	}
}
