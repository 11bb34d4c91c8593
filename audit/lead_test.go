package audit_test

import (
	"math"
	"testing"

	"matron/api"
	"matron/audit"
)

// P13.2: Lead.

func wantLead(t *testing.T, x api.Table, want int) {
	t.Helper()
	if got := audit.Lead(x); got != want {
		t.Errorf("Lead(%v): got %d, want %d", x, got, want)
	}
}

// Whichever node has the least Listen.
func TestLeadByWhoWaitsLeast(t *testing.T) {
	for n := api.MinNodes; n <= api.MaxNodes; n++ {
		for first := range n {
			wantLead(t, of(n, first), 3*n)
			for least := 2 * n; least <= 150; least++ {
				x := of(n, first)
				for i := range n {
					x.Nodes[i].Listen = 151 + 6*i
				}
				x.Nodes[first].Listen = least
				wantLead(t, x, least+n)
			}
		}
	}
}

// All wait long, and the least of them for that.
func TestLeadOfWhoWaitLong(t *testing.T) {
	for n := api.MinNodes; n <= api.MaxNodes; n++ {
		x := of(n, 0)
		for i := range n {
			x.Nodes[i].Listen = api.MaxListen - i
		}
		wantLead(t, x, 201)
		x.Nodes[n-1].Listen = 2 * n
		wantLead(t, x, 3*n)
	}
}

// Nothing of a table but its nodes' Listen, and how many they are, matters.
func TestLeadByOtherTables(t *testing.T) {
	x := windowed(of(7, 3), 200, 1000, 1000)
	for i := range x.Nodes {
		x.Nodes[i].Info, x.Nodes[i].Size = true, 8
		x.Nodes[i].Listen = 90 - 7*i
	}
	wantLead(t, x, 48+7)
	for i := range 3 {
		x.Nodes[6-i].Sync = false
	}
	wantLead(t, x, 48+7)
}

// Of a table that may not be nothing is said; here it is 0.
func TestLeadOfTablesThatMayNotBe(t *testing.T) {
	for _, x := range append(notTables(), api.Table{Nodes: []api.Def{{Listen: math.MaxInt}, {Listen: math.MinInt}}}) {
		wantLead(t, x, 0)
	}
}
