package star_test

import (
	"testing"

	"matron/api"
	"matron/node"
	"matron/star"
)

// P0.2, P0.3 and P0.4, as far as they hang on a star: nodes at both channels, of which one is hit by a fault, or a guardian.

// bus is nodes at a star.
type bus struct {
	table api.Table
	star  *star.Star
	nodes []*node.Node
}

// up is a bus whose nodes are all on from the beginning, and whose clocks drift apart as far as they may, when all are up.
func up(t *testing.T, n int) *bus {
	t.Helper()
	table := of(n)
	b := &bus{table: table, star: fresh(t, table)}
	least := api.MaxListen
	for i, d := range table.Nodes {
		k, e := node.New(table, i, table.Drift*(1-i%2*2), nil)
		if e != api.OK || k.On(0) != api.OK {
			t.Fatal("node", i, e)
		}
		b.nodes = append(b.nodes, k)
		least = min(least, d.Listen)
	}
	b.slots(t, least+n, nil)
	b.wantAgree(t, "up", 0)
	return b
}

// slots has so many pass; the first one has these faults.
func (b *bus) slots(t *testing.T, many int, l faults) {
	t.Helper()
	for i := range many {
		var g given
		if i == 0 {
			g.l = l
		}
		for k, n := range b.nodes {
			n.Write([]byte{byte(k)})
			g.sends[k], g.at[k] = n.Send(), n.Clock()
		}
		out, e := g.pass(b.star)
		if e != api.OK {
			t.Fatal(e)
		}
		for k, n := range b.nodes {
			n.Take(out[k])
		}
	}
}

// wantAgree: all but those that were hit are Active, have one view, are members in it, have near clocks; guardians know the view's slot.
func (b *bus) wantAgree(t *testing.T, name any, hit int) {
	t.Helper()
	var views []api.CState
	least, most := far, -far
	for i, n := range b.nodes {
		if hit>>i&1 == 1 {
			continue
		}
		views = append(views, n.View())
		least, most = min(least, n.Clock()), max(most, n.Clock())
		if n.State() != api.Active || n.View() != views[0] || n.View().Members>>i&1 == 0 {
			t.Errorf("%v: node %d: got %d, %v, others have %v", name, i, n.State(), n.View(), views[0])
		}
	}
	if most-least > 2*b.table.Drift {
		t.Errorf("%v: clocks are %d apart", name, most-least)
	}
	wantKnow(t, b.star, name, [2]int{views[0].Slot, views[0].Slot})
}

func TestNodesAtAStar(t *testing.T) {
	for n := api.MinNodes; n <= api.MaxNodes; n++ {
		b := up(t, n)
		for i := range 10 * n {
			b.slots(t, 1, nil)
			b.wantAgree(t, i, 0)
		}
	}
}

func TestOneIsHit(t *testing.T) {
	for _, n := range []int{4, 7} {
		for who := range n {
			for _, f := range []api.Fault{
				fault(api.Omit, who), garble(who, 77), fault(api.Deaf, who), late(who, 81), late(who, -81),
				babble(who, 0, x...), babble(who, 0, told(api.Cold, 2)...), babble(who, 0, make([]byte, 24)...), babble(who, 0),
			} {
				b := up(t, n)
				for range 2 * n {
					b.slots(t, 1, faults{f})
					b.wantAgree(t, f, 1<<who)
					b.slots(t, 3*n, nil)
					b.wantAgree(t, f, 1<<who)
				}
			}
		}
	}
}

// A guardian that passes nothing, or everything, takes nobody's place or view.
func TestAGuardianIsHit(t *testing.T) {
	for _, n := range []int{4, 7} {
		for _, f := range []api.Fault{fault(api.Block, 0), fault(api.Block, 1), fault(api.Leak, 0), fault(api.Leak, 1)} {
			b := up(t, n)
			for range 5 * n {
				b.slots(t, 1, faults{f})
				b.wantAgree(t, f, 0)
				b.slots(t, 3, nil)
				b.wantAgree(t, f, 0)
			}
		}
	}
}
