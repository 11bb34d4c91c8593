package table_test

import (
	"slices"
	"testing"

	"matron/api"
	"matron/table"
)

// P4.2: Same.

// unlike are tables of which each differs from the first one in one field alone.
func unlike() []api.Table {
	l := []api.Table{of(6, 0x1f, 0x15)}
	add := func(change func(x *api.Table)) {
		x := of(6, 0x1f, 0x15)
		change(&x)
		l = append(l, x)
	}
	for i := range 6 {
		add(func(x *api.Table) { x.Nodes[i].Sync = !x.Nodes[i].Sync })
		add(func(x *api.Table) { x.Nodes[i].Info = !x.Nodes[i].Info })
		add(func(x *api.Table) { x.Nodes[i].Listen += 1 << 40 })
		add(func(x *api.Table) { x.Nodes[i].Listen++ })
		add(func(x *api.Table) { x.Nodes[i].Size-- })
		add(func(x *api.Table) { x.Nodes[i].Size += 256 })
		add(func(x *api.Table) { x.Nodes = x.Nodes[:i] })
		add(func(x *api.Table) { x.Nodes = append(x.Nodes, make([]api.Def, i+1)...) })
	}
	for _, n := range []int{-1, 1, 256, 65536, 1 << 32} {
		add(func(x *api.Table) { x.Drift += n })
		add(func(x *api.Table) { x.Window += n })
		add(func(x *api.Table) { x.Limit += n })
	}
	add(func(x *api.Table) { slices.Reverse(x.Nodes) })
	add(func(x *api.Table) { x.Nodes[0], x.Nodes[1] = x.Nodes[1], x.Nodes[0] })
	add(func(x *api.Table) { x.Drift, x.Window = x.Window, x.Drift })
	add(func(x *api.Table) { x.Window, x.Limit = x.Limit, x.Window })
	return append(l, api.Table{}, wide(70000))
}

func TestSame(t *testing.T) {
	l := unlike()
	for i, a := range l {
		for k, b := range l {
			b.Nodes = slices.Clone(b.Nodes)
			if table.Same(a, b) != (i == k) || table.Same(b, a) != (i == k) {
				t.Error(i, k)
			}
		}
	}
}

func TestSameOfTables(t *testing.T) {
	l := tables()
	for i, a := range l {
		b := l[(i+1)%len(l)]
		if !table.Same(a, a) || table.Same(a, b) != same(a, b) {
			t.Error(a, b)
		}
	}
}

// W5: a nil list and an empty one are the same.
func TestNilAndEmpty(t *testing.T) {
	for _, n := range []int{0, 5, -1} {
		a := api.Table{Drift: n, Window: n, Limit: n}
		b := api.Table{Nodes: []api.Def{}, Drift: n, Window: n, Limit: n}
		if !table.Same(a, b) || !table.Same(b, a) || !table.Same(a, a) || !table.Same(b, b) {
			t.Error(n)
		}
	}
}
