package guard_test

import (
	"bytes"
	"slices"
	"sync"
	"testing"

	"matron/api"
	"matron/guard"
)

// P6.3 (and W6): what is handed in is neither changed, nor the room behind its end, nor kept.

func TestNothingIsChanged(t *testing.T) {
	for _, x := range append(notTables(), plain(4), plain(7), plain(8)) {
		nodes := append(slices.Clone(x.Nodes), slices.Repeat([]api.Def{{Sync: true, Listen: -7, Size: 99}}, 20)...)
		was := slices.Clone(nodes)
		y := x
		y.Nodes = nodes[:len(x.Nodes)]
		g, _ := guard.New(y)
		for i, b := range append(notLearnt(8), told(api.Cold, 0), told(api.Info, 1), nil, noise) {
			row := append(bytes.Clone(b), 1, 2, 3, 4, 5, 6, 7, 8)
			before := bytes.Clone(row)
			who, at := sends(i), all(i)
			g.Pass(who, at)
			g.End(row[:len(b)], i)
			if !bytes.Equal(row, before) || who != sends(i) || at != all(i) {
				t.Errorf("changed: %x, want %x", row, before)
			}
		}
		if !slices.Equal(nodes, was) || y.Drift != x.Drift || y.Window != x.Window || y.Limit != x.Limit {
			t.Errorf("changed: %v, want %v", nodes, was)
		}
	}
}

// A guardian has a table of its own, and none of the bytes that passed.
func TestNothingIsKept(t *testing.T) {
	x := of(6, 0x3d, 8, 300)
	kept, y := fresh(t, x), x
	y.Nodes = slices.Clone(x.Nodes)
	g := fresh(t, y)
	for i := range y.Nodes {
		y.Nodes[i] = api.Def{Sync: !y.Nodes[i].Sync}
	}
	y.Window, y.Limit = 0, 0
	d := dice(7)
	for i := range 500 {
		e := some(&d, x, kept.Now())
		b := bytes.Clone(e.b)
		g.End(b, e.at)
		for k := range b {
			b[k] = 0x5a
		}
		kept.End(e.b, e.at)
		slot, ok := kept.Knows()
		if n, o := g.Knows(); n != slot || o != ok || g.Now() != kept.Now() {
			t.Fatalf("%d: got %d, %v at %d, want %d, %v at %d", i, n, o, g.Now(), slot, ok, kept.Now())
		}
	}
}

// W2: what is asked of a Guard changes nothing, and as often as it is asked it answers the same.
func TestAskingChangesNothing(t *testing.T) {
	x := plain(5)
	asked, other := fresh(t, x), fresh(t, x)
	d := dice(3)
	for i := range 400 {
		e := some(&d, x, other.Now())
		asked.End(e.b, e.at)
		other.End(e.b, e.at)
		slot, ok := other.Knows()
		want := other.Pass(sends(i), all(e.at))
		for k := range 5 {
			asked.Pass(sends(k*50), all(k))
			n, o := asked.Knows()
			if n != slot || o != ok || asked.Now() != other.Now() || asked.Pass(sends(i), all(e.at)) != want {
				t.Fatalf("%d: got %d, %v at %d, want %d, %v at %d", i, n, o, asked.Now(), slot, ok, other.Now())
			}
		}
	}
}

// A Guard has nothing of another one, whatever becomes of it.
func TestGuardsAreApart(t *testing.T) {
	a, b := fresh(t, plain(4)), fresh(t, plain(8))
	a.End(told(api.Cold, 3), 100)
	wantKnows(t, a, 0, 100)
	wantLost(t, b, 0)
	b.End(told(api.Cold, 6), -5)
	wantKnows(t, a, 0, 100)
	wantKnows(t, b, 7, -5)
	ends(a, 107, 107)
	b.End(nil, 0)
	wantKnows(t, b, 0, -5)
	quiet(a, 8)
	wantLost(t, a, 107)
	wantKnows(t, b, 0, -5)
}

// W9: each goroutine may have its own Guard, beside all others.
func TestNothingHangsOnOtherCalls(t *testing.T) {
	var wait sync.WaitGroup
	for i := range 8 {
		wait.Go(func() {
			x := plain(4 + i%5)
			g, e := guard.New(x)
			if e != api.OK {
				t.Error(e)
				return
			}
			m, d := model{t: x}, dice(i)
			for range 150 {
				_, now := m.now()
				next := some(&d, x, now)
				g.End(next.b, next.at)
				m.ended = append(m.ended, next)
				wantAsModel(t, g, m, &d)
			}
		})
	}
	wait.Wait()
}
