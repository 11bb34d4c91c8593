package star_test

import (
	"bytes"
	"slices"
	"sync"
	"testing"

	"matron/api"
	"matron/star"
)

// P11.3 (with W6 and W7): what is handed in is neither changed nor kept, what is answered is new memory.

// roomy is the same bytes, with other ones in the room behind their end.
func roomy(b []byte) []byte {
	return append(bytes.Clone(b), 1, 2, 3, 4, 5, 6, 7, 8)[:len(b)]
}

// handed is a slot that is given from memory with room behind each end, and what was in all of that.
func handed(g given) given {
	for i, b := range g.sends {
		g.sends[i] = roomy(b)
	}
	l := append(slices.Clone(g.l), babble(1, 2, 3), fault(api.Leak, 1))[:len(g.l)]
	for i, f := range l {
		l[i].Data = roomy(f.Data)
	}
	g.l = l
	return g
}

// whole is a copy of all that, the room behind the ends, too.
func (g given) whole() given {
	for i, b := range g.sends {
		g.sends[i] = bytes.Clone(b[:cap(b)])
	}
	g.l = slices.Clone(g.l[:cap(g.l)])
	for i, f := range g.l {
		g.l[i].Data = bytes.Clone(f.Data[:cap(f.Data)])
	}
	return g
}

func sameFault(a, b api.Fault) bool {
	return a.Kind == b.Kind && a.N == b.N && a.At == b.At && bytes.Equal(a.Data, b.Data)
}

func sameGiven(a, b given) bool {
	for i := range a.sends {
		if !bytes.Equal(a.sends[i], b.sends[i]) {
			return false
		}
	}
	return a.at == b.at && slices.EqualFunc(a.l, b.l, sameFault)
}

// spoil writes over all that it was given.
func (g given) spoil() {
	for _, b := range g.sends {
		spoil(b)
	}
	l := g.l[:cap(g.l)]
	for i := range l {
		spoil(l[i].Data)
		l[i] = api.Fault{Kind: -1, N: 99}
	}
}

// spoil writes over bytes, and into the room behind their end.
func spoil(b []byte) {
	b = b[:cap(b)]
	for i := range b {
		b[i] = 0x5a
	}
}

func TestNothingIsChanged(t *testing.T) {
	s, m, d := fresh(t, of(6)), model{table: of(6)}, dice(5)
	for range 300 {
		g := handed(some(&d, &m))
		was := g.whole()
		star.Is(g.l)
		g.pass(s)
		if !sameGiven(g.whole(), was) {
			t.Fatalf("changed: got %v, want %v", g.whole(), was)
		}
		m.pass(g)
		bad := g
		bad.l = append(slices.Clone(g.l), fault(9, 9))
		was = bad.whole()
		star.Is(bad.l)
		bad.pass(s)
		if !sameGiven(bad.whole(), was) {
			t.Fatalf("changed: got %v, want %v", bad.whole(), was)
		}
	}
	for _, x := range append(notTables(), of(4), of(7)) {
		nodes := append(slices.Clone(x.Nodes), slices.Repeat([]api.Def{{Sync: true, Listen: -7, Size: 99}}, 20)...)
		was := slices.Clone(nodes)
		y := x
		y.Nodes = nodes[:len(x.Nodes)]
		star.New(y)
		if !slices.Equal(nodes, was) {
			t.Errorf("changed: %v, want %v", nodes, was)
		}
	}
}

// What was handed in may be changed afterwards, and what is answered, too: neither is to be seen in what comes.
func TestNothingIsKept(t *testing.T) {
	for n := api.MinNodes; n <= api.MaxNodes; n++ {
		table := of(n)
		s, kept, m, d := fresh(t, table), fresh(t, of(n)), model{table: of(n)}, dice(n)
		for i := range table.Nodes {
			table.Nodes[i] = api.Def{Listen: i, Size: -1}
		}
		for i := range 300 {
			g := some(&d, &m)
			want := m.pass(g)
			spoilt := handed(g)
			got, _ := spoilt.pass(s)
			spoilt.spoil()
			wantHeard(t, i, got, want)
			for _, h := range got {
				spoil(h.X)
				spoil(h.Y)
			}
			other, _ := g.pass(kept)
			wantHeard(t, i, other, want)
			wantKnow(t, s, i, know(kept))
		}
	}
}

// No two lists of one answer share any, nor the room behind their ends, and none shares with an argument.
func TestAnswersAreApart(t *testing.T) {
	s, m, d := fresh(t, of(8)), model{table: of(8)}, dice(8)
	var before, kept [api.MaxNodes]api.Heard
	for i := range 300 {
		g := some(&d, &m)
		if i%2 == 0 {
			g = given{sends: each(x), at: all(now)}
		}
		g = handed(g)
		was := g.whole()
		got, _ := g.pass(s)
		want := m.pass(g)
		for k := range got {
			spoil(got[k].X)
			want[k].X = bytes.Repeat([]byte{0x5a}, len(want[k].X))
			wantHeard(t, i, got, want)
			spoil(got[k].Y)
			want[k].Y = bytes.Repeat([]byte{0x5a}, len(want[k].Y))
			wantHeard(t, i, got, want)
		}
		if !sameGiven(g.whole(), was) {
			t.Fatalf("changed: got %v, want %v", g.whole(), was)
		}
		// W7: what was answered stays, whatever is called later.
		wantHeard(t, i, before, kept)
		before = got
		for k, h := range got {
			kept[k] = h
			kept[k].X, kept[k].Y = bytes.Clone(h.X), bytes.Clone(h.Y)
		}
	}
}

// W2: what is asked of a Star changes nothing, and as often as it is asked it answers the same.
func TestAskingChangesNothing(t *testing.T) {
	asked, other := fresh(t, of(5)), fresh(t, of(5))
	m, d := model{table: of(5)}, dice(3)
	for i := range 300 {
		g := some(&d, &m)
		want := m.pass(g)
		for range 3 {
			star.Is(g.l)
			asked.Guard(i)
			wantKnow(t, asked, i, know(other))
		}
		got, _ := g.pass(asked)
		wantHeard(t, i, got, want)
		got, _ = g.pass(other)
		wantHeard(t, i, got, want)
	}
}

// W2 and W9: a Star has nothing of another one, and each goroutine may have its own.
func TestNothingHangsOnOtherCalls(t *testing.T) {
	var wait sync.WaitGroup
	for i := range 8 {
		wait.Go(func() {
			table := of(4 + i%5)
			s, e := star.New(table)
			if e != api.OK {
				t.Error(e)
				return
			}
			m, d := model{table: table}, dice(100+i)
			for k := range 100 {
				g := some(&d, &m)
				got, _ := g.pass(s)
				wantHeard(t, k, got, m.pass(g))
				wantKnow(t, s, k, m.know())
			}
		})
	}
	wait.Wait()
}
