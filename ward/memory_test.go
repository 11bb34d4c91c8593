package ward_test

import (
	"bytes"
	"slices"
	"sync"
	"testing"

	"matron/api"
	"matron/ward"
)

// P12.3 (with W6 and W7): what is handed in is neither changed nor kept; what is answered is new memory.

// roomy is the same bytes, with other ones in the room behind their end.
func roomy(b []byte) []byte {
	return append(bytes.Clone(b), 1, 2, 3, 4, 5, 6, 7, 8)[:len(b)]
}

// spoil writes over bytes, and into the room behind their end.
func spoil(b []byte) {
	b = b[:cap(b)]
	for i := range b {
		b[i] ^= 0x5a
	}
}

// handed is an act in memory with room behind each end.
func handed(a api.Act) api.Act {
	a.Data = roomy(a.Data)
	l := append(slices.Clone(a.Faults), fault(api.Leak, 1), babble(1, 2, 3))[:len(a.Faults)]
	for i, f := range l[:cap(l)] {
		l[:cap(l)][i].Data = roomy(f.Data)
	}
	a.Faults = l
	return a
}

// entire is a copy of all that, the room behind the ends, too.
func entire(a api.Act) api.Act {
	a.Data = bytes.Clone(a.Data[:cap(a.Data)])
	a.Faults = slices.Clone(a.Faults[:cap(a.Faults)])
	for i, f := range a.Faults {
		a.Faults[i].Data = bytes.Clone(f.Data[:cap(f.Data)])
	}
	return a
}

func sameFault(a, b api.Fault) bool {
	return a.Kind == b.Kind && a.N == b.N && a.At == b.At && bytes.Equal(a.Data, b.Data)
}

func sameAct(a, b api.Act) bool {
	return a.Kind == b.Kind && a.Node == b.Node && a.N == b.N && bytes.Equal(a.Data, b.Data) && slices.EqualFunc(a.Faults, b.Faults, sameFault)
}

// spoilAct writes over all that was handed in with an act.
func spoilAct(a api.Act) {
	spoil(a.Data)
	l := a.Faults[:cap(a.Faults)]
	for i := range l {
		spoil(l[i].Data)
		l[i] = api.Fault{Kind: -1, N: 99}
	}
}

// given is what New is given, in memory with room behind each end.
type given struct {
	x      api.Table
	drifts []int
	rules  []api.Rule
}

func givenOf(x api.Table, drifts []int, rules []api.Rule) given {
	g := given{x, append(slices.Clone(drifts), 99, -99)[:len(drifts)], append(slices.Clone(rules), api.Rule{Node: -9, Low: 300})[:len(rules)]}
	g.x.Nodes = append(slices.Clone(x.Nodes), api.Def{Sync: true, Listen: -7, Size: 99})[:len(x.Nodes)]
	return g
}

func (g given) entire() given {
	g.x.Nodes = slices.Clone(g.x.Nodes[:cap(g.x.Nodes)])
	g.drifts = slices.Clone(g.drifts[:cap(g.drifts)])
	g.rules = slices.Clone(g.rules[:cap(g.rules)])
	return g
}

func (g given) is(h given) bool {
	return slices.Equal(g.x.Nodes, h.x.Nodes) && g.x.Drift == h.x.Drift && g.x.Window == h.x.Window && g.x.Limit == h.x.Limit &&
		slices.Equal(g.drifts, h.drifts) && slices.Equal(g.rules, h.rules)
}

func (g given) spoil() {
	for i := range g.x.Nodes {
		g.x.Nodes[i] = api.Def{Sync: i%2 == 0, Info: i != 1, Listen: 1, Size: 1}
	}
	for i := range g.drifts {
		g.drifts[i] = 77
	}
	for i := range g.rules {
		g.rules[i] = api.Rule{Node: i + 3, Low: 255, High: 255, Stale: -i}
	}
}

// What New is given is not changed, whether there is a Ward of it or not, nor by what that does.
func TestNewChangesNothing(t *testing.T) {
	for _, x := range append(notTables(), of(4), of(5), of(8)) {
		for _, rules := range [][]api.Rule{nil, someRules(), notRules} {
			for _, l := range [][]int{drifts(x), {1, 2, 3}, slices.Repeat([]int{drift + 1}, len(x.Nodes))} {
				g := givenOf(x, l, rules)
				was := g.entire()
				w, e := ward.New(g.x, g.drifts, g.rules)
				if e == api.OK {
					d := dice(len(rules))
					for range 300 {
						w.Step(some(&d, w.Nodes()))
						w.Step(slot())
					}
					all(w)
				}
				if !g.entire().is(was) {
					t.Errorf("changed: %v, want %v", g.entire(), was)
				}
			}
		}
	}
}

// What New was given may be changed afterwards.
func TestNewKeepsNothing(t *testing.T) {
	eachTable(func(x api.Table) {
		for ahead := range 3 {
			g := givenOf(x, drifts(x), someRules())
			a, b := made(t, g.x, g.drifts, g.rules), made(t, x, drifts(x), someRules())
			for i := range ahead * 20 {
				for _, w := range []*ward.Ward{a, b} {
					w.Step(on(i%len(x.Nodes), i))
					do(t, w, slot())
				}
			}
			g.spoil()
			for i := range x.Nodes {
				a.Step(on(i, 3))
				b.Step(on(i, 3))
			}
			for range 4 * len(x.Nodes) {
				do(t, a, slot())
				do(t, b, slot())
				wantAll(t, ahead, all(a), all(b))
			}
			for i := range x.Nodes {
				for many := range 10 {
					if got, want := a.Step(write(i, make([]byte, many)...)), b.Step(write(i, make([]byte, many)...)); got != want {
						t.Errorf("Write of %d: got %v, want %v", many, got, want)
					}
				}
			}
			wantAlike(t, a, b)
		}
	})
}

// What Step is given is not changed, whether it errs or not, and may be changed afterwards.
func TestStepChangesAndKeepsNothing(t *testing.T) {
	for i := range 60 {
		d := dice(i)
		x := someTable(&d)
		l, rules := someDrifts(&d, x), anyRules(&d)
		a, b := made(t, x, l, rules), made(t, x, l, rules)
		for k := range 200 {
			act := some(&d, len(x.Nodes))
			if k < len(x.Nodes) {
				act = on(k, k)
			}
			mine := handed(act)
			was := entire(mine)
			got, want := a.Step(mine), b.Step(act)
			if !sameAct(entire(mine), was) {
				t.Fatalf("changed: %v, want %v", entire(mine), was)
			}
			spoilAct(mine)
			do(t, a, slot())
			do(t, b, slot())
			if wantAll(t, act, all(a), all(b)); got != want || t.Failed() {
				t.Fatalf("Step(%v): got %v, want %v", act, got, want)
			}
		}
	}
}

// The data that was written is the node's own, from the Write on.
func TestDataIsNotKept(t *testing.T) {
	for ahead := range 8 {
		w := up(t, of(4))
		data := []byte{1, 2, 3, 4, 5, 6, 7, 8}
		do(t, w, write(3, data...))
		do(t, w, api.Act{Kind: api.ActWrite, Node: 3, Data: data[:5]})
		do(t, w, slots(ahead)...)
		spoil(data)
		do(t, w, slots(8)...)
		for i := range 3 {
			if m := w.Read(i, 3); !bytes.Equal(m.Data, []byte{1, 2, 3, 4, 5}) {
				t.Errorf("Read(%d, 3): got %v", i, m.Data)
			}
		}
	}
}

// What a fault has a node send is read by others, but hangs together with nothing that was handed in.
func TestBabbledDataIsNotKept(t *testing.T) {
	w := up(t, of(4))
	f := babble(1, spelt(api.Info, c(1, 1, 15), []byte{7, 8, 9})...)
	do(t, w, slot(f))
	spoil(f.Data)
	for _, i := range []int{0, 2, 3} {
		wantRead(t, w, i, 1, good(0, 7, 8, 9))
	}
}

// What was read may be changed, with the room behind its end, and is read again as it was; and it stays what it was as more is said.
func TestReadIsNewMemory(t *testing.T) {
	for _, state := range states {
		w := inState(t, state)
		was := all(w)
		for i := -1; i <= 8; i++ {
			for node := -1; node <= 8; node++ {
				spoil(w.Read(i, node).Data)
			}
		}
		wantAll(t, state, all(w), was)
		wantAlike(t, w, inState(t, state))
	}
	w := up(t, of(4))
	do(t, w, write(1, 41, 42), slot())
	first, again, another := w.Read(0, 1), w.Read(0, 1), w.Read(2, 1)
	spoil(again.Data)
	do(t, w, write(1, 51, 52))
	do(t, w, slots(4)...)
	for _, m := range []api.Message{first, another} {
		if !same(m, good(0, 41, 42)) {
			t.Errorf("became %+v", m)
		}
		spoil(m.Data)
	}
	wantRead(t, w, 0, 1, good(0, 51, 52))
	wantRead(t, w, 2, 1, good(0, 51, 52))
}

// W2: what is asked changes nothing.
func TestAskingChangesNothing(t *testing.T) {
	for _, state := range states {
		asked := inState(t, state)
		for range 100 {
			all(asked)
			for _, i := range beyond {
				asked.Read(2, i)
				asked.Read(i, 2)
				asked.Rings(2, i)
			}
		}
		wantAlike(t, asked, inState(t, state))
	}
}

// W2: a Ward has nothing of another one, also of one that was made of the same.
func TestWardsAreApart(t *testing.T) {
	x, rules := of(5), someRules()
	for _, state := range states {
		a, b := made(t, x, none(x), rules), inState(t, state)
		d := dice(state)
		for range 300 {
			a.Step(some(&d, 5))
		}
		wantAlike(t, b, inState(t, state))
		wantAlike(t, made(t, x, none(x), rules), made(t, of(5), none(x), someRules()))
	}
}

// W9: each goroutine may have its own Ward, beside all others of the same table, drifts and rules, and acts of the same bytes.
func TestNothingHangsOnOtherCalls(t *testing.T) {
	var wait sync.WaitGroup
	x, l, rules := of(5), drifts(of(5)), someRules()
	acts := append(ons(31), slots(20)...)
	d := dice(3)
	for range 200 {
		acts = append(acts, some(&d, 5))
	}
	for range 8 {
		wait.Go(func() {
			p := pair{made(t, x, l, rules), bookOf(x, l, rules)}
			for _, a := range acts {
				if got, want := p.w.Step(a), p.b.Step(a); got != want {
					t.Errorf("Step(%v): got %v, want %v", a, got, want)
				}
				wantAll(t, a, all(p.w), all(p.b))
			}
		})
	}
	wait.Wait()
}
