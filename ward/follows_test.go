package ward_test

import (
	"math"
	"testing"

	"matron/api"
	"matron/ward"
)

// P12.2: of what is none of the nodes, and P12.3: of a nil Ward; and what holds everywhere.

// State, View, Clock, Read and Rings of what is none are as a nil Node's; so are Read and Rings of what is none at a node.
func TestOfWhatIsNone(t *testing.T) {
	eachTable(func(x api.Table) {
		n := len(x.Nodes)
		w := up(t, x, api.Rule{Node: 0, Low: 200, High: 201}, api.Rule{Node: n - 1, Low: 200, High: 201})
		for _, i := range append([]int{-1, n, n + 1, 8, 9, 100}, beyond...) {
			if i != n-1 && (i < 0 || i >= n) {
				want(t, w, i, 0, c(0, 0, 0), 0)
				for node := -1; node <= 9; node++ {
					wantRead(t, w, i, node, never)
					wantRings(t, w, i, 0, 0, 0)
				}
				wantRead(t, w, 0, i, never)
				wantRead(t, w, i, i, never)
			}
			if i < 0 || i > 1 {
				if got := w.Rings(0, i) + w.Rings(n-1, i); got != 0 {
					t.Errorf("Rings of rule %d: got %d", i, got)
				}
			}
		}
		wantRings(t, w, n-1, api.TooLow|api.TooOld)
		wantRings(t, w, 0, api.TooOld|api.Lost, api.TooLow|api.TooOld)
		wantRead(t, w, 0, n-1, good(1, byte(10+n-1)))
		wantRead(t, w, n-1, 0, good(0, 10))
	})
}

// A nil Ward errs, whatever the act, and all else of it is nothing.
func TestANilWard(t *testing.T) {
	var w *ward.Ward
	wantNothing := func() {
		t.Helper()
		var want tells
		for k := range want.l {
			for node := range want.l[k].reads {
				want.l[k].reads[node] = never
			}
		}
		wantAll(t, "nil", all(w), want)
	}
	wantNothing()
	d := dice(1)
	l := []api.Act{{}, on(0, 0), on(3, 100), on(-1, 0), off(0), off(9), write(0), write(1, 2), ack(0, 0), ack(1, 9), slot(), slot(fault(api.Deaf, 1)), slot(fault(api.Leak, 9)), {Kind: 6}, {Kind: -1}, {Kind: math.MinInt, Node: math.MinInt}}
	for range 200 {
		l = append(l, some(&d, 4))
	}
	for _, a := range l {
		if e := w.Step(a); e != api.ErrArg {
			t.Errorf("Step(%v): got %v", a, e)
		}
		wantNothing()
	}
	for _, i := range beyond {
		want(t, w, i, 0, c(0, 0, 0), 0)
		wantRead(t, w, i, 0, never)
		wantRead(t, w, 0, i, never)
		wantRings(t, w, i, 0)
	}
}

// W5: nil and empty are the same, of rules, data, faults and their data.
func TestNilAndEmpty(t *testing.T) {
	for i := range 20 {
		d := dice(i)
		x := someTable(&d)
		l := someDrifts(&d, x)
		a, b := made(t, x, l, nil), made(t, x, l, []api.Rule{})
		for k := range 200 {
			act := some(&d, len(x.Nodes))
			if k < len(x.Nodes) {
				act = on(k, 0)
			}
			empty := act
			empty.Data = append([]byte{}, act.Data...)
			empty.Faults = append([]api.Fault{}, act.Faults...)
			for f := range act.Faults {
				empty.Faults[f].Data = append([]byte{}, act.Faults[f].Data...)
				if len(act.Faults[f].Data) == 0 {
					act.Faults[f].Data = nil
				}
			}
			if len(act.Data) == 0 {
				act.Data = nil
			}
			if got, want := b.Step(empty), a.Step(act); got != want {
				t.Errorf("Step(%v): got %v, want %v", empty, got, want)
			}
			wantAll(t, act, all(b), all(a))
		}
	}
}

// W8: of a Ward that is copied as a value one goes on, be it the copy or what was copied.
func TestACopyGoesOn(t *testing.T) {
	for i := range 30 {
		d := dice(i)
		p := somePair(t, &d)
		n := p.b.Nodes()
		for k := range 300 {
			if k%50 == 49 {
				if w := *p.w; i%2 == 0 {
					p.w = &w
				}
			}
			p.does(t, on(k%n, 0))
			p.does(t, some(&d, n))
			p.does(t, slot())
		}
	}
}

// P0.1 and W2: the same acts do the same, in a Ward of its own each time.
func TestTheSameActsDoTheSame(t *testing.T) {
	d := dice(11)
	l := ons(255)
	for range 400 {
		l = append(l, some(&d, 8), slot())
	}
	play := func() (out []api.Errno, a tells) {
		w := made(t, of(8), drifts(of(8)), someRules())
		for _, act := range l {
			out = append(out, w.Step(act))
		}
		return out, all(w)
	}
	es, a := play()
	for range 10 {
		again, b := play()
		for i := range es {
			if again[i] != es[i] {
				t.Fatalf("Step(%v): got %v, then %v", l[i], es[i], again[i])
			}
		}
		wantAll(t, "again", b, a)
	}
}

// W1: each call ends, and none panics, at all numbers and lists; nor does one of a Ward that New did not make.
func TestNothingPanics(t *testing.T) {
	d := dice(5)
	number := func() int {
		if d.below(3) == 0 {
			return beyond[d.below(len(beyond))]
		}
		return d.below(12) - 2
	}
	for k := range 40 {
		w := new(ward.Ward)
		if k > 3 {
			w = up(t, of(4+k%5), someRules()...)
		}
		for range 200 {
			a := api.Act{Kind: number(), Node: number(), N: number(), Data: d.row(20)}
			for range d.below(7) {
				a.Faults = append(a.Faults, api.Fault{Kind: number(), N: number(), At: number(), Data: d.row(30)})
			}
			w.Step(a)
			i := number()
			w.State(i)
			w.View(i)
			w.Clock(i)
			w.Read(i, number())
			w.Rings(i, number())
			w.Step(slot())
			w.Nodes()
			w.Slots()
		}
	}
}
