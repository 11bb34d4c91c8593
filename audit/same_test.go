package audit_test

import (
	"slices"
	"sync"
	"testing"

	"matron/api"
	"matron/ward"
)

// P0.1: of every script each answer, and all that all nodes tell, is the document's; the same acts do the same.

func all(w *ward.Ward) tells {
	a := tells{nodes: w.Nodes(), slots: w.Slots()}
	for k := range a.l {
		i, x := k-1, &a.l[k]
		x.state, x.view, x.clock = w.State(i), w.View(i), w.Clock(i)
		for node := range x.reads {
			x.reads[node] = w.Read(i, node-1)
		}
		for rule := range x.rings {
			x.rings[rule] = w.Rings(i, rule-1)
		}
	}
	return a
}

func (a one) is(b one) bool {
	return a.state == b.state && a.view == b.view && a.clock == b.clock && a.rings == b.rings && slices.EqualFunc(a.reads[:], b.reads[:], same)
}

func wantAll(t *testing.T, name any, got, want tells) {
	t.Helper()
	if got.nodes != want.nodes || got.slots != want.slots {
		t.Errorf("%v: got %d nodes, %d slots, want %d, %d", name, got.nodes, got.slots, want.nodes, want.slots)
	}
	for k := range got.l {
		if !got.l[k].is(want.l[k]) {
			t.Errorf("%v: behind %d slots: node %d: got %+v, want %+v", name, got.slots, k-1, got.l[k], want.l[k])
		}
	}
}

// What a beginning tells slot by slot, and many rounds on, is worked out of the document ahead.
func TestByTheBook(t *testing.T) {
	for i := range 250 {
		d := dice(i)
		b := someBeginning(&d)
		w := made(t, b.x, b.drifts)
		do(t, w, b.acts()...)
		for slots := range 10 * b.n() {
			if wantAll(t, i, all(w), b.tells(slots)); t.Failed() {
				t.Fatalf("by %+v", b)
			}
			do(t, w, slot())
		}
	}
}

// some is an act of any kind, most often one that may be.
func some(d *dice, n int) api.Act {
	a := api.Act{Kind: d.of(1, 2, 3, 3, 4, 5, 5, 5, 5, 5, 5, 5, 5), Node: d.below(n), N: d.below(n)}
	switch a.Kind {
	case api.ActOn:
		a.N = d.of(0, 40, -300, 1000, -1000, 1001)
	case api.ActWrite:
		a.Data = d.row(d.of(1, 2, 9))
	case api.ActSlot:
		for range d.of(0, 0, 0, 0, 0, 0, 1, 1, 2, 3, 5) {
			a.Faults = append(a.Faults, someFault(d, n))
		}
	}
	if d.below(50) == 0 {
		a.Kind, a.Node = d.of(0, 6, a.Kind), d.of(-1, n, a.Node)
	}
	return a
}

func someFault(d *dice, n int) api.Fault {
	f := api.Fault{Kind: 1 + d.below(7), N: d.below(n), At: d.of(0, 0, 3, -3, 17, 39, 40, 41, -41, 81, -400)}
	if f.Kind == api.Block || f.Kind == api.Leak {
		f.N = d.below(2)
	}
	if f.Kind == api.Babble {
		f.Data = d.row(24)
	}
	if d.below(60) == 0 {
		f.N = d.of(8, -1)
	}
	return f
}

// someActs are a script's, in which most are on.
func someActs(d *dice, n, many int) (l []api.Act) {
	for i := range n {
		l = append(l, on(i, 30*i), write(i, byte(i)))
	}
	rare := d.of(1, 4, 20)
	for range many {
		if l = append(l, slot()); d.below(rare) == 0 {
			l = append(l, some(d, n))
		}
		if d.below(6) == 0 {
			l = append(l, on(d.below(n), 9)) // it errs, unless that one is off, or frozen
		}
	}
	return l
}

// record is what each act answers, and all that is told behind it.
func record(t *testing.T, b beginning, l []api.Act, between func()) (answers []api.Errno, told []tells) {
	w := made(t, b.x, b.drifts)
	for _, a := range l {
		between()
		answers, told = append(answers, w.Step(a)), append(told, all(w))
	}
	return answers, told
}

func wantRecord(t *testing.T, b beginning, l []api.Act, between func(), answers []api.Errno, told []tells) {
	t.Helper()
	gotAnswers, gotTold := record(t, b, l, between)
	if !slices.Equal(gotAnswers, answers) {
		t.Errorf("got %v, want %v", gotAnswers, answers)
	}
	for k := range told {
		wantAll(t, k, gotTold[k], told[k])
	}
}

// The same acts do the same, whatever another Ward does meanwhile, which was made of the same.
func TestTheSameActs(t *testing.T) {
	erred := map[api.Errno]int{}
	for i := range 40 {
		d := dice(i)
		b := someBeginning(&d)
		l := someActs(&d, b.n(), 200)
		answers, told := record(t, b, l, func() {})
		wantRecord(t, b, l, func() {}, answers, told)
		other := made(t, b.x, b.drifts)
		wantRecord(t, b, l, func() { other.Step(some(&d, b.n())) }, answers, told)
		for _, e := range answers {
			erred[e]++
		}
	}
	for _, e := range []api.Errno{api.OK, api.ErrArg, api.ErrState} {
		if erred[e] < 20 {
			t.Errorf("%v was answered %d times", e, erred[e])
		}
	}
}

// Likewise in another goroutine, and in several at once.
func TestTheSameActsElsewhere(t *testing.T) {
	d := dice(77)
	b := someBeginning(&d)
	l := someActs(&d, b.n(), 150)
	answers, told := record(t, b, l, func() {})
	var wait sync.WaitGroup
	for range 8 {
		wait.Go(func() { wantRecord(t, b, l, func() {}, answers, told) })
	}
	wait.Wait()
}
