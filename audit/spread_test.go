package audit_test

import (
	"testing"

	"matron/api"
	"matron/audit"
)

// P13.2: Spread.

// spread is that of a beginning, as it is worked out of the document.
func (b beginning) spread(but, slots int) int {
	var l []int
	for i := range b.n() {
		if b.state(i, slots) == api.Active && !has(but, i) {
			l = append(l, b.clock(i, slots))
		}
	}
	return widest(l)
}

// widest is how far the two are apart that are farthest apart.
func widest(l []int) (most int) {
	for _, a := range l {
		for _, b := range l {
			most = max(most, a-b)
		}
	}
	return most
}

func TestSpreadInABeginning(t *testing.T) {
	for i := range 60 {
		d := dice(i)
		b := someBeginning(&d)
		w := made(t, b.x, b.drifts)
		do(t, w, b.acts()...)
		for slots := range 6 * b.n() {
			for but := range 1 << b.n() {
				if got, want := audit.Spread(w, but), b.spread(but, slots); got != want {
					t.Errorf("behind %d slots, by %+v: Spread(%b): got %d, want %d", slots, b, but, got, want)
				}
			}
			do(t, w, slot())
		}
	}
}

// Of each two it is how far they are apart, of one alone and of none 0.
func TestSpreadOfEachTwo(t *testing.T) {
	eachTable(func(x api.Table) {
		n := len(x.Nodes)
		l := none(x)
		for i := range l {
			l[i] = []int{-5, 4, 1, -2, 5, 0, 3, -4}[i]
		}
		w := up(t, x, l)
		everyone := everybody(n)
		for i := range n {
			for k := range n {
				wantSpread(t, w, everyone&^bits(i, k), max(l[i]-l[k], l[k]-l[i]))
			}
		}
		wantSpread(t, w, everyone, 0)
		wantSpread(t, w, 0, widest(l))
		for i := range n {
			wantSpread(t, w, bits(i), widest(append(append([]int{}, l[:i]...), l[i+1:]...)))
		}
	})
}

// Clocks are told apart below 0 as above, and on both sides of it.
func TestSpreadBelowNought(t *testing.T) {
	for _, at := range []int{-1000, -6, -5, -4, -1, 0, 1, 4, 5, 6, 1000} {
		x := of(4, 0)
		w := made(t, x, []int{5, -5, 0, 2})
		for i := range 4 {
			do(t, w, on(i, at))
		}
		do(t, w, slots(12)...)
		wantSpread(t, w, 0, 10)
		wantSpread(t, w, bits(0), 7)
		wantSpread(t, w, bits(1), 5)
		wantSpread(t, w, bits(0, 1), 2)
		wantSpread(t, w, bits(0, 1, 2), 0)
		wantSpread(t, w, bits(2, 3), 10)
	}
}

// Who has another view counts as well as all others.
func TestSpreadOverViews(t *testing.T) {
	x := of(6, 0)
	w := up(t, x, []int{5, 0, 0, -5, 0, 0})
	do(t, w, slot(fault(api.Deaf, 3)))
	wantAgree(t, w, 0, false)
	wantSpread(t, w, 0, 10)
	wantSpread(t, w, bits(3), 5)
	wantSpread(t, w, bits(0), 5)
}
