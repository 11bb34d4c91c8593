package audit_test

import (
	"testing"

	"matron/api"
	"matron/audit"
)

// P13.1: between two slots that have a fault there are three times as many as nodes without one, at least.

func TestBetweenTwo(t *testing.T) {
	eachTable(func(x api.Table) {
		for _, f := range oneOfEach() {
			for _, g := range oneOfEach() {
				for many := range 5 * len(x.Nodes) {
					wantFair(t, x, joined(struck(0, f), struck(many, g)), many >= 3*len(x.Nodes))
				}
			}
		}
	})
}

// Slots ahead of the first one and behind the last one do not matter.
func TestAheadAndBehind(t *testing.T) {
	f := fault(api.Omit, 1)
	eachTable(func(x api.Table) {
		n := 3 * len(x.Nodes)
		for _, ahead := range []int{0, 1, n - 1, n, 10 * n} {
			for _, behind := range []int{0, 1, n - 1, n, 10 * n} {
				for many := n - 1; many <= n+1; many++ {
					wantFair(t, x, joined(struck(ahead, f), struck(many, f), slots(behind)), many >= n)
				}
			}
		}
	})
}

// Of more than two, each has enough behind the one ahead of it; what is too many in one place does not count in another.
func TestBetweenMore(t *testing.T) {
	f := fault(api.Garble, 3)
	eachTable(func(x api.Table) {
		n := 3 * len(x.Nodes)
		for _, a := range []int{n - 1, n, n + 1, 9 * n} {
			for _, b := range []int{n - 1, n, n + 1, 9 * n} {
				for _, c := range []int{0, n - 1, n, 9 * n} {
					wantFair(t, x, joined(struck(7, f), struck(a, f), struck(b, f), struck(c, f)), a >= n && b >= n && c >= n)
				}
			}
		}
	})
}

// Writes and Acks between do not count, neither for a slot nor against one.
func TestWritesAndAcksBetween(t *testing.T) {
	f := fault(api.Deaf, 0)
	eachTable(func(x api.Table) {
		n := 3 * len(x.Nodes)
		other := []api.Act{write(1, 5), ack(0, 0)}
		for many := n - 3; many <= n+2; many++ {
			want := many >= n
			l := joined(slots(many/2), other, slots(many-many/2))
			wantFair(t, x, joined(struck(0, f), l, struck(0, f)), want)
			wantFair(t, x, joined(struck(0, f), other, slots(many), struck(0, f)), want)
			wantFair(t, x, joined(struck(0, f), slots(many), other, struck(0, f)), want)
			wantFair(t, x, joined(other, struck(0, f), l, other, other, other, struck(0, f), other), want)
		}
		for range n {
			other = append(other, write(0), ack(1, 2))
		}
		wantFair(t, x, joined(struck(0, f), other, struck(0, f)), false)
		wantFair(t, x, joined(struck(0, f), other, struck(n-1, f)), false)
	})
}

// How many there are to be hangs on how many nodes there are, not on how many of them have Sync.
func TestNodesWithoutSync(t *testing.T) {
	f := fault(api.Late, 0)
	f.At = 200
	for n := 5; n <= api.MaxNodes; n++ {
		x := of(n, 0)
		for i := range n - 4 {
			x.Nodes[i].Sync = false
		}
		wantFair(t, x, joined(struck(0, f), struck(3*n, f)), true)
		wantFair(t, x, joined(struck(0, f), struck(3*n-1, f)), false)
	}
}

// A long script is fair as a short one is.
func TestManySlots(t *testing.T) {
	x := of(4, 0)
	var l []api.Act
	for i := range 5000 {
		l = append(l, struck(12, oneOfEach()[i%10])...)
	}
	wantFair(t, x, l, true)
	wantFair(t, x, append(l, slot(fault(api.Omit, 0))), false)
	wantFair(t, of(5, 0), l, false)
}

// keeps is P13.1 word for word, of a table that may be, and of faults that may be.
func keeps(x api.Table, l []api.Act) bool {
	var all, places []int // how many slots without a fault there are ahead of each that has one
	for _, a := range l {
		if a.Kind != api.ActSlot && a.Kind != api.ActWrite && a.Kind != api.ActAck || a.Kind == api.ActSlot && len(a.Faults) > 1 {
			return false
		}
		if a.Kind != api.ActSlot {
			continue
		}
		if len(a.Faults) == 0 {
			all = append(all, 1)
			continue
		}
		f := a.Faults[0]
		if f.Kind == api.Babble && f.At != 0 || f.Kind == api.Late && f.At <= 2*x.Window && f.At >= -2*x.Window {
			return false
		}
		places = append(places, len(all))
	}
	for i, a := range places {
		for _, b := range places[:i] {
			if a-b < 3*len(x.Nodes) {
				return false
			}
		}
	}
	return true
}

// someScript is one that is fair, or nearly so.
func someScript(d *dice, x api.Table) (l []api.Act) {
	rare := d.of(10, 60, 400)
	n := 3 * len(x.Nodes)
	for range d.below(8) {
		many := n + d.of(0, 0, 0, 1, 7)
		if d.below(rare) == 0 {
			many = n - 1 - d.below(3)
		}
		for range many {
			if l = append(l, slot()); d.below(5) == 0 {
				l = append(l, []api.Act{write(d.below(9), 1), ack(d.below(9), d.below(3))}[d.below(2)])
			}
		}
		f := oneOfEach()[d.below(10)]
		if d.below(rare) == 0 {
			f.At = d.of(0, 1, -1, 2*x.Window, 2*x.Window+1, -2*x.Window, -2*x.Window-1, -90)
		}
		l = append(l, slot(f))
		if d.below(rare) == 0 {
			l[len(l)-1].Faults = append(l[len(l)-1].Faults, oneOfEach()[d.below(10)])
		}
		if d.below(rare) == 0 {
			l[d.below(len(l))].Kind = d.of(0, api.ActOn, api.ActOff, api.ActWrite, api.ActAck, 6)
		}
	}
	return l
}

func TestSomeScripts(t *testing.T) {
	var many [2]int
	for i := range 4000 {
		d := dice(i)
		n := 4 + d.below(5)
		x := of(n, d.below(n))
		l := someScript(&d, x)
		want := keeps(x, l)
		if audit.Fair(x, l) != want {
			t.Errorf("%d: Fair of %d nodes, %v: want %v", i, n, l, want)
		}
		if want {
			many[1]++
		} else {
			many[0]++
		}
	}
	if many[0] < 500 || many[1] < 500 {
		t.Errorf("got %d, %d of both", many[0], many[1])
	}
}
