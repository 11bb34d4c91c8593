package audit_test

import (
	"testing"

	"matron/api"
	"matron/audit"
	"matron/frame"
	"matron/ward"
)

// P13.2: Agree.

// In a beginning without faults all that are Active have one view, whoever is left out: ahead of it, as one after the other comes in, and on.
func TestAgreeInABeginning(t *testing.T) {
	eachTable(func(x api.Table) {
		n := len(x.Nodes)
		w := made(t, x, apart(x))
		for i := range n {
			wantAgree(t, w, 0, true)
			do(t, w, on(i, 50*i))
		}
		var seen [api.MaxNodes + 1]bool
		for range 5 * n {
			for but := range 1 << n {
				if !audit.Agree(w, but) {
					t.Errorf("behind %d slots: Agree(%b): got false", w.Slots(), but)
				}
			}
			seen[howMany(w)] = true
			do(t, w, slot())
		}
		for many := range n + 1 {
			if !seen[many] && many != 1 && many != n-1 {
				t.Errorf("of %d nodes there were never %d Active", n, many)
			}
		}
	})
}

func howMany(w *ward.Ward) (many int) {
	for i := range w.Nodes() {
		if w.State(i) == api.Active {
			many++
		}
	}
	return many
}

// groups are nodes' bits; those of one group have one view.
func wantGroups(t *testing.T, w *ward.Ward, groups ...int) {
	t.Helper()
	for but := range everybody(w.Nodes()) + 1 {
		many := 0
		for _, g := range groups {
			if g&^but != 0 {
				many++
			}
		}
		if got := audit.Agree(w, but); got != (many <= 1) {
			t.Errorf("behind %d slots, of %b: Agree(%b): got %v", w.Slots(), groups, but, got)
		}
	}
	if len(groups) > 1 {
		wantAgree(t, w, 0, false)
		wantAgree(t, w, everybody(w.Nodes())&^groups[1], true)
		wantAgree(t, w, everybody(w.Nodes()), true)
	}
}

// One that did not hear another one, which is still Active, has another view: that one is none of its members.
func TestAgreeButOne(t *testing.T) {
	eachTable(func(x api.Table) {
		n := len(x.Nodes)
		for ahead := range n {
			for i := range n {
				w := up(t, x, none(x))
				do(t, w, slots(ahead)...)
				wantGroups(t, w, everybody(n))
				if w.View(0).Slot == i {
					continue // it does not listen there
				}
				do(t, w, slot(fault(api.Deaf, i)))
				if howMany(w) != n {
					t.Fatalf("%d are Active", howMany(w))
				}
				wantGroups(t, w, everybody(n)&^bits(i), bits(i))
			}
		}
	})
}

// Who did not hear a slot takes all that are heard later for wrong, as they have another view, and so does who did not hear those:
// there are as many views as there are slots since which somebody is apart.
func TestAgreeInGroups(t *testing.T) {
	w := up(t, of(8, 0), none(of(8, 0)))
	do(t, w, slot(fault(api.Deaf, 4), fault(api.Deaf, 6), fault(api.Deaf, 7)))
	wantGroups(t, w, bits(0, 1, 2, 3, 5), bits(4, 6, 7))
	do(t, w, slot(fault(api.Deaf, 0), fault(api.Deaf, 6)))
	wantGroups(t, w, bits(1, 2, 3, 5), bits(4, 6, 7), bits(0))
	do(t, w, slot(fault(api.Deaf, 7), fault(api.Deaf, 1)))
	wantGroups(t, w, bits(2, 3, 5), bits(4, 6, 7), bits(0), bits(1))
}

// told is an Info frame's bytes.
func told(t *testing.T, round, slot, members int) []byte {
	t.Helper()
	b, e := frame.Encode(api.Frame{Kind: api.Info, State: api.CState{Round: round, Slot: slot, Members: members}})
	if e != api.OK {
		t.Fatal(e)
	}
	return b
}

// two is a Ward of which nodes 1 and 2 are on, and have views of their own: each was Deaf to what the other one was told.
func two(t *testing.T) *ward.Ward {
	w := made(t, of(4, 0), none(of(4, 0)))
	do(t, w, on(1, 0), on(2, 0))
	return w
}

func wantTwo(t *testing.T, w *ward.Ward, a, b api.CState) {
	t.Helper()
	if w.View(1) != a || w.View(2) != b || w.State(1) != api.Active || w.State(2) != api.Active {
		t.Fatalf("got %v, %v, want %v, %v", w.View(1), w.View(2), a, b)
	}
	wantGroups(t, w, 2, 4)
}

// Two views of which the Round alone is unlike are two.
func TestAgreeOnTheRound(t *testing.T) {
	w := two(t)
	do(t, w, slot(babble(3, told(t, 4, 3, 14)...), fault(api.Deaf, 2)), slot(babble(0, told(t, 7, 0, 14)...), fault(api.Deaf, 1)))
	do(t, w, slot(babble(1, told(t, 7, 1, 15)...)), slot(babble(2, told(t, 5, 2, 14)...)))
	do(t, w, slots(2)...) // nobody is heard, so that 0 and 3 are members of neither
	wantTwo(t, w, api.CState{Round: 6, Slot: 1, Members: 6}, api.CState{Round: 8, Slot: 1, Members: 6})
}

// Likewise of the Slot.
func TestAgreeOnTheSlot(t *testing.T) {
	w := two(t)
	do(t, w, slot(babble(3, told(t, 4, 3, 14)...), fault(api.Deaf, 2)), slot(babble(0, told(t, 5, 1, 14)...), fault(api.Deaf, 1)), slot())
	wantTwo(t, w, api.CState{Round: 5, Slot: 2, Members: 14}, api.CState{Round: 5, Slot: 3, Members: 14})
}

// Likewise of the Members.
func TestAgreeOnTheMembers(t *testing.T) {
	w := two(t)
	do(t, w, slot(babble(3, told(t, 4, 3, 14)...), fault(api.Deaf, 2)), slot(babble(0, told(t, 5, 0, 14)...), fault(api.Deaf, 1)))
	do(t, w, slot(babble(1, told(t, 5, 1, 15)...)), slot())
	wantTwo(t, w, api.CState{Round: 5, Slot: 3, Members: 10}, api.CState{Round: 5, Slot: 3, Members: 15})
}
