package audit_test

import (
	"slices"
	"sync"
	"testing"

	"matron/api"
	"matron/audit"
	"matron/ward"
)

// P13.3: what is handed in is not changed; and what holds everywhere.

// roomy is a list with other things in the room behind its end.
func roomy[T any](l []T, behind ...T) []T {
	return append(slices.Clone(l), behind...)[:len(l)]
}

// handed are acts in memory with room behind each end.
func handed(l []api.Act) []api.Act {
	l = roomy(l, slot(fault(api.Omit, 1)), on(2, 3))
	whole := l[:cap(l)]
	for i := range whole {
		whole[i].Data = roomy(whole[i].Data, 1, 2, 3)
		whole[i].Faults = roomy(whole[i].Faults, babble(3, 4), fault(99, -1))
		faults := whole[i].Faults[:cap(whole[i].Faults)]
		for k := range faults {
			faults[k].Data = roomy(faults[k].Data, 5, 6, 7)
		}
	}
	return l
}

// entire is a copy of all of that, the rooms behind the ends, too.
func entire(l []api.Act) []api.Act {
	l = slices.Clone(l[:cap(l)])
	for i := range l {
		l[i].Data = slices.Clone(l[i].Data[:cap(l[i].Data)])
		l[i].Faults = slices.Clone(l[i].Faults[:cap(l[i].Faults)])
		for k, f := range l[i].Faults {
			l[i].Faults[k].Data = slices.Clone(f.Data[:cap(f.Data)])
		}
	}
	return l
}

func sameFault(a, b api.Fault) bool {
	return a.Kind == b.Kind && a.N == b.N && a.At == b.At && slices.Equal(a.Data, b.Data)
}

func sameAct(a, b api.Act) bool {
	return a.Kind == b.Kind && a.Node == b.Node && a.N == b.N && slices.Equal(a.Data, b.Data) && slices.EqualFunc(a.Faults, b.Faults, sameFault)
}

// someLists are scripts that are fair, such as are not, and such as have all kinds of acts and faults.
func someLists() [][]api.Act {
	l := [][]api.Act{nil, {}, slots(3), struck(2, oneOfEach()...), {on(1, 2), off(3), write(9, 1, 2), ack(1, 2)}}
	for i := range 40 {
		d := dice(i)
		l = append(l, someActs(&d, 5, 20), someScript(&d, of(5, 0)))
	}
	return l
}

func TestNothingIsChanged(t *testing.T) {
	for _, x := range append(notTables(), of(4, 0), of(5, 2), of(8, 7)) {
		nodes := slices.Clone(x.Nodes)
		x.Nodes = roomy(x.Nodes, api.Def{Listen: -7}, api.Def{Sync: true, Size: 9})
		room := slices.Clone(x.Nodes[:cap(x.Nodes)])
		audit.Lead(x)
		for _, l := range someLists() {
			l = handed(l)
			was := entire(l)
			audit.Fair(x, l)
			audit.Hit(l)
			if !slices.EqualFunc(entire(l), was, sameAct) {
				t.Errorf("changed: %v, want %v", entire(l), was)
			}
		}
		if !slices.Equal(x.Nodes, nodes) || !slices.Equal(x.Nodes[:cap(x.Nodes)], room) {
			t.Errorf("changed: %v, want %v", x.Nodes[:cap(x.Nodes)], room)
		}
	}
}

// A Ward that was asked goes on as one that was not.
func TestWardsAreNotChanged(t *testing.T) {
	for i := range 30 {
		d := dice(i)
		b := someBeginning(&d)
		asked, not := made(t, b.x, b.drifts), made(t, b.x, b.drifts)
		for k, a := range someActs(&d, b.n(), 80) {
			for _, but := range []int{0, d.below(256), -1} {
				audit.Agree(asked, but)
				audit.Spread(asked, but)
			}
			if got, want := asked.Step(a), not.Step(a); got != want {
				t.Errorf("Step(%v): got %v, want %v", a, got, want)
			}
			wantAll(t, k, all(asked), all(not))
		}
	}
}

// W2 and W7: each call answers the same again, whatever others were asked meanwhile, and in several goroutines at once (W9: but one has a Ward).
func TestNothingHangsOnOtherCalls(t *testing.T) {
	x, lists := of(5, 0), someLists()
	var wait sync.WaitGroup
	for i := range 8 {
		wait.Go(func() {
			for k := range lists {
				l := lists[(i+k)%len(lists)]
				fair, hit := audit.Fair(x, l), audit.Hit(l)
				w, v := made(t, x, apart(x)), made(t, x, none(x))
				for _, a := range l {
					w.Step(a)
					v.Step(slot())
				}
				agree, spread := audit.Agree(w, i), audit.Spread(w, i)
				audit.Agree(v, 0)
				audit.Spread(v, 0)
				audit.Hit(struck(0, oneOfEach()...))
				audit.Fair(of(4, 0), struck(0, oneOfEach()...))
				audit.Lead(of(8, 1))
				if audit.Fair(x, l) != fair || audit.Hit(l) != hit || audit.Agree(w, i) != agree || audit.Spread(w, i) != spread || audit.Lead(x) != 15 {
					t.Errorf("%v: answers are others than they were", l)
				}
			}
		})
	}
	wait.Wait()
}

// W5: nil and empty are the same where they are handed in.
func TestNilAndEmpty(t *testing.T) {
	x := of(4, 0)
	for _, l := range [][2][]api.Act{
		{nil, {}},
		{{{Kind: api.ActSlot}}, {{Kind: api.ActSlot, Data: []byte{}, Faults: []api.Fault{}}}},
		{struck(1, babble(2)), struck(1, api.Fault{Kind: api.Babble, N: 2, Data: []byte{}})},
		{{{Kind: api.ActWrite}}, {{Kind: api.ActWrite, Data: []byte{}, Faults: []api.Fault{}}}},
	} {
		for _, s := range l {
			wantFair(t, x, s, true)
			wantHit(t, s, audit.Hit(l[0]))
		}
	}
	wantFair(t, api.Table{Nodes: []api.Def{}, Window: 2, Limit: 2}, nil, false)
	wantFair(t, api.Table{Window: 2, Limit: 2}, nil, false)
}

// A nil Ward has no node, and so has one that New did not make: all of none agree, and none are apart.
func TestNoWard(t *testing.T) {
	for _, w := range []*ward.Ward{nil, {}} {
		for _, but := range append([]int{0, 1, 255}, far...) {
			if !audit.Agree(w, but) || audit.Spread(w, but) != 0 {
				t.Errorf("but %b: got %v, %d", but, audit.Agree(w, but), audit.Spread(w, but))
			}
		}
	}
}

// W1: all calls end, of numbers that are far from all, and of long lists.
func TestCallsEnd(t *testing.T) {
	w := up(t, of(4, 0), none(of(4, 0)))
	for _, a := range far {
		audit.Agree(w, a)
		audit.Spread(w, a)
		for _, b := range far {
			l := []api.Act{{Kind: a, Node: b, N: b, Faults: []api.Fault{{Kind: b, N: a, At: b}}}, slot(api.Fault{Kind: a, N: b, At: b})}
			wantFair(t, of(4, 0), l, false)
			audit.Hit(l)
		}
	}
	wantFair(t, of(4, 0), slots(1000000), true)
	wantFair(t, of(4, 0), struck(0, make([]api.Fault, 1000000)...), false)
	wantHit(t, struck(0, slices.Repeat([]api.Fault{fault(api.Omit, 2)}, 1000000)...), 4)
}
