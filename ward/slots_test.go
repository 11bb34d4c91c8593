package ward_test

import (
	"math/bits"
	"testing"

	"matron/api"
	"matron/ward"
)

// P12.1 and P12.2: slots, worked out by hand.

// Nobody is on: slots go by, and nothing else.
func TestNobodyIsOn(t *testing.T) {
	eachTable(func(x api.Table) {
		w := made(t, x, drifts(x), someRules())
		was := all(w)
		for i := range 300 {
			do(t, w, slot(), write(i%4, 1), off(i%4))
			was.slots = i + 1
			wantAll(t, i, all(w), was)
		}
		do(t, w, slot(fault(api.Omit, 0), garble(1, 5), late(2, 900), fault(api.Deaf, 3)), slot(fault(api.Leak, 0), fault(api.Block, 1)))
		was.slots += 2
		wantAll(t, "faults", all(w), was)
	})
}

// One alone begins, is alone for a round, and listens anew, time and again; its time goes with its drift, once for each time.
func TestOneAlone(t *testing.T) {
	eachTable(func(x api.Table) {
		n := len(x.Nodes)
		for i, def := range x.Nodes {
			w := made(t, x, drifts(x), nil)
			do(t, w, on(i, 200))
			for s := 1; s < 5*(def.Listen+n); s++ {
				do(t, w, slot())
				turns, at := s/(def.Listen+n), s%(def.Listen+n)
				state, view := api.Listen, c(0, 0, 0)
				if at >= def.Listen {
					slot := i + 1 + at - def.Listen
					state, view = api.Begun, c(slot/n, slot%n, 1<<i)
				}
				want(t, w, i, state, view, 200+drifts(x)[i]*(turns+view.Round))
				for k := range n {
					if k != i {
						want(t, w, k, api.Off, c(0, 0, 0), 0)
					}
				}
			}
		}
	})
}

// P0.6: of each number of nodes any two and more that are on from the beginning are one clique, as many slots on as the least of them waits, and a round.
// The one that waits least begins, all others join then, at its time, and each speaks from its own slot on.
func TestOnFromTheBeginning(t *testing.T) {
	for n := api.MinNodes; n <= api.MaxNodes; n++ {
		for _, first := range []int{0, n / 2, n - 1} {
			for members := range 1 << n {
				if bits.OnesCount(uint(members)) > 1 {
					begins(t, begun(n, first), members)
				}
			}
		}
	}
}

func begins(t *testing.T, x api.Table, members int) {
	n, first := len(x.Nodes), -1
	w := made(t, x, none(x), nil)
	for i := range n {
		if members>>i&1 == 0 {
			continue
		}
		do(t, w, on(i, 100*i-300))
		if first < 0 || x.Nodes[i].Listen < x.Nodes[first].Listen {
			first = i
		}
	}
	least := x.Nodes[first].Listen
	for s := 1; s <= least+3*n; s++ {
		do(t, w, slot())
		since := s - least
		view := c((first+1+since)/n, (first+1+since)%n, spoke(first, n, since)&members)
		for i := range n {
			behind := (i - first + n) % n
			switch {
			case members>>i&1 == 0:
				want(t, w, i, api.Off, c(0, 0, 0), 0)
			case since < 0:
				want(t, w, i, api.Listen, c(0, 0, 0), 100*i-300)
			case i == first && since < n:
				want(t, w, i, api.Begun, view, 100*first-300)
			case behind > since:
				want(t, w, i, api.Passive, view, 100*first-300)
			default:
				want(t, w, i, api.Active, view, 100*first-300)
			}
		}
		if t.Failed() {
			t.Fatalf("of %d nodes %b", n, members)
		}
	}
}

// spoke is whose slots there were since that one began.
func spoke(first, n, since int) (members int) {
	for i := range n {
		if (i-first+n)%n <= since {
			members |= 1 << i
		}
	}
	return members
}

// Two that begin in one slot: the lesser one is heard, the other one is alone till its own slot, and joins in that.
func TestTwoThatBeginAtOnce(t *testing.T) {
	w := made(t, of(4), []int{0, 0, 0, 0}, nil)
	do(t, w, on(1, 0), on(2, 0)) // they wait for 11 and for 14
	do(t, w, slots(3)...)
	do(t, w, on(0, 50), on(3, 0)) // for 8 and for 9
	do(t, w, slots(8)...)
	want(t, w, 0, api.Begun, c(0, 1, 1), 50)
	want(t, w, 1, api.Begun, c(0, 2, 2), 0)
	want(t, w, 2, api.Passive, c(0, 1, 1), 50)
	want(t, w, 3, api.Passive, c(0, 1, 1), 50)
	do(t, w, slots(2)...)
	want(t, w, 0, api.Begun, c(0, 3, 5), 50)
	want(t, w, 1, api.Begun, c(1, 0, 2), 0)
	want(t, w, 2, api.Active, c(0, 3, 5), 50)
	do(t, w, slot())
	want(t, w, 1, api.Begun, c(1, 1, 2), 0)
	want(t, w, 3, api.Active, c(1, 0, 13), 50)
	do(t, w, slot())
	want(t, w, 0, api.Active, c(1, 1, 13), 50)
	want(t, w, 1, api.Passive, c(1, 1, 13), 50)
	do(t, w, slot())
	for i := range 4 {
		want(t, w, i, api.Active, c(1, 2, 15), 50)
	}
}

// What one says all others read behind its slot, and not ahead of it; who says it does not.
func TestWhatIsSaid(t *testing.T) {
	eachTable(func(x api.Table) {
		n := len(x.Nodes)
		w := up(t, x)
		for i := 1; i < 4*n; i++ {
			who := i % n
			do(t, w, write(who, byte(100+i)), slot())
			for k := range n {
				for node := range n {
					at, m := i-(i-node+n)%n, never // when it last spoke
					switch {
					case at < 1 && node != k:
						m = good(1, byte(10+node))
					case node != k:
						m = good(1, byte(100+at))
					}
					if node != k && (at+n)/n == (i+n+1)/n {
						m.Age = 0 // the round goes on
					}
					wantRead(t, w, k, node, m)
				}
			}
		}
		for k := range n {
			for node := n; node < 8; node++ {
				wantRead(t, w, k, node, never)
			}
		}
	})
}

// Each kind of fault in the slot of node 1, while nodes 0 to 3 are up: what all have behind it.
func TestKindsOfFaults(t *testing.T) {
	junk := []byte{1, 2, 3}
	for _, x := range []struct {
		l    []api.Fault
		what func(t *testing.T, w *ward.Ward)
	}{
		{nil, nothing},
		{[]api.Fault{fault(api.Omit, 1)}, isMissed},
		{[]api.Fault{fault(api.Omit, 0)}, nothing}, // it is not its slot
		{[]api.Fault{garble(1, 0)}, isMissed},
		{[]api.Fault{garble(1, -500)}, isMissed},
		{[]api.Fault{garble(1, 7), garble(1, 7)}, nothing},
		{[]api.Fault{garble(2, 7)}, nothing},
		{[]api.Fault{fault(api.Deaf, 2)}, misses},
		{[]api.Fault{fault(api.Deaf, 1)}, nothing}, // nobody listens in its own slot
		{[]api.Fault{fault(api.Block, 0)}, nothing},
		{[]api.Fault{fault(api.Block, 1)}, nothing},
		{[]api.Fault{fault(api.Block, 0), fault(api.Block, 1)}, isMissed},
		{[]api.Fault{fault(api.Leak, 0)}, nothing},
		{[]api.Fault{fault(api.Leak, 1)}, nothing},
		{[]api.Fault{fault(api.Leak, 0), fault(api.Leak, 1)}, nothing},
		{[]api.Fault{babble(1, junk...)}, isMissed},
		{[]api.Fault{babble(1)}, isMissed},
		{[]api.Fault{babble(1, spelt(api.Info, c(1, 1, 15), junk)...)}, nothing}, // just a frame that is right
		{[]api.Fault{babble(0, junk...)}, nothing},
		{[]api.Fault{babble(3, spelt(api.Cold, c(0, 3, 8), nil)...), babble(2, junk...)}, nothing},
		{[]api.Fault{babble(3, junk...), fault(api.Leak, 0)}, nothing}, // noise in the first channel
		{[]api.Fault{babble(3, junk...), fault(api.Leak, 0), fault(api.Leak, 1)}, isMissed},
		{[]api.Fault{babble(0, junk...), fault(api.Leak, 1), fault(api.Block, 0)}, isMissed},
		{[]api.Fault{late(1, window)}, nothing},
		{[]api.Fault{late(1, -window)}, nothing},
		{[]api.Fault{late(1, window+1)}, isMissed},
		{[]api.Fault{late(1, -window-1)}, isMissed},
		{[]api.Fault{late(1, 1000), late(1, -1000)}, nothing},
		{[]api.Fault{late(2, 1000)}, nothing},
	} {
		w := up(t, of(4))
		do(t, w, slot(x.l...))
		if x.what(t, w); t.Failed() {
			t.Fatal("behind", x.l)
		}
	}
}

// nothing is that all go on.
func nothing(t *testing.T, w *ward.Ward) {
	for s := 2; s < 12; s++ {
		for i := range 4 {
			want(t, w, i, api.Active, c(1+s/4, s%4, 15), 0)
		}
		do(t, w, slot())
	}
}

// isMissed is that node 1 is taken for none, takes all others for none, and freezes.
func isMissed(t *testing.T, w *ward.Ward) {
	for s, members := range []int{15, 11, 3, 2} {
		s += 2
		want(t, w, 1, api.Active, c(1+s/4, s%4, members), 0)
		for _, i := range []int{0, 2, 3} {
			want(t, w, i, api.Active, c(1+s/4, s%4, 13), 0)
		}
		do(t, w, slot())
	}
	want(t, w, 1, api.Frozen, c(2, 1, 2), 0)
	do(t, w, slots(8)...)
	want(t, w, 1, api.Frozen, c(2, 1, 2), 0)
	for _, i := range []int{0, 2, 3} {
		want(t, w, i, api.Active, c(4, 2, 13), 0)
	}
}

// misses is that node 2 takes node 1 for none, is taken for none for what it says then, and freezes.
func misses(t *testing.T, w *ward.Ward) {
	for s, members := range [][2]int{{13, 15}, {13, 11}, {5, 11}, {4, 11}, {4, 11}} {
		s += 2
		want(t, w, 2, api.Active, c(1+s/4, s%4, members[0]), 0)
		for _, i := range []int{0, 1, 3} {
			want(t, w, i, api.Active, c(1+s/4, s%4, members[1]), 0)
		}
		do(t, w, slot())
	}
	want(t, w, 2, api.Frozen, c(2, 2, 4), 0)
}

// Who was lost rings, is on again, joins, and is a member; what rang rings till it is acknowledged.
func TestLostAndAMemberAgain(t *testing.T) {
	w := up(t, of(4), api.Rule{Node: 1, High: 255, Stale: 1}, api.Rule{Node: 0, Low: 9, High: 90, Stale: 1})
	do(t, w, write(1, 77), slot(fault(api.Omit, 1)))
	do(t, w, slot())
	wantRings(t, w, 0, 0, api.TooOld|api.Lost) // a node is not told of itself
	wantRings(t, w, 2, 0, 0)
	do(t, w, slot())
	wantRings(t, w, 0, api.TooOld|api.Lost, api.TooOld|api.Lost) // it spoke two rounds ago
	wantRings(t, w, 2, api.TooOld|api.Lost, 0)
	wantRings(t, w, 1, api.TooOld|api.Lost, 0)
	wantRead(t, w, 2, 1, api.Message{Data: []byte{11}, Age: 2})
	do(t, w, slots(2)...)
	want(t, w, 1, api.Frozen, c(2, 1, 2), 0)
	do(t, w, on(1, 30))
	want(t, w, 1, api.Listen, c(0, 0, 0), 30)
	do(t, w, slot()) // an Info frame of node 2, since the round is even
	want(t, w, 1, api.Passive, c(2, 3, 13), 0)
	wantRead(t, w, 1, 2, good(0, 12))
	wantRead(t, w, 1, 3, api.Message{Age: -1, Good: true})
	do(t, w, slots(2)...)
	want(t, w, 1, api.Passive, c(3, 1, 13), 0)
	wantRead(t, w, 2, 1, api.Message{Data: []byte{11}, Age: 3})
	do(t, w, slot())
	for i := range 4 {
		want(t, w, i, api.Active, c(3, 2, 15), 0)
	}
	wantRead(t, w, 2, 1, good(0, 77))
	wantErr(t, w, api.ErrState, ack(2, 0))
	wantRings(t, w, 2, api.TooOld|api.Lost, 0)
	do(t, w, slots(3)...)
	wantRings(t, w, 2, api.TooOld|api.Lost, 0)
	do(t, w, ack(2, 0))
	wantRings(t, w, 2, 0, 0)
	wantRings(t, w, 3, api.TooOld|api.Lost, 0)
}

// Clocks that drift apart are turned once a round: each is its own drift behind what all hear.
func TestClocksAreTurned(t *testing.T) {
	w := made(t, of(4), []int{5, -5, 1, 2}, nil)
	do(t, w, on(0, 0), on(1, 0), on(2, 0), on(3, 0))
	do(t, w, slots(11)...) // node 0 began in the eighth, and round 1 begins
	for round, mean := range []int{0, 1, 2, 3, 4, 5} {
		for i, by := range []int{5, -5, 1, 2} {
			// 5 and -5 are left out, 1 and 2 are 3, of which the half, rounded down, is 1.
			want(t, w, i, w.State(i), c(1+round, 0, 15), mean+by)
		}
		do(t, w, slots(4)...)
	}
}

// What a node's sending is late by turns all clocks but its own, once a round.
func TestLateOnes(t *testing.T) {
	w := up(t, of(4)) // slot 0 of round 1 is over, in which 0 was measured
	do(t, w, slot(late(1, 20)), slot(late(2, 30)), slot(late(3, -10)))
	for i, at := range []int{10, 0, 0, 10} {
		// 0, 20, 30, -10; in one's own slot it is 0.
		want(t, w, i, api.Active, c(2, 0, 15), at)
	}
}

// Of all slots that were, also those in which somebody was off, or a fault was, and none that erred, there are as many as Slots tells.
func TestSlots(t *testing.T) {
	eachTable(func(x api.Table) {
		w := made(t, x, none(x), nil)
		d := dice(len(x.Nodes))
		many := 0
		for range 400 {
			if a := some(&d, len(x.Nodes)); w.Step(a) == api.OK && a.Kind == api.ActSlot {
				many++
			}
			if w.Slots() != many || w.Nodes() != len(x.Nodes) {
				t.Fatalf("got %d slots of %d nodes, want %d", w.Slots(), w.Nodes(), many)
			}
		}
	})
}
