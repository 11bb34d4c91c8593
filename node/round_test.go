package node_test

import (
	"math/bits"
	"testing"

	"matron/api"
	"matron/node"
)

// P10.4: the slot goes on; and what measures (P10.3).

// The slot is one more with each Take; behind the last one it is 0, and the Round one more, behind MaxRound 0.
func TestSlotGoesOn(t *testing.T) {
	eachNode(func(x api.Table, i int) {
		n := len(x.Nodes)
		for _, round := range []int{0, 1, 254, 255, api.MaxRound - 1, api.MaxRound} {
			a := joined(t, x, i, 0, c(round, (i+1)%n, 0))
			first := round*n + (i+1)%n
			for k := 1; k < 3*n; k++ {
				if s := a.View(); s.Slot != (first+k)%n || s.Round != (first+k)/n%65536 {
					t.Errorf("%d slots behind %d, %d: got %v", k, round, (i+1)%n, s)
				}
				passes(a, both(info(own(a)), 0))
			}
		}
	})
}

// none is that a node is not heard.
const none = far + 1

// hears has a round of others' slots pass, each of them heard rightly, so many ticks off; in its own it sends, if it does.
func hears(n *node.Node, l ...int) {
	for _, offset := range l {
		n.Send()
		h := quiet
		if offset != none {
			h = both(info(own(n)), offset)
		}
		n.Take(h)
	}
}

// round is a round of six nodes' slots, and by how much the time is turned; ok is that it does not freeze.
type round struct {
	l  []int
	by int
	ok bool
}

// wantRounds: the node of that number is Passive at the round's beginning, or Active.
func wantRounds(t *testing.T, x api.Table, i int, active bool, l ...round) {
	t.Helper()
	for _, r := range l {
		for _, drift := range []int{0, 5, -3} {
			n := joined(t, x, i, drift, c(7, (i+1)%6, 63))
			if active {
				for n.View().Slot != 0 || n.State() != api.Active {
					hears(n, 0)
				}
			} else {
				for n.View().Slot != 0 {
					hears(n, none)
				}
			}
			was := all(n)
			hears(n, r.l...)
			time, state := was.time+r.by+drift, api.Active
			if !r.ok {
				time, state = was.time, api.Frozen
			}
			if n.Clock() != time || n.State() != state || n.View().Slot != 0 || n.View().Round != was.c.Round+1 {
				t.Errorf("%v, drift %d: got %d, %v, turned by %d, want by %d, %v", r.l, drift, n.State(), n.View(), n.Clock()-was.time, time-was.time, r.ok)
			}
		}
	}
}

// Node 0 is Active from the round's beginning on: it measures 0 in its own slot, whatever is heard in it.
func TestTurned(t *testing.T) {
	wantRounds(t, of(6, 63, 0), 0, true,
		round{[]int{99, none, none, none, none, none}, 0, true},
		round{[]int{99, 0, 0, 0, 0, 0}, 0, true},
		round{[]int{99, 8, none, none, none, none}, 4, true},
		round{[]int{99, -8, none, none, none, none}, -4, true},
		round{[]int{99, 9, none, none, none, none}, 4, true},
		round{[]int{99, -9, none, none, none, none}, -5, true},
		round{[]int{99, 1, 9, -3, none, none}, 0, true},   // of 0 1 9 -3
		round{[]int{99, none, 1, 9, -3, 2}, 1, true},      // of 1 9 -3 2
		round{[]int{99, 50, 60, 1, 9, none}, 29, true},    // of 50 60 1 9
		round{[]int{99, 50, 1, 9, -3, 2}, 1, true},        // the last four
		round{[]int{99, none, none, 7, none, 5}, 5, true}, // of 0 7 5
		round{[]int{99, none, none, none, none, 30}, 15, true},
		round{[]int{99, far, -far, 3, 5, none}, 4, true},
		round{[]int{99, far, -far, none, none, none}, 0, true},
	)
}

// Just by Limit it is turned; by one more it freezes, and its time is what it was, its drift left out, too.
func TestTermBeyondLimit(t *testing.T) {
	wantRounds(t, of(6, 63, 0), 0, true,
		round{[]int{0, 200, none, none, none, none}, 100, true},
		round{[]int{0, 201, none, none, none, none}, 100, true},
		round{[]int{0, 202, none, none, none, none}, 0, false},
		round{[]int{0, -200, none, none, none, none}, -100, true},
		round{[]int{0, -201, none, none, none, none}, 0, false},
		round{[]int{0, none, 100, 100, 100, 100}, 100, true},
		round{[]int{0, none, 101, 101, 101, 101}, 0, false},
		round{[]int{0, none, -100, -100, -100, -100}, -100, true},
		round{[]int{0, none, -101, -101, -101, -101}, 0, false},
		round{[]int{0, far, far, far, far, far}, 0, false},
		round{[]int{0, -far, -far, -far, -far, -far}, 0, false},
		round{[]int{0, far, none, none, none, none}, 0, false},
		round{[]int{0, far, none, far, none, -far}, 0, false},
	)
	for _, limit := range []int{40, 999, 1000} {
		x := of(6, 63, 0)
		x.Limit = limit
		wantRounds(t, x, 0, true,
			round{[]int{0, none, limit, limit, limit, limit}, limit, true},
			round{[]int{0, none, -limit, -limit, -limit, -limit}, -limit, true},
			round{[]int{0, none, limit + 1, limit + 1, limit + 1, limit + 1}, 0, false},
			round{[]int{0, none, -limit - 1, -limit - 1, -limit - 1, -limit - 1}, 0, false},
		)
	}
}

// Of its own slot it measures where it sent in it, and has Sync; node 3 is Passive till its own slot, where it is Active if it hears somebody rightly.
func TestMeasuresOwnSlot(t *testing.T) {
	for _, syncs := range []int{63, 63 &^ 8} {
		x := of(6, syncs, 0)
		own := syncs>>3&1 == 1
		by := func(with, without int) int {
			if own {
				return with
			}
			return without
		}
		wantRounds(t, x, 3, false,
			round{[]int{8, none, none, none, none, none}, by(4, 8), true},
			round{[]int{8, 4, none, none, none, none}, 4 + by(0, 2), true},
			round{[]int{8, 4, 6, none, none, none}, by(5, 6), true},
			round{[]int{8, 4, 6, none, 2, none}, by(3, 5), true},
		)
		wantRounds(t, x, 3, true,
			round{[]int{8, none, none, none, none, none}, by(4, 8), true},
			round{[]int{none, 8, none, none, 8, none}, 8, true},
			round{[]int{none, 8, none, none, -4, none}, by(0, 2), true},
		)
		// it stays Passive, and sends nothing: no measure of its own
		n := joined(t, x, 3, 0, c(7, 5, 63))
		passes(n, noise, noise)
		want(t, n, api.Passive, c(8, 2, 60), 0)
		n.Send()
		n.Take(quiet)
		passes(n, quiet)
		hears(n, 10)
		want(t, n, api.Passive, c(8, 5, 56), 0)
		n.Send()
		n.Take(both(info(c(8, 5, 56)), 20))
		want(t, n, api.Passive, c(9, 0, 56), 15)
	}
}

// A Cold frame, too, is one that it sent: 0 is a measure then.
func TestMeasuresColdSlot(t *testing.T) {
	for _, syncs := range []int{63, 63 &^ 4} {
		n := on(t, of(6, syncs, 0), 2, 4)
		passes(n, quiets(18)...) // it waits for 18
		want(t, n, api.Begun, c(0, 3, 4), 0)
		hears(n, 30, none, none)
		by := 30
		if syncs == 63 {
			by = 15
		}
		want(t, n, api.Begun, c(1, 0, 12), by+4)
	}
}

// One that sent in its own slot a round ahead, but not in this one, has no measure of its own in it.
func TestMeasuresWhereItSent(t *testing.T) {
	n := joined(t, of(6, 63, 0), 3, 0, c(7, 5, 63))
	hears(n, 0, 0, 0, 99)
	want(t, n, api.Active, c(8, 4, 63), 0)
	passes(n, quiet, quiet)
	hears(n, none, none, 30)
	n.Take(quiet)
	hears(n, none, none)
	want(t, n, api.Active, c(10, 0, 12), 30)
}

// Who has no Sync is not measured; nor is who is wrong, or missing, nor who is heard in a slot of its own.
func TestMeasuresOfOthers(t *testing.T) {
	for syncs := range 64 {
		if bits.OnesCount(uint(syncs)) < 4 {
			continue
		}
		for who := 1; who < 6; who++ {
			n := joined(t, of(6, syncs, 0), 0, 0, c(7, 5, 63))
			n.Send()
			n.Take(quiet)
			for slot := 1; slot < 6; slot++ {
				n.Send()
				switch {
				case slot == who:
					n.Take(both(normal(own(n)), 60))
				case slot%2 == 0:
					n.Take(both(cold(own(n)), 99))
				default:
					n.Take(api.Heard{Offset: 99})
				}
			}
			by := 0
			if syncs>>who&1 == 1 {
				by = 60 >> (syncs & 1) // half of it with its own 0
			}
			if n.Clock() != by {
				t.Errorf("%06b, node %d: turned by %d, want %d", syncs, who, n.Clock(), by)
			}
		}
	}
}

// Till the round ends the time stays.
func TestTurnedOnceARound(t *testing.T) {
	n := joined(t, of(6, 63, 0), 0, 3, c(7, 5, 63))
	time := 3
	for range 5 {
		for slot := range 6 {
			if n.Clock() != time || n.View().Slot != slot {
				t.Errorf("got %d, %v, want %d, %d", n.Clock(), n.View(), time, slot)
			}
			hears(n, 12)
		}
		time += 12 + 3
	}
	want(t, n, api.Active, c(13, 0, 63), time)
}

// Where the round ends the measures go: a round in which nobody is heard is turned by drift alone.
func TestMeasuresGo(t *testing.T) {
	for _, drift := range []int{-5, 0, 2} {
		n := joined(t, of(6, 63&^1, 0), 0, drift, c(7, 5, 63)) // it has no Sync
		hears(n, 0, 90, 90, 90, 90, 90)
		want(t, n, api.Active, c(9, 0, 63), 2*drift+90)
		hears(n, 0, none, none, none, none, none)
		want(t, n, api.Active, c(10, 0, 1), 3*drift+90)
		passes(n, quiet)
		want(t, n, api.Listen, c(0, 0, 0), 3*drift+90)

		n = joined(t, of(6, 63, 0), 0, drift, c(7, 5, 63))
		hears(n, 0, none, none, 50, 50, 50)
		hears(n, 0, none, none, none, none, 6)
		want(t, n, api.Active, c(10, 0, 33), 3*drift+50+3)
	}
}

// In each state in which slots go on it freezes for a Term that is none, and tells what it told.
func TestFreezesInEachState(t *testing.T) {
	for _, state := range []int{api.Begun, api.Passive, api.Active} {
		n := made(t, of(6, 63, 0), 2, 4, api.Rule{Node: 3, High: 255, Stale: 1})
		n.Write([]byte{6})
		n.On(50)
		switch state {
		case api.Begun:
			passes(n, quiets(18)...)
			hears(n, 300, 300, 300)
		case api.Passive:
			passes(n, both(info(c(0, 3, 12)), 0))
			hears(n, none, 101)
		case api.Active:
			passes(n, both(info(c(0, 1, 12)), 0))
			hears(n, 0, -300, -300, -300)
		}
		if n.State() != api.Frozen || n.View().Round != 1 || n.View().Slot != 0 || n.Clock() != 50 || n.View().Members == 0 {
			t.Error("state", state, n.State(), n.View(), n.Clock())
		}
		was := all(n)
		for range 3 {
			wantSend(t, n, nil)
			n.Take(both(info(own(n)), 0))
			wantAll(t, n, was)
		}
		if e := n.On(-7); e != api.OK {
			t.Error(e)
		}
		passes(n, quiets(17)...)
		want(t, n, api.Listen, c(0, 0, 0), -7)
		wantSend(t, n, cold(c(0, 2, 4), 6))
	}
}

// What was said is a round older where the round ends, whoever said it, also where it freezes.
func TestAges(t *testing.T) {
	for _, freezes := range []bool{false, true} {
		n := joined(t, of(6, 63, 0), 0, 0, c(7, 5, 0))
		passes(n, quiet, both(info(c(8, 1, 0x23), 1), 0), quiet, both(info(c(8, 3, 0x2b), 3), 0), quiet, quiet)
		want(t, n, api.Active, c(9, 0, 0x0b), 0)
		wantRead(t, n, 1, api.Message{Data: []byte{1}, Age: 1, Good: true})
		wantRead(t, n, 2, never)
		wantRead(t, n, 3, api.Message{Data: []byte{3}, Age: 1, Good: true})
		wantRead(t, n, 5, api.Message{Age: 2})
		passes(n, quiet, quiet)
		wantRead(t, n, 1, api.Message{Data: []byte{1}, Age: 1})
		offset := 0
		if freezes {
			offset = 999
		}
		passes(n, both(info(own(n), 2), offset), both(info(c(9, 3, 0x0d), 33), offset), quiet)
		wantRead(t, n, 3, api.Message{Data: []byte{33}, Good: true})
		passes(n, quiet)
		if (n.State() == api.Frozen) != freezes || n.View() != c(10, 0, 0x0d) {
			t.Error(n.State(), n.View())
		}
		wantRead(t, n, 0, never)
		wantRead(t, n, 1, api.Message{Data: []byte{1}, Age: 2})
		wantRead(t, n, 2, api.Message{Data: []byte{2}, Age: 1, Good: true})
		wantRead(t, n, 3, api.Message{Data: []byte{33}, Age: 1, Good: true})
		wantRead(t, n, 4, never)
		wantRead(t, n, 5, api.Message{Age: 3})
	}
}

// Where the round ends the alarms look, behind the ages, also where it freezes; and at no other time.
func TestAlarmsLook(t *testing.T) {
	rules := []api.Rule{
		{Node: 1, Low: 10, High: 20, Stale: 1},
		{Node: 3, Low: 10, High: 20, Stale: 0},
		{Node: 1, Low: 0, High: 255, Stale: 2},
		{Node: 0, Low: 0, High: 255, Stale: 2}, // itself
		{Node: 7, Low: 0, High: 255, Stale: 2}, // none of the table's, but a member
	}
	wantRings := func(n *node.Node, l ...int) {
		t.Helper()
		for i, rings := range l {
			if n.Rings(i) != rings {
				t.Errorf("rule %d: rings %d, want %d", i, n.Rings(i), rings)
			}
		}
	}
	for _, freezes := range []bool{false, true} {
		n := joined(t, of(6, 63, 0), 0, 0, c(7, 4, 0x89), rules...)
		wantRings(n, 0, 0, 0, 0, 0)
		passes(n, quiet)
		wantRings(n, 12, 4, 12, 4, 4)
		passes(n, quiet)
		passes(n, both(info(c(8, 1, 0x9b), 15), 0))
		wantRings(n, 12, 4, 12, 4, 4)
		if e := n.Ack(0); e != api.ErrState {
			t.Error(e)
		}
		passes(n, quiet, both(info(c(8, 3, 0x9b), 30), 0), quiet)
		wantRings(n, 12, 4, 12, 4, 4)
		passes(n, quiet)
		wantRings(n, 12, 6, 12, 4, 4)
		for i, want := range []api.Errno{api.OK, api.ErrState, api.OK, api.ErrState, api.ErrState, api.ErrArg} {
			if e := n.Ack(i); e != want {
				t.Errorf("Ack(%d): got %v, want %v", i, e, want)
			}
		}
		wantRings(n, 0, 6, 0, 4, 4)
		offset := 0
		if freezes {
			offset = -999
		}
		passes(n, quiet, both(info(c(9, 1, 0x8b), 5), offset), quiet, quiet, quiet)
		wantRings(n, 0, 6, 0, 4, 4)
		passes(n, quiet)
		if (n.State() == api.Frozen) != freezes || n.View().Round != 10 {
			t.Error(n.State(), n.View())
		}
		wantRings(n, api.TooLow, 6|api.Lost, 0, 4, 4)
		for i, want := range []api.Errno{api.ErrState, api.ErrState, api.ErrState, api.ErrState, api.ErrState, api.ErrArg} {
			if e := n.Ack(i); e != want {
				t.Errorf("Ack(%d): got %v, want %v", i, e, want)
			}
		}
	}
}

// What rings, and what is so now, stays as it is through Off and On, and as it listens; it is acknowledged in any state.
func TestAlarmsStay(t *testing.T) {
	for _, state := range states {
		n := made(t, plain(4), 2, 0, api.Rule{Node: 3, Low: 10, High: 20, Stale: 9}, api.Rule{Node: 0, High: 9, Stale: 9}, api.Rule{Node: 1, High: 9, Stale: 9})
		wantRings := func(l ...int) {
			t.Helper()
			for i, want := range l {
				if n.Rings(i) != want {
					t.Errorf("state %d, rule %d: rings %d, want %d", n.State(), i, n.Rings(i), want)
				}
			}
		}
		n.On(0)
		passes(n, both(info(c(0, 3, 0), 5), 0))
		wantRings(api.TooLow, 12, 12)
		passes(n, both(info(c(1, 0, 9), 5), 0), quiet, quiet, both(info(c(1, 3, 13), 30), 0)) // node 2 sends
		wantRings(api.TooLow|api.TooHigh, 12, 12)
		switch state {
		case api.Off:
			n.Off()
		case api.Listen, api.Begun:
			n.Off()
			n.On(9)
			if state == api.Begun {
				passes(n, quiets(14)...)
			}
		case api.Passive:
			n.Off()
			n.On(9)
			passes(n, both(info(c(5, 0, 1)), 0))
		case api.Frozen:
			passes(n, noise, noise, quiet)
		}
		if n.State() != state {
			t.Fatal("not ready:", n.State())
		}
		wantRings(3, 12, 12)
		for i, want := range []api.Errno{api.OK, api.OK, api.ErrState, api.ErrArg} {
			if e := n.Ack(i); e != want {
				t.Errorf("Ack(%d): got %v, want %v", i, e, want)
			}
		}
		wantRings(api.TooHigh, 0, 12, 0)
		for i, want := range []api.Errno{api.ErrState, api.ErrState, api.ErrState, api.ErrArg} {
			if e := n.Ack(i); e != want {
				t.Errorf("Ack(%d) again: got %v, want %v", i, e, want)
			}
		}
		n.Off()
		n.On(0)
		n.Send()
		wantRings(api.TooHigh, 0, 12, 0)
	}
}

// Of what is no rule nothing rings, and to acknowledge it is ErrArg; of what is no node there is no message.
func TestOfNone(t *testing.T) {
	for _, state := range states {
		n := inState(t, state)
		was := all(n)
		for _, i := range append([]int{-1, 3, 4, 7, 8, 9}, beyond...) {
			if e := n.Ack(i); n.Rings(i) != 0 || e != api.ErrArg {
				t.Errorf("rule %d: got %d, %v", i, n.Rings(i), e)
			}
			if i != 3 && i != 4 && i != 7 {
				wantRead(t, n, i, never)
			}
		}
		wantAll(t, n, was)
	}
}
