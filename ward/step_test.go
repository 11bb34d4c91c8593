package ward_test

import (
	"math"
	"slices"
	"testing"

	"matron/api"
	"matron/ward"
)

// P12.1: Step, act by act; P12.3: what errs changes nothing.

var states = []int{api.Off, api.Listen, api.Begun, api.Passive, api.Active, api.Frozen}

// inState is a Ward of five whose node 2 is in that state; all but one that has begun have others about them, and something rings.
func inState(t *testing.T, state int) *ward.Ward {
	t.Helper()
	x := of(5)
	if state == api.Begun {
		w := made(t, x, none(x), someRules())
		do(t, w, write(2, 7, 8), on(2, 40))
		do(t, w, slots(x.Nodes[2].Listen+4)...)
		wantState(t, w, state)
		return w
	}
	w := up(t, x, someRules()...)
	switch state {
	case api.Off:
		do(t, w, off(2))
	case api.Listen:
		do(t, w, off(2), on(2, 40), slot(fault(api.Deaf, 2)), slot(fault(api.Deaf, 2)))
	case api.Passive:
		do(t, w, off(2), on(2, 40), slot(fault(api.Deaf, 2)), slot(fault(api.Deaf, 2)))
		do(t, w, slots(3)...)
	case api.Frozen:
		do(t, w, slot(fault(api.Omit, 1)), slot(fault(api.Omit, 2)))
		do(t, w, slots(5)...)
	}
	wantState(t, w, state)
	return w
}

func wantState(t *testing.T, w *ward.Ward, state int) {
	t.Helper()
	if w.State(2) != state {
		t.Fatal("state", state, "is not reached:", w.State(2))
	}
}

// wantErr: these acts err so, and nothing that the Ward tells is another one for it.
func wantErr(t *testing.T, w *ward.Ward, e api.Errno, l ...api.Act) {
	t.Helper()
	was := all(w)
	for _, a := range l {
		if got := w.Step(a); got != e {
			t.Errorf("Step(%v): got %v, want %v", a, got, e)
		}
	}
	wantAll(t, l[0], all(w), was)
}

func TestKindsThatAreNone(t *testing.T) {
	for _, state := range states {
		w := inState(t, state)
		for _, kind := range append([]int{0, 6, -1, 7}, beyond...) {
			for i := -1; i <= 5; i++ {
				wantErr(t, w, api.ErrArg, api.Act{Kind: kind, Node: i}, api.Act{Kind: kind, Node: i, N: 1, Data: []byte{1}, Faults: []api.Fault{fault(api.Deaf, 1)}})
			}
		}
		wantAlike(t, w, inState(t, state))
	}
}

// Of what is none of the nodes each act errs but that of a slot; of the last one none does.
func TestNodesThatAreNone(t *testing.T) {
	eachTable(func(x api.Table) {
		n := len(x.Nodes)
		w := up(t, x, someRules()...)
		for _, i := range append([]int{-1, n, n + 1, 8, 9, 100}, beyond...) {
			if i == n-1 {
				continue
			}
			wantErr(t, w, api.ErrArg, on(i, 0), on(i, 1001), off(i), write(i), write(i, make([]byte, 9)...), ack(i, 0), ack(i, 99))
			many := w.Slots()
			do(t, w, api.Act{Kind: api.ActSlot, Node: i, N: i, Data: make([]byte, 99)})
			if w.Slots() != many+1 {
				t.Errorf("a slot of node %d: got %d slots, want %d", i, w.Slots(), many+1)
			}
		}
		wantErr(t, w, api.ErrState, on(n-1, 0))
		wantErr(t, w, api.ErrState, ack(n-1, 0))
		do(t, w, write(n-1, 99), off(n-1), on(n-1, -7))
		if w.State(n-1) != api.Listen || w.Clock(n-1) != -7 {
			t.Errorf("the last one: got %d at %d", w.State(n-1), w.Clock(n-1))
		}
	})
}

// An act looks at no field that is not its own.
func TestFieldsOfOtherActs(t *testing.T) {
	bad := []api.Fault{{Kind: 9, N: 9}, {}, {}, {}, {}}
	for _, state := range states {
		a, b := inState(t, state), inState(t, state)
		for _, x := range [][2]api.Act{
			{off(2), {Kind: api.ActOff, Node: 2, N: math.MinInt, Data: make([]byte, 99), Faults: bad}},
			{on(2, 9), {Kind: api.ActOn, Node: 2, N: 9, Data: make([]byte, 99), Faults: bad}},
			{write(2, 7), {Kind: api.ActWrite, Node: 2, N: math.MaxInt, Data: []byte{7}, Faults: bad}},
			{slot(), {Kind: api.ActSlot, Node: math.MinInt, N: math.MaxInt, Data: make([]byte, 99)}},
		} {
			do(t, a, x[0])
			do(t, b, x[1])
		}
		if got, want := b.Step(api.Act{Kind: api.ActAck, Node: 0, N: 2, Data: make([]byte, 99), Faults: bad}), a.Step(ack(0, 2)); got != want {
			t.Errorf("Ack: got %v, want %v", got, want)
		}
		wantAlike(t, a, b)
	}
}

// Who is off or frozen is On; who is on already may not be. A time that may not be is told first.
func TestOn(t *testing.T) {
	for _, state := range states {
		for _, at := range append([]int{0, 1, -1, 999, 1000, -1000, 1001, -1001}, beyond...) {
			w := inState(t, state)
			switch {
			case at < -1000 || at > 1000:
				wantErr(t, w, api.ErrArg, on(2, at))
			case state != api.Off && state != api.Frozen:
				wantErr(t, w, api.ErrState, on(2, at))
			default:
				was := all(w)
				do(t, w, on(2, at))
				want(t, w, 2, api.Listen, c(0, 0, 0), at)
				wantBeside(t, w, 2, was)
			}
		}
	}
}

// wantBeside: what all but that node tell, and how many slots there were, is as it was.
func wantBeside(t *testing.T, w *ward.Ward, i int, was tells) {
	t.Helper()
	got := all(w)
	got.l[i+1], was.l[i+1] = one{}, one{}
	wantAll(t, i, got, was)
}

// Whoever is Off begins anew; its time, its data and its alarms stay.
func TestOff(t *testing.T) {
	for _, state := range states {
		w := inState(t, state)
		was := all(w)
		for range 2 {
			do(t, w, off(2))
			want(t, w, 2, api.Off, c(0, 0, 0), was.l[3].clock)
			wantBeside(t, w, 2, was)
			for node := range 8 {
				wantRead(t, w, 2, node, never)
			}
			if all(w).l[3].rings != was.l[3].rings {
				t.Errorf("rings: got %v, want %v", all(w).l[3].rings, was.l[3].rings)
			}
		}
	}
	w := up(t, of(5))
	do(t, w, write(2, 77), off(2), on(2, 0))
	do(t, w, slots(10)...)
	wantRead(t, w, 0, 2, good(1, 77)) // it spoke in round 2, and round 3 has begun
}

// A node says as many bytes as the table has it say, not one more; another one's Size is nothing to it.
func TestWrite(t *testing.T) {
	for _, state := range states {
		for i, def := range of(5).Nodes {
			w := inState(t, state)
			was := all(w)
			for many := range def.Size + 1 {
				do(t, w, write(i, make([]byte, many)...))
			}
			for many := def.Size + 1; many < 20; many++ {
				wantErr(t, w, api.ErrArg, write(i, make([]byte, many)...))
			}
			wantErr(t, w, api.ErrArg, write(i, make([]byte, 100000)...))
			wantAll(t, state, all(w), was) // nobody hears of it till there is a slot
		}
	}
	eachTable(func(x api.Table) {
		w := up(t, x)
		for i, def := range x.Nodes {
			data := slices.Repeat([]byte{byte(40 + i)}, def.Size)
			do(t, w, write(i, 1), write(i), write(i, data...))
			wantErr(t, w, api.ErrArg, write(i, make([]byte, def.Size+1)...))
		}
		do(t, w, slots(len(x.Nodes))...)
		for i, def := range x.Nodes {
			for k := range x.Nodes {
				if m := w.Read(k, i); k != i && !slices.Equal(m.Data, slices.Repeat([]byte{byte(40 + i)}, def.Size)) {
					t.Errorf("Read(%d, %d): got %v", k, i, m)
				}
			}
		}
	})
}

// An alarm that is none, one that is silent, and one that is so now, are not acknowledged; one that was so is.
func TestAck(t *testing.T) {
	w := up(t, of(4), api.Rule{Node: 2, Low: 12, High: 20, Stale: 2}, api.Rule{Node: 1, High: 255, Stale: 2})
	for i := range 4 {
		wantErr(t, w, api.ErrArg, ack(i, -1), ack(i, 2), ack(i, 8))
		for _, rule := range beyond {
			wantErr(t, w, api.ErrArg, ack(i, rule))
		}
	}
	wantErr(t, w, api.ErrState, ack(0, 0), ack(0, 1), ack(3, 0))
	do(t, w, write(2, 21))
	do(t, w, slots(4)...)
	wantRings(t, w, 0, api.TooHigh, 0)
	wantErr(t, w, api.ErrState, ack(0, 0), ack(0, 1))
	do(t, w, write(2, 11))
	do(t, w, slots(4)...)
	wantRings(t, w, 0, api.TooLow|api.TooHigh, 0)
	was := all(w)
	do(t, w, ack(0, 0))
	wantRings(t, w, 0, api.TooLow, 0)
	wantBeside(t, w, 0, was)
	wantErr(t, w, api.ErrState, ack(0, 0))
	wantRings(t, w, 3, api.TooLow|api.TooHigh, 0)
	do(t, w, write(2, 12))
	do(t, w, slots(4)...)
	do(t, w, ack(0, 0), ack(3, 0))
	wantRings(t, w, 0, 0, 0)
	wantRings(t, w, 3, 0, 0)
	wantRings(t, w, 1, api.TooLow|api.TooHigh, api.TooOld|api.Lost)
	wantErr(t, w, api.ErrState, ack(0, 0), ack(1, 1))
}

// notFaults are faults that may not be, each for one thing alone.
func notFaults() (l []api.Fault) {
	l = []api.Fault{{}, {Kind: 8}, {Kind: -1}, {Kind: math.MaxInt}, {Kind: math.MinInt}}
	for kind := api.Omit; kind <= api.Leak; kind++ {
		most := 7
		if kind == api.Block || kind == api.Leak {
			most = 1
		}
		for _, f := range []api.Fault{{N: -1}, {N: most + 1}, {N: math.MinInt}, {N: math.MaxInt}, {At: 1001}, {At: -1001}, {At: math.MinInt}, {At: math.MaxInt}, {Data: make([]byte, 25)}} {
			f.Kind = kind
			l = append(l, f)
		}
	}
	return l
}

// Faults that may not be: an error, and no slot: who waits does not wait for one more, who is to send has not sent.
func TestFaultsThatMayNotBe(t *testing.T) {
	for _, state := range states {
		w := inState(t, state)
		for i := range 5 {
			for _, f := range notFaults() {
				wantErr(t, w, api.ErrArg, slot(f), slot(fault(api.Block, 0), f), slot(f, f, f, f))
			}
			wantErr(t, w, api.ErrArg, slot(make([]api.Fault, 5)...), slot(slices.Repeat([]api.Fault{fault(api.Deaf, 7)}, 5)...), slot(make([]api.Fault, 1000)...))
			if i%2 == 0 {
				wantErr(t, w, api.ErrArg, api.Act{Kind: api.ActSlot, Node: i * 100, Faults: []api.Fault{{}}})
			}
			do(t, w, slot())
		}
		twin := inState(t, state)
		do(t, twin, slots(5)...)
		wantAlike(t, w, twin)
	}
}

// As many faults as may be, at the edges of what may be.
func TestFaultsThatMayBe(t *testing.T) {
	for _, l := range [][]api.Fault{
		nil, {}, {late(0, 1000)}, {late(7, -1000), garble(7, 1000)}, {babble(3, make([]byte, 24)...)}, {fault(api.Block, 1), fault(api.Leak, 0)},
		slices.Repeat([]api.Fault{fault(api.Deaf, 7)}, 4), {fault(api.Omit, 0), garble(1, -1000), babble(2), late(3, 5)},
	} {
		w := up(t, of(8))
		do(t, w, slot(l...))
		if w.Slots() != 25 {
			t.Errorf("behind %v: got %d slots", l, w.Slots())
		}
	}
}

// A fault of what is none of the table's nodes is no error, and strikes nobody.
func TestFaultsOfWhatIsNoNode(t *testing.T) {
	for n := api.MinNodes; n < api.MaxNodes; n++ {
		a, b := up(t, of(n), someRules()...), up(t, of(n), someRules()...)
		for i := n; i < api.MaxNodes; i++ {
			for _, f := range []api.Fault{fault(api.Omit, i), fault(api.Deaf, i), late(i, 500), garble(i, 3), babble(i, 1, 2), babble(i, spelt(api.Cold, c(9, 1, 2), nil)...)} {
				do(t, a, slot(f, f))
				do(t, b, slot())
				wantAll(t, f, all(a), all(b))
			}
		}
		wantAlike(t, a, b)
	}
}

// A Ward that is asked for things that err goes on as one that is not.
func TestWhatErrsChangesNothing(t *testing.T) {
	for _, state := range states {
		a, b := inState(t, state), inState(t, state)
		for i := range 60 {
			if i%7 == 6 {
				do(t, a, off(2), on(2, i))
				do(t, b, off(2), on(2, i))
			}
			for k := range 5 {
				errs := []api.Act{{Node: k}, {Kind: 6, Node: k}, on(k, 1001), on(-1, 0), off(5), write(k, make([]byte, 9)...), write(5, 1), ack(k, -1), ack(k, 4), ack(-1, 0), slot(fault(api.Leak, 2))}
				if s := a.State(k); s != api.Off && s != api.Frozen {
					errs = append(errs, on(k, 1))
				}
				for _, x := range errs {
					if a.Step(x) == api.OK {
						t.Errorf("Step(%v): no error", x)
					}
				}
				wantAll(t, i, all(a), all(b))
			}
			do(t, a, slot())
			do(t, b, slot())
		}
		wantAlike(t, a, b)
	}
}
