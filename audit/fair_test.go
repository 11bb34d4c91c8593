package audit_test

import (
	"slices"
	"testing"

	"matron/api"
	"matron/audit"
)

// P13.1: which scripts are fair.

func wantFair(t *testing.T, x api.Table, l []api.Act, want bool) {
	t.Helper()
	if got := audit.Fair(x, l); got != want {
		t.Errorf("Fair of %d nodes, Window %d, %v: got %v, want %v", len(x.Nodes), x.Window, l, got, want)
	}
}

// joined is scripts, one behind the other.
func joined(l ...[]api.Act) []api.Act { return slices.Concat(l...) }

// struck is a slot with those faults, behind so many without.
func struck(ahead int, l ...api.Fault) []api.Act { return append(slots(ahead), slot(l...)) }

// oneOfEach is a fault of each kind, fair by each of the tables of four to eight nodes above.
func oneOfEach() []api.Fault {
	return []api.Fault{
		fault(api.Omit, 1), {Kind: api.Garble, N: 2, At: 9}, fault(api.Deaf, 3), fault(api.Block, 0), fault(api.Block, 1), babble(0, 1, 2, 3), late(2, 81), late(2, -81), fault(api.Leak, 0), fault(api.Leak, 1),
	}
}

func TestNoFaults(t *testing.T) {
	eachTable(func(x api.Table) {
		for _, l := range [][]api.Act{nil, {}, slots(1), slots(1000), {write(0, 1)}, {ack(0, 0)}, {write(0), slot(), ack(1, 1), slot(), slot()}, {{Kind: api.ActSlot, Faults: []api.Fault{}}}} {
			wantFair(t, x, l, true)
		}
	})
}

func TestTablesThatMayNotBe(t *testing.T) {
	for _, x := range notTables() {
		for _, l := range [][]api.Act{nil, {}, slots(3), {write(0, 1)}, struck(2, fault(api.Omit, 1)), {on(0, 0)}} {
			wantFair(t, x, l, false)
		}
	}
}

// Tables at the edges of what may be.
func TestTablesThatMayBe(t *testing.T) {
	for _, x := range []api.Table{windowed(of(4, 0), 0, 2, 2), windowed(of(8, 0), 249, 998, 998), windowed(of(8, 0), 249, 1000, 1000)} {
		x.Nodes[0].Listen, x.Nodes[1].Listen = api.MaxListen, 2*len(x.Nodes)
		wantFair(t, x, nil, true)
		wantFair(t, x, struck(2, fault(api.Omit, 1)), true)
		x.Nodes[0].Listen = x.Nodes[1].Listen
		wantFair(t, x, nil, false)
	}
}

// A script with an act that is neither ActSlot nor ActWrite nor ActAck is not fair, wherever that stands.
func TestKindsOfActs(t *testing.T) {
	eachTable(func(x api.Table) {
		for _, kind := range append([]int{0, api.ActOn, api.ActOff, api.ActWrite, api.ActAck, api.ActSlot, 6, 7}, far...) {
			want := kind == 3 || kind == 4 || kind == 5
			a := api.Act{Kind: kind, Node: 1, N: 2, Data: []byte{3}}
			for _, l := range [][]api.Act{{a}, {a, a}, {slot(), a}, {a, slot()}, {write(0), ack(0, 0), a}, joined(slots(40), []api.Act{a}, slots(40)), joined(struck(3, fault(api.Deaf, 0)), []api.Act{a})} {
				wantFair(t, x, l, want)
			}
		}
	})
}

// Nothing of an act but its Kind, and of a slot its Faults, is looked at.
func TestWhatActsBear(t *testing.T) {
	eachTable(func(x api.Table) {
		for _, n := range append([]int{0, 1, 7}, far...) {
			bad := []api.Fault{fault(99, n), fault(api.Omit, n), fault(api.Omit, 1), late(0, 3)}
			for _, kind := range []int{api.ActWrite, api.ActAck} {
				wantFair(t, x, []api.Act{{Kind: kind, Node: n, N: n, Data: make([]byte, 99), Faults: bad}, {Kind: kind, Faults: bad}}, true)
				// Not even as a slot that has a fault.
				wantFair(t, x, joined(struck(0, fault(api.Omit, 1)), []api.Act{{Kind: kind, Faults: bad[2:3]}}, struck(3*len(x.Nodes), fault(api.Omit, 1))), true)
			}
			wantFair(t, x, []api.Act{{Kind: api.ActSlot, Node: n, N: n, Data: make([]byte, 99)}}, true)
			wantFair(t, x, []api.Act{{Kind: api.ActSlot, Node: n, N: n, Data: make([]byte, 99), Faults: oneOfEach()[:1]}}, true)
		}
	})
}

func wantFault(t *testing.T, x api.Table, f api.Fault, want bool) {
	t.Helper()
	wantFair(t, x, struck(0, f), want)
	wantFair(t, x, joined(struck(5, f), slots(5)), want)
	n := 3 * len(x.Nodes)
	wantFair(t, x, joined(struck(0, fault(api.Deaf, 1)), struck(n, f), struck(n, fault(api.Block, 0))), want)
}

func TestKindsOfFaults(t *testing.T) {
	eachTable(func(x api.Table) {
		for _, f := range oneOfEach() {
			wantFault(t, x, f, true)
		}
		for _, kind := range append([]int{0, 8, 9}, far...) {
			if kind < api.Omit || kind > api.Leak {
				wantFault(t, x, fault(kind, 0), false)
				wantFault(t, x, fault(kind, 1), false)
			}
		}
	})
}

// Of Block and Leak N is 0 or 1, of others 0 to 7, whether the table has such a node or not.
func TestWhomFaultsHit(t *testing.T) {
	eachTable(func(x api.Table) {
		for _, f := range oneOfEach() {
			for _, n := range append([]int{0, 1, 2, 3, 4, 5, 6, 7}, far...) {
				most := 7
				if f.Kind == api.Block || f.Kind == api.Leak {
					most = 1
				}
				f.N = n
				wantFault(t, x, f, n >= 0 && n <= most)
			}
		}
	})
}

// A fault bears at most 24 bytes, and an At of at most MaxTicks on both sides, also where neither means a thing.
func TestWhatFaultsBear(t *testing.T) {
	eachTable(func(x api.Table) {
		for _, f := range oneOfEach() {
			for _, many := range []int{0, 1, 8, 23, 24, 25, 26, 50, 1000} {
				g := f
				g.Data = make([]byte, many)
				wantFault(t, x, g, many <= 24)
			}
			for _, at := range append([]int{0, 1, -1, 80, 81, 999, 1000, 1001, -999, -1000, -1001}, far...) {
				g := f
				g.At = at
				may := at >= -1000 && at <= 1000
				switch f.Kind {
				case api.Babble:
					may = at == 0
				case api.Late:
					may = may && (at > 80 || at < -80)
				}
				wantFault(t, x, g, may)
			}
		}
	})
}

// Late is more than two times Window off, on one side or the other.
func TestHowLate(t *testing.T) {
	for _, window := range []int{2, 3, 40, 77, 250, 498, 499, 500, 501, 700, 1000} {
		x := windowed(of(5, 0), 0, window, 1000)
		for at := -1010; at <= 1010; at++ {
			may := at >= -1000 && at <= 1000 && (at > 2*window || at < -2*window)
			wantFair(t, x, struck(0, late(4, at)), may)
		}
		for _, at := range []int{2*window - 1, 2 * window, 2*window + 1} {
			may := at == 2*window+1 && at <= 1000
			wantFault(t, x, late(3, at), may)
			wantFault(t, x, late(3, -at), may)
		}
	}
}

// The Drift and the Limit do not matter to it.
func TestHowLateByOtherTables(t *testing.T) {
	for _, x := range []api.Table{windowed(of(6, 2), 0, 42, 42), windowed(of(6, 2), 10, 42, 42), windowed(of(6, 2), 1, 42, 1000)} {
		for _, at := range []int{84, -84, 43, -43, 11, 21} {
			wantFault(t, x, late(5, at), false)
		}
		wantFault(t, x, late(5, 85), true)
		wantFault(t, x, late(5, -85), true)
	}
}

// A slot has one fault at most, whatever they are.
func TestSeveralFaultsInASlot(t *testing.T) {
	eachTable(func(x api.Table) {
		for _, f := range oneOfEach() {
			for _, g := range oneOfEach() {
				wantFair(t, x, struck(0, f, g), false)
				wantFair(t, x, joined(struck(2, f, g), slots(2)), false)
			}
			for _, many := range []int{3, 4, 5, 6, 1000} {
				wantFair(t, x, struck(1, slices.Repeat([]api.Fault{f}, many)...), false)
			}
			wantFair(t, x, struck(0, f, api.Fault{}), false)
			wantFair(t, x, struck(0, api.Fault{}, f), false)
		}
		// What stands behind the end does not count.
		wantFair(t, x, []api.Act{{Kind: api.ActSlot, Faults: oneOfEach()[:1]}, {Kind: api.ActSlot, Faults: oneOfEach()[:0]}}, true)
	})
}
