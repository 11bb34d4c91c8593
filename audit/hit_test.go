package audit_test

import (
	"math"
	"testing"

	"matron/api"
	"matron/audit"
)

// P13.1: Hit; and the chapter's example.

func wantHit(t *testing.T, l []api.Act, want int) {
	t.Helper()
	if got := audit.Hit(l); got != want {
		t.Errorf("Hit(%v): got %b, want %b", l, got, want)
	}
}

func TestTheChaptersExample(t *testing.T) {
	wantHit(t, nil, 0)
	wantHit(t, []api.Act{}, 0)
}

func TestNobodyIsHit(t *testing.T) {
	wantHit(t, slots(100), 0)
	wantHit(t, []api.Act{on(1, 2), off(3), write(2, 4), ack(4, 5), slot(), {Kind: api.ActSlot, Node: 3, N: 6, Faults: []api.Fault{}}}, 0)
}

// hitting are the kinds of faults that hit a node.
var hitting = []int{api.Omit, api.Garble, api.Deaf, api.Babble, api.Late}

// Each of them hits its N; whether a fault may be, or is fair, or the table has such a node does not matter.
func TestWhoIsHit(t *testing.T) {
	for _, kind := range hitting {
		for i := range api.MaxNodes {
			for _, f := range []api.Fault{fault(kind, i), {Kind: kind, N: i, At: 7, Data: []byte{1}}, {Kind: kind, N: i, At: -5000, Data: make([]byte, 99)}} {
				wantHit(t, struck(0, f), 1<<i)
				wantHit(t, joined(struck(3, f), slots(3)), 1<<i)
				wantHit(t, joined(struck(3, f), struck(0, f)), 1<<i)
			}
		}
		for _, n := range far {
			wantHit(t, struck(0, fault(kind, n)), 0)
			wantHit(t, struck(0, fault(kind, n), fault(kind, 7)), 128)
		}
	}
}

// Guardians are no nodes.
func TestGuardiansAreNotHit(t *testing.T) {
	for _, kind := range []int{api.Block, api.Leak} {
		for _, n := range append([]int{0, 1, 2, 7}, far...) {
			wantHit(t, struck(1, fault(kind, n)), 0)
			wantHit(t, joined(struck(1, fault(kind, n), fault(api.Omit, 3)), struck(1, fault(api.Late, 2), fault(kind, n))), 8+4)
		}
	}
}

// A fault of any other Kind, even of none of api's, is a Fault but Block and Leak.
func TestOtherKindsOfFaults(t *testing.T) {
	for _, kind := range append([]int{0, 8, 9}, far...) {
		if kind == api.Block || kind == api.Leak {
			continue
		}
		wantHit(t, struck(0, fault(kind, 5)), 32)
	}
}

// Faults that another act bears hit nobody.
func TestFaultsOfOtherActs(t *testing.T) {
	l := []api.Fault{fault(api.Omit, 1), fault(api.Deaf, 4), babble(6)}
	for _, kind := range append([]int{0, api.ActOn, api.ActOff, api.ActWrite, api.ActAck, 6}, far...) {
		if kind == api.ActSlot {
			continue
		}
		wantHit(t, []api.Act{{Kind: kind, Node: 2, N: 3, Faults: l}}, 0)
		wantHit(t, []api.Act{slot(l[0]), {Kind: kind, Node: 2, N: 3, Faults: l}, slot(l[2])}, 2+64)
	}
}

// Each act's Node and N hit nobody.
func TestNodesOfSlots(t *testing.T) {
	for _, i := range append([]int{0, 1, 5, 7}, far...) {
		wantHit(t, []api.Act{{Kind: api.ActSlot, Node: i, N: i, Faults: []api.Fault{fault(api.Garble, 3)}}}, 8)
	}
}

// All that are hit are told, in however many slots, and however many in one.
func TestSeveralAreHit(t *testing.T) {
	for b := range 256 {
		var one, each []api.Act
		var l []api.Fault
		for i := range api.MaxNodes {
			if has(b, i) {
				f := fault(hitting[(b+i)%5], i)
				l = append(l, f, fault(api.Block, 0))
				each = append(each, slot(f), slot(fault(api.Leak, 1)), write(i))
			}
		}
		one = struck(2, l...)
		wantHit(t, one, b)
		wantHit(t, each, b)
		wantHit(t, joined(each, one, each), b)
	}
}

func TestHitOfSomeScripts(t *testing.T) {
	for i := range 500 {
		d := dice(i)
		var l []api.Act
		var want [api.MaxNodes]bool
		for range d.below(30) {
			a := api.Act{Kind: d.of(0, 1, 2, 3, 4, 5, 5, 5, 5, 5, 6, math.MinInt)}
			for range d.below(4) {
				f := api.Fault{Kind: 1 + d.below(7), N: d.of(0, 1, 2, 3, 4, 5, 6, 7, 8, -1, 1<<32+1)}
				a.Faults = append(a.Faults, f)
				if a.Kind == 5 && f.N >= 0 && f.N <= 7 && f.Kind != 4 && f.Kind != 7 {
					want[f.N] = true
				}
			}
			l = append(l, a)
		}
		b := 0
		for k, is := range want {
			if is {
				b += int(math.Pow(2, float64(k)))
			}
		}
		wantHit(t, l, b)
	}
}
