package star_test

import (
	"bytes"
	"math"
	"slices"
	"testing"

	"matron/api"
	"matron/star"
)

// P11.1: Is; P11.2: the error of Slot.

// wantIs: Is and Slot tell the same of a list, and where it may not be Slot answers nothing and changes nothing.
func wantIs(t *testing.T, l faults, want bool) {
	t.Helper()
	if got := star.Is(l); got != want {
		t.Errorf("Is(%v): got %v", l, got)
	}
	s := knowing(t, of(4), 3, lost)
	got, e := s.Slot(row{3: x}, when, l)
	if (e == api.OK) != want || !want && e != api.ErrArg {
		t.Errorf("Slot(%v): got %v", l, e)
	}
	if want {
		return
	}
	wantHeard(t, l, got, [api.MaxNodes]api.Heard{})
	wantKnow(t, s, l, [2]int{3, lost})
}

func TestIsOfOne(t *testing.T) {
	lastN := []int{api.Omit: 7, api.Garble: 7, api.Deaf: 7, api.Block: 1, api.Babble: 7, api.Late: 7, api.Leak: 1}
	for _, kind := range []int{math.MinInt, -1, 0, 1, 2, 3, 4, 5, 6, 7, 8, 9, 255, 257, 1<<32 + 1, math.MaxInt} {
		for _, n := range []int{math.MinInt, -2, -1, 0, 1, 2, 3, 6, 7, 8, 9, 256, 1 << 32, math.MaxInt} {
			for _, at := range []int{math.MinInt, -1001, -1000, -999, 0, 1, 1000, 1001, 1 << 32, math.MaxInt} {
				for _, many := range []int{0, 1, 23, 24, 25, 1000} {
					isKind := slices.Contains([]int{api.Omit, api.Garble, api.Deaf, api.Block, api.Babble, api.Late, api.Leak}, kind)
					want := isKind && n >= 0 && n <= lastN[kind] && at/1001 == 0 && many <= 24
					if got := star.Is(faults{{Kind: kind, N: n, At: at, Data: make([]byte, many)}}); got != want {
						t.Errorf("Is of kind %d, N %d, At %d, %d bytes: got %v", kind, n, at, many, got)
					}
				}
			}
		}
	}
}

// The bounds, each of its own, are Slot's, too.
func TestIsAndSlot(t *testing.T) {
	for kind := -1; kind <= 9; kind++ {
		wantIs(t, faults{fault(kind, 1)}, kind >= 1 && kind <= 7)
		if kind < 1 || kind > 7 {
			continue
		}
		for n := -1; n <= 8; n++ {
			wantIs(t, faults{fault(kind, n)}, n >= 0 && (n <= 1 || n <= 7 && kind != api.Block && kind != api.Leak))
		}
		for _, at := range []int{-1001, -1000, 1000, 1001} {
			wantIs(t, faults{{Kind: kind, At: at}}, at == -1000 || at == 1000)
		}
		for _, many := range []int{24, 25, 51} {
			wantIs(t, faults{{Kind: kind, Data: make([]byte, many)}}, many == 24)
		}
	}
	wantIs(t, faults{{}}, false)
}

func TestHowManyFaults(t *testing.T) {
	wantIs(t, nil, true)
	for _, f := range []api.Fault{fault(api.Omit, 7), fault(api.Leak, 1), late(3, -1000), babble(0, 9, bytes.Repeat([]byte{7}, 24)...)} {
		for many := range 9 {
			wantIs(t, slices.Repeat(faults{f}, many), many <= 4)
		}
		wantIs(t, slices.Repeat(faults{f}, 1000), false)
	}
}

// One that may not be is found wherever it stands.
func TestOneThatMayNotBe(t *testing.T) {
	for _, f := range []api.Fault{{}, fault(8, 0), fault(api.Deaf, -1), fault(api.Omit, 8), fault(api.Block, 2), fault(api.Leak, 7), late(0, 1001), garble(0, -1001), babble(1, 0, make([]byte, 25)...)} {
		for many := 1; many <= 4; many++ {
			for place := range many {
				l := slices.Repeat(faults{fault(api.Block, 0)}, many)
				wantIs(t, l, true)
				l[place] = f
				wantIs(t, l, false)
			}
		}
	}
}

// W3: a Star that was asked what may not be goes on as one that was not.
func TestErrorsChangeNothing(t *testing.T) {
	asked, other := fresh(t, of(5)), fresh(t, of(5))
	m, d := model{table: of(5)}, dice(11)
	for i := range 400 {
		for range 3 {
			g := some(&d, &m)
			g.l = append(slices.Clone(g.l), fault(8, 0))
			got, e := g.pass(asked)
			if e != api.ErrArg {
				t.Fatalf("%d: got %v", i, e)
			}
			wantHeard(t, i, got, [api.MaxNodes]api.Heard{})
		}
		g := some(&d, &m)
		m.pass(g)
		got, _ := g.pass(asked)
		want, _ := g.pass(other)
		wantHeard(t, i, got, want)
		wantKnow(t, asked, i, know(other))
	}
}
