package alarm_test

import (
	"math"
	"testing"

	"matron/alarm"
	"matron/api"
)

// P9.1: New.

// Ahead of the first Look nothing is so, and nothing rings; no rules are rules that may be.
func TestNew(t *testing.T) {
	for many := range api.MaxRules + 1 {
		l := make([]api.Rule, many)
		a := made(t, l...)
		states := make([]state, many)
		want(t, a, states...)
		for i := range l {
			wantAck(t, a, i, api.ErrState)
		}
		for _, i := range noRules(many) {
			wantAck(t, a, i, api.ErrArg)
		}
		want(t, a, states...)
	}
}

// Nil and empty are alike: nothing is read, and nothing rings.
func TestNewOfNoRules(t *testing.T) {
	for _, l := range [][]api.Rule{nil, {}, make([]api.Rule, 5)[:0]} {
		a, e := alarm.New(l)
		if a == nil || e != api.OK {
			t.Fatalf("got %v, %v", a, e)
		}
		a.Look(func(node int) api.Message {
			t.Errorf("read %d", node)
			return api.Message{}
		})
		want(t, a)
	}
}

func TestNewOfTooMany(t *testing.T) {
	for _, many := range []int{9, 10, 16, 17, 255, 256, 257, 264, 1 << 16, 1<<16 + 3} {
		l := make([]api.Rule, many)
		wantRefused(t, l)
		l[many-1].Node = 8
		wantRefused(t, l)
		l[0].Low = 9
		wantRefused(t, l)
	}
	if a, e := alarm.New(make([]api.Rule, 20)[:8]); a == nil || e != api.OK {
		t.Errorf("room behind the end: got %v, %v", a, e)
	}
}

// wrong are rules that may not be, by one field each.
func wrong() []api.Rule {
	l := []api.Rule{
		{Node: -1}, {Node: 8}, {Node: -1, High: 255, Stale: api.MaxRound}, {Node: 8, High: 255, Stale: api.MaxRound},
		{Low: -1}, {Low: -1, High: 255}, {Low: 256, High: 256}, {Low: 256, High: 255}, {Low: -1, High: -1}, {Low: -2, High: -1},
		{High: -1}, {High: 256}, {Low: 255, High: 256}, {Low: 7, High: 256},
		{Low: 1}, {Low: 10, High: 9}, {Low: 255, High: 254}, {Low: 255}, {Low: 128, High: 127},
		{Stale: -1}, {Stale: 65536}, {Node: 7, Low: 255, High: 255, Stale: 65536}, {Node: 7, Low: 255, High: 255, Stale: -1},
	}
	for _, n := range append([]int{math.MaxInt, math.MinInt}, beyond...) {
		l = append(l, api.Rule{Node: n}, api.Rule{Low: n, High: 255}, api.Rule{Low: n, High: n}, api.Rule{High: n})
		if n < 0 || n > 65535 {
			l = append(l, api.Rule{Stale: n}, api.Rule{Node: 3, Low: 4, High: 5, Stale: n})
		}
	}
	return l
}

// right are rules that may be, at the edges.
func right() []api.Rule {
	return []api.Rule{
		{}, {Node: 7}, {Node: 3, High: 255}, {Low: 255, High: 255}, {Low: 254, High: 255}, {High: 1}, {Low: 9, High: 9}, {Low: 9, High: 10},
		{Stale: 1}, {Stale: 65535}, {Stale: 65534}, {Node: 7, Low: 255, High: 255, Stale: 65535},
	}
}

// One rule that may not be suffices, wherever it stands, and whatever the others are.
func TestNewOfWrongRules(t *testing.T) {
	for _, r := range wrong() {
		for many := 1; many <= api.MaxRules; many++ {
			for at := range many {
				l := make([]api.Rule, many)
				for i := range l {
					l[i] = right()[(i+many)%len(right())]
				}
				l[at] = r
				wantRefused(t, l)
			}
		}
	}
}

func TestNewOfRightRules(t *testing.T) {
	for _, r := range right() {
		for many := 1; many <= api.MaxRules; many++ {
			for at := range many {
				l := make([]api.Rule, many)
				l[at] = r
				want(t, made(t, l...), make([]state, many)...)
			}
		}
	}
	made(t, right()[:api.MaxRules]...)
	made(t, right()[len(right())-api.MaxRules:]...)
}

// All numbers that a field may have, and those beside them.
func TestNewOfEachNumber(t *testing.T) {
	may := func(is bool, r api.Rule) {
		t.Helper()
		if is {
			made(t, r)
		} else {
			wantRefused(t, []api.Rule{r})
		}
	}
	for n := -300; n < 600; n++ {
		may(n >= 0 && n <= 7, api.Rule{Node: n, Low: 3, High: 200, Stale: 4})
		may(n >= 0 && n <= 200, api.Rule{Node: 5, Low: n, High: 200, Stale: 4})
		may(n >= 3 && n <= 255, api.Rule{Node: 5, Low: 3, High: n, Stale: 4})
		may(n >= 0 && n <= 255, api.Rule{Node: 5, Low: n, High: n, Stale: 4})
	}
	for n := -300; n < 66000; n++ {
		may(n >= 0 && n <= 65535, api.Rule{Stale: n})
	}
}
