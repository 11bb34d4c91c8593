package alarm_test

import (
	"math"
	"testing"

	"matron/alarm"
	"matron/api"
)

// P9.1: Why.

func wantWhy(t *testing.T, r api.Rule, m api.Message, want int) {
	t.Helper()
	if got := alarm.Why(r, m); got != want {
		t.Errorf("Why(%+v, %+v): got %d, want %d", r, m, got, want)
	}
}

// The chapter's example.
func TestExample(t *testing.T) {
	wantWhy(t, api.Rule{Low: 9, High: 255}, api.Message{Data: []byte{5}, Good: true}, api.TooLow)
}

func TestBits(t *testing.T) {
	r := api.Rule{Low: 9, High: 20, Stale: 3}
	for _, x := range []struct {
		m    api.Message
		want int
	}{
		{api.Message{Data: []byte{15}, Age: 2, Good: true}, 0},
		{api.Message{Data: []byte{8}, Age: 2, Good: true}, 1},
		{api.Message{Data: []byte{21}, Age: 2, Good: true}, 2},
		{api.Message{Data: []byte{15}, Age: 4, Good: true}, 4},
		{api.Message{Data: []byte{15}, Age: -1, Good: true}, 4},
		{api.Message{Data: []byte{15}, Age: 2}, 8},
		{api.Message{}, 8},
		{api.Message{Age: -1}, 12},
		{api.Message{Data: []byte{8}, Age: 4}, 13},
		{api.Message{Data: []byte{21}, Age: 4}, 14},
	} {
		wantWhy(t, r, x.m, x.want)
	}
}

// A byte at a bound is within it; one below the first one, or above the second, is not.
func TestEachByte(t *testing.T) {
	bounds := []int{0, 1, 9, 20, 127, 128, 129, 254, 255}
	for i, first := range bounds {
		for _, second := range bounds[i:] {
			for b := range 256 {
				want := 0
				if b < first {
					want = low
				} else if b > second {
					want = high
				}
				wantWhy(t, api.Rule{Low: first, High: second}, api.Message{Data: []byte{byte(b)}, Good: true}, want)
			}
		}
	}
}

// Of several bytes the first one alone counts.
func TestFurtherBytes(t *testing.T) {
	r := api.Rule{Low: 9, High: 20}
	for _, first := range []byte{8, 9, 15, 20, 21} {
		want := alarm.Why(r, api.Message{Data: []byte{first}, Good: true})
		for _, second := range []byte{0, 8, 9, 15, 20, 21, 255} {
			for many := 2; many < 12; many++ {
				data := make([]byte, many)
				data[0] = first
				for i := 1; i < many; i++ {
					data[i] = second
				}
				wantWhy(t, r, api.Message{Data: data, Good: true}, want)
			}
		}
	}
	wantWhy(t, r, api.Message{Data: append([]byte{9}, make([]byte, 1<<16)...), Good: true}, 0)
}

// Without bytes nothing is low or high, whatever the bounds and the room behind the list's end.
func TestNoBytes(t *testing.T) {
	for _, data := range [][]byte{nil, {}, []byte{5, 5, 5}[:0], []byte{255}[:0]} {
		for _, r := range []api.Rule{{}, {Low: 255, High: 255}, {Low: 9, High: 20}, {High: 255}, {Low: 300, High: -300}} {
			for mask := range 4 {
				m := api.Message{Data: data, Good: mask&1 == 0}
				want := mask & 1 * lost
				if mask&2 != 0 {
					m.Age = -1
					want += old
				}
				wantWhy(t, r, m, want)
			}
		}
	}
}

// At Stale a message is not too old yet; one round on it is.
func TestAge(t *testing.T) {
	for _, stale := range []int{0, 1, 2, 3, 127, 128, 255, 256, 1000, api.MaxRound - 1, api.MaxRound} {
		r := api.Rule{High: 255, Stale: stale}
		for _, age := range []int{0, 1, stale / 2, stale - 1, stale, stale + 1, stale + 2, 2*stale + 1, stale + 1<<16, stale + 1<<32} {
			want := 0
			if age > stale || age == -1 {
				want = old
			}
			wantWhy(t, r, api.Message{Data: []byte{7}, Age: age, Good: true}, want)
			wantWhy(t, r, api.Message{Age: age, Good: true}, want)
		}
		wantWhy(t, r, api.Message{Age: -1, Good: true}, old)
		wantWhy(t, r, api.Message{Data: []byte{7}, Age: -1, Good: true}, old)
	}
}

// All that may be so of a message, at once.
func TestMasks(t *testing.T) {
	for _, mask := range masks {
		wantWhy(t, ruleOf(3), messageOf(mask), mask)
	}
	for mask := range 16 {
		m := api.Message{Data: []byte{100}, Age: mask & old, Good: mask&lost == 0}
		wantWhy(t, api.Rule{Low: 100 + mask&low, High: 100 - mask&high}, m, mask)
	}
}

// Why asks of rules that New refuses, too: each bit as its words say.
func TestNumbersBeyond(t *testing.T) {
	for _, n := range append([]int{-1, 256, math.MaxInt, math.MinInt}, beyond...) {
		below, above := 0, 0
		if n < 0 {
			below = 1
		} else {
			above = 1
		}
		for _, b := range []byte{0, 1, 5, 127, 128, 255} {
			m := api.Message{Data: []byte{b}, Good: true}
			wantWhy(t, api.Rule{Low: n, High: 255}, m, above*low)
			wantWhy(t, api.Rule{Low: 0, High: n}, m, below*high)
			wantWhy(t, api.Rule{Low: n, High: n}, m, above*low+below*high)
			wantWhy(t, api.Rule{Low: 0, High: 255, Stale: n}, m, below*old)
			m.Age = n
			wantWhy(t, api.Rule{Low: 0, High: 255, Stale: math.MaxInt}, m, oldIf(n == -1))
			wantWhy(t, api.Rule{Low: 0, High: 255, Stale: n}, m, oldIf(n == -1))
			wantWhy(t, api.Rule{Low: 0, High: 255, Stale: api.MaxRound}, m, oldIf(n > 65535 || n == -1))
		}
	}
	wantWhy(t, api.Rule{Stale: math.MinInt}, api.Message{Age: math.MaxInt}, old|lost)
	wantWhy(t, api.Rule{Stale: math.MaxInt}, api.Message{Age: math.MinInt}, lost)
	wantWhy(t, api.Rule{Low: math.MaxInt, High: math.MinInt, Stale: math.MinInt}, api.Message{Data: []byte{0}, Age: math.MinInt + 1}, 15)
}

func oldIf(is bool) int {
	if is {
		return old
	}
	return 0
}

// Whose rule it is makes no odds.
func TestWhyOfAllNodes(t *testing.T) {
	for _, node := range append([]int{-1, 0, 1, 2, 3, 4, 5, 6, 7, 8}, beyond...) {
		for _, mask := range masks {
			wantWhy(t, ruleOf(node), messageOf(mask), mask)
		}
	}
}
