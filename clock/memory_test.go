package clock_test

import (
	"slices"
	"sync"
	"testing"

	"matron/clock"
)

// W6: what is handed in is neither changed, nor the room behind its end, nor kept.

func TestNoListIsChanged(t *testing.T) {
	for many := range 8 {
		for _, numbers := range [][]int{{9, -3}, {5, 5}, {-far, far}} {
			eachList(many, numbers, func(l []int) {
				all := append(slices.Clone(l), 8, -8, 7, -7, 6)
				was := slices.Clone(all)
				clock.Average(all[:many])
				clock.Average(all[:many:many])
				if !slices.Equal(all, was) {
					t.Errorf("changed: got %v, want %v", all, was)
				}
			})
		}
	}
	eachOrder([4]int{1, 9, -3, 2}, func(l []int) {
		was := slices.Clone(l)
		clock.Average(l)
		if !slices.Equal(l, was) {
			t.Errorf("changed: got %v, want %v", l, was)
		}
	})
}

func TestNoListIsKept(t *testing.T) {
	for many := 1; many <= 4; many++ {
		l := make([]int, many)
		for n := range 100 {
			for i := range l {
				l[i] = n*n - 1000*i
			}
			wantAverage(t, average(l), l...)
		}
	}
}

// W2: what is asked of a Clock changes nothing, and as often as it is asked it answers the same.
func TestAskingChangesNothing(t *testing.T) {
	asked, other := clock.New(20), clock.New(20)
	for i := range 50 {
		n := i*i*13%60 - 25
		asked.Measure(n)
		other.Measure(n)
		var first int
		var firstOk bool
		for k := range 5 {
			clock.Average([]int{k, 100, 200, 300})
			m, ok := asked.Term()
			if k == 0 {
				first, firstOk = m, ok
			}
			if m != first || ok != firstOk || asked.Len() != min(i+1, 4) {
				t.Error(i, k, m, ok, asked.Len())
			}
		}
		if m, ok := other.Term(); m != first || ok != firstOk || other.Len() != asked.Len() {
			t.Error(i, m, ok, other.Len())
		}
	}
}

// A Clock has nothing of another one: neither measures nor limit, whatever becomes of it.
func TestClocksAreApart(t *testing.T) {
	a, b := clock.New(10), clock.New(1000)
	for i := range 10 {
		a.Measure(i)
		wantLen(t, b, 0)
		wantTerm(t, b, 0)
	}
	for range 4 {
		b.Measure(500)
	}
	wantTerm(t, a, 7)
	wantTerm(t, b, 500)
	a.Clear()
	wantLen(t, b, 4)
	wantTerm(t, b, 500)
	a.Measure(500)
	wantNoTerm(t, a)
	clock.New(3)
	wantTerm(t, b, 500)
}

// W9: each goroutine may have its own Clock, beside all others.
func TestNothingHangsOnOtherCalls(t *testing.T) {
	var all sync.WaitGroup
	for g := range 8 {
		all.Go(func() {
			for n := range 200 {
				l := []int{g * n, n - g, -n, 3 * g}
				wantAverage(t, average(l), l...)
				wantTerm(t, of(wide, l...), average(l))
			}
		})
	}
	all.Wait()
}
