package clock_test

import (
	"math/big"
	"slices"
	"testing"

	"matron/api"
	"matron/clock"
)

const far = 1 << 40 // numbers are -far to far, where the chapter speaks of them

// atBounds are numbers at the bounds of what the chapter speaks of, and about nought.
var atBounds = []int{-far, -far + 1, -1, 0, 1, far - 1, far}

// eachList goes through all lists of so many of these numbers.
func eachList(many int, of []int, do func(l []int)) {
	l := make([]int, many)
	var put func(at int)
	put = func(at int) {
		if at == many {
			do(slices.Clone(l))
			return
		}
		for _, n := range of {
			l[at] = n
			put(at + 1)
		}
	}
	put(0)
}

// from is the numbers of a to z, both with them.
func from(a, z int) []int {
	var l []int
	for n := a; n <= z; n++ {
		l = append(l, n)
	}
	return l
}

// less is the numbers, all less by one number.
func less(l []int, by int) []int {
	l = slices.Clone(l)
	for i := range l {
		l[i] -= by
	}
	return l
}

// average is an Average in another way: it takes the least and the greatest off the sum of all, and nothing is put in order.
func average(l []int) int {
	if len(l) == 0 {
		return 0
	}
	sum, many := new(big.Int), len(l)
	for _, n := range l {
		sum.Add(sum, big.NewInt(int64(n)))
	}
	if many > 2 {
		sum.Sub(sum, big.NewInt(int64(slices.Min(l))))
		sum.Sub(sum, big.NewInt(int64(slices.Max(l))))
		many -= 2
	}
	by := big.NewInt(int64(many))
	rest := new(big.Int).Mod(sum, by) // never below nought
	return int(sum.Sub(sum, rest).Div(sum, by).Int64())
}

func wantAverage(t *testing.T, want int, l ...int) {
	t.Helper()
	if n := clock.Average(l); n != want {
		t.Errorf("Average(%v): got %d, want %d", l, n, want)
	}
}

// of is a clock with these measures.
func of(limit int, l ...int) *clock.Clock {
	c := clock.New(limit)
	for _, n := range l {
		c.Measure(n)
	}
	return c
}

// wide is a limit that no number goes beyond, of those that the chapter speaks of.
const wide = far

func wantTerm(t *testing.T, c *clock.Clock, want int) {
	t.Helper()
	if n, ok := c.Term(); n != want || !ok {
		t.Errorf("Term: got %d, %v, want %d, true", n, ok, want)
	}
}

// wantNoTerm: with false the number is 0.
func wantNoTerm(t *testing.T, c *clock.Clock) {
	t.Helper()
	if n, ok := c.Term(); n != 0 || ok {
		t.Errorf("Term: got %d, %v, want 0, false", n, ok)
	}
}

func wantLen(t *testing.T, c *clock.Clock, want int) {
	t.Helper()
	if n := c.Len(); n != want {
		t.Errorf("Len: got %d, want %d", n, want)
	}
}

// limits are those that a table may have, to their bounds, and some more.
var limits = []int{0, 1, 2, 3, 14, 300, api.MaxTicks - 1, api.MaxTicks, api.MaxTicks + 1, far}
