package clock_test

import (
	"math"
	"testing"

	"matron/clock"
)

// P5.2: New, Measure, Term, Clear, Len.

func TestNewHasNoMeasures(t *testing.T) {
	for _, limit := range limits {
		c := clock.New(limit)
		wantLen(t, c, 0)
		wantTerm(t, c, 0)
	}
}

func TestMeasures(t *testing.T) {
	c := clock.New(10)
	for i, x := range []struct{ n, many, term int }{
		{5, 1, 5}, {-2, 2, 1}, {4, 3, 4}, {-9, 4, 1}, // 5 -2 4 -9
		{6, 4, 1},    // -2 4 -9 6
		{-10, 4, -3}, // 4 -9 6 -10: of -9 and 4
		{8, 4, -2},   // -9 6 -10 8: of -9 and 6
		{8, 4, 7},    // 6 -10 8 8: of 6 and 8
		{10, 4, 8},   // -10 8 8 10
		{-1, 4, 8},   // 8 8 10 -1
	} {
		c.Measure(x.n)
		if n, ok := c.Term(); n != x.term || !ok || c.Len() != x.many {
			t.Errorf("%d: got %d, %v, of %d, want %d, of %d", i, n, ok, c.Len(), x.term, x.many)
		}
	}
}

// Of four measures and fewer, in any order, the Term is their Average.
func TestTermIsTheAverage(t *testing.T) {
	for many := range 5 {
		for _, numbers := range [][]int{from(-3, 3), atBounds} {
			eachList(many, numbers, func(l []int) {
				c := of(wide, l...)
				wantLen(t, c, many)
				wantTerm(t, c, average(l))
			})
		}
	}
}

// Of more than four the last four count, whatever was ahead of them.
func TestTheOldestGoes(t *testing.T) {
	for many := 5; many <= 7; many++ {
		eachList(many, []int{-7, 0, 2, 100}, func(l []int) {
			c := of(wide, l...)
			wantLen(t, c, 4)
			wantTerm(t, c, average(l[many-4:]))
		})
	}
}

func TestTheOldestGoesEachTime(t *testing.T) {
	c := clock.New(wide)
	var l []int
	for i := range 5000 {
		n := (i*i*37+i*11)%2001 - 1000
		c.Measure(n)
		l = append(l, n)
		last := l[max(0, len(l)-4):]
		wantLen(t, c, len(last))
		wantTerm(t, c, average(last))
	}
}

// The Term is there just at -limit and limit, and one beyond is not.
func TestLimit(t *testing.T) {
	for _, limit := range limits {
		for many := 1; many <= 6; many++ {
			all := func(n int) *clock.Clock {
				c := clock.New(limit)
				for range many {
					c.Measure(n)
				}
				return c
			}
			for _, n := range []int{-limit, -limit + limit/2, 0, limit - limit/3, limit} {
				wantTerm(t, all(n), n)
			}
			for _, n := range []int{-limit - 1, limit + 1, -limit - 2, limit + 2, -3*limit - 7, 3*limit + 7} {
				wantNoTerm(t, all(n))
				wantLen(t, all(n), min(many, 4))
			}
		}
	}
}

// What counts is the Average, not each measure, and it is rounded down ahead of that.
func TestLimitOfTheAverage(t *testing.T) {
	wantTerm(t, of(10, 11, 9), 10)
	wantTerm(t, of(10, 11, 10), 10)
	wantNoTerm(t, of(10, 11, 11))
	wantTerm(t, of(10, -11, -9), -10)
	wantNoTerm(t, of(10, -11, -10))
	wantTerm(t, of(10, -far, far), 0)
	wantTerm(t, of(10, -far, far, 10), 10)
	wantTerm(t, of(10, far, far, -10, -far, far, 10, -far, -10), 0)
	wantTerm(t, of(0, 1, 0), 0)
	wantNoTerm(t, of(0, -1, 0))
	wantTerm(t, of(0, -1, 1), 0)
	for limit := range 8 {
		for many := range 5 {
			eachList(many, []int{-9, -6, -1, 0, 3, 8}, func(l []int) {
				if n := average(l); n < -limit || n > limit {
					wantNoTerm(t, of(limit, l...))
				} else {
					wantTerm(t, of(limit, l...), n)
				}
			})
		}
	}
}

// Whether there is a Term hangs on the measures that there are now, not on those that went.
func TestLimitIsAskedEachTime(t *testing.T) {
	c := of(5, 6)
	wantNoTerm(t, c)
	c.Measure(4)
	wantTerm(t, c, 5)
	c.Measure(100)
	wantNoTerm(t, c) // of 6 alone
	c.Measure(-100)
	wantTerm(t, c, 5) // of 6 and 4
	c.Measure(-101)
	wantNoTerm(t, c) // of 4 and -100
	c.Measure(100)
	wantTerm(t, c, 0) // of 100 and -100
}

// From one above nought to one below it there is no number: there is never a Term, not even without measures.
func TestLimitBelowNought(t *testing.T) {
	for _, limit := range []int{-1, -2, -1000, -far, math.MinInt, math.MinInt + 1} {
		c := clock.New(limit)
		wantNoTerm(t, c)
		for _, n := range []int{0, limit, 1, -1, 1000, far, math.MinInt, math.MaxInt} {
			c := of(limit, n)
			wantNoTerm(t, c)
			wantLen(t, c, 1)
			c.Clear()
			wantNoTerm(t, c)
			wantLen(t, c, 0)
		}
	}
}

// W10: the greatest limit of all leaves out the least number of all alone.
func TestGreatestLimit(t *testing.T) {
	c := of(math.MaxInt, math.MinInt)
	wantNoTerm(t, c)
	for _, n := range []int{math.MaxInt, math.MinInt + 1, 0, far} {
		wantTerm(t, of(math.MaxInt, n), n)
		wantTerm(t, of(math.MaxInt, n, n, n, n, n), n)
	}
	wantTerm(t, of(math.MaxInt, math.MaxInt, math.MinInt), -1)
}

func TestClear(t *testing.T) {
	for many := range 10 {
		c := clock.New(10)
		for i := range many {
			c.Measure(1000 + i)
		}
		for range 2 {
			c.Clear()
			wantLen(t, c, 0)
			wantTerm(t, c, 0)
		}
	}
}

// Behind Clear no measure of ahead of it counts, and the limit is the same.
func TestBehindClear(t *testing.T) {
	for ahead := range 10 {
		c := clock.New(10)
		for i := range ahead {
			c.Measure(1000 + i)
		}
		c.Clear()
		var l []int
		for i := range 7 {
			n := 10 - i*i%5
			c.Measure(n)
			l = append(l, n)
			last := l[max(0, len(l)-4):]
			wantLen(t, c, len(last))
			wantTerm(t, c, average(last))
		}
		c.Clear()
		c.Measure(11)
		wantNoTerm(t, c)
		c.Clear()
		c.Measure(-11)
		wantNoTerm(t, c)
		c.Clear()
		c.Measure(-10)
		wantTerm(t, c, -10)
	}
}
