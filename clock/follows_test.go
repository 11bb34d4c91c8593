package clock_test

import (
	"math"
	"testing"

	"matron/clock"
)

// P5.3: of measures that are all less one number the Average is less it.

func TestAllLessOneNumber(t *testing.T) {
	for many := 1; many <= 4; many++ {
		eachList(many, []int{-1000, -7, -2, 0, 1, 5, 998}, func(l []int) {
			was := clock.Average(l)
			for _, by := range []int{-far / 2, -1001, -3, -2, -1, 1, 2, 3, 7, 1000, far / 2} {
				wantAverage(t, was-by, less(l, by)...)
			}
		})
	}
}

// Less by as much as there is room for, from one bound to the other.
func TestAllLessOneGreatNumber(t *testing.T) {
	for many := 1; many <= 4; many++ {
		eachList(many, []int{far, far - 1, far - 4, far - 9}, func(l []int) {
			was := clock.Average(l)
			for _, by := range []int{1, 2, far, far + 1, 2*far - 10, 2*far - 9} {
				wantAverage(t, was-by, less(l, by)...)
			}
		})
	}
}

func TestTermOfAllLessOneNumber(t *testing.T) {
	for many := 1; many <= 6; many++ {
		eachList(many, []int{-6, 1, 3, 20}, func(l []int) {
			was, _ := of(wide, l...).Term()
			for _, by := range []int{-9, -1, 1, 4, 500} {
				wantTerm(t, of(wide, less(l, by)...), was-by)
			}
		})
	}
}

// P5.3 (and W8): a nil Clock is one to which nothing happens.

func TestNilClock(t *testing.T) {
	var c *clock.Clock
	wantNothing := func() {
		t.Helper()
		wantLen(t, c, 0)
		wantTerm(t, c, 0)
	}
	wantNothing()
	for _, n := range append([]int{math.MinInt, math.MaxInt}, atBounds...) {
		for range 6 {
			c.Measure(n)
			wantNothing()
		}
		c.Clear()
		wantNothing()
	}
}

// W8: of a Clock that is copied as a value the copy alone may go on, and it does as the first one would.
func TestCopy(t *testing.T) {
	for many := range 9 {
		eachList(2, []int{-20, -1, 3, 30}, func(more []int) {
			c := clock.New(10)
			for i := range many {
				c.Measure(i*7%5 - 2)
			}
			d := *c
			for _, n := range more {
				c.Measure(n)
			}
			want, ok := c.Term()
			for _, n := range more {
				d.Measure(n)
			}
			if n, o := d.Term(); n != want || o != ok || d.Len() != c.Len() {
				t.Error(many, more, n, o, d.Len())
			}
		})
	}
}
