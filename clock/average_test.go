package clock_test

import (
	"math"
	"testing"

	"matron/clock"
)

// P5.1: Average.

func TestAverageOfNone(t *testing.T) {
	wantAverage(t, 0)
	wantAverage(t, 0, []int{}...)
	wantAverage(t, 0, []int{7, 8, 9}[:0]...)
}

func TestAverageOfOne(t *testing.T) {
	for _, n := range append(from(-1000, 1000), atBounds...) {
		wantAverage(t, n, n)
	}
}

// Of two neither is left out, and half a number goes down, below nought as above.
func TestAverageOfTwo(t *testing.T) {
	for _, x := range []struct{ a, b, want int }{
		{0, 0, 0}, {3, 4, 3}, {3, 5, 4}, {-3, -4, -4}, {-3, -5, -4}, {0, 1, 0}, {-1, 0, -1}, {-1, 1, 0}, {-1, 2, 0}, {-2, 1, -1}, {-3, 2, -1}, {-3, 0, -2},
		{7, 7, 7}, {-7, -7, -7}, {-100, 99, -1}, {-99, 100, 0}, {1000, -1, 499}, {-1000, 1, -500},
		{far, far, far}, {-far, -far, -far}, {far, -far, 0}, {far, far - 1, far - 1}, {-far, -far + 1, -far}, {far, -far + 1, 0}, {far - 1, -far, -1}, {far, 0, far / 2}, {-far, 0, -far / 2}, {-far, 1, -far / 2}, {-far, -1, -far/2 - 1},
	} {
		wantAverage(t, x.want, x.a, x.b)
		wantAverage(t, x.want, x.b, x.a)
	}
}

// Of three the middle one is left, wherever it stands.
func TestAverageOfThree(t *testing.T) {
	for _, x := range [][3]int{{-3, 1, 9}, {1, 2, 3}, {-9, -8, -1}, {1, 5, 5}, {1, 1, 5}, {4, 4, 4}, {-6, -6, 0}, {-6, 0, 0}, {-far, 0, far}, {-far, far, far}, {-far, -far, far}, {-far, far - 1, far}, {-far, -far + 1, far}} {
		for _, at := range [][3]int{{0, 1, 2}, {0, 2, 1}, {1, 0, 2}, {1, 2, 0}, {2, 0, 1}, {2, 1, 0}} {
			wantAverage(t, x[1], x[at[0]], x[at[1]], x[at[2]])
		}
	}
}

// Of four the two in the middle are left, wherever they stand; of several least or greatest ones, one alone goes.
func TestAverageOfFour(t *testing.T) {
	for _, x := range []struct {
		l    [4]int
		want int
	}{
		{[4]int{-3, 1, 2, 9}, 1}, // the chapter's example
		{[4]int{1, 2, 3, 4}, 2}, {[4]int{1, 2, 4, 100}, 3}, {[4]int{-100, -6, -5, 100}, -6}, {[4]int{-4, -3, -2, -1}, -3}, {[4]int{-9, -1, 0, 9}, -1}, {[4]int{-9, -1, 1, 9}, 0},
		{[4]int{9, 9, 9, 9}, 9}, {[4]int{1, 1, 1, 8}, 1}, {[4]int{1, 8, 8, 8}, 8}, {[4]int{1, 1, 8, 8}, 4}, {[4]int{1, 1, 4, 8}, 2}, {[4]int{1, 4, 8, 8}, 6}, {[4]int{1, 4, 4, 8}, 4},
		{[4]int{-8, -8, -8, -1}, -8}, {[4]int{-8, -1, -1, -1}, -1}, {[4]int{-8, -8, -1, -1}, -5}, {[4]int{-8, -8, 5, 5}, -2},
		{[4]int{-far, far, far, far}, far}, {[4]int{-far, -far, -far, far}, -far}, {[4]int{-far, -far, far, far}, 0}, {[4]int{-far, far - 1, far, far}, far - 1}, {[4]int{-far, -far, -far + 1, far}, -far},
	} {
		eachOrder(x.l, func(l []int) { wantAverage(t, x.want, l...) })
	}
}

func eachOrder(of [4]int, do func(l []int)) {
	eachList(4, from(0, 3), func(at []int) {
		if 1<<at[0]|1<<at[1]|1<<at[2]|1<<at[3] == 15 {
			do([]int{of[at[0]], of[at[1]], of[at[2]], of[at[3]]})
		}
	})
}

func TestAverageOfAllShortLists(t *testing.T) {
	for many := range 5 {
		for _, of := range [][]int{from(-5, 5), atBounds, {-1000, -999, -1, 0, 2, 7, 999}} {
			eachList(many, of, func(l []int) { wantAverage(t, average(l), l...) })
		}
	}
}

// W10: the sum of two numbers wraps nowhere, not even of the greatest and of the least that there are.
func TestAverageDoesNotWrap(t *testing.T) {
	most, least := math.MaxInt, math.MinInt
	wantAverage(t, most, most)
	wantAverage(t, least, least)
	wantAverage(t, most, most, most)
	wantAverage(t, least, least, least)
	wantAverage(t, -1, most, least)
	wantAverage(t, most-1, most, most-1)
	wantAverage(t, least, least+1, least)
	wantAverage(t, most, most, most, most)
	wantAverage(t, least, least, least, least)
	wantAverage(t, most, most, most, most, least)
	wantAverage(t, least, most, least, least, least)
	for many := range 5 {
		eachList(many, []int{least, least + 1, -far, 0, 3, most - 1, most}, func(l []int) { wantAverage(t, average(l), l...) })
	}
}

// W1: of more than four, of which nothing is said, it answers, too.
func TestAverageOfMoreThanFour(t *testing.T) {
	for many := 5; many < 200; many++ {
		for _, n := range append([]int{math.MinInt, math.MaxInt}, atBounds...) {
			l := make([]int, many)
			for i := range l {
				l[i] = n - i
			}
			if a, b := clock.Average(l), clock.Average(l); a != b {
				t.Error(l, a, b)
			}
		}
	}
}
