package audit_test

import (
	"testing"

	"matron/api"
	"matron/audit"
)

// P0.3: in such scripts the clocks of all who were not hit are no further apart than two times Drift.

func TestNearClocks(t *testing.T) {
	farthest := 0
	for i := range 150 {
		d := dice(i)
		b := someBed(t, &d)
		b.playFair(t, &d, 20, b.wantClocks)
		if b.x.Drift > 0 && audit.Spread(b.w, b.hit) == 2*b.x.Drift {
			farthest++
		}
	}
	if farthest < 20 {
		t.Errorf("they were as far apart as may be only %d times", farthest)
	}
}

// Clocks that were not turned would be farther apart after a second round, whoever is hit: all who run fast on one side, all who run slow on the other one.
func TestClocksOfManyRounds(t *testing.T) {
	for n := api.MinNodes; n <= api.MaxNodes; n++ {
		for fast := range 1 << n {
			d := dice(fast)
			x := windowed(of(n, 0), 30, 122, 130)
			l := none(x)
			for i := range l {
				l[i] = -30
				if has(fast, i) {
					l[i] = 30
				}
			}
			b := bedOf(t, x, l, none(x))
			for range 4 {
				b.slot(t, b.someFair(&d, d.of(api.Deaf, api.Omit, api.Babble, api.Late, api.Garble), fast%n))
				b.wantClocks(t)
				for range 3 * n {
					b.slot(t)
					b.wantClocks(t)
				}
			}
			b.wantFair(t, 1)
		}
	}
}

// All begin at the time of who waits least, whatever their own ones are.
func TestClocksOfABeginning(t *testing.T) {
	eachTable(func(x api.Table) {
		for _, at := range []int{-1000, -1, 0, 999, 1000} {
			ats := none(x)
			for i := range ats {
				ats[i] = at * (1 - 2*(i%2))
			}
			b := bedOf(t, x, apart(x), ats)
			for range 4 * b.n() {
				b.wantClocks(t)
				b.slot(t)
			}
		}
	})
}
