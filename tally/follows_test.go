package tally_test

import (
	"testing"

	"matron/api"
	"matron/tally"
)

// P7.3 (and W8): a nil Tally is one to which nothing happens.
func TestNilTally(t *testing.T) {
	var x *tally.Tally
	wantNothing := func() {
		t.Helper()
		if v := look(x); v != (view{}) {
			t.Errorf("got %+v", v)
		}
		for node := range api.MaxNodes {
			if x.Is(node) {
				t.Errorf("Is(%d)", node)
			}
		}
		for _, node := range noNodes {
			if x.Is(node) {
				t.Errorf("Is(%d)", node)
			}
		}
	}
	wantNothing()
	for _, a := range acts {
		for node := range api.MaxNodes {
			a.does(x, node)
			wantNothing()
		}
		for _, node := range noNodes {
			a.does(x, node)
			wantNothing()
		}
	}
}

// W1: of one that New did not make nothing is said, but every call ends, and none panics.
func TestTallyWithoutNew(t *testing.T) {
	var x tally.Tally
	for _, a := range acts {
		for node := -2; node < 10; node++ {
			look(&x)
			x.Is(node)
			a.does(&x, node)
		}
	}
}

// W8: of a Tally that is copied as a value the copy alone may go on, and it does as the first one would.
func TestCopy(t *testing.T) {
	for ahead := range 60 {
		d := dice(ahead)
		m := model{first: 0x96}
		x := tally.New(m.first)
		for range ahead {
			m.do(x, d.below(len(acts)), d.node())
		}
		y := *x
		want(t, &y, m.view())
		for range 60 {
			m.do(&y, d.below(len(acts)), d.node())
			want(t, &y, m.view())
		}
	}
}
