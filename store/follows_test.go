package store_test

import (
	"testing"

	"matron/api"
	"matron/store"
)

// P8.2, and all of P8.1 against the model.

func TestScripts(t *testing.T) {
	var d dice
	for script := range 300 {
		var m model
		s := store.New()
		want(t, s, m.view())
		for range script {
			a := d.act()
			m.do(s, a)
			want(t, s, m.view())
			if a.node < 0 || a.node >= api.MaxNodes {
				wantOf(t, s, a.node, never)
			}
		}
	}
}

// A read takes nothing away: of two Stores to which the same is done, the one that is asked is as the other one.
func TestAskingChangesNothing(t *testing.T) {
	asked, other := store.New(), store.New()
	var d dice
	var m model
	for range 500 {
		a := d.act()
		m.do(asked, a)
		a.do(other)
		for range 4 {
			want(t, asked, m.view())
			asked.Get(d.node())
		}
	}
	want(t, other, m.view())
}

// P8.2: a nil Store is as New's, whatever is done to it.
func TestNilStore(t *testing.T) {
	var s *store.Store
	wantNothing := func() {
		t.Helper()
		want(t, s, nothing())
		for _, node := range noNodes {
			wantOf(t, s, node, never)
		}
	}
	wantNothing()
	for node := range api.MaxNodes {
		for many := range 12 {
			s.Put(node, row(node, many))
			wantNothing()
		}
		s.Member(node, true)
		wantNothing()
		s.Age()
		wantNothing()
		s.Member(node, false)
		s.Clear()
		wantNothing()
	}
	for _, node := range noNodes {
		s.Put(node, []byte{1})
		s.Put(node, nil)
		s.Member(node, true)
		wantNothing()
	}
}

// W1: of one that New did not make nothing is said, but every call ends, and none panics.
func TestStoreWithoutNew(t *testing.T) {
	for kind := range 4 {
		var s store.Store
		for node := -2; node < 10; node++ {
			for many := range 10 {
				s.Get(node)
				act{kind, node, row(node, many), many%2 == 0}.do(&s)
			}
		}
	}
}

// W8: of a Store that is copied as a value the copy alone may go on, and it does as the first one would.
func TestCopy(t *testing.T) {
	for ahead := range 80 {
		d := dice(ahead)
		var m model
		s := store.New()
		for range ahead {
			m.do(s, d.act())
		}
		c := *s
		want(t, &c, m.view())
		for range 80 {
			m.do(&c, d.act())
			want(t, &c, m.view())
		}
	}
}
