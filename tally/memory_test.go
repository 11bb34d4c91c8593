package tally_test

import (
	"sync"
	"testing"

	"matron/api"
	"matron/tally"
)

// W2: what is asked of a Tally changes nothing, and as often as it is asked it answers the same.
func TestAskingChangesNothing(t *testing.T) {
	asked, other := tally.New(0x6c), tally.New(0x6c)
	var d dice
	for range 300 {
		act, node := d.below(len(acts)), d.node()
		acts[act].does(asked, node)
		acts[act].does(other, node)
		first := look(asked)
		for k := range 4 {
			asked.Is(k * 3)
			asked.Is(-k)
			want(t, asked, first)
		}
		want(t, other, first)
	}
}

// A Tally has nothing of another one, of like members too, whatever becomes of it.
func TestTalliesAreApart(t *testing.T) {
	a, b, c := tally.New(0x35), tally.New(0x35), tally.New(0)
	for node := range api.MaxNodes {
		a.Right(node)
		a.Wrong(7 - node)
		want(t, b, of(0x35, 0, 0))
		want(t, c, of(0, 0, 0))
	}
	b.Wrong(0)
	c.Right(6)
	a.Clear()
	want(t, b, of(0x34, 0, 1))
	want(t, c, of(0x40, 1, 0))
	tally.New(0xff)
	want(t, b, of(0x34, 0, 1))
}

// W9: each goroutine may have its own Tally, beside all others.
func TestNothingHangsOnOtherCalls(t *testing.T) {
	var wait sync.WaitGroup
	for i := range 8 {
		wait.Go(func() {
			m, d := model{first: i * 31}, dice(i)
			x := tally.New(m.first)
			for range 150 {
				m.do(x, d.below(len(acts)), d.node())
				want(t, x, m.view())
			}
		})
	}
	wait.Wait()
}
