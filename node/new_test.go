package node_test

import (
	"slices"
	"testing"

	"matron/api"
	"matron/node"
)

// P10.1: New, On, Off, Write.

// wantOff: it is Off, and tells nothing.
func wantOff(t *testing.T, n *node.Node, time int) {
	t.Helper()
	want(t, n, api.Off, api.CState{}, time)
	wantEmpty(t, n)
	wantSend(t, n, nil)
	n.Take(both(info(c(1, 0, 1)), 9))
	n.Take(both(info(c(1, 1, 2)), 9))
	n.Take(quiet)
	want(t, n, api.Off, api.CState{}, time)
	wantEmpty(t, n)
}

func TestNew(t *testing.T) {
	for n := api.MinNodes; n <= api.MaxNodes; n++ {
		x := plain(n)
		for i := range n {
			for _, drift := range []int{-5, -4, -1, 0, 1, 4, 5} {
				wantOff(t, made(t, x, i, drift), 0)
			}
			for _, rules := range [][]api.Rule{{}, someRules(), {{Node: 7, High: 255, Stale: api.MaxRound}}, slices.Repeat(someRules()[:1], api.MaxRules)} {
				a := made(t, x, i, 0, rules...)
				wantOff(t, a, 0)
				for rule := range api.MaxRules {
					if a.Rings(rule) != 0 {
						t.Error("rings ahead of the first round")
					}
				}
			}
		}
	}
	for _, x := range []struct{ drift, window, limit int }{{0, 2, 2}, {0, 1000, 1000}, {1, 6, 6}, {249, 998, 1000}} {
		y := plain(4)
		y.Drift, y.Window, y.Limit = x.drift, x.window, x.limit
		for _, drift := range []int{x.drift, -x.drift} {
			wantOff(t, made(t, y, 3, drift), 0)
		}
		for _, drift := range []int{x.drift + 1, -x.drift - 1} {
			wantRefused(t, y, 3, drift, nil)
		}
	}
}

func wantRefused(t *testing.T, x api.Table, i, drift int, rules []api.Rule) {
	t.Helper()
	if n, e := node.New(x, i, drift, rules); n != nil || e != api.ErrArg {
		t.Errorf("New(%v, %d, %d, %v): got %v, %v, want none, ErrArg", x, i, drift, rules, n, e)
	}
}

// notTables are tables that may not be, each for one thing alone, but the first ones.
func notTables() []api.Table {
	l := []api.Table{{}, {Nodes: []api.Def{}}, {Nodes: make([]api.Def, 4), Drift: 5, Window: 40, Limit: 100}}
	for _, n := range []int{1, 2, 3, 9, 10, 260} {
		y := plain(n)
		for i := range y.Nodes {
			y.Nodes[i].Listen = 200 - i%180
		}
		l = append(l, y)
	}
	for _, x := range []struct{ drift, window, limit int }{{-1, 40, 100}, {10, 41, 100}, {5, 21, 100}, {5, -40, 100}, {5, 40, 39}, {5, 40, 1001}, {5, 1001, 1001}} {
		y := plain(4)
		y.Drift, y.Window, y.Limit = x.drift, x.window, x.limit
		l = append(l, y)
	}
	for _, d := range []api.Def{{Listen: 20, Size: 1}, {Sync: true, Listen: 7, Size: 1}, {Sync: true, Listen: 201, Size: 1}, {Sync: true, Listen: 11, Size: 1}, {Sync: true, Listen: 20}, {Sync: true, Listen: 20, Size: 9}} {
		y := plain(4)
		y.Nodes[3] = d
		l = append(l, y)
	}
	return append(l, of(8, 7, 0), of(8, 0, 255))
}

var notRules = [][]api.Rule{
	{{Node: -1}}, {{Node: 8}}, {{Low: -1}}, {{Low: 1}}, {{High: -1}}, {{High: 256}}, {{Low: 256, High: 256}}, {{Stale: -1}}, {{Stale: api.MaxRound + 1}},
	{{}, {}, {Low: 9, High: 8}}, make([]api.Rule, api.MaxRules+1), make([]api.Rule, 300),
}

func TestNewOfWhatMayNotBe(t *testing.T) {
	for _, x := range notTables() {
		for _, i := range []int{0, 1, 3, -1, len(x.Nodes)} {
			wantRefused(t, x, i, 0, nil)
			wantRefused(t, x, i, 0, notRules[1])
			wantRefused(t, x, i, 1000, notRules[0])
		}
	}
	for n := api.MinNodes; n <= api.MaxNodes; n++ {
		x := plain(n)
		for _, i := range append([]int{-1, n, n + 1, 8, 9}, beyond...) {
			wantRefused(t, x, i, 0, nil)
			wantRefused(t, x, i, 6, notRules[0])
		}
		for i := range n {
			for _, drift := range append([]int{6, 7, -6, 40, 100, 1000}, beyond[4:]...) {
				wantRefused(t, x, i, drift, nil)
				wantRefused(t, x, i, drift, someRules())
				wantRefused(t, x, i, drift, notRules[0])
			}
			for _, rules := range notRules {
				wantRefused(t, x, i, 0, rules)
				wantRefused(t, x, i, 5, rules)
			}
		}
	}
}

var (
	goodTimes = []int{-1000, -999, -1, 0, 1, 6, 999, 1000}
	badTimes  = slices.Concat([]int{-1001, 1001, -1002, 2000}, beyond[11:])
)

// From Off and from Frozen it listens, at that time; whatever it was till then is gone, but its data and what rings.
func TestOn(t *testing.T) {
	for _, state := range []int{api.Off, api.Frozen} {
		for _, at := range goodTimes {
			n := inState(t, state)
			rings := all(n).rings
			if e := n.On(at); e != api.OK {
				t.Errorf("On(%d): got %v", at, e)
			}
			wantAll(t, n, tells{state: api.Listen, time: at, reads: all(made(t, plain(4), 0, 0)).reads, rings: rings})
			passes(n, quiets(15)...)
			want(t, n, api.Listen, api.CState{}, at)
			wantSend(t, n, cold(c(0, 2, 4), 7, 8))
		}
	}
}

// ErrArg is ahead of ErrState; and with both nothing changes.
func TestOnErrs(t *testing.T) {
	for _, state := range states {
		l := append(slices.Clone(badTimes), goodTimes...)
		for _, at := range l {
			e := api.ErrArg
			if slices.Contains(goodTimes, at) {
				e = api.ErrState
			}
			if e == api.ErrState && (state == api.Off || state == api.Frozen) {
				continue
			}
			n := inState(t, state)
			was := all(n)
			for range 3 {
				if got := n.On(at); got != e {
					t.Errorf("On(%d) in state %d: got %v, want %v", at, state, got, e)
				}
				wantAll(t, n, was)
			}
			if at%2 == 0 {
				wantAlike(t, n, inState(t, state))
			}
		}
	}
}

// In each state; it is Off, and no more than its time, its data and what rings stay.
func TestOff(t *testing.T) {
	for _, state := range states {
		n := inState(t, state)
		was := all(n)
		n.Off()
		wantAll(t, n, tells{state: api.Off, time: was.time, reads: all(made(t, plain(4), 0, 0)).reads, rings: was.rings})
		wantOff(t, n, was.time)
		n.Off()
		wantOff(t, n, was.time)
		n.On(was.time)
		passes(n, quiets(15)...)
		wantSend(t, n, cold(c(0, 2, 4), 7, 8))
	}
	n := made(t, plain(4), 0, 0)
	n.Off()
	wantOff(t, n, 0)
}

// What was measured and counted is gone, too.
func TestOffForgets(t *testing.T) {
	for _, state := range states {
		n := inState(t, state)
		n.Off()
		n.On(0)
		passes(n, both(info(c(4, 3, 8)), 0))
		passes(n, quiet)
		want(t, n, api.Passive, c(5, 0, 8), 3) // of its drift alone
		passes(n, noise, quiet)
		wantSend(t, n, info(c(5, 2, 12), 7, 8)) // one agrees, one fails
		n.Take(quiet)

		n = inState(t, state)
		n.Off()
		n.On(0)
		passes(n, both(info(c(4, 3, 8)), 0))
		passes(n, noise, noise, quiet)
		wantSend(t, n, nil) // one agrees, two fail
		want(t, n, api.Passive, c(5, 2, 8), 3)
	}
}

func TestWrite(t *testing.T) {
	for i := range 8 {
		x := plain(8)
		size := x.Nodes[i].Size
		for many := range size + 1 {
			n := on(t, x, i, 0)
			data := []byte{11, 12, 13, 14, 15, 16, 17, 18}[:many]
			if e := n.Write([]byte{99}); e != api.OK {
				t.Error(e)
			}
			if e := n.Write(data); e != api.OK {
				t.Errorf("Write of %d at most %d: %v", many, size, e)
			}
			for _, more := range []int{size + 1, size + 2, 9, 16, 255, 256 + size, 65536 + many} {
				if e := n.Write(make([]byte, more)); e != api.ErrArg {
					t.Errorf("Write of %d at most %d: %v", more, size, e)
				}
			}
			passes(n, quiets(x.Nodes[i].Listen-1)...)
			wantSend(t, n, cold(c(0, i, 1<<i), data...))
		}
	}
	n := made(t, plain(4), 1, 0)
	if n.Write(nil) != api.OK || n.Write([]byte{}) != api.OK || n.Write(make([]byte, 7)) != api.ErrArg || n.Write([]byte{1, 2, 3, 4, 5, 6}) != api.OK || n.Write(make([]byte, 7)) != api.ErrArg {
		t.Error("Write")
	}
}

// What is written in whatever state is what is sent from then on; it changes nothing else.
func TestWriteInEachState(t *testing.T) {
	for _, state := range states {
		n := inState(t, state)
		was := all(n)
		if e := n.Write([]byte{1}); e != api.OK {
			t.Error(e)
		}
		wantAll(t, n, was)
		if e := n.Write([]byte{1, 2, 3, 4}); e != api.ErrArg {
			t.Error(e)
		}
		wantAll(t, n, was)
		for range 3 {
			n.Off()
			n.On(0)
			passes(n, quiets(15)...)
			wantSend(t, n, cold(c(0, 2, 4), 1))
			n.Take(quiet)
		}
		passes(n, both(info(c(0, 3, 12)), 0), quiet, quiet, quiet)
		wantSend(t, n, info(c(1, 2, 12), 1))
		n.Take(quiet)
		n.Write(nil)
		passes(n, both(info(c(1, 3, 12)), 0), quiet, quiet, quiet)
		n.Write([]byte{4, 5, 6})
		wantSend(t, n, info(c(2, 2, 12), 4, 5, 6))
		n.Write([]byte{9})
		n.Take(quiet)
		passes(n, both(info(c(2, 3, 12)), 0), quiet, quiet, quiet)
		wantSend(t, n, normal(c(3, 2, 12), 9))
	}
}
