package ward_test

import (
	"testing"

	"matron/api"
	"matron/ward"
)

// P0.1, P12.1 and P12.2: of each script each answer, and all that all nodes tell behind each act, is the book's.

// some is an act, most often one that may be.
func some(d *dice, n int) api.Act {
	a := api.Act{Kind: 1 + d.below(5), Node: d.below(n), N: d.of(0, 0, 1, 2, 3, 4, -1), Data: d.row(8)}
	switch a.Kind {
	case api.ActOn:
		a.N = d.of(0, 7, -20, 35, 1000, -1000, 1001, -1001)
	case api.ActWrite:
		a.Data = d.row(d.of(1, 2, 9))
	case api.ActSlot:
		a.Node = d.of(0, -1, 99)
		for range d.of(0, 0, 0, 1, 1, 1, 2, 3, 4, 5) {
			a.Faults = append(a.Faults, someFault(d, n))
		}
	}
	if d.below(40) == 0 {
		a.Kind = d.of(0, 6, -1, 99)
	}
	if d.below(40) == 0 {
		a.Node = d.of(-1, n, n+1, 8, 99)
	}
	return a
}

func someFault(d *dice, n int) api.Fault {
	f := api.Fault{Kind: 1 + d.below(7), N: d.below(n), At: d.of(0, 0, 0, 1, -3, 8, 17, 20, -20, window, -window, window+1, -window-1, 90, -400)}
	if f.Kind == api.Block || f.Kind == api.Leak {
		f.N = d.below(2)
	}
	if f.Kind == api.Babble {
		f.Data = d.row(24)
		if d.below(2) == 0 {
			f.Data = spelt(d.of(api.Info, api.Cold), c(d.below(70000)%65536, d.below(n), d.below(256)), d.row(8))
		}
	}
	if d.below(30) == 0 {
		f.N = d.of(n, 7, 8, -1)
	}
	if d.below(60) == 0 {
		f.Kind = d.of(0, 8, -1)
	}
	return f
}

// someTable is one of any number of nodes, any of which may begin, of some of which no clock counts.
func someTable(d *dice) api.Table {
	n := 4 + d.below(5)
	x := begun(n, d.below(n))
	for i := range x.Nodes {
		x.Nodes[i].Info = d.below(3) == 0
	}
	for range d.below(n - 3) {
		x.Nodes[d.below(n)].Sync = false
	}
	x.Drift = d.of(0, 1, drift, drift)
	if d.below(4) == 0 {
		x.Limit = x.Window
	}
	return x
}

func someDrifts(d *dice, x api.Table) []int {
	l := none(x)
	for i := range l {
		l[i] = d.below(2*x.Drift+1) - x.Drift
	}
	return l
}

func anyRules(d *dice) []api.Rule {
	l := make([]api.Rule, d.below(api.MaxRules+1))
	for i := range l {
		low := d.below(256)
		l[i] = api.Rule{Node: d.below(8), Low: low, High: low + d.below(256-low), Stale: d.below(3)}
	}
	return l
}

// pair is a Ward and the book's.
type pair struct {
	w *ward.Ward
	b *book
}

func somePair(t *testing.T, d *dice) pair {
	x := someTable(d)
	drifts, rules := someDrifts(d, x), anyRules(d)
	return pair{made(t, x, drifts, rules), bookOf(x, drifts, rules)}
}

func (p pair) does(t *testing.T, a api.Act) {
	t.Helper()
	got, want := p.w.Step(a), p.b.Step(a)
	if got != want {
		t.Errorf("behind %d slots: Step(%v): got %v, want %v", p.w.Slots(), a, got, want)
	}
	if wantAll(t, a, all(p.w), all(p.b)); t.Failed() {
		t.FailNow()
	}
}

// seen is how often a node came from one state to another.
type seen map[[2]int]int

// play has a script be played of which one act in so many is no slot without faults, or none but slots if it is calm.
func play(t *testing.T, p pair, d *dice, l seen, rare int, calm bool) {
	n := p.b.Nodes()
	for range api.MaxActs {
		a := slot()
		if d.below(rare) == 0 {
			a = some(d, n)
		}
		if i := d.below(n); d.below(4) == 0 && (p.b.State(i) == api.Off || p.b.State(i) == api.Frozen) {
			a = on(i, d.of(0, 0, 3, -9, 15, 400))
		}
		if calm {
			a.Faults = nil
		}
		was := all(p.b)
		p.does(t, a)
		for i := range n {
			l[[2]int{was.l[i+1].state, p.b.State(i)}]++
		}
	}
}

func (l seen) want(t *testing.T, ways ...[2]int) {
	t.Helper()
	for _, way := range ways {
		if l[way] < 5 {
			t.Errorf("from %d to %d: only %d times", way[0], way[1], l[way])
		}
	}
}

func TestScripts(t *testing.T) {
	l := seen{}
	for i := range 150 {
		d := dice(i)
		play(t, somePair(t, &d), &d, l, d.of(2, 5, 20, 60), false)
	}
	l.want(t, [2]int{api.Off, api.Listen}, [2]int{api.Listen, api.Off}, [2]int{api.Listen, api.Listen}, [2]int{api.Listen, api.Begun},
		[2]int{api.Listen, api.Passive}, [2]int{api.Begun, api.Off}, [2]int{api.Begun, api.Listen}, [2]int{api.Begun, api.Active}, [2]int{api.Begun, api.Passive},
		[2]int{api.Passive, api.Off}, [2]int{api.Passive, api.Active}, [2]int{api.Active, api.Off}, [2]int{api.Active, api.Listen},
		[2]int{api.Active, api.Frozen}, [2]int{api.Frozen, api.Off}, [2]int{api.Frozen, api.Listen})
}

// Without faults nodes begin, join, are off, are lost, and are on again.
func TestScriptsWithoutFaults(t *testing.T) {
	l := seen{}
	for i := range 60 {
		d := dice(1000 + i)
		play(t, somePair(t, &d), &d, l, d.of(2, 10, 40), true)
	}
	l.want(t, [2]int{api.Listen, api.Begun}, [2]int{api.Listen, api.Passive}, [2]int{api.Begun, api.Listen}, [2]int{api.Begun, api.Active},
		[2]int{api.Passive, api.Active}, [2]int{api.Active, api.Off}, [2]int{api.Active, api.Listen})
}

// Rounds go on behind MaxRound at 0.
func TestBehindMaxRound(t *testing.T) {
	d := dice(7)
	for n := api.MinNodes; n <= api.MaxNodes; n++ {
		x := of(n)
		p := pair{made(t, x, none(x), someRules()), bookOf(x, none(x), someRules())}
		for i := range n {
			p.does(t, on(i, 0))
		}
		p.does(t, slot(babble(n-1, spelt(api.Info, c(api.MaxRound-1, n-1, 1<<(n-1)), []byte{1})...)))
		for range 5 * n {
			p.does(t, write(d.below(n), byte(d.below(256))))
			p.does(t, slot())
		}
		// All but the one that babbled joined by that, in the round ahead of MaxRound; it joined by what node 0 said.
		want(t, p.w, 0, api.Active, c(4, 0, everybody(n)), 0)
	}
}
