package node_test

import (
	"testing"

	"matron/api"
	"matron/node"
)

// P10.5, and all of P10.1 to P10.4 against the model.

// W8, too: a nil Node is one to which nothing happens.
func TestNilNode(t *testing.T) {
	var n *node.Node
	wantNothing := func() {
		t.Helper()
		want(t, n, 0, api.CState{}, 0)
		wantEmpty(t, n)
		for _, i := range append([]int{-1, 0, 1, 7, 8}, beyond...) {
			wantRead(t, n, i, never)
			if n.Rings(i) != 0 || n.Ack(i) != api.ErrArg {
				t.Error("a nil Node rings, or is acknowledged:", i)
			}
		}
		if n.Write(nil) != api.ErrArg || n.Write([]byte{}) != api.ErrArg || n.Write([]byte{1}) != api.ErrArg || n.Write(make([]byte, 99)) != api.ErrArg {
			t.Error("a nil Node is written")
		}
	}
	wantNothing()
	for _, at := range append(goodTimes, badTimes...) {
		if e := n.On(at); e != api.ErrArg {
			t.Errorf("On(%d): got %v", at, e)
		}
		wantNothing()
	}
	for _, h := range []api.Heard{quiet, noise, both(bad, 1), both(info(c(1, 0, 1), 1), 9), both(cold(c(1, 3, 1), 1), 9)} {
		wantSend(t, n, nil)
		n.Take(h)
		wantNothing()
		n.Off()
		wantNothing()
	}
}

// W1: of one that New did not make nothing is said, but every call ends, and none panics.
func TestNodeWithoutNew(t *testing.T) {
	var n node.Node
	var d dice
	for i := range 3000 {
		if i%50 == 0 {
			n.Off()
		}
		n.On(i % 2000)
		n.Write(d.row(2))
		n.Send()
		n.Take(some(&d, api.CState{Slot: d.below(8)}, 4))
		all(&n)
		n.Ack(i % 3)
	}
}

// Send and Take by no turns, of which the chapter does not speak: nothing panics, whatever is heard, and the node tells what may be told.
func TestByNoTurns(t *testing.T) {
	for n := api.MinNodes; n <= api.MaxNodes; n++ {
		x := of(n, 255, 2)
		for i := range n {
			d := dice(n*8 + i)
			a := on(t, x, i, 3, someRules()...)
			for range 1500 {
				switch d.below(10) {
				case 0, 1, 2, 3:
					for range 1 + d.below(4) {
						a.Send()
					}
				case 4:
					for range d.below(40) {
						a.Send()
					}
				case 5:
					if d.below(20) == 0 {
						a.Off()
					}
					a.On(d.below(9))
				default:
					for range 1 + d.below(4) {
						a.Take(some(&d, a.View(), n))
					}
				}
				if s := a.View(); s.Slot < 0 || s.Slot >= n || s.Round < 0 || s.Round > api.MaxRound || s.Members < 0 || s.Members > 255 || a.State() < api.Off || a.State() > api.Frozen {
					t.Fatal("got", a.State(), s)
				}
			}
		}
	}
}

// An Offset beyond the chapter's bounds panics nowhere.
func TestOffsetsBeyond(t *testing.T) {
	for _, offset := range beyond {
		n := on(t, plain(4), 0, 5)
		passes(n, both(info(c(1, 3, 8)), offset))
		for range 9 {
			passes(n, both(info(own(n)), offset))
		}
		all(n)
	}
}

// some is what may be heard in a slot of a table of n nodes by one that has this C-state.
func some(d *dice, s api.CState, n int) api.Heard {
	s.Members |= 1 << s.Slot
	offset := d.of(0, 1, -2, d.below(40)-20, d.below(40)-20, 100, -100, 101, -101)
	if d.below(20) == 0 {
		offset = d.of(far, -far, 400, -400)
	}
	h := api.Heard{Offset: offset}
	right := told(1+d.below(2), s, d.row(8)...)
	switch d.below(12) {
	case 0:
		return quiet
	case 1:
		return noise
	case 2, 3:
		h.A, h.X = channel(d, s, n)
		h.B, h.Y = channel(d, s, n)
		return h
	case 4:
		h.A, h.X = channel(d, s, n)
		h.B, h.Y = api.Bytes, right
		return h
	case 5:
		h.A, h.X = api.Bytes, right
		h.B, h.Y = channel(d, s, n)
		return h
	}
	return both(right, offset)
}

// channel is what one of them tells, of any kind.
func channel(d *dice, s api.CState, n int) (int, []byte) {
	other := c(s.Round, d.below(n), d.below(256))
	switch d.below(9) {
	case 0:
		return api.Silent, nil
	case 1:
		return api.Noise, nil
	case 2:
		return d.of(api.Silent, api.Noise), told(api.Info, s, 1)
	case 3:
		return api.Bytes, d.row(20)
	case 4:
		return api.Bytes, told(api.Cold, s, d.row(8)...)
	case 5:
		return api.Bytes, told(1+d.below(3), other, d.row(8)...)
	case 6:
		return api.Bytes, told(1+d.below(2), c((s.Round+1)%65536, s.Slot, s.Members), d.row(8)...)
	case 7:
		return api.Bytes, told(1+d.below(2), c(s.Round, s.Slot, s.Members^1<<d.below(8)), d.row(8)...)
	}
	return api.Bytes, told(1+d.below(3), c(d.below(65536), d.below(8), d.below(256)), d.row(8)...)
}

// seen is how often a node came from one state to another.
type seen map[[2]int]int

func (s seen) from(a, b int) { s[[2]int{a, b}]++ }

// script does to a node and its model what the dice say.
func script(p *pair, d *dice, l seen, many int) {
	n := len(p.m.x.Nodes)
	for range many {
		was := p.m.state
		switch d.below(25) {
		case 0:
			p.write(d.row(9))
		case 1, 2:
			p.ack(d.below(5) - 1)
		case 3:
			p.on(d.of(0, 1, -7, 1000, -1000, 1001, -1001))
		case 4:
			if d.below(6) == 0 {
				p.off()
			}
		}
		if was == api.Off || was == api.Frozen || d.below(400) == 0 {
			p.on(d.below(100) - 50)
		}
		if p.m.state == api.Listen && d.below(30) == 0 {
			for range d.below(30) {
				p.send()
				p.take(quiet)
			}
		}
		was = p.m.state
		p.send()
		l.from(was, p.m.state)
		was = p.m.state
		h := some(d, p.m.view(), n)
		if (was == api.Begun || was == api.Passive) && d.below(3) == 0 {
			h = both(info(ownOf(p.m.view())), d.of(far, far, -400)) // or it would hardly ever freeze
		}
		switch {
		case was == api.Listen && d.below(10) != 0:
			h = quiet
		case d.below(40) == 0:
			h = quiet
			for range d.below(n) {
				p.take(h)
				p.send()
			}
		}
		was = p.m.state
		p.take(h)
		l.from(was, p.m.state)
	}
}

// Scripts of all that may be done come from each state to each that there is behind it.
func TestScripts(t *testing.T) {
	var d dice
	l := seen{}
	for i := range 400 {
		n := d.of(4, 5, 6, 7, 8)
		x := of(n, d.of(255, 255, 15, 15<<(n-4)), d.below(256))
		rules := make([]api.Rule, d.below(4))
		for k := range rules {
			low := d.below(256)
			rules[k] = api.Rule{Node: d.below(8), Low: low, High: low + d.below(256-low), Stale: d.below(3)}
		}
		p := pairOf(t, x, d.below(n), d.below(11)-5, rules)
		script(p, &d, l, 40+i/2)
		if t.Failed() {
			t.Fatal("script", i)
		}
	}
	for _, x := range [][2]int{
		{api.Listen, api.Listen}, {api.Listen, api.Begun}, {api.Listen, api.Passive},
		{api.Begun, api.Begun}, {api.Begun, api.Listen}, {api.Begun, api.Active}, {api.Begun, api.Frozen},
		{api.Passive, api.Passive}, {api.Passive, api.Active}, {api.Passive, api.Frozen},
		{api.Active, api.Active}, {api.Active, api.Listen}, {api.Active, api.Frozen},
	} {
		if l[x] < 10 {
			t.Errorf("from %d to %d: only %d times", x[0], x[1], l[x])
		}
	}
}

// The scripts again, but with rounds near MaxRound: what a node joins there goes on at 0.
func TestScriptsNearMaxRound(t *testing.T) {
	for i := range 40 {
		d := dice(i)
		n := 4 + i%5
		p := pairOf(t, of(n, 255, i), i%n, 0, someRules())
		p.on(0)
		p.send()
		p.take(both(info(c(api.MaxRound-i%3, (i+1)%n, 0), 44), 0))
		for range 5 * n {
			p.send()
			h := both(told(1+d.below(2), ownOf(p.m.view()), d.row(8)...), 0)
			if d.below(9) == 0 {
				h = some(&d, p.m.view(), n)
			}
			p.take(h)
		}
	}
}

func ownOf(s api.CState) api.CState {
	s.Members |= 1 << s.Slot
	return s
}

// W8: of a Node that is copied as a value either one alone may go on, and it does as the first one would.
func TestCopy(t *testing.T) {
	for _, state := range states {
		for _, first := range []bool{true, false} {
			n := inState(t, state)
			m := *n
			if first {
				wantAlike(t, n, inState(t, state))
			} else {
				wantAlike(t, &m, inState(t, state))
			}
		}
	}
	for ahead := range 100 {
		d, l := dice(ahead), seen{}
		p := pairOf(t, of(5, 255, 4), ahead%5, 2, someRules())
		script(p, &d, l, ahead)
		m := *p.n
		if ahead%2 == 0 {
			p.n = &m
		}
		p.alike()
		script(p, &d, l, 60)
	}
}
