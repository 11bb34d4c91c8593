package node_test

import (
	"bytes"
	"slices"
	"testing"

	"matron/api"
	"matron/node"
)

// P10.3: Take of one that is Begun, Passive or Active.

// eachWay has node 3 of six in slot 1 of a round, with members 0 and 3 at least: Begun, Passive, and Active; its Round is even, then odd.
func eachWay(t *testing.T, do func(n *node.Node)) {
	t.Helper()
	x := of(6, 0x3d, 0) // node 1 has no Sync
	for _, state := range []int{api.Begun, api.Passive, api.Active} {
		for round := range 2 {
			n := made(t, x, 3, 0, api.Rule{Node: 1, Low: 10, High: 20, Stale: 9})
			n.On(0)
			switch state {
			case api.Begun:
				passes(n, quiets(13)...) // it waits for 13
				rights(n, 3)
			case api.Passive:
				passes(n, both(info(c(round, 0, 0x29)), 0))
			case api.Active:
				passes(n, both(info(c(round+5, 0, 0x29)), 0))
				passes(n, quiets(5)...)
				rights(n, 1)
			}
			if n.State() != state || n.View().Slot != 1 || n.View().Members&^0x30 != 9 {
				t.Fatal("not ready:", n.State(), n.View())
			}
			do(n)
		}
	}
}

// wantJudged: behind a slot of node 1 it is a member or not, and what it said last is this; slot 2 begins, and no more has changed.
func wantJudged(t *testing.T, n *node.Node, was tells, member bool, m api.Message) {
	t.Helper()
	was.c.Slot = 2
	was.c.Members &^= 2
	if member {
		was.c.Members |= 2
	}
	was.reads[1] = m
	wantAll(t, n, was)
}

// rightOf are frames that are right in a state, which has their sender as a member.
func rightOf(s api.CState, data ...byte) [][]byte {
	return [][]byte{normal(s, data...), info(s, data...)}
}

// One that is right is a member, with the bytes that it said; in both channels, in one, and whatever is in the other one.
func TestRight(t *testing.T) {
	for many := range 9 {
		for form := range 13 {
			for kind := range 2 {
				eachWay(t, func(n *node.Node) {
					data := []byte{15, 2, 3, 4, 5, 6, 7, 8}[:many]
					was, b := all(n), rightOf(own(n), data...)[kind]
					n.Send()
					n.Take([]api.Heard{
						both(b, 3), inX(b, 3), inY(b, 3), apart(b, bad, 3), apart(bad, b, 3), apart(nil, b, 3), apart(b, nil, 3),
						apart(cold(own(n), 99), b, 3), apart(b, cold(own(n), 99), 3), apart(b, info(c(9, 1, 2), 99), 3), apart(info(c(9, 1, 2), 99), b, 3),
						{A: api.Noise, B: api.Bytes, Y: b, Offset: 3}, {A: api.Bytes, X: b, B: api.Noise, Offset: 3},
					}[form])
					wantJudged(t, n, was, true, api.Message{Data: data, Good: true})
				})
			}
		}
	}
}

// Of two that are right X is taken.
func TestRightXAheadOfY(t *testing.T) {
	for kinds := range 4 {
		eachWay(t, func(n *node.Node) {
			was := all(n)
			n.Send()
			n.Take(apart(rightOf(own(n), 11)[kinds%2], rightOf(own(n), 22)[kinds/2], 3))
			wantJudged(t, n, was, true, api.Message{Data: []byte{11}, Good: true})
		})
	}
}

// One that was right is right again, with new bytes, and as a member; one that was wrong or missing comes back.
func TestRightAgain(t *testing.T) {
	for _, between := range []api.Heard{quiet, noise, both(bad, 0)} {
		eachWay(t, func(n *node.Node) {
			passes(n, both(info(own(n), 11, 12), 0))
			rights(n, 5)
			if s := n.View(); s.Slot != 1 || s.Members&2 == 0 {
				t.Fatal(s)
			}
			was := all(n)
			n.Send()
			n.Take(both(normal(own(n), 21), 0))
			wantJudged(t, n, was, true, api.Message{Data: []byte{21}, Good: true})
			rights(n, 5)
			passes(n, between)
			wantRead(t, n, 1, api.Message{Data: []byte{21}, Age: 1})
			rights(n, 5)
			was = all(n)
			n.Send()
			n.Take(both(info(own(n)), 0))
			wantJudged(t, n, was, true, api.Message{Good: true})
		})
	}
}

// wrongs are bytes that are not right in a state, which has their sender as a member.
func wrongs(s api.CState) [][]byte {
	l := [][]byte{nil, {}, bad, make([]byte, 9), make([]byte, 1000), cold(s), cold(s, 15), cold(c(0, s.Slot, 1<<s.Slot))}
	other := func(s api.CState) { l = append(l, rightOf(s, 15)...) }
	for _, round := range []int{1, 2, 256, api.MaxRound} {
		other(c((s.Round+round)%65536, s.Slot, s.Members))
	}
	for slot := range api.MaxNodes {
		if slot != s.Slot {
			other(c(s.Round, slot, s.Members))
		}
	}
	for bit := range api.MaxNodes { // the sender's own bit, too
		other(c(s.Round, s.Slot, s.Members^1<<bit))
	}
	other(c(0, 1, 0))
	if s.Members != 0 {
		other(c(s.Round, s.Slot, 0))
	}
	for _, b := range rightOf(s, 15) {
		l = append(l, b[1:], b[:len(b)-1], append(bytes.Clone(b), 0), slices.Concat(b, b), append([]byte{0}, b...))
		for bit := range 8 * len(b) {
			turned := bytes.Clone(b)
			turned[bit/8] ^= 0x80 >> (bit % 8)
			l = append(l, turned)
		}
	}
	return l
}

// A frame of another state, a Cold one, what is no frame, and noise, in whichever channel, are wrong: their sender is no member.
func TestWrong(t *testing.T) {
	eachWay(t, func(n *node.Node) {
		l := []api.Heard{noise, {A: api.Noise}, {B: api.Noise}, {A: api.Noise, X: info(own(n)), B: api.Noise, Y: normal(own(n))}, {A: api.Noise, X: info(own(n))}, {B: api.Noise, Y: info(own(n))}}
		for i, b := range wrongs(own(n)) {
			l = append(l, both(b, 3))
			if i < 8 || i%9 == 0 {
				l = append(l, inX(b, 3), inY(b, 3), apart(b, bad, 3), apart(bad, b, 3), api.Heard{A: api.Noise, X: info(own(n)), B: api.Bytes, Y: b}, api.Heard{A: api.Bytes, X: b, B: api.Silent, Y: info(own(n))})
			}
		}
		for _, h := range l {
			m := *n // the one alone that goes on
			was := all(&m)
			m.Send()
			m.Take(h)
			wantJudged(t, &m, was, false, api.Message{Age: -1})
		}
	})
}

// One that was a member, and had said a thing, is none then, and not Good; what it said stays.
func TestNoMemberAnyMore(t *testing.T) {
	for _, h := range []api.Heard{noise, quiet, both(bad, 0)} {
		eachWay(t, func(n *node.Node) {
			passes(n, both(info(own(n), 15), 0))
			rights(n, 5)
			was := all(n)
			n.Send()
			n.Take(h)
			wantJudged(t, n, was, false, api.Message{Data: []byte{15}, Age: 1})
			rights(n, 5)
			was = all(n)
			n.Send()
			n.Take(h)
			wantJudged(t, n, was, false, api.Message{Data: []byte{15}, Age: 2})
		})
	}
}

// Silence in both channels is that it is missing, whatever bytes stand beside it: that counts neither as right nor as wrong.
func TestMissing(t *testing.T) {
	eachWay(t, func(n *node.Node) {
		for _, h := range []api.Heard{{}, quiet, {X: info(own(n)), Y: normal(own(n)), Offset: 3}} {
			m := *n
			was := all(&m)
			m.Send()
			m.Take(h)
			wantJudged(t, &m, was, false, api.Message{Age: -1})
		}
	})
}

// What counts as right, wrong, and neither: of an Active one, which was right as often as wrong, one more of either decides.
func TestCounts(t *testing.T) {
	for _, x := range []struct {
		h     api.Heard
		right bool
		wrong bool
	}{
		{h: quiet},
		{h: api.Heard{X: bad, Y: bad}},
		{h: noise, wrong: true},
		{h: api.Heard{A: api.Noise}, wrong: true},
		{h: api.Heard{B: api.Noise}, wrong: true},
		{h: inX(bad, 0), wrong: true},
		{h: inY(bad, 0), wrong: true},
		{h: both(cold(c(7, 4, 0x53)), 0), wrong: true},
		{h: both(info(c(7, 4, 0x43)), 0), wrong: true},
		{h: both(info(c(7, 4, 0x53)), 0), right: true},
		{h: inX(normal(c(7, 4, 0x53)), 0), right: true},
		{h: inY(normal(c(7, 4, 0x53)), 0), right: true},
		{h: apart(bad, normal(c(7, 4, 0x53)), 0), right: true},
		{h: api.Heard{A: api.Noise, B: api.Bytes, Y: info(c(7, 4, 0x53))}, right: true},
	} {
		for ahead := range 3 { // nobody, one right and one wrong, one right and two wrong
			n := joined(t, plain(7), 0, 0, c(6, 6, 1))
			wantSend(t, n, info(c(7, 0, 65)))
			n.Take(quiet)
			if ahead > 0 {
				rights(n, 1)
			} else {
				passes(n, quiet)
			}
			passes(n, slices.Repeat([]api.Heard{noise}, ahead)...)
			passes(n, quiets(2-ahead)...)
			h := x.h
			if x.right && ahead == 0 { // the state is another one
				h = both(info(own(n)), 0)
			}
			passes(n, h, quiet, quiet)
			b := n.Send()
			agree, fail := min(ahead, 1), ahead
			if x.right {
				agree++
			}
			if x.wrong {
				fail++
			}
			state := api.Active
			if fail > agree {
				state = api.Frozen
			} else if agree == 0 {
				state = api.Listen
			}
			if n.State() != state || (len(b) > 0) != (state == api.Active) {
				t.Errorf("%+v behind %d: got %d, %x, want %d", x.h, ahead, n.State(), b, state)
			}
		}
	}
}

// In its own slot it listens to nobody, whatever is heard: nobody is right, wrong or missing, nothing is read.
func TestOwnSlotIsNotJudged(t *testing.T) {
	for _, state := range []int{api.Begun, api.Passive, api.Active} {
		for _, h := range []api.Heard{quiet, noise, both(bad, 50), both(info(c(6, 1, 255), 99), 50), both(cold(c(0, 0, 1), 99), 50), inX(info(c(5, 1, 63), 99), 50)} {
			n := on(t, plain(6), 1, 0)
			if state == api.Begun {
				passes(n, quiets(14)...) // it waits for 15
			} else {
				passes(n, both(info(c(5, 2, 0)), 0))
				if state == api.Passive {
					passes(n, noise, noise)
					rights(n, 1)
					passes(n, noise) // two right, three wrong
				} else {
					rights(n, 4)
				}
			}
			n.Send()
			was := all(n)
			n.Take(h)
			was.c.Slot = 2
			if n.State() != state {
				t.Fatal("not ready:", n.State())
			}
			wantAll(t, n, was)
			passes(n, both(info(own(n)), 0), noise, quiet, quiet, quiet)
			if b := n.Send(); len(b) == 0 || n.State() != api.Active {
				t.Errorf("state %d: one right, one wrong: got %x, %d", state, b, n.State())
			}
		}
	}
}

// Whoever's slot it is, what is heard is that node's; with the last one the Round is the next.
func TestEachSlotsNode(t *testing.T) {
	eachNode(func(x api.Table, i int) {
		n := len(x.Nodes)
		a := on(t, x, i, 0)
		passes(a, quiets(x.Nodes[i].Listen)...)
		members := 1 << i
		for k := 1; k < n; k++ {
			who := (i + k) % n
			members |= 1 << who
			b := normal(c((i+k)/n, who, members), byte(who), 77)
			wantSend(t, a, nil)
			a.Take(both(b, 0))
			want(t, a, api.Begun, c((i+k+1)/n, (who+1)%n, members), 0)
			m := api.Message{Data: []byte{byte(who), 77}, Good: true}
			if who == n-1 {
				m.Age = 1
			}
			wantRead(t, a, who, m)
		}
		wantSend(t, a, info(c(1, i, 1<<n-1)))
		want(t, a, api.Active, c(1, i, 1<<n-1), 0)
	})
}
