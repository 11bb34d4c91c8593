package node_test

import (
	"bytes"
	"slices"
	"testing"

	"matron/api"
	"matron/node"
)

// P10.3: Take of one that listens.

// notJoined are bytes of which node i of n joins nobody.
func notJoined(n, i int) [][]byte {
	other := (i + 1) % n
	l := [][]byte{nil, {}, bad, {api.Info}, {api.Cold, 0, 0}, make([]byte, 9), make([]byte, 1000)}
	for _, s := range []api.CState{{}, c(0, other, 0), c(0, other, 1<<other), c(5, 2, 255)} {
		l = append(l, normal(s), normal(s, 1, 2, 3)) // it tells no state, also where it is read by noughts
	}
	for _, kind := range []int{api.Info, api.Cold} {
		l = append(l, told(kind, c(0, i, 1<<i)), told(kind, c(7, i, 255), 1))
		for none := n; none < api.MaxNodes; none++ {
			l = append(l, told(kind, c(0, none, 255)), told(kind, c(7, none, 1), 1))
		}
		b := told(kind, c(3, other, 1<<other), 77)
		l = append(l, b[1:], b[:len(b)-1], append(bytes.Clone(b), 0), slices.Concat(b, b), append([]byte{0}, b...))
		for bit := range 8 * len(b) {
			turned := bytes.Clone(b)
			turned[bit/8] ^= 0x80 >> (bit % 8)
			l = append(l, turned)
		}
	}
	return l
}

// wantWaits: it listens, and so many slots of silence more are what it waits for.
func wantWaits(t *testing.T, n *node.Node, many int) {
	t.Helper()
	for range many - 1 {
		wantSend(t, n, nil)
		want(t, n, api.Listen, api.CState{}, 0)
		n.Take(quiet)
	}
	if b := n.Send(); len(b) == 0 || b[0] != api.Cold || n.State() != api.Begun {
		t.Errorf("got %x, %d, want a Cold frame", b, n.State())
	}
}

// Noise in one channel or in both, and bytes that are no frame, have it wait from none.
func TestNoiseHasItWaitAnew(t *testing.T) {
	for _, h := range []api.Heard{
		noise, {A: api.Noise}, {B: api.Noise}, {A: api.Noise, X: info(c(1, 0, 1)), B: api.Noise, Y: info(c(1, 0, 1)), Offset: 9},
		inX(bad, 1), inY(bad, 1), both(bad, 1), {A: api.Bytes}, {B: api.Bytes},
		{A: api.Noise, B: api.Bytes, Y: bad}, {A: api.Bytes, X: bad, B: api.Noise},
	} {
		for ahead := range 9 {
			n := on(t, plain(4), 1, 5) // it waits for 11
			for range 3 {
				passes(n, quiets(ahead)...)
				passes(n, h)
				want(t, n, api.Listen, api.CState{}, 0)
			}
			wantWaits(t, n, 11)
		}
	}
}

// Silence alone does not, whatever bytes or Offset stand beside it; there are none to be looked at.
func TestSilenceIsWaitedFor(t *testing.T) {
	for _, h := range []api.Heard{{}, quiet, {X: info(c(1, 0, 1)), Y: cold(c(1, 2, 1)), Offset: -far}, {X: bad}, {Y: bad}} {
		n := on(t, plain(4), 1, 5)
		passes(n, slices.Repeat([]api.Heard{h}, 10)...)
		want(t, n, api.Listen, api.CState{}, 0)
		wantSend(t, n, cold(c(0, 1, 2)))
	}
}

// A frame of its own slot, of one that is none of the nodes, a Normal one, and what does not Decode are none.
func TestJoinsNobody(t *testing.T) {
	eachNode(func(x api.Table, i int) {
		n := on(t, x, i, 5)
		for _, b := range notJoined(len(x.Nodes), i) {
			for _, h := range []api.Heard{inX(b, 3), inY(b, -far), both(b, far)} {
				passes(n, quiets(6)...)
				passes(n, h)
				want(t, n, api.Listen, api.CState{}, 0)
			}
		}
		wantEmpty(t, n)
		wantWaits(t, n, x.Nodes[i].Listen)
	})
}

// X is ahead of Y; each of them only where its channel is Bytes, and it is a frame that it joins.
func TestXAheadOfY(t *testing.T) {
	first, second := info(c(6, 0, 1), 11), cold(c(9, 2, 12), 22)
	wantFirst := func(h api.Heard) {
		t.Helper()
		n := on(t, plain(4), 1, 0)
		passes(n, h)
		want(t, n, api.Passive, c(6, 1, 1), 7)
		wantRead(t, n, 0, api.Message{Data: []byte{11}, Good: true})
		wantRead(t, n, 2, never)
	}
	wantSecond := func(h api.Heard) {
		t.Helper()
		n := on(t, plain(4), 1, 0)
		passes(n, h)
		want(t, n, api.Passive, c(9, 3, 12), 7)
		wantRead(t, n, 0, never)
		wantRead(t, n, 2, api.Message{Data: []byte{22}, Good: true})
	}
	wantFirst(apart(first, second, 7))
	wantSecond(apart(second, first, 7))
	wantFirst(inX(first, 7))
	wantFirst(inY(first, 7))
	for _, tells := range []int{api.Silent, api.Noise} {
		wantSecond(api.Heard{A: tells, X: first, B: api.Bytes, Y: second, Offset: 7})
		wantSecond(api.Heard{A: api.Bytes, X: second, B: tells, Y: first, Offset: 7})
		n := on(t, plain(4), 1, 0)
		passes(n, api.Heard{A: tells, X: first, B: tells, Y: second, Offset: 7})
		want(t, n, api.Listen, api.CState{}, 0)
	}
	for _, b := range notJoined(4, 1) {
		wantFirst(apart(b, first, 7))
		wantFirst(apart(first, b, 7))
		wantSecond(apart(b, second, 7))
	}
}

// It has that state; who told it is a member, and all whom the state names, be they nodes of the table or not, itself or not.
func TestJoins(t *testing.T) {
	eachNode(func(x api.Table, i int) {
		n := len(x.Nodes)
		for slot := range n - 1 { // behind the last one the round ends
			if slot == i {
				continue
			}
			for _, kind := range []int{api.Info, api.Cold} {
				for _, round := range []int{0, 1, 7, 256, api.MaxRound} {
					for _, members := range []int{0, 1, 1 << slot, 1 << i, 0xa7, 0x5a, 255, 0x80} {
						a := on(t, x, i, 5)
						data := []byte{1, 2, 3, 4, 5, 6, 7, 8}[:round%9]
						passes(a, quiet, both(told(kind, c(round, slot, members), data...), -30))
						members |= 1 << slot
						want(t, a, api.Passive, c(round, slot+1, members), -30)
						for who := -1; who <= api.MaxNodes; who++ {
							m := api.Message{Age: -1, Good: who >= 0 && members>>who&1 == 1}
							if who == slot {
								m.Age, m.Data = 0, data
							}
							wantRead(t, a, who, m)
						}
					}
				}
			}
		}
	})
}

// Its time is turned by Offset, to its bounds; not by its drift, till the round ends.
func TestJoinsInTime(t *testing.T) {
	for _, at := range goodTimes {
		for _, offset := range []int{-far, -far + 1, -1001, -101, -41, -1, 0, 1, 41, 100, 101, far - 1, far} {
			n := made(t, plain(4), 0, 5)
			n.On(at)
			passes(n, both(info(c(1, 1, 2)), offset))
			want(t, n, api.Passive, c(1, 2, 2), at+offset)
			passes(n, quiet, quiet) // that Offset is no measure
			want(t, n, api.Passive, c(2, 0, 2), at+offset+5)
		}
	}
}

// Behind the last slot the round ends: the next Round, its drift, what was said is a round old, alarms look.
func TestJoinsInTheLastSlot(t *testing.T) {
	eachNode(func(x api.Table, i int) {
		last := len(x.Nodes) - 1
		if i == last {
			return
		}
		for _, round := range []int{0, 6, api.MaxRound - 1, api.MaxRound} {
			a := on(t, x, i, -4, api.Rule{Node: last, Low: 9, High: 20}, api.Rule{Node: 0, High: 255, Stale: 9}, api.Rule{Node: last, High: 30, Stale: 1})
			passes(a, both(cold(c(round, last, 1), 21), 100))
			want(t, a, api.Passive, c((round+1)%65536, 0, 1|1<<last), 96)
			wantRead(t, a, last, api.Message{Data: []byte{21}, Age: 1, Good: true})
			wantRead(t, a, 0, api.Message{Age: -1, Good: true})
			if a.Rings(0) != api.TooHigh|api.TooOld || a.Rings(1) != api.TooOld || a.Rings(2) != 0 {
				t.Error("rings", a.Rings(0), a.Rings(1), a.Rings(2))
			}
		}
	})
}

// Who told it counts as right, and nobody else does: in its own slot it is not alone, till one is wrong more.
func TestJoinsOneThatIsRight(t *testing.T) {
	for wrongs := range 5 {
		n := joined(t, plain(7), 5, 0, c(2, 0, 0x7f))
		passes(n, slices.Repeat([]api.Heard{noise}, wrongs)...)
		passes(n, quiets(4-wrongs)...)
		if b := n.Send(); (len(b) > 0) != (wrongs < 2) {
			t.Errorf("%d wrong: sends %x", wrongs, b)
		}
	}
}

// It joins as often as it listens, each time anew: what it waited for, measured and read ahead of that is gone.
func TestJoinsAnew(t *testing.T) {
	n := made(t, plain(4), 2, 0)
	for range 4 {
		n.On(0)
		passes(n, quiets(9)...)
		passes(n, both(info(c(6, 3, 1), 9), 10))
		want(t, n, api.Passive, c(7, 0, 9), 10)
		wantRead(t, n, 0, api.Message{Age: -1, Good: true})
		wantRead(t, n, 1, never)
		rights(n, 2)
		wantSend(t, n, info(c(7, 2, 15)))
		n.Take(quiet)
		passes(n, both(normal(c(7, 3, 15)), 90), quiet, quiet)
		want(t, n, api.Active, c(8, 2, 12), 10)
		wantSend(t, n, info(c(8, 2, 12))) // one is right, and nobody wrong
		n.Take(quiet)
		passes(n, quiets(3)...)
		wantSend(t, n, nil)
		want(t, n, api.Listen, api.CState{}, 10)
		n.Off()
	}
}

// No more than one frame is joined: the next slot's is judged by what was told.
func TestJoinsOnce(t *testing.T) {
	n := joined(t, plain(4), 3, 0, c(6, 0, 1))
	passes(n, both(info(c(9, 2, 4)), 50))
	want(t, n, api.Passive, c(6, 2, 1), 0)
	passes(n, both(cold(c(6, 2, 5)), 50))
	want(t, n, api.Passive, c(6, 3, 1), 0)
}
