package node_test

import (
	"slices"
	"testing"

	"matron/api"
	"matron/node"
)

// P10.2: Send.

func TestTheChaptersExample(t *testing.T) {
	n := on(t, plain(4), 0, 0) // its Listen is 8
	for range 7 {
		wantSend(t, n, nil)
		n.Take(quiet)
	}
	wantSend(t, n, cold(c(0, 0, 1)))
}

// Each node of each table waits for as many slots as its Listen, and then sends a Cold frame of its own Slot, as the only member.
func TestWaits(t *testing.T) {
	eachNode(func(x api.Table, i int) {
		for _, listen := range []int{x.Nodes[i].Listen, 8 + 2*len(x.Nodes), 199, 200} {
			y := plain(len(x.Nodes))
			y.Nodes[i].Listen = listen
			n := on(t, y, i, 4)
			n.Write([]byte{5})
			for range listen - 1 {
				wantSend(t, n, nil)
				want(t, n, api.Listen, api.CState{}, 0)
				n.Take(quiet)
				want(t, n, api.Listen, api.CState{}, 0)
			}
			wantSend(t, n, cold(c(0, i, 1<<i), 5))
			want(t, n, api.Begun, c(0, i, 1<<i), 0)
			wantEmpty(t, n)
		}
	})
}

// A node that began and heard nobody rightly begins anew in its own slot: it listens, and waits as long as ever.
func TestBegunAndAlone(t *testing.T) {
	eachNode(func(x api.Table, i int) {
		for _, h := range []api.Heard{quiet, noise, both(bad, 3), inX(cold(c(0, 1, 3)), 3)} {
			n := on(t, x, i, 5)
			time := 0
			for range 3 {
				passes(n, quiets(x.Nodes[i].Listen-1)...)
				wantSend(t, n, cold(c(0, i, 1<<i)))
				n.Take(h)
				for range len(x.Nodes) - 1 {
					wantSend(t, n, nil)
					n.Take(h)
				}
				time += 5
				want(t, n, api.Begun, c(1, i, 1<<i), time)
				wantSend(t, n, nil)
				want(t, n, api.Listen, api.CState{}, time)
				wantEmpty(t, n)
				n.Take(quiet)
			}
		}
	})
}

// One that heard somebody is Active, however many fail; it sends an Info frame, also in an odd round, and is a member with them.
func TestBegunAndNotAlone(t *testing.T) {
	eachNode(func(x api.Table, i int) {
		for many := 1; many < len(x.Nodes); many++ {
			n := on(t, x, i, 0)
			passes(n, quiets(x.Nodes[i].Listen)...)
			rights(n, many)
			for range len(x.Nodes) - 1 - many {
				wantSend(t, n, nil)
				n.Take(noise)
			}
			s := n.View()
			if n.State() != api.Begun || s.Round != 1 || s.Slot != i {
				t.Error(n.State(), s)
			}
			wantSend(t, n, info(s))
			want(t, n, api.Active, s, 0)
		}
	})
}

// Its counts are cleared where it is Active: a round in which nobody is heard, and it is alone; one in which one is wrong, and it freezes.
func TestActiveCountsAnew(t *testing.T) {
	for _, begun := range []bool{true, false} {
		for wrongs := range 2 {
			n := on(t, plain(4), 1, 0)
			if begun {
				passes(n, quiets(11)...)
				rights(n, 3)
			} else {
				passes(n, both(info(c(0, 2, 4)), 0))
				rights(n, 2)
			}
			wantSend(t, n, info(c(1, 1, 15)))
			n.Take(quiet)
			if wrongs == 0 {
				passes(n, quiet, quiet, quiet)
				wantSend(t, n, nil)
				want(t, n, api.Listen, api.CState{}, 0)
			} else {
				passes(n, quiet, noise, quiet)
				wantSend(t, n, nil)
				want(t, n, api.Frozen, c(2, 1, 2), 0)
			}
		}
	}
}

// goes has the seven others' slots of a round of eight pass: so many of them right, so many wrong, the rest silent.
func goes(n *node.Node, agree, fail int) {
	rights(n, agree)
	passes(n, slices.Repeat([]api.Heard{noise}, fail)...)
	passes(n, quiets(7-agree-fail)...)
}

// A Passive one becomes Active if somebody is right, and as many or more than are wrong; else it stays, and counts anew.
func TestPassive(t *testing.T) {
	for agree := range 8 {
		for fail := range 8 - agree {
			n := joined(t, plain(8), 5, 0, c(3, 6, 0))
			passes(n, quiets(6)...)
			wantSend(t, n, info(c(4, 5, 96))) // the one that told the state is right
			n.Off()

			n.On(0)
			passes(n, both(info(c(3, 4, 0)), 0))
			n.Send() // in its own slot at once
			want(t, n, api.Active, c(3, 5, 48), 0)
			n.Off()

			n.On(0)
			passes(n, both(info(c(3, 7, 0)), 0), noise, noise, quiet, quiet, quiet)
			wantSend(t, n, nil)
			want(t, n, api.Passive, c(4, 5, 128), 0)
			n.Take(noise)
			goes(n, agree, fail)
			s := n.View()
			if agree > 0 && agree >= fail {
				s.Members |= 32
				wantSend(t, n, info(s))
				want(t, n, api.Active, s, 0)
			} else {
				for range 2 {
					wantSend(t, n, nil)
					want(t, n, api.Passive, s, 0)
				}
			}
		}
	}
}

// An Active one freezes if more are wrong than right, also if nobody is right; it begins anew if none is either; else it sends.
func TestActive(t *testing.T) {
	for agree := range 8 {
		for fail := range 8 - agree {
			n := joined(t, plain(8), 2, 5, c(9, 1, 0))
			wantSend(t, n, info(c(9, 2, 6)))
			n.Take(quiet)
			for range 2 {
				goes(n, 1, 1)
				s := n.View()
				s.Members |= 4
				b := normal(s)
				if s.Round%2 == 0 {
					b = info(s)
				}
				wantSend(t, n, b)
				want(t, n, api.Active, s, 5*(s.Round-9))
				n.Take(noise)
			}
			goes(n, agree, fail)
			s := n.View()
			b := n.Send()
			switch {
			case fail > agree:
				want(t, n, api.Frozen, s, 15)
			case agree == 0:
				want(t, n, api.Listen, api.CState{}, 15)
				wantEmpty(t, n)
			default:
				want(t, n, api.Active, s, 15)
			}
			if (len(b) > 0) != (agree > 0 && agree >= fail) {
				t.Errorf("%d agree, %d fail: sends %x", agree, fail, b)
			}
		}
	}
}

// Who is Frozen keeps its view and what it read, and neither sends nor takes anything; till it is On again.
func TestFrozen(t *testing.T) {
	n := inState(t, api.Frozen)
	was := all(n)
	for range 40 {
		for _, h := range []api.Heard{quiet, noise, both(info(own(n), 1), 9), both(normal(own(n), 2), 9), both(cold(c(0, 0, 1)), 9)} {
			wantSend(t, n, nil)
			n.Take(h)
			wantAll(t, n, was)
		}
	}
}

// Who begins anew for being alone waits for none yet: the slot in which it was alone does not count.
func TestActiveAndAloneWaitsAnew(t *testing.T) {
	n := joined(t, plain(4), 0, 0, c(6, 3, 8))
	n.Write([]byte{3})
	wantSend(t, n, info(c(7, 0, 9), 3))
	n.Take(quiet)
	passes(n, quiets(3)...)
	want(t, n, api.Active, c(8, 0, 1), 0)
	for range 8 {
		wantSend(t, n, nil)
		want(t, n, api.Listen, api.CState{}, 0)
		n.Take(quiet)
	}
	wantSend(t, n, cold(c(0, 0, 1), 3))
}

// What kind of frame: Info where it was not Active ahead of it, where its table says so, and where Round is even; else Normal.
func TestKinds(t *testing.T) {
	for _, infos := range []int{0, 255, 8, 255 - 8} {
		for _, round := range []int{0, 1, 2, 3, 254, 255, 256, api.MaxRound - 2, api.MaxRound - 1, api.MaxRound} {
			for _, begun := range []bool{true, false} {
				n := on(t, of(5, 255, infos), 3, 0)
				n.Write([]byte{1, 2})
				round := round
				if begun {
					round = 0
					passes(n, quiets(11)...) // it waits for 11
					rights(n, 4)
				} else {
					passes(n, both(info(c(round, 4, 16)), 0))
					rights(n, 3)
				}
				for again := range 5 {
					round = (round + 1) % 65536
					s := own(n)
					if s.Round != round || s.Slot != 3 {
						t.Fatal(s)
					}
					b := info(s, 1, 2)
					if again > 0 && round%2 == 1 && infos>>3&1 == 0 {
						b = normal(s, 1, 2)
					}
					wantSend(t, n, b)
					want(t, n, api.Active, s, 0)
					n.Take(quiet)
					rights(n, 4)
				}
			}
		}
	}
}

// The frames hang on their own table's word alone, not on what another one's says.
func TestKindsOfEachNode(t *testing.T) {
	eachNode(func(x api.Table, i int) {
		n := len(x.Nodes)
		for _, infos := range []int{1 << i, 255 &^ (1 << i)} {
			a := joined(t, of(n, 255, infos), i, 0, c(2, (i+1)%n, 0))
			rights(a, n-2)
			for range 4 {
				s := own(a)
				first := a.State() != api.Active
				b := info(s)
				if !first && infos>>i&1 == 0 && s.Round%2 == 1 {
					b = normal(s)
				}
				wantSend(t, a, b)
				a.Take(quiet)
				rights(a, n-1)
			}
		}
	})
}

// In all slots but its own it sends nothing, and to ask it there changes nothing.
func TestSendsInItsOwnSlotAlone(t *testing.T) {
	eachNode(func(x api.Table, i int) {
		n := len(x.Nodes)
		for _, first := range []int{api.Begun, api.Passive} {
			a := on(t, x, i, 0)
			if first == api.Begun {
				passes(a, quiets(x.Nodes[i].Listen)...)
			} else {
				passes(a, both(info(c(1, (i+1)%n, 255)), 0))
			}
			for range 4 * n {
				s := a.View()
				if s.Slot != i {
					was := all(a)
					wantSend(t, a, nil)
					wantSend(t, a, nil)
					wantAll(t, a, was)
				} else if len(a.Send()) == 0 {
					t.Error("sends nothing in its own slot", s)
				}
				a.Take(both(info(own(a)), 0))
			}
		}
	})
}

// A frame's State is the C-state that it has then; with each that is heard there is one member more.
func TestSendsItsState(t *testing.T) {
	n := on(t, plain(5), 0, 0)
	passes(n, quiets(9)...)
	wantSend(t, n, cold(c(0, 0, 1)))
	n.Take(quiet)
	passes(n, quiet, both(normal(c(0, 2, 5)), 0), quiet, quiet)
	wantSend(t, n, info(c(1, 0, 5)))
	n.Take(quiet)
	passes(n, both(info(c(1, 1, 7)), 0), quiet, both(normal(c(1, 3, 11)), 0), quiet)
	wantSend(t, n, info(c(2, 0, 11)))
	n.Take(quiet)
	passes(n, both(normal(c(2, 1, 11)), 0), quiet, noise, quiet)
	wantSend(t, n, normal(c(3, 0, 3)))
}
