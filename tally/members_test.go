package tally_test

import (
	"math"
	"testing"

	"matron/api"
	"matron/tally"
)

// P7.1: New, Join, Right, Wrong, Missing, and who is a member.

func TestNew(t *testing.T) {
	for members := range 256 {
		want(t, tally.New(members), of(members, 0, 0))
	}
}

// The lowest eight bits count, whatever stands above them, below nought too.
func TestNewTakesTheLowestEightBits(t *testing.T) {
	for _, x := range []struct{ n, members int }{
		{0x1a5, 0xa5}, {256, 0}, {257, 1}, {511, 255}, {-1, 255}, {-2, 254}, {-128, 128}, {-255, 1}, {-256, 0}, {-257, 255}, {-0x5b, 0xa5},
		{1 << 31, 0}, {1<<32 + 6, 6}, {-1 << 32, 0}, {-1<<40 + 0x81, 0x81}, {math.MaxInt, 255}, {math.MaxInt - 255, 0}, {math.MinInt, 0}, {math.MinInt + 3, 3},
	} {
		want(t, tally.New(x.n), of(x.members, 0, 0))
	}
	for n := -1500; n < 1500; n++ {
		want(t, tally.New(n), of((n%256+256)%256, 0, 0))
	}
	for bit := 8; bit < 64; bit++ {
		for _, members := range []int{0, 1, 0x5a, 128, 255} {
			want(t, tally.New(members|1<<bit), of(members, 0, 0))
			want(t, tally.New(members|-1<<bit), of(members, 0, 0))
		}
	}
}

// Of all members that there may be, each act to each node is what the chapter says, and to the same node again.
func TestEachActOfAllMembers(t *testing.T) {
	for members := range 256 {
		for node := range api.MaxNodes {
			in, out := members|power(node), members&^power(node)
			for many := 1; many <= 3; many++ {
				for a, w := range []view{
					join:    of(in, 0, 0),
					right:   of(in, many, 0),
					wrong:   of(out, 0, many),
					missing: of(out, 0, 0),
				} {
					x := tally.New(members)
					for range many {
						acts[a].does(x, node)
					}
					want(t, x, w)
				}
			}
		}
	}
}

// Each act to each node, one behind the other, adds to what the counts were.
func TestEachActOfSomeCounts(t *testing.T) {
	for _, members := range []int{0, 1, 0x42, 0x81, 0xa4, 0xff} {
		for agree := range 4 {
			for fail := range 4 {
				for node := range api.MaxNodes {
					in, out := members|power(node), members&^power(node)
					for a, w := range []view{
						join:    of(in, agree, fail),
						right:   of(in, agree+1, fail),
						wrong:   of(out, agree, fail+1),
						missing: of(out, agree, fail),
						clear:   of(members, 0, 0),
					} {
						x := with(t, members, agree, fail)
						acts[a].does(x, node)
						want(t, x, w)
					}
				}
			}
		}
	}
}

func TestAllNodesInTurn(t *testing.T) {
	x := tally.New(0)
	for node := range api.MaxNodes {
		x.Join(node)
		want(t, x, of(power(node+1)-1, 0, 0))
	}
	for node := range api.MaxNodes {
		x.Missing(node)
		want(t, x, of(256-power(node+1), 0, 0))
	}
	for node := range api.MaxNodes {
		x.Right(node)
		want(t, x, of(power(node+1)-1, node+1, 0))
	}
	for node := range api.MaxNodes {
		x.Wrong(node)
		want(t, x, of(256-power(node+1), 8, node+1))
	}
}

// The last word about a node holds.
func TestTheLastWordHolds(t *testing.T) {
	for node := range api.MaxNodes {
		for _, members := range []int{0, 0x5a, 0xff} {
			in, out := members|power(node), members&^power(node)
			x := tally.New(members)
			for i, y := range []struct{ act, members, agree, fail int }{
				{join, in, 0, 0}, {missing, out, 0, 0}, {right, in, 1, 0}, {wrong, out, 1, 1}, {missing, out, 1, 1}, {join, in, 1, 1},
				{wrong, out, 1, 2}, {wrong, out, 1, 3}, {right, in, 2, 3}, {join, in, 2, 3}, {right, in, 3, 3}, {missing, out, 3, 3}, {right, in, 4, 3},
			} {
				acts[y.act].does(x, node)
				if v := look(x); v != of(y.members, y.agree, y.fail) {
					t.Errorf("%d: %s(%d): got %+v", i, acts[y.act].name, node, v)
				}
			}
		}
	}
}

// Of what is no node nothing is done, and it is no member.
func TestNoNode(t *testing.T) {
	for _, members := range []int{0, 1, 0x80, 0x5a, 0xff} {
		for _, counts := range [][2]int{{0, 0}, {2, 0}, {0, 1}, {1, 2}} {
			x := with(t, members, counts[0], counts[1])
			for _, node := range noNodes {
				for _, a := range []int{join, right, wrong, missing} {
					acts[a].does(x, node)
					if v := look(x); v != of(members, counts[0], counts[1]) {
						t.Errorf("%s(%d): got %+v", acts[a].name, node, v)
					}
					if x.Is(node) {
						t.Errorf("Is(%d) of %08b", node, members)
					}
				}
			}
			want(t, x, of(members, counts[0], counts[1]))
		}
	}
}

// All numbers about the nodes', to some hundreds on both sides.
func TestNumbersAboutTheNodes(t *testing.T) {
	for node := -300; node < 300; node++ {
		if node >= 0 && node < 8 {
			continue
		}
		for _, members := range []int{0, 0xff} {
			x := tally.New(members)
			for _, a := range []int{join, right, wrong, missing} {
				acts[a].does(x, node)
				want(t, x, of(members, 0, 0))
			}
			if x.Is(node) {
				t.Errorf("Is(%d) of %08b", node, members)
			}
		}
	}
}

// Scripts of all kinds of acts.
func TestScripts(t *testing.T) {
	var d dice
	for script := range 300 {
		m := model{first: d.below(1024) - 512}
		x := tally.New(m.first)
		want(t, x, m.view())
		for range script {
			act := d.below(4)
			if d.below(30) == 0 {
				act = clear
			}
			node := d.node()
			m.do(x, act, node)
			want(t, x, m.view())
			if x.Is(node) != (m.is(node) && node >= 0 && node < 8) {
				t.Errorf("Is(%d): got %v", node, x.Is(node))
			}
		}
	}
}
