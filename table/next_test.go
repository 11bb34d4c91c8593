package table_test

import (
	"math"
	"testing"

	"matron/api"
	"matron/table"
)

// P4.2: Next.

func TestNext(t *testing.T) {
	for n := 4; n <= 8; n++ {
		for _, x := range []api.Table{plain(n), of(n, 0xf, 0xff)} {
			for slot := range n - 1 {
				for _, s := range []api.CState{{}, {Round: 7}, {Members: 255}, {Round: api.MaxRound - 1, Members: 1}, {Round: api.MaxRound, Members: 0xa5}} {
					s.Slot = slot
					want := api.CState{Round: s.Round, Slot: slot + 1, Members: s.Members}
					if got := table.Next(x, s); got != want {
						t.Errorf("Next of %v: got %v", s, got)
					}
				}
			}
		}
	}
}

func TestNextBehindTheLastSlot(t *testing.T) {
	for n := 4; n <= 8; n++ {
		for _, x := range [][2]int{{0, 1}, {1, 2}, {254, 255}, {255, 256}, {32767, 32768}, {api.MaxRound - 1, api.MaxRound}, {api.MaxRound, 0}} {
			for _, members := range []int{0, 1, 0x5a, 255} {
				s := api.CState{Round: x[0], Slot: n - 1, Members: members}
				if got := table.Next(plain(n), s); got != (api.CState{Round: x[1], Members: members}) {
					t.Errorf("%d nodes, Next of %v: got %v", n, s, got)
				}
			}
		}
	}
}

// All rounds one behind the other, slot by slot: as many as there are, and it is the first one again.
func TestNextGoesThroughAllRounds(t *testing.T) {
	for _, n := range []int{4, 7} {
		x, s := plain(n), api.CState{Members: 9}
		for i := range (api.MaxRound + 1) * n {
			if s != (api.CState{Round: i / n, Slot: i % n, Members: 9}) {
				t.Fatal(n, i, s)
			}
			s = table.Next(x, s)
		}
		if s != (api.CState{Members: 9}) {
			t.Error(n, s)
		}
	}
}

// W10: of a Round that may not be one more does not wrap, and what would be behind MaxRound is 0.
func TestNextOfAnotherRound(t *testing.T) {
	for _, x := range [][2]int{{-1, 0}, {-2, -1}, {math.MinInt, math.MinInt + 1}, {api.MaxRound + 1, 0}, {api.MaxRound + 2, 0}, {1 << 32, 0}, {math.MaxInt - 1, 0}, {math.MaxInt, 0}} {
		for _, members := range []int{-1, 0, 256, math.MaxInt, math.MinInt} {
			s := api.CState{Round: x[0], Slot: 4, Members: members}
			if got := table.Next(plain(5), s); got != (api.CState{Round: x[1], Members: members}) {
				t.Errorf("Next of %v: got %v", s, got)
			}
			s.Slot = 3
			if got := table.Next(plain(5), s); got != (api.CState{Round: x[0], Slot: 4, Members: members}) {
				t.Errorf("Next of %v: got %v", s, got)
			}
		}
	}
}

// W1: of what nothing is said it answers, too.
func TestNextOfAnything(t *testing.T) {
	for _, x := range append(notTables(), plain(4)) {
		for _, n := range append([]int{0, 3, 4, 8}, far...) {
			s := api.CState{Round: n, Slot: n, Members: n}
			if got := table.Next(x, s); got != table.Next(x, s) {
				t.Error(s, got)
			}
		}
	}
}
