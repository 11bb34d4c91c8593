package tally_test

import (
	"testing"

	"matron/tally"
)

// P7.1: Counts, Clear. P7.2: Clique, Alone.

// Each count is of all nodes together.
func TestCounts(t *testing.T) {
	x := tally.New(0)
	for i := range 100 {
		x.Right(i % 8)
		x.Wrong(i * 3 % 8)
		x.Wrong(i * 5 % 8)
		if agree, fail := x.Counts(); agree != i+1 || fail != 2*i+2 {
			t.Fatalf("got %d, %d, want %d, %d", agree, fail, i+1, 2*i+2)
		}
	}
}

// W10: counts go on beyond eight and sixteen bits.
func TestGreatCounts(t *testing.T) {
	x := tally.New(0)
	for i := range 70000 {
		x.Right(7)
		if agree, fail := x.Counts(); agree != i+1 || fail != 0 || !x.Clique() || x.Alone() {
			t.Fatal(i, agree, fail)
		}
	}
	for i := range 70001 {
		x.Wrong(7)
		if agree, fail := x.Counts(); agree != 70000 || fail != i+1 || x.Clique() != (i < 70000) || x.Alone() {
			t.Fatal(i, agree, fail)
		}
	}
}

func TestClique(t *testing.T) {
	for _, x := range []struct {
		agree, fail int
		clique      bool
	}{
		{1, 2, false}, // the chapter's example
		{0, 0, true}, {0, 1, false}, {0, 2, false}, {1, 0, true}, {1, 1, true}, {1, 3, false}, {2, 1, true}, {2, 2, true}, {2, 3, false},
		{3, 0, true}, {7, 7, true}, {7, 8, false}, {8, 7, true}, {7, 9, false}, {7, 14, false}, {14, 7, true}, {0, 50, false}, {50, 0, true},
	} {
		if got := with(t, 0x3c, x.agree, x.fail).Clique(); got != x.clique {
			t.Errorf("agree %d, fail %d: got %v", x.agree, x.fail, got)
		}
	}
}

// Fail that is agree, agree and one more, agree less one, and whatever is further off.
func TestCliqueOfAllSmallCounts(t *testing.T) {
	for agree := range 20 {
		x := with(t, 0, agree, 0)
		for fail := range 2*agree + 3 {
			if want := fail <= agree; x.Clique() != want {
				t.Errorf("agree %d, fail %d: got %v", agree, fail, x.Clique())
			}
			x.Wrong(fail % 8)
		}
	}
}

// Whether it is alone hangs on agree, not on fail, nor on who is a member.
func TestAlone(t *testing.T) {
	for _, members := range []int{0, 1, 128, 255} {
		for agree := range 5 {
			for fail := range 5 {
				if got := with(t, members, agree, fail).Alone(); got != (agree == 0) {
					t.Errorf("agree %d, fail %d: got %v", agree, fail, got)
				}
			}
		}
	}
}

// Who joins, is missing, or is none at all is not counted.
func TestNotCounted(t *testing.T) {
	x := tally.New(0x0f)
	for node := range 8 {
		x.Join(node)
		x.Missing(node)
		x.Right(node - 8)
		x.Wrong(node + 8)
		if v := look(x); !v.clique || !v.alone || v.agree != 0 || v.fail != 0 {
			t.Errorf("%d: got %+v", node, v)
		}
	}
}

// Clear drops both counts, and leaves the members.
func TestClear(t *testing.T) {
	for members := range 256 {
		for _, counts := range [][2]int{{0, 0}, {1, 0}, {0, 1}, {3, 2}, {2, 5}} {
			x := with(t, members, counts[0], counts[1])
			for range 2 {
				x.Clear()
				want(t, x, of(members, 0, 0))
			}
		}
	}
}

// Behind Clear counts begin at nought; nothing of ahead of it comes back.
func TestBehindClear(t *testing.T) {
	for ahead := range 10 {
		x := with(t, 0xf0, ahead, 9-ahead)
		x.Clear()
		for i, y := range []struct{ act, node, members, agree, fail int }{
			{wrong, 7, 0x70, 0, 1}, {right, 2, 0x74, 1, 1}, {right, 2, 0x74, 2, 1}, {missing, 2, 0x70, 2, 1}, {clear, 0, 0x70, 0, 0}, {right, 0, 0x71, 1, 0},
		} {
			acts[y.act].does(x, y.node)
			if v := look(x); v != of(y.members, y.agree, y.fail) {
				t.Errorf("%d: got %+v", i, v)
			}
		}
	}
}
