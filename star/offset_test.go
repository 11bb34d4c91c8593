package star_test

import (
	"testing"

	"matron/api"
)

// P11.2: Offset is when who counts sends, less the hearing node's at.

// wantOffsets: in slot 2 of a table of 8 nodes, whose guardians know these slots, who counts is this one, so much off.
func wantOffsets(t *testing.T, first, second int, g given, from, off int) {
	t.Helper()
	got, e := g.pass(knowing(t, of(8), first, second))
	if e != api.OK {
		t.Errorf("got %v", e)
	}
	for i, h := range got {
		want := 0
		if from != nobody {
			want = g.at[from] + off - g.at[i]
		}
		if h.Offset != want {
			t.Errorf("%v: node %d: got %d, want %d", g, i, h.Offset, want)
		}
	}
}

func TestWhoCounts(t *testing.T) {
	for _, c := range []struct {
		first, second int
		sends         row
		l             faults
		from          int
	}{
		// The first channel's, if it passes one, whatever the second does.
		{2, 2, row{2: x}, nil, 2},
		{2, lost, row{1: y, 2: x}, nil, 2},
		{2, 5, row{5: y, 2: x}, nil, 2},
		{5, 2, row{5: y, 2: x}, nil, 5},
		{2, 2, row{2: x}, faults{fault(api.Block, 1)}, 2},
		{2, 2, row{2: x, 1: y}, faults{fault(api.Leak, 1)}, 2},
		{5, 2, row{5: y, 2: x, 1: y}, faults{fault(api.Leak, 1)}, 5},
		// The second's, if the first passes none, or is blocked.
		{5, 2, row{2: x}, nil, 2},
		{5, lost, row{4: y, 2: x}, nil, 2},
		{5, lost, row{4: y, 2: x}, faults{fault(api.Block, 0)}, 2},
		{5, 2, row{5: x, 2: x}, faults{fault(api.Block, 0)}, 2},
		{5, 2, row{5: x, 2: x}, faults{fault(api.Leak, 0), fault(api.Block, 0)}, 2},
		{5, 2, row{6: x, 4: x, 7: x}, faults{fault(api.Leak, 1)}, 4},
		{5, 2, row{5: x, 4: x, 7: x}, faults{fault(api.Leak, 1), fault(api.Block, 0)}, 4},
		// Of one that leaks the least that sends, whoever is heard.
		{5, 2, row{5: x, 2: y}, faults{fault(api.Leak, 0)}, 2},
		{5, 5, row{5: x, 2: y}, faults{fault(api.Leak, 0), fault(api.Leak, 1)}, 2},
		{5, 5, row{1: x, 7: notX}, faults{fault(api.Leak, 0)}, 1},
		{5, 5, row{1: x, 7: notX, 6: y}, faults{fault(api.Leak, 0)}, 1},
		{lost, lost, row{7: x}, faults{fault(api.Leak, 0)}, 7},
		// Nobody's, if both pass none, are blocked, or leak what nobody sends.
		{2, 2, row{}, nil, nobody},
		{2, 5, row{1: x, 3: x}, nil, nobody},
		{2, 2, row{2: x}, faults{fault(api.Block, 1), fault(api.Block, 0)}, nobody},
		{2, 5, row{2: x}, faults{fault(api.Block, 0)}, nobody},
		{5, 2, row{2: x}, faults{fault(api.Block, 1)}, nobody},
		{2, 2, row{}, faults{fault(api.Leak, 0), fault(api.Leak, 1)}, nobody},
		{2, 2, row{2: x}, faults{fault(api.Leak, 0), fault(api.Block, 0), fault(api.Block, 1)}, nobody},
		{2, 2, row{2: x}, faults{fault(api.Leak, 0), fault(api.Omit, 2)}, nobody},
	} {
		wantOffsets(t, c.first, c.second, given{c.sends, when, c.l}, c.from, 0)
	}
}

// Both sides of each time, to the bounds that the chapter names.
func TestOffsetsBelowAndAbove(t *testing.T) {
	for _, at := range []ticks{
		{}, when, {-1, -2, -3, -4, -5, -6, -7, -8}, {0, 1000, -1000, 40, 41, -40, -41, 7},
		{far, -far, 0, far, -far, 1, far - 1, -far + 1}, {-far, far, -far, far, far, far, far, far}, all(far), all(-far),
	} {
		for from := range at {
			wantOffsets(t, lost, lost, given{one(from, x), at, nil}, from, 0)
			wantOffsets(t, 2, lost, given{one(from, x), at, faults{fault(api.Block, 0)}}, from, 0)
			wantOffsets(t, 2, 2, given{one(from, x), at, faults{fault(api.Leak, 0)}}, from, 0)
			wantOffsets(t, lost, lost, given{each(x), at, faults{fault(api.Leak, 0), fault(api.Leak, 1)}}, 0, 0)
		}
	}
}

// What a sending is off counts where it is heard; of who hears its own time does, off or not.
func TestOffsetsOfWhoIsOff(t *testing.T) {
	for _, c := range []struct {
		l   faults
		off int
	}{
		{faults{late(2, 17)}, 17},
		{faults{late(2, -17)}, -17},
		{faults{late(2, 17), late(2, 5), late(2, -1)}, 21},
		{faults{babble(2, 9, y...)}, 9},
		{faults{late(2, -17), babble(2, 9, y...)}, -8},
		{faults{babble(2, 9, y...), late(2, -17), babble(2, 1, x...)}, -7},
		{faults{late(1, 1000), late(3, -1000)}, 0},
		{faults{late(1, 1000), late(2, 3), babble(3, 1000, x...)}, 3},
		{faults{fault(api.Deaf, 1), late(1, 1000), late(2, 3)}, 3},
		{faults{late(2, 1000), fault(api.Leak, 0), fault(api.Leak, 1)}, 1000},
		{faults{fault(api.Block, 0), late(2, 11)}, 11},
		{faults{fault(api.Leak, 1), fault(api.Block, 0), late(2, -1000)}, -1000},
		{faults{fault(api.Leak, 0), babble(2, -1000, y...), late(2, -1000)}, -2000},
		{faults{late(2, 40), garble(2, 5)}, 40},
		{faults{late(2, 5), fault(api.Omit, 2), babble(2, 6, y...)}, 11},
	} {
		g := given{row{2: x, 3: x}, when, c.l}
		wantOffsets(t, 2, 2, g, 2, c.off)
	}
	for _, n := range []int{1, -1} {
		for _, at := range []int{far, -far} {
			l := faults{late(2, n*1000), late(2, n*1000), late(2, n*1000), babble(2, n*1000, y...)}
			wantOffsets(t, lost, lost, given{row{2: x}, ticks{2: at, 3: -at, 4: at - 1, 7: -at + 1}, l}, 2, n*4000)
		}
	}
}
