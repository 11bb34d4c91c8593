package star_test

import (
	"bytes"
	"math"
	"testing"

	"matron/api"
)

// P11.2: slots without faults.

// The chapter's example: of one that sends, all others' A, B are Bytes, Bytes.
func TestTheChaptersExample(t *testing.T) {
	eachTable(func(table api.Table) {
		n := len(table.Nodes)
		for i := range n {
			got, e := fresh(t, table).Slot(one(i, x), when, nil)
			for k := range n {
				if h := got[k]; e != api.OK || h.A != api.Bytes || h.B != api.Bytes || !bytes.Equal(h.X, x) || !bytes.Equal(h.Y, x) {
					t.Errorf("node %d of %d, who sends is %d: got %v, %v", k, n, i, h, e)
				}
			}
		}
	})
}

// By guardians that know no slot the least that sends is passed, whoever sends beside; all hear it, who sends it, too.
func TestOfWhoKnowsNoSlot(t *testing.T) {
	eachTable(func(table api.Table) {
		n := len(table.Nodes)
		s := fresh(t, table)
		none := [2]int{lost, lost}
		play(t, s, n,
			turn{row{}, nil, silence, nobody, 0, none},
			turn{row{0: {}, 2: {}}, nil, silence, nobody, 0, none},
			turn{each(y), nil, both(y), 0, 0, none},
			turn{row{0: {}, 1: x, 2: y, 3: y}, nil, both(x), 1, 0, none},
			turn{row{2: x, 3: three}, nil, both(x), 2, 0, none},
		)
		for i := range n {
			play(t, s, n, turn{one(i, three), nil, both(three), i, 0, none})
			for k := range i {
				play(t, s, n, turn{two(i, y, k, x), nil, both(x), k, 0, none})
			}
		}
	})
}

// By guardians that know the slot its node is passed, whoever sends beside; of who sends without it nothing is heard.
func TestOfWhoKnowsTheSlot(t *testing.T) {
	eachTable(func(table api.Table) {
		n := len(table.Nodes)
		for i := range n {
			next := [2]int{(i + 1) % n, (i + 1) % n}
			for k := range n {
				others := each(three)
				others[i] = nil
				all := others
				all[i] = x
				if k == i {
					continue
				}
				for _, c := range []turn{
					{one(i, x), nil, both(x), i, 0, next},
					{two(i, x, k, y), nil, both(x), i, 0, next},
					{all, nil, both(x), i, 0, next},
					{one(k, y), nil, silence, nobody, 0, next},
					{others, nil, silence, nobody, 0, next},
					{row{}, nil, silence, nobody, 0, next},
				} {
					play(t, knowing(t, table, i, i), n, c)
				}
			}
		}
	})
}

// Slot behind slot of one Star: it learns a slot, holds what is not that slot's, falls silent, and forgets.
func TestSlotBehindSlot(t *testing.T) {
	eachTable(func(table api.Table) {
		n := len(table.Nodes)
		s := fresh(t, table)
		play(t, s, n,
			turn{row{1: x, 3: told(api.Info, 1)}, nil, both(x), 1, 0, [2]int{lost, lost}},
			turn{row{3: told(api.Normal, 1)}, nil, both(told(api.Normal, 1)), 3, 0, [2]int{lost, lost}},
			turn{row{2: told(api.Info, n-2), 3: x}, nil, both(told(api.Info, n-2)), 2, 0, [2]int{n - 1, n - 1}},
			turn{one(n-1, told(api.Cold, 2)), nil, both(told(api.Cold, 2)), n - 1, 0, [2]int{0, 0}},
			turn{row{1: told(api.Cold, 1)}, nil, silence, nobody, 0, [2]int{1, 1}},
			turn{row{0: y, 1: x}, nil, both(x), 1, 0, [2]int{2, 2}},
		)
		for i := range 2*n - 1 {
			slot := (3 + i) % n
			play(t, s, n, turn{one(slot, x), nil, silence, nobody, 0, [2]int{slot, slot}})
		}
		play(t, s, n,
			turn{row{}, nil, silence, nobody, 0, [2]int{lost, lost}},
			turn{row{3: y}, nil, both(y), 3, 0, [2]int{lost, lost}},
		)
	})
}

// Who is more than Window off is held by who knows the slot, and passed by who does not.
func TestWindow(t *testing.T) {
	for _, off := range []int{0, 1, -1, window, -window, window + 1, -window - 1, 1000, -1000, far, -far} {
		at := all(7)
		at[2] = now + off
		if off == far || off == -far {
			at[2] = off
		}
		h, from := both(x), 2
		if off > window || off < -window {
			h, from = silence, nobody
		}
		got, _ := knowing(t, of(4), 2, 2).Slot(row{2: x}, at, nil)
		wantHeard(t, off, got, hears(4, h, at, from, 0))
		if from == nobody {
			h, from = inB(x), 2
		}
		got, _ = knowing(t, of(4), 2, lost).Slot(row{2: x}, at, nil)
		wantHeard(t, off, got, hears(4, h, at, from, 0))
		got, _ = knowing(t, of(4), lost, lost).Slot(row{2: x}, at, nil)
		wantHeard(t, off, got, hears(4, both(x), at, 2, 0))
	}
}

// Once a round the guardians' clocks are turned, so that who drifts along is passed.
func TestClocksAreTurned(t *testing.T) {
	eachTable(func(table api.Table) {
		n := len(table.Nodes)
		s := knowing(t, table, 0, 0)
		l := learning(n, 0, 0)
		for round := range 30 {
			at := now + 30*(round+1)
			for i := range n {
				g := given{each(y), all(at), nil}
				g.sends[i] = x
				l = append(l, g)
				got, _ := g.pass(s)
				wantHeard(t, round, got, hears(n, both(x), g.at, i, 0))
			}
		}
		for i := range 2 {
			wantTime(t, table, i, now+30*30, l...)
		}
		got, _ := s.Slot(one(0, x), all(now), nil)
		wantHeard(t, "behind", got, hears(n, silence, when, nobody, 0))
	})
}

// A guardian that passes none, while the other passes one; and both passing unlike nodes.
func TestUnlikeGuardians(t *testing.T) {
	eachTable(func(table api.Table) {
		n := len(table.Nodes)
		for _, c := range []struct {
			first, second int
			turn
		}{
			{2, lost, turn{row{1: y}, nil, inB(y), 1, 0, [2]int{3, lost}}},
			{lost, 2, turn{row{1: y}, nil, inA(y), 1, 0, [2]int{lost, 3}}},
			{2, 1, turn{row{1: y}, nil, inB(y), 1, 0, [2]int{3, 2}}},
			{1, 2, turn{row{1: y}, nil, inA(y), 1, 0, [2]int{2, 3}}},
			{2, lost, turn{row{1: y, 2: x}, nil, apart(x, y), 2, 0, [2]int{3, lost}}},
			{lost, 2, turn{row{1: y, 2: x}, nil, apart(y, x), 1, 0, [2]int{lost, 3}}},
			{2, 0, turn{row{0: y, 1: y, 2: x, 3: y}, nil, apart(x, y), 2, 0, [2]int{3, 1}}},
			{0, 2, turn{row{0: y, 1: x, 2: x, 3: x}, nil, apart(y, x), 0, 0, [2]int{1, 3}}},
			{2, 0, turn{row{1: x, 3: y}, nil, silence, nobody, 0, [2]int{3, 1}}},
			{2, lost, turn{row{2: x}, nil, both(x), 2, 0, [2]int{3, lost}}},
			{2, lost, turn{row{}, nil, silence, nobody, 0, [2]int{3, lost}}},
			// One learns from what the other holds.
			{2, lost, turn{row{0: told(api.Cold, 0)}, nil, inB(told(api.Cold, 0)), 0, 0, [2]int{3, 1}}},
			{lost, 2, turn{row{0: told(api.Info, 1)}, nil, inA(told(api.Info, 1)), 0, 0, [2]int{2, 3}}},
			{2, lost, turn{row{0: told(api.Cold, 0), 2: told(api.Cold, 1)}, nil, apart(told(api.Cold, 1), told(api.Cold, 0)), 2, 0, [2]int{3, 1}}},
		} {
			play(t, knowing(t, table, c.first, c.second), n, c.turn)
		}
	})
}

// Both rows are read as one: where the channels bear unlike many bytes, the shorter one is noise behind its end.
func TestUnlikeLengths(t *testing.T) {
	long := bytes.Repeat([]byte{0xa5}, 60)
	for _, c := range []struct {
		a, b []byte
		want api.Heard
	}{
		{x, y, apart(x, y)},
		{x, three, api.Heard{A: api.Noise, B: api.Bytes, Y: three}},
		{three, y, api.Heard{A: api.Bytes, X: three, B: api.Noise}},
		{long, y, api.Heard{A: api.Bytes, X: long[:50], B: api.Noise}},
		{long[:49], long, api.Heard{A: api.Noise, B: api.Bytes, Y: long[:50]}},
		{long[:50], long, both(long[:50])},
		{x, nil, inA(x)},
		{nil, y, inB(y)},
	} {
		from := 2
		if len(c.a) == 0 {
			from = 0
		}
		play(t, knowing(t, of(4), 2, 0), 4, turn{row{0: c.b, 2: c.a}, nil, c.want, from, 0, [2]int{3, 1}})
	}
}

// Of more than MaxRow / 8 bytes the first ones are sent, and each number up to that whole.
func TestHowManyBytes(t *testing.T) {
	for _, many := range []int{1, 2, 3, 8, 24, 25, 48, 49, 50, 51, 52, 60, 100, 1000, 70000} {
		b := make([]byte, many)
		for i := range b {
			b[i] = byte(i*37 + i>>8 + 11)
		}
		want := b[:min(many, 50)]
		none := [2]int{lost, lost}
		play(t, fresh(t, of(4)), 4, turn{row{3: b}, nil, both(want), 3, 0, none}, turn{row{0: b, 1: x}, nil, both(want), 0, 0, none})
		play(t, knowing(t, of(8), 7, 1), 8, turn{each(b), nil, both(want), 7, 0, [2]int{0, 2}})
		play(t, fresh(t, of(4)), 4, turn{row{3: b}, faults{fault(api.Leak, 0), fault(api.Leak, 1)}, both(want), 3, 0, none})
	}
	for v := range 256 {
		b := []byte{byte(v)}
		play(t, fresh(t, of(4)), 4, turn{row{3: b}, nil, both(b), 3, 0, [2]int{lost, lost}})
	}
}

// What is none of the table's nodes is not looked at: neither what it sends, nor when, nor a fault of it; and it hears nothing.
func TestWhatIsNoNode(t *testing.T) {
	for n := api.MinNodes; n < api.MaxNodes; n++ {
		for i := n; i < api.MaxNodes; i++ {
			for _, at := range []int{0, now, far, -far, math.MinInt, math.MaxInt} {
				times := when
				for k := n; k < api.MaxNodes; k++ {
					times[k] = at
				}
				for _, l := range []faults{nil, {babble(i, 1, x...)}, {babble(i, 1000, told(api.Cold, 1)...), late(i, 5)}, {fault(api.Deaf, i)}, {fault(api.Omit, i), garble(i, 3)}, {fault(api.Leak, 0), fault(api.Leak, 1), babble(i, 0, y...)}} {
					s := fresh(t, of(n))
					got, e := s.Slot(one(i, told(api.Cold, 2)), times, l)
					if e != api.OK {
						t.Errorf("got %v", e)
					}
					wantHeard(t, l, got, [api.MaxNodes]api.Heard{})
					wantKnow(t, s, l, [2]int{lost, lost})
					got, _ = s.Slot(two(i, told(api.Cold, 2), n-1, x), times, l)
					wantHeard(t, l, got, hears(n, both(x), times, n-1, 0))
					s = knowing(t, of(n), 0, 0)
					got, _ = s.Slot(two(i, x, 0, y), times, l)
					wantHeard(t, l, got, hears(n, both(y), times, 0, 0))
					wantKnow(t, s, l, [2]int{1, 1})
				}
			}
		}
	}
}
