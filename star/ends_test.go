package star_test

import (
	"slices"
	"testing"

	"matron/api"
)

// P11.2: each guardian Ends with its channel's bytes, if they are Bytes, at when its channel's node sends.

// By these slots guardians learn a slot, and the time at which it was told.
func TestTheTimeThatIsLearnt(t *testing.T) {
	cold, l := told(api.Cold, 1), faults{}
	for _, at := range []ticks{when, all(0), {far, -far, far - 50, -far + 50}, {-7, 300, -300, 1000}} {
		for from := range 4 {
			for _, off := range []int{0, 700, -700} {
				l = faults{late(from, off)}
				for i := range 2 {
					wantTime(t, of(4), i, at[from]+off, given{one(from, cold), at, l})
					wantTime(t, of(4), i, at[from]+off, given{row{}, at, faults{babble(from, off, cold...)}})
					wantTime(t, of(4), i, at[from]+off, given{one(from, cold), at, append(l, fault(api.Block, 1-i))})
					wantTime(t, of(4), i, at[from]+off, given{one(from, cold), at, append(l, fault(api.Leak, i))})
				}
			}
		}
	}
}

// Each by its own channel: of both passing unlike nodes each has the time of its own.
func TestEachItsOwn(t *testing.T) {
	cold := told(api.Cold, 1)
	at := ticks{500, 600, 700, now}
	for i := range 2 {
		slot := [2]int{lost, lost}
		slot[i] = 3
		// Guardian i holds node 0, and has a measure of its own; the other one learns.
		l := append(learning(4, slot[0], slot[1]), given{row{0: cold, 3: told(api.Info, 2)}, at, faults{late(3, 8)}})
		wantTime(t, of(4), i, now+8, l...)
		wantTime(t, of(4), 1-i, 500, l...)
		// By one that leaks what one sends a guardian learns, at that one's time; the other one, of whom nobody sends, knows nothing of it.
		l = append(learning(4, slot[0], slot[1]), given{row{1: cold}, at, faults{fault(api.Leak, 1-i)}})
		wantTime(t, of(4), 1-i, 600, l...)
		wantTime(t, of(4), i, now, l...)
	}
}

// A guardian that knows the slot measures when its channel's node sends; of one that leaks that is the least that sends, whoever is heard.
func TestWhatIsMeasured(t *testing.T) {
	for i := range 2 {
		for _, c := range []struct {
			sends row
			l     faults
			want  int
		}{
			{row{3: x}, nil, 12},
			{row{3: x}, faults{late(3, -20)}, -8},
			{row{3: x}, faults{babble(3, 9, y...)}, 21},
			{row{3: x}, faults{late(3, 5), babble(3, 9, y...), late(3, 1)}, 27},
			{row{3: x, 1: y}, nil, 12},
			{row{3: x, 1: y}, faults{fault(api.Leak, 1-i)}, 12},
			{row{3: x}, faults{fault(api.Leak, i)}, 12},
			{row{1: x}, faults{fault(api.Leak, i)}, 60},
			{row{1: x}, faults{fault(api.Leak, i), late(1, 7)}, 67},
			{row{3: x}, faults{fault(api.Leak, i), late(3, 70)}, 82},
			{row{1: x, 2: notX, 3: y}, faults{fault(api.Leak, i)}, 60},
			{row{2: x, 0: notX, 3: y}, faults{fault(api.Leak, i), late(0, 1)}, -29},
			{row{2: x, 0: notX, 3: y}, faults{fault(api.Leak, 1-i), late(0, 1)}, 12},
			{row{3: x}, faults{garble(3, 9), fault(api.Deaf, 3)}, 12},
			// What is no bytes is no measure: noise, silence, nobody.
			{row{1: x, 3: y}, faults{fault(api.Leak, i)}, 0},
			{row{1: x, 3: notX}, faults{fault(api.Leak, i)}, 0},
			{row{1: x, 3: x}, faults{fault(api.Leak, i)}, 0},
			{row{1: x}, nil, 0},
			{row{}, nil, 0},
			{row{}, faults{fault(api.Leak, i)}, 0},
			{row{3: x}, faults{fault(api.Omit, 3)}, 0},
			{row{3: x}, faults{fault(api.Block, i)}, 0},
			{row{3: x}, faults{fault(api.Block, i), fault(api.Leak, i)}, 0},
			{row{3: x}, faults{fault(api.Leak, i), fault(api.Block, i)}, 0},
			{row{3: x}, faults{late(3, 29)}, 0},
		} {
			l := append(learning(4, 3, 3), given{c.sends, ticks{now - 30, now + 60, now - 7, now + 12}, c.l})
			wantTime(t, of(4), i, now+c.want, l...)
		}
	}
}

// What is noise, since the other channel bears more bytes, is no bytes for its guardian either.
func TestNoiseOfUnlikeLengths(t *testing.T) {
	for i := range 2 {
		slot := [2]int{3, 3}
		slot[1-i] = lost
		for _, c := range []struct {
			b    []byte // of the other channel
			want int
		}{{x, 12}, {x[:1], 12}, {three, 0}} {
			l := append(learning(4, slot[0], slot[1]), given{row{0: c.b, 3: y}, all(now + 12), nil})
			wantTime(t, of(4), i, now+c.want, l...)
		}
		// Nor does one learn from it.
		s := knowing(t, of(4), slot[0], slot[1])
		long := slices.Repeat(x, 10)
		g := given{row{0: told(api.Cold, 1), 3: long}, when, nil}
		g.pass(s)
		know := [2]int{0, 0}
		know[1-i] = lost
		wantKnow(t, s, "noise", know)
	}
}

// Noise is silence for a guardian: behind two rounds of it the slot is lost, and by one slot of bytes it is not.
func TestNoiseIsSilenceForAGuardian(t *testing.T) {
	eachTable(func(table api.Table) {
		n := len(table.Nodes)
		leak := faults{fault(api.Leak, 0)}
		s := knowing(t, table, 1, 1)
		pass := func(sends row) {
			t.Helper()
			if _, e := s.Slot(sends, all(now), leak); e != api.OK {
				t.Errorf("got %v", e)
			}
		}
		slot := 1
		for i := range 2*n - 1 {
			pass([]row{each(x), {0: x, 1: notX}, {}}[i%3])
			slot = (slot + 1) % n
			wantKnow(t, s, i, [2]int{slot, slot})
		}
		pass(each(x))
		wantKnow(t, s, "behind", [2]int{lost, (slot + 1) % n})
		pass(row{3: told(api.Info, 0)})
		wantKnow(t, s, "learnt anew", [2]int{1, (slot + 2) % n})
	})
}

// What the first channel ends with is the first guardian's, and so with the second one, of bytes that teach them unlike slots.
func TestWhatIsLearnt(t *testing.T) {
	for first := range 4 {
		for second := range 4 {
			s := knowing(t, of(4), 2, 0)
			got, _ := s.Slot(row{2: told(api.Cold, first), 0: told(api.Cold, second)}, when, nil)
			wantHeard(t, "both know", got, hears(4, apart(told(api.Cold, first), told(api.Cold, second)), when, 2, 0))
			wantKnow(t, s, "both know", [2]int{3, 1})
			s = knowing(t, of(4), lost, 3)
			s.Slot(row{1: told(api.Info, first), 3: told(api.Cold, second)}, when, nil)
			wantKnow(t, s, "the second knows", [2]int{(first + 1) % 4, 0})
			s = knowing(t, of(4), 3, lost)
			s.Slot(row{1: told(api.Info, second), 3: told(api.Cold, first)}, when, nil)
			wantKnow(t, s, "the first knows", [2]int{0, (second + 1) % 4})
		}
	}
	for slot := range 8 {
		s := fresh(t, of(5))
		s.Slot(row{1: told(api.Cold, slot)}, when, nil)
		want := (slot + 1) % 5
		if slot > 4 {
			want = lost
		}
		wantKnow(t, s, slot, [2]int{want, want})
	}
}
