package star_test

import (
	"math"
	"slices"
	"testing"

	"matron/api"
	"matron/star"
)

// P11.3: a nil Star, and what holds everywhere.

// Of a nil Star Slot answers ErrArg, whether its faults may be or not, and Guard 0, false.
func TestANilStar(t *testing.T) {
	var s *star.Star
	for _, l := range []faults{nil, {}, {fault(api.Deaf, 1)}, {late(1, 1000), babble(0, 0, x...)}, {{}}, {fault(8, 9)}, make(faults, 5), make(faults, 1000)} {
		for _, sends := range []row{{}, {2: x}, each(told(api.Cold, 1))} {
			got, e := s.Slot(sends, when, l)
			if e != api.ErrArg {
				t.Errorf("Slot: got %v", e)
			}
			wantHeard(t, l, got, [api.MaxNodes]api.Heard{})
		}
	}
	for _, i := range []int{0, 1, -1, 2, math.MinInt, math.MaxInt} {
		if slot, ok := s.Guard(i); slot != 0 || ok {
			t.Errorf("Guard(%d): got %d, %v", i, slot, ok)
		}
	}
}

// P11.3: who sends hears, too, as all others do, what comes through: itself, or another one.
func TestWhoSendsHears(t *testing.T) {
	eachTable(func(table api.Table) {
		n := len(table.Nodes)
		for i := range n {
			got, _ := fresh(t, table).Slot(one(i, x), when, nil)
			if want := both(x); !same(got[i], want) {
				t.Errorf("node %d: got %v, want %v", i, got[i], want)
			}
			k := (i + 1) % n
			got, _ = knowing(t, table, k, k).Slot(two(i, x, k, y), when, nil)
			want := both(y)
			want.Offset = when[k] - when[i]
			if !same(got[i], want) {
				t.Errorf("node %d: got %v, want %v", i, got[i], want)
			}
			got, _ = knowing(t, table, k, k).Slot(one(i, x), when, nil)
			if !same(got[i], silence) {
				t.Errorf("node %d: got %v, want silence", i, got[i])
			}
		}
	})
}

// W5: nil and empty are the same, of bytes, of a list, and of Data.
func TestNilAndEmpty(t *testing.T) {
	a, b := fresh(t, of(5)), fresh(t, of(5))
	m, d := model{table: of(5)}, dice(17)
	for i := range 200 {
		g := some(&d, &m)
		empty := given{at: g.at, l: append(faults{}, g.l...)}
		for k, x := range g.sends {
			empty.sends[k] = append([]byte{}, x...)
		}
		for k, f := range g.l {
			empty.l[k].Data = append([]byte{}, f.Data...)
			if len(f.Data) == 0 {
				g.l[k].Data = nil
			}
		}
		if !star.Is(empty.l) || !star.Is(g.l) {
			t.Fatal("Is")
		}
		want, _ := g.pass(a)
		got, _ := empty.pass(b)
		wantHeard(t, i, got, want)
		wantKnow(t, b, i, know(a))
		m.pass(g)
	}
}

// W8: of a Star that is copied as a value one goes on, be it the copy or what was copied.
func TestACopyGoesOn(t *testing.T) {
	for goesOn := range 2 {
		table := of(6)
		s, m, d := fresh(t, table), model{table: table}, dice(23)
		for i := range 300 {
			if i%50 == 49 {
				c := *s
				if goesOn == 1 {
					s = &c
				}
			}
			g := some(&d, &m)
			got, _ := g.pass(s)
			wantHeard(t, i, got, m.pass(g))
			wantKnow(t, s, i, m.know())
		}
	}
}

// W1: at times beyond what the chapter speaks of, too, each call ends, and none panics; nor does one of a Star that New did not make.
func TestNothingPanics(t *testing.T) {
	extremes := []int{math.MinInt, math.MinInt + 1, -1 << 62, 0, 1 << 62, math.MaxInt - 1, math.MaxInt}
	d := dice(9)
	for range 300 {
		s := new(star.Star)
		if d.below(8) > 0 {
			s = knowing(t, of(4+d.below(5)), d.below(4), d.of(lost, 0, 1, 2, 3))
		}
		for range 20 {
			var g given
			for i := range g.sends {
				g.at[i] = d.of(extremes...)
				if d.below(2) == 0 {
					g.sends[i] = someBytes(&d, 4)
				}
			}
			for range d.below(6) {
				f := someFault(&d, 4)
				if d.below(9) == 0 {
					f = api.Fault{Kind: d.of(extremes...), N: d.of(extremes...), At: d.of(extremes...)}
				}
				g.l = append(g.l, f)
			}
			was := slices.Clone(g.l)
			_, e := g.pass(s)
			if (e == api.OK) != star.Is(was) {
				t.Errorf("Slot of %v: got %v", was, e)
			}
			s.Guard(d.of(0, 1, 2, math.MinInt))
		}
	}
}
