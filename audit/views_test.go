package audit_test

import (
	"testing"

	"matron/api"
)

// P0.2: from all up, behind each slot of a fair script that hits at most one of four nodes, two of more,
// all who were not hit are Active, have one view, and are members in it.

func TestOneView(t *testing.T) {
	fell := map[int]int{} // how many of who were hit are in which state at last
	for i := range 150 {
		d := dice(i)
		b := someBed(t, &d)
		b.playFair(t, &d, 20, b.wantViews)
		for k := range b.n() {
			if has(b.hit, k) {
				fell[b.w.State(k)]++
			}
		}
	}
	if fell[api.Frozen] < 50 || fell[api.Active] < 10 {
		t.Errorf("of who were hit there are in each state: %v", fell)
	}
}

// Each kind of fault of each node, and of each guardian, in each slot of two rounds, right behind the last one of who began, and later.
func TestEachFault(t *testing.T) {
	for _, n := range []int{4, 5, 8} {
		for kind := api.Omit; kind <= api.Leak; kind++ {
			for i := range n {
				for ahead := range 2 * n {
					d := dice(ahead)
					x := of(n, ahead%n)
					b := bedOf(t, x, apart(x), none(x))
					b.slots(t, ahead)
					b.slot(t, b.someFair(&d, kind, i))
					b.wantViews(t)
					for range 3 * n {
						b.slot(t)
						b.wantViews(t)
					}
					b.slot(t, b.someFair(&d, 1+d.below(7), i))
					b.wantViews(t)
					b.wantFair(t, 1)
				}
			}
		}
	}
}

// A second one is hit three rounds on, which has seen the first one fall.
func TestEachTwo(t *testing.T) {
	for n := 5; n <= api.MaxNodes; n++ {
		for i := range n {
			for k := range n {
				for _, kinds := range [][2]int{{api.Deaf, api.Omit}, {api.Omit, api.Deaf}, {api.Garble, api.Late}, {api.Late, api.Babble}} {
					d := dice(i)
					x := of(n, 0)
					b := bedOf(t, x, apart(x), none(x))
					b.slots(t, i+k)
					b.slot(t, b.someFair(&d, kinds[0], i))
					b.slots(t, 3*n)
					b.slot(t, b.someFair(&d, kinds[1], k))
					for range 3 * n {
						b.wantViews(t)
						b.slot(t)
					}
					b.wantViews(t)
					b.wantFair(t, 2)
				}
			}
		}
	}
}

// All are up again as soon as one that left is back. (Its clock may be farther off than two times Drift yet: of its first round it has but a part of the measures.)
func TestOneViewBehindAComeback(t *testing.T) {
	for i := range 80 {
		d := dice(i)
		b := someBed(t, &d)
		for range 1 + d.below(3) {
			who := d.below(b.n())
			b.leaves(t, who)
			b.slots(t, d.below(3*b.n()))
			do(t, b.w, on(who, d.of(-1000, 0, 1000)))
			within(t, 3*b.n()+1, func() bool { return b.w.State(who) == api.Active }, func() { b.slot(t) })
			b.hit = 0
			b.wantViews(t)
		}
		b.playFair(t, &d, 15, b.wantViews)
	}
}

// What the others do is what they do if nobody is hit: rounds and slots are the same, and so are the members who were not hit.
func TestFaultsMoveNobodyElse(t *testing.T) {
	for i := range 40 {
		d := dice(1000 + i)
		b := someBed(t, &d)
		calm := calmOf(t, b)
		b.playFair(t, &d, 12, func(t *testing.T) {
			t.Helper()
			calm.slot(t)
			b.wantAs(t, calm)
		})
	}
}

// wantAs: who was not hit has the view of that other bed, but for who was hit.
func (b *bed) wantAs(t *testing.T, calm *bed) {
	t.Helper()
	for i := range b.n() {
		got, want := b.w.View(i), calm.w.View(i)
		got.Members |= b.hit
		want.Members |= b.hit
		if !has(b.hit, i) && got != want {
			t.Errorf("behind %d slots, %b hit: node %d: got %v, want %v", b.w.Slots(), b.hit, i, got, want)
		}
	}
	b.stop(t)
}
