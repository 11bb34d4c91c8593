package audit_test

import (
	"bytes"
	"testing"

	"matron/api"
)

// P0.4: one node that sends whatever, whenever, or one guardian that passes nothing, or everything, takes nobody else's place or view.

// calmOf is a bed of the same table, in which nobody is hit, and nobody drifts.
func calmOf(t *testing.T, b *bed) *bed {
	t.Helper()
	calm := &bed{w: made(t, b.x, none(b.x)), x: b.x}
	for i := range b.n() {
		do(t, calm.w, on(i, 0))
	}
	calm.slots(t, b.w.Slots())
	return calm
}

// someBabble is what one node does in a slot: it sends something, at any time, or what it sends is late, turned, or not sent.
func (b *bed) someBabble(d *dice, who int) (l []api.Fault) {
	for range d.of(0, 1, 1, 1, 2, 3, 4) {
		f := fault(d.of(api.Babble, api.Babble, api.Babble, api.Late, api.Garble, api.Omit), who)
		f.At = d.of(0, 0, b.x.Window, -b.x.Window, b.x.Window+1, -b.x.Window-1, b.x.Window-b.x.Drift, d.below(2001)-1000)
		f.At = min(1000, max(-1000, f.At))
		f.Data = b.someFrame(d)
		l = append(l, f)
	}
	return l
}

func TestOneThatBabbles(t *testing.T) {
	own := 0
	for i := range 150 {
		d := dice(i)
		b := someBed(t, &d)
		calm := calmOf(t, b)
		who := d.below(b.n())
		b.hit = bits(who)
		back := d.of(2, 30, 100000)
		for range 25 * b.n() {
			if k := d.below(b.n()); d.below(3) == 0 {
				b.write(t, k, d.row(b.x.Nodes[k].Size))
			}
			if d.below(back) == 0 {
				b.w.Step(on(who, d.of(0, 1000, -1000))) // it errs, unless that one is Frozen
			}
			if b.view().Slot == who {
				own++
			}
			b.slot(t, b.someBabble(&d, who)...)
			calm.slot(t)
			b.wantViews(t)
			b.wantReads(t)
			b.wantAs(t, calm)
		}
	}
	if own < 1000 {
		t.Errorf("it was its own slot only %d times", own)
	}
}

// sayings are what one may send in a slot: what the slot's node would, what it would itself in its own one, a beginning, noise.
func (b *bed) sayings(t *testing.T, who int) [][]byte {
	t.Helper()
	s := b.view()
	return [][]byte{told(t, s.Round, s.Slot, s.Members|bits(s.Slot)), told(t, s.Round, who, s.Members), told(t, 0, who, bits(who)), {1, 2, 3}}
}

// It sends such a thing in each slot for ever.
func TestOneThatSendsFrames(t *testing.T) {
	for n := api.MinNodes; n <= api.MaxNodes; n++ {
		for who := range n {
			for kind := range 4 {
				x := of(n, 0)
				b := bedOf(t, x, apart(x), none(x))
				calm := calmOf(t, b)
				b.hit = bits(who)
				for range 10 * n {
					b.write(t, b.view().Slot, []byte{byte(b.view().Round)})
					b.slot(t, babble(who, b.sayings(t, who)[kind]...))
					calm.slot(t)
					b.wantViews(t)
					b.wantReads(t)
					b.wantAs(t, calm)
				}
			}
		}
	}
}

// wantEmpty: the place of that one, which is off, is empty: it is nobody's member, and what it said last is what is read of it.
func (b *bed) wantEmpty(t *testing.T, gone int, said []byte) {
	t.Helper()
	for i := range b.n() {
		m := b.w.Read(i, gone)
		if !has(b.hit, i) && (has(b.w.View(i).Members, gone) || m.Good || !bytes.Equal(m.Data, said)) {
			t.Errorf("behind %d slots: node %d reads %+v of %d, members %b", b.w.Slots(), i, m, gone, b.w.View(i).Members)
		}
	}
	b.stop(t)
}

// Nobody takes the place of one that is off, either.
func TestPlaceOfOneThatIsOff(t *testing.T) {
	for n := api.MinNodes; n <= api.MaxNodes; n++ {
		for gone := range n {
			for kind := range 4 {
				who := (gone + 1 + kind%(n-1)) % n
				x := of(n, 0)
				b := bedOf(t, x, apart(x), none(x))
				b.write(t, gone, []byte{88})
				b.slots(t, n)
				b.leaves(t, gone)
				b.slots(t, n)
				b.hit = bits(gone, who)
				for range 6 * n {
					b.slot(t, babble(who, b.sayings(t, who)[kind]...))
					b.wantViews(t)
					b.wantReads(t)
					b.wantEmpty(t, gone, []byte{88})
				}
			}
		}
	}
}

// guards are what a guardian does slot by slot.
func guards(d *dice, g int) func() []api.Fault {
	kind := d.of(api.Block, api.Leak, 0)
	rare := d.of(1, 1, 2, 7)
	return func() []api.Fault {
		switch {
		case d.below(rare) > 0:
			return nil
		case kind == 0:
			return []api.Fault{fault(d.of(api.Block, api.Leak), g)}
		}
		return []api.Fault{fault(kind, g)}
	}
}

// All that is told from the beginning on is what would be told without that: each is in its place, and none is lost for it.
func TestOneGuardian(t *testing.T) {
	for i := range 120 {
		d := dice(i)
		b := someBeginning(&d)
		faults := guards(&d, i%2)
		w := made(t, b.x, b.drifts)
		do(t, w, b.acts()...)
		for slots := range 12 * b.n() {
			if wantAll(t, i, all(w), b.tells(slots)); t.Failed() {
				t.Fatalf("by %+v", b)
			}
			do(t, w, slot(faults()...))
		}
	}
}

// Likewise for what is said from all up on, at the edges of what clocks may be.
func TestOneGuardianOfMany(t *testing.T) {
	for i := range 60 {
		d := dice(i)
		b := someBed(t, &d)
		faults := guards(&d, i%2)
		for range 20 * b.n() {
			if k := d.below(b.n()); d.below(3) == 0 {
				b.write(t, k, d.row(b.x.Nodes[k].Size))
			}
			b.slot(t, faults()...)
			b.wantViews(t)
			b.wantReads(t)
		}
		if b.hit != 0 || b.view().Members != everybody(b.n()) {
			t.Errorf("%b hit, members %b", b.hit, b.view().Members)
		}
	}
}
