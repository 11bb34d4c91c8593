package audit_test

import (
	"testing"

	"matron/api"
)

// P0.5: in such scripts what who was not hit last sent is what all others who were not hit read, not older than a round;
// nobody who was not hit is told lost; who falls silent is, two rounds on.

// wantReadsAndLost asks, too, for who was hit and has not been Active for two rounds.
func (b *bed) wantReadsAndLost(fallen *[api.MaxNodes]int) func(t *testing.T) {
	return func(t *testing.T) {
		t.Helper()
		b.wantReads(t)
		for i := range b.n() {
			if fallen[i]++; b.w.State(i) == api.Active {
				fallen[i] = 0
			}
			if has(b.hit, i) && fallen[i] >= 2*b.n() {
				b.wantLost(t, i)
			}
		}
	}
}

// wantLost: that node is told lost by all who were not hit.
func (b *bed) wantLost(t *testing.T, who int) {
	t.Helper()
	for i := range b.n() {
		if i == who || has(b.hit, i) {
			continue
		}
		if b.w.Rings(i, who)&api.Lost == 0 || b.w.Read(i, who).Good {
			t.Errorf("behind %d slots: node %d, silent for two rounds, is not lost to %d: %b, %v", b.w.Slots(), who, i, b.w.Rings(i, who), b.w.Read(i, who))
		}
	}
	b.stop(t)
}

func TestWhatIsRead(t *testing.T) {
	lost := 0
	for i := range 100 {
		d := dice(i)
		b := someBed(t, &d)
		var fallen [api.MaxNodes]int
		b.playFair(t, &d, 20, b.wantReadsAndLost(&fallen))
		for _, many := range fallen {
			if many > 2*b.n() {
				lost++
			}
		}
	}
	if lost < 50 {
		t.Errorf("only %d fell silent", lost)
	}
}

// What is written just ahead of the own slot is sent in it, and read behind it; what is written behind it a round later.
func TestWhatIsReadWhen(t *testing.T) {
	eachTable(func(x api.Table) {
		b := bedOf(t, x, apart(x), none(x))
		n := b.n()
		b.slots(t, n)
		for range 5 * n {
			who := b.view().Slot
			b.write(t, who, []byte{byte(b.w.Slots())})
			b.wantReads(t)
			b.slot(t)
			b.wantReads(t)
			b.write(t, who, []byte{99})
			b.wantReads(t)
		}
	})
}

// A guardian that passes nothing, or everything, in one slot keeps nobody from reading.
func TestReadBesideAGuardian(t *testing.T) {
	eachTable(func(x api.Table) {
		for ahead := range len(x.Nodes) {
			for _, f := range []api.Fault{fault(api.Block, 0), fault(api.Block, 1), fault(api.Leak, 0), fault(api.Leak, 1)} {
				b := bedOf(t, x, apart(x), none(x))
				b.slots(t, ahead)
				b.write(t, b.view().Slot, []byte{77})
				b.slot(t, f)
				b.wantReads(t)
				b.slots(t, 3*b.n())
				b.slot(t, f)
				b.wantReads(t)
				b.wantFair(t, 0)
			}
		}
	})
}

// Who is switched off, or sends nothing once and so has another view than all others from then on, is silent.
func TestWhoFallsSilent(t *testing.T) {
	eachTable(func(x api.Table) {
		n := len(x.Nodes)
		for who := range n {
			for ahead := range 2 * n {
				b := bedOf(t, x, apart(x), none(x))
				b.slots(t, 2*n+ahead)
				b.wantReads(t)
				do(t, b.w, off(who))
				b.hit = bits(who)
				for range 2 * n {
					b.slot(t)
					b.wantReads(t)
				}
				b.wantLost(t, who)
			}
			b := bedOf(t, x, apart(x), none(x))
			b.slots(t, 2*n)
			b.slots(t, (who-b.view().Slot+n)%n)
			b.slot(t, fault(api.Omit, who))
			for range 2 * n {
				b.wantReads(t)
				b.slot(t)
			}
			b.wantLost(t, who)
			b.wantFair(t, 1)
		}
	})
}
