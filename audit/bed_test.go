package audit_test

import (
	"testing"

	"matron/api"
	"matron/audit"
	"matron/frame"
	"matron/ward"
)

// bed is a Ward from all up on, what was done to it since, and what each node said last and last sent.
type bed struct {
	w          *ward.Ward
	x          api.Table
	l          []api.Act
	said, sent [api.MaxNodes][]byte
	hit        int
	acked      bool // what rang as the first round ended, of who had not spoken yet, was acknowledged
}

// bedOf is one of which all are up: so many slots as it takes to begin are over.
func bedOf(t *testing.T, x api.Table, drifts, ats []int) *bed {
	t.Helper()
	b := &bed{w: made(t, x, drifts), x: x}
	for i, at := range ats {
		do(t, b.w, on(i, at))
	}
	do(t, b.w, slots(audit.Lead(x))...)
	b.wantViews(t)
	b.wantClocks(t)
	return b
}

func (b *bed) n() int { return len(b.x.Nodes) }

// view is that of the first node that was not hit.
func (b *bed) view() api.CState {
	i := 0
	for has(b.hit, i) {
		i++
	}
	return b.w.View(i)
}

func (b *bed) write(t *testing.T, i int, data []byte) {
	t.Helper()
	b.said[i] = data
	b.does(t, write(i, data...))
}

func (b *bed) does(t *testing.T, a api.Act) {
	t.Helper()
	b.l = append(b.l, a)
	do(t, b.w, a)
}

// slot has a slot pass. Who is hit by it is known from then on.
func (b *bed) slot(t *testing.T, l ...api.Fault) {
	t.Helper()
	view := b.view()
	b.sent[view.Slot] = b.said[view.Slot]
	b.does(t, slot(l...))
	b.hit |= audit.Hit(b.l[len(b.l)-1:])
	if view.Slot == b.n()-1 && !b.acked { // all were heard as this round ended
		b.acks(t)
	}
}

func (b *bed) slots(t *testing.T, many int) {
	t.Helper()
	for range many {
		b.slot(t)
	}
}

// acks has all that rings be acknowledged. It errs where nothing rings that is not so now, and changes nothing then.
func (b *bed) acks(t *testing.T) {
	t.Helper()
	for i := range b.n() {
		for rule := range b.n() {
			a := ack(i, rule)
			b.l = append(b.l, a)
			b.w.Step(a)
		}
	}
	b.acked = true
}

// wantViews: all who were not hit are Active, have one view, and are members in it (P0.2).
func (b *bed) wantViews(t *testing.T) {
	t.Helper()
	view := b.view()
	if !audit.Agree(b.w, b.hit) {
		t.Errorf("behind %d slots: but %b they do not agree", b.w.Slots(), b.hit)
	}
	for i := range b.n() {
		if has(b.hit, i) {
			continue
		}
		if b.w.State(i) != api.Active || b.w.View(i) != view || !has(view.Members, i) {
			t.Errorf("behind %d slots, %b hit: node %d: got %d, %v, want %v", b.w.Slots(), b.hit, i, b.w.State(i), b.w.View(i), view)
		}
	}
	b.stop(t)
}

// wantClocks: the clocks of all who were not hit are no further apart than two times Drift (P0.3).
func (b *bed) wantClocks(t *testing.T) {
	t.Helper()
	var l []int
	for i := range b.n() {
		if !has(b.hit, i) {
			l = append(l, b.w.Clock(i))
		}
	}
	if got := audit.Spread(b.w, b.hit); got > 2*b.x.Drift || got != widest(l) {
		t.Errorf("behind %d slots, %b hit: Spread is %d of %v, and Drift %d", b.w.Slots(), b.hit, got, l, b.x.Drift)
	}
	b.stop(t)
}

// wantReads: what who was not hit last sent is what all others who were not hit read, not older than a round, and nobody of them is told lost (P0.5).
func (b *bed) wantReads(t *testing.T) {
	t.Helper()
	for i := range b.n() {
		for node := range b.n() {
			if i == node || has(b.hit, i) || has(b.hit, node) {
				continue
			}
			m := b.w.Read(i, node)
			if !same(m, api.Message{Data: b.sent[node], Age: m.Age, Good: true}) || m.Age < 0 || m.Age > 1 {
				t.Errorf("behind %d slots, %b hit: Read(%d, %d): got %+v, want %v", b.w.Slots(), b.hit, i, node, m, b.sent[node])
			}
			if got := b.w.Rings(i, node); b.acked && got != 0 {
				t.Errorf("behind %d slots, %b hit: Rings(%d, %d): got %d", b.w.Slots(), b.hit, i, node, got)
			}
		}
	}
	b.stop(t)
}

func (b *bed) stop(t *testing.T) {
	t.Helper()
	if t.Failed() {
		t.Fatalf("by %+v, the last ones of %d acts: %v", b.x, len(b.l), b.l[max(0, len(b.l)-5*b.n()):])
	}
}

// someTable is one at whose edges clocks are: with few of Sync, a Window as narrow as may be, and drifts from none to the most.
func someTable(d *dice) api.Table {
	n := 4 + d.below(5)
	x := of(n, d.below(n))
	for i := range n {
		x.Nodes[i].Info = d.below(3) == 0
	}
	if more := d.below(3); more > 0 {
		for i := range n - 4 {
			x.Nodes[(i+more*d.below(n))%n].Sync = false
		}
	}
	x.Drift = d.of(0, 1, 5, 17, 60, 124, 249)
	x.Window = min(1000, 4*x.Drift+2+d.of(0, 0, 30))
	x.Limit = min(1000, x.Window+d.of(0, 0, 700))
	return x
}

func someDrifts(d *dice, x api.Table) []int {
	l := none(x)
	kind := d.below(3)
	for i := range l {
		l[i] = []int{d.of(-x.Drift, x.Drift), d.of(-x.Drift, 0, x.Drift), d.below(2*x.Drift+1) - x.Drift}[kind]
	}
	return l
}

func someBed(t *testing.T, d *dice) *bed {
	t.Helper()
	x := someTable(d)
	ats := none(x)
	for i := range ats {
		ats[i] = d.of(-1000, 1000, d.below(2001)-1000)
	}
	return bedOf(t, x, someDrifts(d, x), ats)
}

// someFrame is bytes that are nearly what a node would send now, or are far from it.
func (b *bed) someFrame(d *dice) []byte {
	s := b.view()
	switch d.below(7) {
	case 0:
		return nil
	case 1:
		return d.row(24)
	case 2:
		s.Slot = d.below(8)
	case 3:
		s.Members = d.below(256)
	case 4:
		s = api.CState{Round: d.below(65536), Slot: d.below(8), Members: d.below(256)}
	}
	l, _ := frame.Encode(api.Frame{Kind: d.of(api.Normal, api.Info, api.Cold), State: s, Data: d.row(8)})
	return l
}

// someFair is a fault of that kind of that node, or of a guardian, such as a fair script may have.
func (b *bed) someFair(d *dice, kind, i int) api.Fault {
	f := fault(kind, i)
	switch kind {
	case api.Block, api.Leak:
		f.N = d.below(2)
	case api.Garble:
		f.At = d.below(2001) - 1000
	case api.Babble:
		f.Data = b.someFrame(d)
	case api.Late:
		if f.At = d.of(1, -1) * (2*b.x.Window + 1 + d.of(0, 0, 1, 300)); f.At > 1000 || f.At < -1000 {
			return fault(api.Omit, i) // no Late may be that late
		}
	}
	return f
}

// whom are the nodes that a script may hit: one of four, two of more.
func (b *bed) whom(d *dice) []int {
	i := d.below(b.n())
	if b.n() == 4 {
		return []int{i}
	}
	return []int{i, (i + 1 + d.below(b.n()-1)) % b.n()}
}

// playFair plays a fair script of so many rounds from all up, and asks behind each slot.
func (b *bed) playFair(t *testing.T, d *dice, rounds int, ask func(t *testing.T)) {
	t.Helper()
	who := b.whom(d)
	quiet := 3 * b.n()
	rare := d.of(1, 1, 3, b.n())
	for range rounds * b.n() {
		if i := d.below(b.n()); d.below(3) == 0 {
			b.write(t, i, d.row(b.x.Nodes[i].Size))
		}
		quiet++
		if quiet > 3*b.n() && d.below(rare) == 0 {
			quiet = 0
			b.slot(t, b.someFair(d, 1+d.below(7), who[d.below(len(who))]))
		} else {
			b.slot(t)
		}
		ask(t)
	}
	b.wantFair(t, len(who))
}

// wantFair: the script was fair, and hit no more than so many.
func (b *bed) wantFair(t *testing.T, most int) {
	t.Helper()
	hit := audit.Hit(b.l)
	many := 0
	for i := range api.MaxNodes {
		many += hit >> i & 1
	}
	if !audit.Fair(b.x, b.l) || many > most || hit != b.hit {
		t.Errorf("a script of %d nodes is not fair, or hit %b: %v", b.n(), hit, b.l)
	}
}
