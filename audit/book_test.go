package audit_test

import (
	"slices"

	"matron/api"
)

// beginning is a script in which all are on from the beginning, each says its number and 10, and there are slots without faults:
// what a Ward tells then can be worked out of the document ahead. first is who waits least.
type beginning struct {
	x           api.Table
	first       int
	drifts, ats []int
}

// someBeginning is one by any table: any of its nodes may be first, of some of which no clock counts.
func someBeginning(d *dice) beginning {
	n := 4 + d.below(5)
	b := beginning{first: d.below(n)}
	b.x = of(n, b.first)
	for i := range n {
		b.x.Nodes[i].Info = d.below(3) == 0
	}
	for range d.below(n - 3) {
		b.x.Nodes[d.below(n)].Sync = false
	}
	b.x.Drift = d.of(0, 1, 5, 9)
	for range n {
		b.drifts = append(b.drifts, d.of(-b.x.Drift, b.x.Drift, d.below(2*b.x.Drift+1)-b.x.Drift))
		b.ats = append(b.ats, d.of(0, 1000, -1000, d.below(2001)-1000))
	}
	return b
}

func (b beginning) n() int { return len(b.x.Nodes) }

// acts are its acts, ahead of its slots.
func (b beginning) acts() (l []api.Act) {
	for i, at := range b.ats {
		l = append(l, on(i, at), write(i, byte(10+i)))
	}
	return l
}

// since is how many slots there were since the first one began, with that slot.
func (b beginning) since(slots int) int { return max(0, slots-2*b.n()+1) }

// behind is how many slots behind the first one's a node's slot is.
func (b beginning) behind(i int) int { return (i - b.first + b.n()) % b.n() }

// Each of the others is Active from its own slot on, the first one a round on.
func (b beginning) state(i, slots int) int {
	since := b.since(slots)
	switch {
	case since == 0:
		return api.Listen
	case i == b.first && since > b.n() || i != b.first && since > b.behind(i):
		return api.Active
	case i == b.first:
		return api.Begun
	}
	return api.Passive
}

// rounds is how many rounds ended till then.
func (b beginning) rounds(since int) int { return (b.first + since) / b.n() }

func (b beginning) view(slots int) (s api.CState) {
	since := b.since(slots)
	if since == 0 {
		return s
	}
	for i := range b.n() {
		if b.behind(i) < since {
			s.Members += 1 << i
		}
	}
	s.Round, s.Slot = b.rounds(since), (b.first+since)%b.n()
	return s
}

// All take the first one's time; as the first round ends none has another one's yet, and is but turned by its drift.
// From then on all turn to one time, the mean of the last four of which the clock counts, and by their drifts.
func (b beginning) clock(i, slots int) int {
	since := b.since(slots)
	rounds := b.rounds(since)
	if since == 0 {
		return b.ats[i]
	}
	if rounds == 0 {
		return b.ats[b.first]
	}
	return b.ats[b.first] + (rounds-1)*b.mean() + b.drifts[i]
}

// mean is that of the last four drifts of who has Sync, without the least and the greatest.
func (b beginning) mean() int {
	var l []int
	for i, def := range b.x.Nodes {
		if def.Sync {
			l = append(l, b.drifts[i])
		}
	}
	l = slices.Sorted(slices.Values(l[len(l)-4:]))
	return (l[1] + l[2]) >> 1
}

// read is what node i reads of another one: of none of them that it had a message.
func (b beginning) read(i, node, slots int) api.Message {
	since := b.since(slots)
	if i < 0 || i >= b.n() || node < 0 || node >= b.n() || node == i || since <= b.behind(node) {
		return api.Message{Age: -1}
	}
	last := since - 1 // ahead of the slot in which the node was heard last
	for last%b.n() != b.behind(node) {
		last--
	}
	return api.Message{Data: []byte{byte(10 + node)}, Age: b.rounds(since) - b.rounds(last), Good: true}
}

// rings is what rings by rulesOf: that who had not spoken yet as the first round ended was lost, and each to itself.
func (b beginning) rings(i, rule, slots int) int {
	since := b.since(slots)
	if i < 0 || i >= b.n() || rule < 0 || rule >= b.n() || b.rounds(since) == 0 {
		return 0
	}
	if rule == i || b.first+b.behind(rule) >= b.n() {
		return api.TooOld | api.Lost
	}
	return 0
}

// tells is all that a Ward tells of its nodes, and of what is none on both sides.
type tells struct {
	nodes, slots int
	l            [api.MaxNodes + 2]one
}

// one is all that one node tells.
type one struct {
	state int
	view  api.CState
	clock int
	reads [api.MaxNodes + 2]api.Message
	rings [api.MaxRules + 2]int
}

// tells is what all nodes tell behind so many slots.
func (b beginning) tells(slots int) tells {
	a := tells{nodes: b.n(), slots: slots}
	for k := range a.l {
		i, x := k-1, &a.l[k]
		for node := range x.reads {
			x.reads[node] = b.read(i, node-1, slots)
		}
		for rule := range x.rings {
			x.rings[rule] = b.rings(i, rule-1, slots)
		}
		if i >= 0 && i < b.n() {
			x.state, x.view, x.clock = b.state(i, slots), b.view(slots), b.clock(i, slots)
		}
	}
	return a
}
