package alarm_test

import (
	"math"
	"testing"

	"matron/alarm"
	"matron/api"
)

// beyond are numbers that are far from each rule, node, bound and age, and such as would be near if digits of them were lost.
var beyond = []int{
	-2, -3, -7, -8, -9, -128, -255, -256, -257, -249, -65535, -65536,
	1 << 16, 1<<16 + 3, 1 << 17, 1 << 31, 1<<31 + 1, 1 << 32, 1<<32 + 5, 1 << 40, -1 << 31, -1 << 32, -1<<32 + 2, -1 << 40,
	1 << 62, -1 << 62, math.MaxInt - 1, math.MaxInt, math.MinInt, math.MinInt + 1, math.MinInt + 7,
}

// noRules are numbers of no rule, where there are so many.
func noRules(many int) []int {
	l := []int{-1, 31, 32, 63, 64, 65, 255, 256, 257, 65535}
	for i := range 10 {
		l = append(l, many+i)
	}
	return append(l, beyond...)
}

func made(t *testing.T, l ...api.Rule) *alarm.Alarms {
	t.Helper()
	a, e := alarm.New(l)
	if a == nil || e != api.OK {
		t.Fatalf("New(%+v): got %v, %v", l, a, e)
	}
	return a
}

func wantRefused(t *testing.T, l []api.Rule) {
	t.Helper()
	if a, e := alarm.New(l); a != nil || e != api.ErrArg {
		t.Errorf("New(%+v): got %v, %v, want none, ErrArg", l, a, e)
	}
}

// state is what a rule tells.
type state struct{ now, rings int }

// want: the rules tell these, and of what is no rule there is never a thing.
func want(t *testing.T, a *alarm.Alarms, states ...state) {
	t.Helper()
	for i, s := range states {
		if got := (state{a.Now(i), a.Rings(i)}); got != s {
			t.Errorf("rule %d: got %+v, want %+v", i, got, s)
		}
	}
	for _, i := range noRules(len(states)) {
		if now, rings := a.Now(i), a.Rings(i); now != 0 || rings != 0 {
			t.Errorf("no rule %d: got %d, %d, want 0, 0", i, now, rings)
		}
	}
}

func wantAck(t *testing.T, a *alarm.Alarms, i int, want api.Errno) {
	t.Helper()
	if got := a.Ack(i); got != want {
		t.Errorf("Ack(%d): got %v, want %v", i, got, want)
	}
}

// said is the message of each node.
type said [api.MaxNodes]api.Message

// read answers new memory each time, and of what is no node none of those messages.
func (s said) read(node int) api.Message {
	if node < 0 || node >= api.MaxNodes {
		return api.Message{Data: []byte{255}, Age: api.MaxRound}
	}
	m := s[node]
	m.Data = append([]byte(nil), m.Data...)
	return m
}

// with is that, but of one node.
func (s said) with(node int, m api.Message) said {
	s[node] = m
	return s
}

// Why's bits, as numbers.
const (
	low  = 1
	high = 2
	old  = 4
	lost = 8
)

// ruleOf is a rule that each of the masks can be so of, one at a time.
func ruleOf(node int) api.Rule {
	return api.Rule{Node: node, Low: 10, High: 20, Stale: 5}
}

// masks are all that may be so of one rule at one time: nothing is too low and too high.
var masks = []int{
	0, low, high, old, low | old, high | old, lost, low | lost, high | lost, old | lost, low | old | lost, high | old | lost,
}

// messageOf is one of which just that is so, by ruleOf.
func messageOf(mask int) api.Message {
	m := api.Message{Data: []byte{15, 0, 255}, Age: 5, Good: mask&lost == 0}
	if mask&low != 0 {
		m.Data[0] = 9
	}
	if mask&high != 0 {
		m.Data[0] = 21
	}
	if mask&old != 0 {
		m.Age = 6
	}
	return m
}

// all is that one node's message, of whichever node is asked.
func all(mask int) func(node int) api.Message {
	return func(int) api.Message { return messageOf(mask) }
}

// done is a Look at what was said, or an Ack of a rule.
type done struct {
	look bool
	said said
	rule int
}

func (d done) do(a *alarm.Alarms) api.Errno {
	if d.look {
		a.Look(d.said.read)
		return api.OK
	}
	return a.Ack(d.rule)
}

// model is an Alarms in another way: it keeps all that was ever done, and finds out anew each time.
type model struct {
	rules []api.Rule
	done  []done
}

// do does a thing to both, and they must answer alike.
func (m *model) do(t *testing.T, a *alarm.Alarms, d done) {
	t.Helper()
	expected := m.answer(d)
	m.done = append(m.done, d)
	if got := d.do(a); got != expected {
		t.Errorf("%+v: got %v, want %v", d, got, expected)
	}
	want(t, a, m.states()...)
}

func (m *model) answer(d done) api.Errno {
	if d.look {
		return api.OK
	}
	if d.rule < 0 || d.rule >= len(m.rules) {
		return api.ErrArg
	}
	if s := m.states()[d.rule]; s.rings == s.now {
		return api.ErrState
	}
	return api.OK
}

func (m *model) states() []state {
	l := make([]state, len(m.rules))
	for i := range l {
		for _, bit := range []int{low, high, old, lost} {
			now, rings := m.of(i, bit)
			if now {
				l[i].now += bit
			}
			if rings {
				l[i].rings += bit
			}
		}
	}
	return l
}

// of goes back from what was done last, to the Look that last found a bit so: it rings, unless a Look behind that one
// found it so no more, and the rule was acknowledged behind the first such Look.
func (m *model) of(rule int, bit int) (now, rings bool) {
	acknowledged, over, ended := false, false, false
	for i := len(m.done) - 1; i >= 0; i-- {
		d, r := m.done[i], m.rules[rule]
		switch {
		case !d.look:
			acknowledged = acknowledged || d.rule == rule
		case isSo(r, d.said[r.Node], bit):
			return !over, !ended
		default:
			over, ended = true, acknowledged
		}
	}
	return false, false
}

// isSo is whether one bit of Why is, each in words of its own.
func isSo(r api.Rule, m api.Message, bit int) bool {
	switch bit {
	case low:
		return len(m.Data) != 0 && r.Low-int(m.Data[0]) >= 1
	case high:
		return len(m.Data) != 0 && int(m.Data[0])-r.High >= 1
	case old:
		return m.Age == -1 || !(m.Age <= r.Stale)
	default:
		return m.Good == false
	}
}

// dice are numbers that look like no row, and are the same each time.
type dice uint64

func (d *dice) below(n int) int {
	*d = *d*6364136223846793005 + 1442695040888963407
	return int(uint64(*d) >> 33 % uint64(n))
}

func (d *dice) rule() api.Rule {
	first := d.below(256)
	return api.Rule{Node: d.below(api.MaxNodes), Low: first, High: first + d.below(256-first), Stale: d.below(4)}
}

// rules are up to MaxRules.
func (d *dice) rules() []api.Rule {
	l := make([]api.Rule, d.below(api.MaxRules+1))
	for i := range l {
		l[i] = d.rule()
	}
	return l
}

func (d *dice) message() api.Message {
	m := api.Message{Age: d.below(6) - 1, Good: d.below(3) != 0}
	for range d.below(4) {
		m.Data = append(m.Data, byte(d.below(256)))
	}
	return m
}

// done is a Look mostly, at messages of which some are others than ahead of it.
func (d *dice) done(m *model) done {
	if d.below(3) == 0 {
		return done{rule: d.below(api.MaxRules+2) - 1}
	}
	next := done{look: true}
	for i := len(m.done) - 1; i >= 0; i-- {
		if m.done[i].look {
			next.said = m.done[i].said
			break
		}
	}
	for range 1 + d.below(4) {
		next.said[d.below(api.MaxNodes)] = d.message()
	}
	return next
}
