package alarm_test

import (
	"testing"

	"matron/api"
)

// P9.2: Ack.

// Where nothing rings, there is nothing to acknowledge, ahead of the first Look and behind it.
func TestAckOfNothing(t *testing.T) {
	a := made(t, ruleOf(1), ruleOf(2))
	for range 4 {
		for i := range 2 {
			wantAck(t, a, i, api.ErrState)
			want(t, a, state{}, state{})
		}
		a.Look(all(0))
	}
}

// What is so now can't be acknowledged, and goes on ringing when it is so no more.
func TestAckOfWhatIsSo(t *testing.T) {
	for _, mask := range masks {
		a := made(t, ruleOf(1))
		a.Look(all(mask))
		for range 3 {
			wantAck(t, a, 0, api.ErrState)
			want(t, a, state{mask, mask})
		}
		a.Look(all(0))
		want(t, a, state{0, mask})
	}
}

// Of all that was so, and all that is so now: what is so now rings on, and what is not is acknowledged.
func TestAck(t *testing.T) {
	for _, was := range masks {
		for _, is := range masks {
			a := made(t, ruleOf(1))
			a.Look(all(was))
			a.Look(all(is))
			e := api.OK
			if was&^is == 0 {
				e = api.ErrState
			}
			wantAck(t, a, 0, e)
			want(t, a, state{is, is})
			wantAck(t, a, 0, api.ErrState)
			want(t, a, state{is, is})
			a.Look(all(0))
			want(t, a, state{0, is})
		}
	}
}

// Behind an Ack the same rings anew.
func TestRingsAnew(t *testing.T) {
	for _, was := range masks[1:] {
		for _, is := range masks {
			a := made(t, ruleOf(1))
			for range 3 {
				a.Look(all(was))
				want(t, a, state{was, was})
				a.Look(all(0))
				wantAck(t, a, 0, api.OK)
				want(t, a, state{})
			}
			a.Look(all(is))
			want(t, a, state{is, is})
			a.Look(all(was))
			want(t, a, state{was, was | is})
		}
	}
}

// P9.3: an Ack ahead of its end does not count: what was acknowledged while it was so must be acknowledged again.
func TestAckSince(t *testing.T) {
	a := made(t, ruleOf(1))
	a.Look(all(low | lost))
	a.Look(all(lost))
	wantAck(t, a, 0, api.OK)
	want(t, a, state{lost, lost})
	a.Look(all(0))
	want(t, a, state{0, lost})
	a.Look(all(old))
	want(t, a, state{old, old | lost})
	wantAck(t, a, 0, api.OK)
	want(t, a, state{old, old})
	a.Look(all(0))
	wantAck(t, a, 0, api.OK)
	want(t, a, state{})
}

// However long it is so no more, it rings till it is acknowledged.
func TestRingsOn(t *testing.T) {
	a := made(t, ruleOf(1))
	a.Look(all(high | old))
	for range 1000 {
		a.Look(all(0))
		want(t, a, state{0, high | old})
	}
	wantAck(t, a, 0, api.OK)
	for range 10 {
		want(t, a, state{})
		a.Look(all(0))
	}
}

// One rule is acknowledged, and no other one.
func TestAckOfEachRule(t *testing.T) {
	for many := 1; many <= api.MaxRules; many++ {
		for at := range many {
			rules := make([]api.Rule, many)
			states := make([]state, many)
			for i := range rules {
				rules[i] = ruleOf(i)
				states[i] = state{low, low | lost}
			}
			a := made(t, rules...)
			a.Look(all(lost))
			a.Look(all(low))
			want(t, a, states...)
			wantAck(t, a, at, api.OK)
			states[at].rings = low
			want(t, a, states...)
			wantAck(t, a, at, api.ErrState)
			want(t, a, states...)
		}
	}
}

// Of what is no rule nothing is acknowledged, whatever rings.
func TestAckOfNoRule(t *testing.T) {
	for many := range api.MaxRules + 1 {
		rules := make([]api.Rule, many)
		states := make([]state, many)
		for i := range rules {
			rules[i] = ruleOf(i)
			states[i] = state{high, high | old}
		}
		a := made(t, rules...)
		a.Look(all(old))
		a.Look(all(high))
		for _, i := range noRules(many) {
			wantAck(t, a, i, api.ErrArg)
			want(t, a, states...)
		}
	}
}
