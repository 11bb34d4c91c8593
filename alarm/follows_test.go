package alarm_test

import (
	"testing"

	"matron/alarm"
	"matron/api"
)

// P9.3, and all of P9.2 against the model.

func TestScripts(t *testing.T) {
	var d dice
	for script := range 300 {
		m := model{rules: d.rules()}
		a := made(t, m.rules...)
		for range script % 60 {
			m.do(t, a, d.done(&m))
		}
	}
}

// To ask changes nothing: of two Alarms to which the same is done, the one that is asked is as the other one.
func TestAskingChangesNothing(t *testing.T) {
	var d dice
	for range 30 {
		m := model{rules: d.rules()}
		asked, other := made(t, m.rules...), made(t, m.rules...)
		for range 40 {
			next := d.done(&m)
			m.do(t, asked, next)
			next.do(other)
			for range 4 {
				asked.Now(d.below(10) - 1)
				asked.Rings(d.below(10) - 1)
				alarm.Why(d.rule(), d.message())
			}
		}
		want(t, asked, m.states()...)
		want(t, other, m.states()...)
	}
}

// P9.3: to a nil Alarms nothing happens, and it reads nothing.
func TestNilAlarms(t *testing.T) {
	var a *alarm.Alarms
	want(t, a)
	for range 3 {
		a.Look(func(node int) api.Message {
			t.Errorf("read %d", node)
			return api.Message{}
		})
		want(t, a)
		for i := range api.MaxRules + 1 {
			wantAck(t, a, i, api.ErrArg)
		}
		for _, i := range noRules(0) {
			wantAck(t, a, i, api.ErrArg)
		}
		want(t, a)
	}
	a.Look(nil)
	want(t, a)
}

// W1: a read that is none, or that panics, at whichever rule, has Look end; and as with an error nothing has changed.
func TestLookWithoutRead(t *testing.T) {
	for many := range api.MaxRules + 1 {
		rules := make([]api.Rule, many)
		for i := range rules {
			rules[i] = ruleOf(i)
		}
		a := made(t, rules...)
		a.Look(nil)
		states := make([]state, many)
		want(t, a, states...)
		a.Look(all(lost))
		a.Look(all(low))
		for i := range states {
			states[i] = state{low, low | lost}
		}
		a.Look(nil)
		want(t, a, states...)
		for at := range many {
			a.Look(panicsAt(at))
			want(t, a, states...)
		}
		a.Look(all(old))
		for i := range states {
			states[i] = state{old, low | lost | old}
		}
		want(t, a, states...)
	}
}

func panicsAt(node int) func(node int) api.Message {
	return func(asked int) api.Message {
		if asked == node {
			panic("no message")
		}
		return messageOf(high)
	}
}

// W1: of one that New did not make nothing is said, but every call ends, and none panics.
func TestAlarmsWithoutNew(t *testing.T) {
	var a alarm.Alarms
	for i := -3; i < 12; i++ {
		a.Look(all(low))
		a.Now(i)
		a.Rings(i)
		a.Ack(i)
		a.Look(nil)
	}
}

// W8: of an Alarms that is copied as a value either one alone may go on, and it does as the first one would.
func TestCopy(t *testing.T) {
	for ahead := range 60 {
		for _, first := range []bool{true, false} {
			d := dice(ahead)
			m := model{rules: d.rules()}
			a := made(t, m.rules...)
			for range ahead {
				m.do(t, a, d.done(&m))
			}
			c := *a
			on := &c
			if first {
				on = a
			}
			want(t, on, m.states()...)
			for range 30 {
				m.do(t, on, d.done(&m))
			}
		}
	}
}
