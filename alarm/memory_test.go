package alarm_test

import (
	"bytes"
	"slices"
	"sync"
	"testing"

	"matron/alarm"
	"matron/api"
)

// P9.3 (and W6): what is handed in is neither changed nor kept.

// Nor is the room behind the list's end, of rules that may be and of such that may not.
func TestRulesAreNotChanged(t *testing.T) {
	for many := range 14 {
		for _, node := range []int{0, 7, 8} {
			room := make([]api.Rule, 30)
			for i := range room {
				room[i] = api.Rule{Node: (i*5 + node) % 9, Low: i, High: 2*i + 1, Stale: 3 * i}
			}
			was := slices.Clone(room)
			if a, e := alarm.New(room[:many]); e == api.OK {
				a.Look(all(lost))
				a.Look(all(high))
				for i := range many {
					a.Ack(i)
				}
			}
			if !slices.Equal(room, was) {
				t.Errorf("changed: %+v, want %+v", room, was)
			}
		}
	}
}

// A list of rules that was handed in may be changed afterwards.
func TestRulesAreNotKept(t *testing.T) {
	for many := range api.MaxRules + 1 {
		room := make([]api.Rule, 20)
		spoil := func(seed int) {
			for i := range room {
				room[i] = api.Rule{Node: (i + seed) % 9, Low: 255 - seed, High: seed, Stale: -seed}
			}
		}
		for i := range room {
			room[i] = ruleOf(i % api.MaxNodes)
		}
		a := made(t, room[:many]...)
		states := make([]state, many)
		spoil(1)
		want(t, a, states...)
		s := said{}
		for i := range states {
			mask := masks[i+4]
			s[i] = messageOf(mask)
			states[i] = state{mask, mask}
		}
		a.Look(s.read)
		want(t, a, states...)
		spoil(2)
		want(t, a, states...)
		a.Look(all(0))
		for i := range states {
			states[i].now = 0
		}
		for i := range states {
			spoil(i)
			want(t, a, states...)
			wantAck(t, a, i, api.OK)
			states[i].rings = 0
		}
		want(t, a, states...)
	}
}

// A message's bytes are not changed, nor the room behind their end, by Why, Look and what comes later.
func TestMessagesAreNotChanged(t *testing.T) {
	for many := range 12 {
		for _, first := range []byte{5, 15, 25} {
			room := bytes.Repeat([]byte{first, 0, 255, 77}, 8)
			was := bytes.Clone(room)
			m := api.Message{Data: room[:many], Age: many, Good: many%2 == 0}
			alarm.Why(ruleOf(0), m)
			a := made(t, ruleOf(0), ruleOf(0), ruleOf(3))
			for range 3 {
				a.Look(func(int) api.Message { return m })
				a.Look(all(0))
				a.Ack(0)
				a.Ack(2)
			}
			if !bytes.Equal(room, was) {
				t.Errorf("changed: %x, want %x", room, was)
			}
		}
	}
}

// Bytes that were read may be changed afterwards: what is so, and what rings, hangs on what they were.
func TestMessagesAreNotKept(t *testing.T) {
	a := made(t, ruleOf(0), ruleOf(1))
	data := []byte{5, 6, 7}
	read := func(int) api.Message { return api.Message{Data: data, Good: true} }
	a.Look(read)
	for _, b := range []byte{15, 25, 0, 255} {
		data[0] = b
		want(t, a, state{low, low}, state{low, low})
		wantAck(t, a, 0, api.ErrState)
	}
	a.Look(read)
	data[0] = 15
	want(t, a, state{high, low | high}, state{high, low | high})
	wantAck(t, a, 1, api.OK)
	want(t, a, state{high, low | high}, state{high, high})
	a.Look(read)
	data[0] = 5
	want(t, a, state{0, low | high}, state{0, high})
}

// A read may hand out the same memory each time, with other bytes for each node.
func TestMessagesOfOneMemory(t *testing.T) {
	a := made(t, ruleOf(0), ruleOf(1), ruleOf(2))
	data := make([]byte, 1)
	a.Look(func(node int) api.Message {
		data[0] = byte(5 + 10*node)
		return api.Message{Data: data, Good: true}
	})
	data[0] = 15
	want(t, a, state{low, low}, state{}, state{high, high})
}

// W2: an Alarms has nothing of another one, also of one of the same list.
func TestAlarmsAreApart(t *testing.T) {
	rules := []api.Rule{ruleOf(0), ruleOf(5)}
	a, b := made(t, rules...), made(t, rules...)
	a.Look(all(low))
	want(t, b, state{}, state{})
	b.Look(all(high))
	want(t, a, state{low, low}, state{low, low})
	a.Look(all(0))
	wantAck(t, a, 1, api.OK)
	want(t, b, state{high, high}, state{high, high})
	c := made(t, ruleOf(7))
	want(t, c, state{})
	c.Look(all(15 - low))
	want(t, a, state{0, low}, state{})
	want(t, b, state{high, high}, state{high, high})
	want(t, made(t, rules...), state{}, state{})
}

// W9: each goroutine may have its own Alarms, beside all others.
func TestNothingHangsOnOtherCalls(t *testing.T) {
	var wait sync.WaitGroup
	rules := []api.Rule{ruleOf(0), ruleOf(3), {Node: 3, Low: 40, High: 180, Stale: 1}, {Node: 7, High: 90}, {Node: 1, Low: 200, High: 255}}
	for i := range 8 {
		wait.Go(func() {
			d := dice(i)
			m := model{rules: rules}
			a, e := alarm.New(rules)
			if a == nil || e != api.OK {
				t.Errorf("got %v, %v", a, e)
				return
			}
			for range 60 {
				m.do(t, a, d.done(&m))
			}
		})
	}
	wait.Wait()
}
