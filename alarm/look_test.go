package alarm_test

import (
	"slices"
	"testing"

	"matron/api"
)

// P9.2: Look, Now, Rings.

// What is so now is that alone; what rings is that, with what rang ahead.
func TestLooks(t *testing.T) {
	a := made(t, api.Rule{Node: 2, Low: 9, High: 20, Stale: 3})
	for _, x := range []struct {
		m          api.Message
		now, rings int
	}{
		{api.Message{Data: []byte{9}, Good: true}, 0, 0},
		{api.Message{Data: []byte{8}, Good: true}, low, low},
		{api.Message{Data: []byte{20}, Good: true}, 0, low},
		{api.Message{Data: []byte{21}, Age: 3, Good: true}, high, low | high},
		{api.Message{Data: []byte{21}, Age: 4, Good: true}, high | old, low | high | old},
		{api.Message{Data: []byte{15}, Age: 5, Good: true}, old, low | high | old},
		{api.Message{Age: -1}, old | lost, 15},
		{api.Message{}, lost, 15},
		{api.Message{Data: []byte{15}, Good: true}, 0, 15},
	} {
		a.Look(said{}.with(2, x.m).read)
		want(t, a, state{x.now, x.rings})
	}
}

// Each thing that may be so, behind each.
func TestLookBehindLook(t *testing.T) {
	for _, first := range masks {
		for _, second := range masks {
			for _, third := range masks {
				a := made(t, ruleOf(4))
				a.Look(all(first))
				want(t, a, state{first, first})
				a.Look(all(second))
				want(t, a, state{second, first | second})
				a.Look(all(third))
				want(t, a, state{third, first | second | third})
			}
		}
	}
}

// The same again changes nothing.
func TestLookAnew(t *testing.T) {
	a := made(t, ruleOf(0), ruleOf(1))
	for range 300 {
		a.Look(said{}.with(0, messageOf(high|lost)).with(1, messageOf(old)).read)
		want(t, a, state{high | lost, high | lost}, state{old, old})
	}
}

// Each rule is of its own Node, in any order.
func TestEachNode(t *testing.T) {
	for turn := range api.MaxNodes {
		rules := make([]api.Rule, api.MaxRules)
		for i := range rules {
			rules[i] = ruleOf((i*3 + turn) % api.MaxNodes)
		}
		a := made(t, rules...)
		states := make([]state, api.MaxRules)
		want(t, a, states...)
		for node := range api.MaxNodes {
			mask := masks[node+1]
			s := said{}
			for i := range s {
				s[i] = messageOf(0)
			}
			a.Look(s.with(node, messageOf(mask)).read)
			for i, r := range rules {
				states[i].now = 0
				if r.Node == node {
					states[i] = state{mask, mask}
				}
			}
			want(t, a, states...)
		}
	}
}

// One read a rule, of its Node, in the order of the rules.
func TestWhatIsRead(t *testing.T) {
	nodes := []int{7, 0, 0, 5, 2, 7, 1, 0}
	for many := range api.MaxRules + 1 {
		rules := make([]api.Rule, many)
		for i := range rules {
			rules[i] = ruleOf(nodes[i])
		}
		a := made(t, rules...)
		for range 3 {
			var asked []int
			a.Look(func(node int) api.Message {
				asked = append(asked, node)
				return api.Message{}
			})
			if !slices.Equal(asked, nodes[:many]) {
				t.Errorf("asked %d, want %d", asked, nodes[:many])
			}
		}
	}
}

// Two rules of one Node, with bounds of their own, ring each for itself; so do two that are alike.
func TestRulesOfOneNode(t *testing.T) {
	a := made(t,
		api.Rule{Node: 6, Low: 10, High: 20, Stale: 9},
		api.Rule{Node: 6, Low: 30, High: 40, Stale: 2},
		api.Rule{Node: 6, Low: 10, High: 20, Stale: 9})
	look := func(b byte, age int) {
		a.Look(said{}.with(6, api.Message{Data: []byte{b}, Age: age, Good: true}).read)
	}
	look(15, 0)
	want(t, a, state{0, 0}, state{low, low}, state{0, 0})
	look(25, 3)
	want(t, a, state{high, high}, state{low | old, low | old}, state{high, high})
	look(35, 0)
	want(t, a, state{high, high}, state{0, low | old}, state{high, high})
	wantAck(t, a, 1, api.OK)
	want(t, a, state{high, high}, state{0, 0}, state{high, high})
	look(12, 10)
	want(t, a, state{old, high | old}, state{low | old, low | old}, state{old, high | old})
	wantAck(t, a, 0, api.OK)
	want(t, a, state{old, old}, state{low | old, low | old}, state{old, high | old})
	wantAck(t, a, 2, api.OK)
	want(t, a, state{old, old}, state{low | old, low | old}, state{old, old})
}
