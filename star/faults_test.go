package star_test

import (
	"bytes"
	"testing"

	"matron/api"
)

// P11.2: each kind of fault.

// none and next are what guardians know behind a slot: nothing, and slot 3.
var (
	none = [2]int{lost, lost}
	next = [2]int{3, 3}
)

// slot2 plays each turn in a Star of a table of four nodes that knows slot 2 in both channels.
func slot2(t *testing.T, l ...turn) {
	t.Helper()
	for _, c := range l {
		play(t, knowing(t, of(4), 2, 2), 4, c)
	}
}

// slotNone likewise in one that knows nothing.
func slotNone(t *testing.T, l ...turn) {
	t.Helper()
	for _, c := range l {
		play(t, fresh(t, of(4)), 4, c)
	}
}

func TestOmit(t *testing.T) {
	l := faults{fault(api.Omit, 2)}
	slot2(t,
		turn{row{2: x}, l, silence, nobody, 0, next},
		turn{each(x), l, silence, nobody, 0, next},
		turn{row{}, l, silence, nobody, 0, next},
		turn{row{2: x}, faults{fault(api.Omit, 1)}, both(x), 2, 0, next},
		// What else the fault has says nothing.
		turn{row{2: x}, faults{{Kind: api.Omit, N: 2, At: 7, Data: y}}, silence, nobody, 0, next},
	)
	slotNone(t,
		turn{row{2: x, 3: y}, l, both(y), 3, 0, none},
		turn{row{1: x, 2: x, 3: y}, l, both(x), 1, 0, none},
		turn{row{1: x, 2: x, 3: y}, faults{fault(api.Omit, 1), fault(api.Omit, 2)}, both(y), 3, 0, none},
		turn{row{3: x, 0: y}, faults{fault(api.Omit, 3), fault(api.Omit, 0)}, silence, nobody, 0, none},
	)
}

func TestBabble(t *testing.T) {
	long := bytes.Repeat([]byte{0x5a, 0x0f}, 12)
	slot2(t,
		turn{row{}, faults{babble(2, 0, x...)}, both(x), 2, 0, next},
		turn{row{2: y}, faults{babble(2, 0, x...)}, both(x), 2, 0, next},
		turn{row{2: y}, faults{babble(2, 9, long...)}, both(long), 2, 9, next},
		turn{row{2: y}, faults{babble(2, -window+2, x...)}, both(x), 2, -window + 2, next},
		turn{row{2: y}, faults{babble(2, window+3, x...)}, silence, nobody, 0, next},
		turn{row{2: y}, faults{babble(2, -1000, x...)}, silence, nobody, 0, next},
		// Of no Data nothing is sent, whatever it sends itself.
		turn{row{2: y}, faults{babble(2, 0)}, silence, nobody, 0, next},
		turn{row{2: y}, faults{{Kind: api.Babble, N: 2, Data: []byte{}}}, silence, nobody, 0, next},
		// Twice of one node: what it has last, and both off.
		turn{row{2: y}, faults{babble(2, 4, three...), babble(2, 5, x...)}, both(x), 2, 9, next},
		turn{row{2: y}, faults{babble(2, 4, three...), babble(2, 5)}, silence, nobody, 0, next},
		turn{row{2: y}, faults{babble(2, 4), babble(2, 5, three...)}, both(three), 2, 9, next},
		turn{row{2: y}, faults{babble(2, 30, x...), babble(2, 30, x...)}, silence, nobody, 0, next},
		turn{row{2: y}, faults{babble(2, 1000, x...), babble(2, -1000, x...)}, both(x), 2, 0, next},
		// Who is not the slot's node takes nobody's place.
		turn{row{2: y}, faults{babble(0, 0, x...), babble(1, 2, told(api.Cold, 3)...), babble(3, -2, x...)}, both(y), 2, 0, next},
		turn{row{}, faults{babble(0, 0, x...), babble(1, 2, told(api.Cold, 3)...), babble(3, -2, x...)}, silence, nobody, 0, next},
	)
	slotNone(t,
		turn{row{}, faults{babble(2, 1000, x...)}, both(x), 2, 1000, none},
		turn{row{3: y}, faults{babble(2, -1000, x...)}, both(x), 2, -1000, none},
		turn{row{1: y}, faults{babble(2, 0, x...)}, both(y), 1, 0, none},
		turn{row{1: y}, faults{babble(1, 0), babble(3, 6, three...)}, both(three), 3, 6, none},
		turn{row{}, faults{babble(0, 0, told(api.Info, 3)...)}, both(told(api.Info, 3)), 0, 0, [2]int{0, 0}},
	)
}

func TestLate(t *testing.T) {
	for _, c := range []struct{ at, off int }{{0, 0}, {1, 1}, {-1, -1}, {window + 2, window + 2}, {-window + 2, -window + 2}} {
		slot2(t, turn{row{2: x, 1: y}, faults{late(2, c.at)}, both(x), 2, c.off, next})
	}
	for _, at := range []int{window + 3, -window + 1, 1000, -1000} {
		slot2(t, turn{row{2: x, 1: y}, faults{late(2, at)}, silence, nobody, 0, next})
	}
	slot2(t,
		// Of several all together, whatever one alone would be; another's says nothing.
		turn{row{2: x}, faults{late(2, 5), late(2, 6), late(2, 7), late(2, 8)}, both(x), 2, 26, next},
		turn{row{2: x}, faults{late(2, 1000), late(2, -999)}, both(x), 2, 1, next},
		turn{row{2: x}, faults{late(2, -1000), late(2, 1000), late(1, 1000)}, both(x), 2, 0, next},
		turn{row{2: x}, faults{late(2, 30), late(2, 30)}, silence, nobody, 0, next},
		turn{row{2: x}, faults{late(2, 1000), babble(2, -990, y...)}, both(y), 2, 10, next},
		turn{row{2: x}, faults{late(2, 3), babble(2, 10, y...), late(2, 6), babble(2, 2, three...)}, both(three), 2, 21, next},
		turn{row{2: x}, faults{babble(2, 30, y...), late(2, 30)}, silence, nobody, 0, next},
		// Neither has Omit anything off, nor who sends nothing.
		turn{row{2: x}, faults{late(2, 3), fault(api.Omit, 2)}, silence, nobody, 0, next},
		turn{row{2: x}, faults{late(2, 3), fault(api.Omit, 2), babble(2, 4, y...)}, both(y), 2, 7, next},
		turn{row{}, faults{late(2, 3)}, silence, nobody, 0, next},
		turn{row{2: x}, faults{{Kind: api.Late, N: 2, At: 3, Data: y}}, both(x), 2, 3, next},
	)
	slotNone(t,
		turn{row{2: x}, faults{late(2, 1000), late(2, 1000), late(2, 1000), late(2, 1000)}, both(x), 2, 4000, none},
		turn{row{2: x}, faults{late(2, -1000), late(2, -1000), late(2, -1000), babble(2, -1000, y...)}, both(y), 2, -4000, none},
		turn{row{2: x, 3: y}, faults{late(3, -1000)}, both(x), 2, 0, none},
	)
}

// turned is bytes with that bit turned, the highest of the first byte being 0.
func turned(b []byte, bit int) []byte {
	b = bytes.Clone(b)
	b[bit/8] ^= 1 << (7 - bit%8)
	return b
}

func TestGarble(t *testing.T) {
	if !bytes.Equal(turned(x, 0), []byte{0xb1, 0x32}) || !bytes.Equal(turned(x, 15), []byte{0x31, 0x33}) {
		t.Fatal("turned is wrong")
	}
	for at := -1000; at <= 1000; at++ {
		bit := max(at, -at)
		slot2(t, turn{row{2: x}, faults{garble(2, at)}, both(turned(x, bit%16)), 2, 0, next})
		slotNone(t, turn{row{3: three, 2: three}, faults{garble(2, at)}, both(turned(three, bit%24)), 2, 0, none})
	}
	long := bytes.Repeat([]byte{0x5a, 0x0f}, 35)
	for _, at := range []int{0, 1, 7, 8, 398, 399, 400, 401, 799, 800, 1000, -1, -399, -400, -1000} {
		bit := max(at, -at)
		for _, many := range []int{1, 49, 50, 51, 70} {
			b := long[:min(many, 50)]
			slot2(t, turn{row{2: long[:many]}, faults{garble(2, at)}, both(turned(b, bit%(8*len(b)))), 2, 0, next})
		}
	}
	slot2(t,
		// Of one that sends nothing there is nothing to be turned, and what another one sends stays.
		turn{row{}, faults{garble(2, 3)}, silence, nobody, 0, next},
		turn{row{2: {}}, faults{garble(2, 0)}, silence, nobody, 0, next},
		turn{row{2: x}, faults{garble(1, 3)}, both(x), 2, 0, next},
		turn{row{2: x, 1: x}, faults{garble(1, 3), garble(2, 4)}, both(turned(x, 4)), 2, 0, next},
		// Twice of one bit, and of two.
		turn{row{2: x}, faults{garble(2, 3), garble(2, 3)}, both(x), 2, 0, next},
		turn{row{2: x}, faults{garble(2, 3), garble(2, -19)}, both(x), 2, 0, next},
		turn{row{2: x}, faults{garble(2, 3), garble(2, 3), garble(2, 3)}, both(turned(x, 3)), 2, 0, next},
		turn{row{2: x}, faults{garble(2, 3), garble(2, 4)}, both(turned(turned(x, 3), 4)), 2, 0, next},
		turn{row{2: x}, faults{{Kind: api.Garble, N: 2, At: 8, Data: y}}, both(turned(x, 8)), 2, 0, next},
	)
	// It is the sender's: both channels have it, and what guardians learn.
	cold := told(api.Cold, 1)
	slotNone(t,
		turn{row{3: cold}, faults{garble(3, 9)}, both(turned(cold, 9)), 3, 0, none},
		turn{row{3: turned(cold, 9)}, faults{garble(3, 9)}, both(cold), 3, 0, [2]int{2, 2}},
		turn{row{3: cold}, faults{garble(3, 9), garble(3, 9)}, both(cold), 3, 0, [2]int{2, 2}},
	)
}

func TestBlock(t *testing.T) {
	first, second := fault(api.Block, 0), fault(api.Block, 1)
	slot2(t,
		turn{row{2: x}, faults{first}, inB(x), 2, 0, next},
		turn{row{2: x}, faults{second}, inA(x), 2, 0, next},
		turn{row{2: x}, faults{first, second}, silence, nobody, 0, next},
		turn{row{2: x}, faults{second, first}, silence, nobody, 0, next},
		turn{row{2: x}, faults{first, first}, inB(x), 2, 0, next},
		turn{each(x), faults{first}, inB(x), 2, 0, next},
		turn{row{1: x}, faults{first}, silence, nobody, 0, next},
		turn{row{}, faults{second}, silence, nobody, 0, next},
		turn{row{2: x}, faults{{Kind: api.Block, N: 1, At: 8, Data: y}}, inA(x), 2, 0, next},
	)
	cold := told(api.Cold, 1)
	slotNone(t,
		turn{row{3: cold}, faults{first}, inB(cold), 3, 0, [2]int{lost, 2}},
		turn{row{3: cold}, faults{second}, inA(cold), 3, 0, [2]int{2, lost}},
		turn{row{3: cold}, faults{first, second}, silence, nobody, 0, none},
		turn{row{2: y, 3: cold}, faults{second}, inA(y), 2, 0, none},
	)
}

func TestLeak(t *testing.T) {
	first, second := fault(api.Leak, 0), fault(api.Leak, 1)
	a := func(kind int, b []byte) api.Heard { return api.Heard{A: kind, B: api.Bytes, Y: b} }
	b := func(kind int, a []byte) api.Heard { return api.Heard{A: api.Bytes, X: a, B: kind} }
	slot2(t,
		// Of nobody, and of one that sends: the slot's node, and another one.
		turn{row{}, faults{first}, silence, nobody, 0, next},
		turn{row{}, faults{first, second}, silence, nobody, 0, next},
		turn{row{2: x}, faults{first}, both(x), 2, 0, next},
		turn{row{2: x}, faults{first, second}, both(x), 2, 0, next},
		turn{row{1: x}, faults{first}, inA(x), 1, 0, next},
		turn{row{3: x}, faults{second}, inB(x), 3, 0, next},
		turn{row{3: x}, faults{second, first}, both(x), 3, 0, next},
		// Of two: unlike, the same, opposite, of unlike lengths.
		turn{row{1: y, 2: x}, faults{first}, a(api.Noise, x), 1, 0, next},
		turn{row{1: y, 2: x}, faults{second}, b(api.Noise, x), 2, 0, next},
		turn{row{1: y, 2: x}, faults{first, second}, noise, 1, 0, next},
		turn{row{1: x, 2: x}, faults{first}, a(api.Noise, x), 1, 0, next},
		turn{row{1: notX, 2: x}, faults{first}, a(api.Silent, x), 1, 0, next},
		turn{row{3: notX, 2: x}, faults{second}, b(api.Silent, x), 2, 0, next},
		turn{row{0: notX, 3: x}, faults{first, second}, silence, 0, 0, next},
		turn{row{2: x, 3: three}, faults{second}, api.Heard{A: api.Noise, B: api.Noise}, 2, 0, next},
		turn{row{2: three, 3: x}, faults{second}, b(api.Noise, three), 2, 0, next},
		// Of three: two are opposite, so that the third one is heard; and of all.
		turn{row{0: notX, 1: y, 3: x}, faults{first}, inA(y), 0, 0, next},
		turn{row{0: notX, 2: y, 3: x}, faults{first, second}, both(y), 0, 0, next},
		turn{row{0: x, 1: x, 2: x}, faults{second}, b(api.Noise, x), 2, 0, next},
		turn{row{0: x, 1: notX, 2: x, 3: notX}, faults{second}, b(api.Silent, x), 2, 0, next},
		turn{each(x), faults{second}, b(api.Noise, x), 2, 0, next},
		turn{row{2: x}, faults{first, first}, both(x), 2, 0, next},
		turn{row{1: x}, faults{{Kind: api.Leak, N: 0, At: 8, Data: y}}, inA(x), 1, 0, next},
	)
	cold := told(api.Cold, 1)
	slotNone(t,
		turn{row{3: cold}, faults{first}, both(cold), 3, 0, [2]int{2, 2}},
		turn{row{1: cold, 3: make([]byte, len(cold))}, faults{first}, a(api.Noise, cold), 1, 0, [2]int{lost, 2}},
		turn{row{0: y, 1: x}, faults{second}, b(api.Noise, y), 0, 0, none},
	)
}

// Block of a guardian holds, whether it Leaks, too, and in either order; the other one is another one.
func TestBlockAndLeak(t *testing.T) {
	for i := range 2 {
		block, leak := fault(api.Block, i), fault(api.Leak, i)
		one := [2]api.Heard{inB(x), inA(x)}[i]
		for _, l := range []faults{{block, leak}, {leak, block}, {leak, block, leak, leak}, {block, leak, block}} {
			slot2(t,
				turn{row{2: x}, l, one, 2, 0, next},
				turn{row{2: x, 1: y}, l, one, 2, 0, next},
				turn{row{1: y}, l, silence, nobody, 0, next},
			)
		}
		for _, l := range []faults{{fault(api.Block, 1-i), leak}, {leak, fault(api.Block, 1-i)}, {leak, fault(api.Block, 1-i), fault(api.Leak, 1-i)}} {
			one := [2]api.Heard{inA(y), inB(y)}[i]
			slot2(t,
				turn{row{1: y}, l, one, 1, 0, next},
				turn{row{1: y, 2: x}, l, [2]api.Heard{{A: api.Noise}, {B: api.Noise}}[i], 1, 0, next},
				turn{row{}, l, silence, nobody, 0, next},
			)
		}
	}
}

// Who is Deaf hears silence in both channels, whether it sends or not, and its Offset; all others hear what there is.
func TestDeaf(t *testing.T) {
	eachTable(func(table api.Table) {
		n := len(table.Nodes)
		for mask := range 1 << n {
			var l faults
			for i := range n {
				if mask>>i&1 == 1 {
					l = append(l, fault(api.Deaf, i))
				}
			}
			if len(l) > api.MaxFaults {
				continue
			}
			for _, c := range []struct {
				sends row
				h     api.Heard
				from  int
				at    int
			}{{row{2: x}, both(x), 2, 3}, {row{}, silence, nobody, 3}, {row{0: y}, silence, nobody, 3}, {each(three), both(three), 2, 3}} {
				s := knowing(t, table, 2, 2)
				got, _ := s.Slot(c.sends, when, l)
				want := hears(n, c.h, when, c.from, 0)
				for i := range n {
					if mask>>i&1 == 1 {
						want[i] = api.Heard{Offset: want[i].Offset}
					}
				}
				wantHeard(t, l, got, want)
				wantKnow(t, s, l, [2]int{c.at % n, c.at % n})
			}
		}
	})
}

// With what else there is: it is deaf wherever that stands in the list, to noise, too, and to one channel alone.
func TestDeafBesideOthers(t *testing.T) {
	deaf := fault(api.Deaf, 1)
	for _, c := range []struct {
		l    faults
		h    api.Heard
		from int
		off  int
	}{
		{faults{deaf, late(2, 20)}, both(x), 2, 20},
		{faults{late(2, 20), deaf}, both(x), 2, 20},
		{faults{late(1, 20), deaf, deaf}, both(x), 2, 0},
		{faults{deaf, fault(api.Block, 0)}, inB(x), 2, 0},
		{faults{fault(api.Leak, 0), deaf, fault(api.Leak, 1), babble(3, 7, y...)}, noise, 2, 0},
		{faults{deaf, fault(api.Leak, 0), babble(1, 7, notX...), fault(api.Leak, 1)}, silence, 1, 7},
		{faults{{Kind: api.Deaf, N: 1, At: 50, Data: y}, fault(api.Omit, 2)}, silence, nobody, 0},
	} {
		got, _ := knowing(t, of(4), 2, 2).Slot(row{2: x}, when, c.l)
		want := hears(4, c.h, when, c.from, c.off)
		want[1] = api.Heard{Offset: want[1].Offset}
		wantHeard(t, c.l, got, want)
	}
}

// P11.2: in order, one behind the other.
func TestOrder(t *testing.T) {
	omit, turns, says := fault(api.Omit, 2), garble(2, 3), babble(2, 4, y...)
	slot2(t,
		turn{row{2: x}, faults{omit, says}, both(y), 2, 4, next},
		turn{row{2: x}, faults{says, omit}, silence, nobody, 0, next},
		turn{row{2: x}, faults{says, omit, says}, both(y), 2, 8, next},
		turn{row{2: x}, faults{turns, says}, both(y), 2, 4, next},
		turn{row{2: x}, faults{says, turns}, both(turned(y, 3)), 2, 4, next},
		turn{row{2: x}, faults{turns, says, turns, garble(2, 8)}, both(turned(turned(y, 3), 8)), 2, 4, next},
		turn{row{2: x}, faults{turns, omit}, silence, nobody, 0, next},
		turn{row{2: x}, faults{omit, turns}, silence, nobody, 0, next},
		turn{row{2: x}, faults{omit, turns, says}, both(y), 2, 4, next},
		turn{row{2: x}, faults{omit, says, turns}, both(turned(y, 3)), 2, 4, next},
		turn{row{2: x}, faults{says, turns, omit}, silence, nobody, 0, next},
		turn{row{2: x}, faults{turns, late(2, 9)}, both(turned(x, 3)), 2, 9, next},
		turn{row{2: x}, faults{late(2, 9), turns}, both(turned(x, 3)), 2, 9, next},
		// The number is less the multiples of how many bits it has then.
		turn{row{2: x}, faults{garble(2, 17), babble(2, 0, three...)}, both(three), 2, 0, next},
		turn{row{2: x}, faults{babble(2, 0, three...), garble(2, 17)}, both(turned(three, 17)), 2, 0, next},
		turn{row{2: three}, faults{babble(2, 0, x...), garble(2, 17)}, both(turned(x, 1)), 2, 0, next},
		turn{row{2: x}, faults{babble(2, 0), turns}, silence, nobody, 0, next},
	)
	// Guardians pass by who sends behind all of them.
	slotNone(t,
		turn{row{1: x, 2: x}, faults{fault(api.Omit, 1), says}, both(y), 2, 4, none},
		turn{row{2: x}, faults{babble(1, 1, three...), omit}, both(three), 1, 1, none},
		turn{row{2: x}, faults{omit, babble(1, 1, three...), fault(api.Omit, 1)}, silence, nobody, 0, none},
		turn{row{2: x}, faults{fault(api.Leak, 0), babble(3, 1, notX...)}, api.Heard{B: api.Bytes, Y: x}, 2, 0, none},
		turn{row{2: x}, faults{babble(3, 1, notX...), fault(api.Leak, 0), omit}, both(notX), 3, 1, none},
	)
}
