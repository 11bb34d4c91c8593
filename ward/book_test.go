package ward_test

import (
	"bytes"
	"slices"

	"matron/api"
)

// book is a Ward written out of the chapters in one piece: it asks no package of the project but api.
// What can be found out from what happened it keeps as what happened, and finds it out each time.
type book struct {
	x      api.Table
	rules  []api.Rule
	l      []*member
	guards [2]guardian
	many   int
}

// member is a node (10).
type member struct {
	i, drift, state  int
	view             api.CState
	waited, time     int
	sent             bool
	data             []byte
	agree, fail      int
	measures         []int // of this round
	said             [8]saying
	isSo, rings      [api.MaxRules]int
	listen, rounds   int  // its Listen; rounds since it began anew
	sync, info       bool // the table's
	mostSlots, limit int  // the table's nodes and Limit
}

// saying is what another one said last (8).
type saying struct {
	ever bool
	data []byte
	at   int // in which round
	good bool
}

// guardian is one channel's (6).
type guardian struct {
	knows               bool
	slot, silences, now int
	measures            []int // of this round
}

func bookOf(x api.Table, drifts []int, rules []api.Rule) *book {
	b := &book{x: x, rules: rules}
	for i, d := range x.Nodes {
		b.l = append(b.l, &member{i: i, drift: drifts[i], listen: d.Listen, sync: d.Sync, info: d.Info, mostSlots: len(x.Nodes), limit: x.Limit})
	}
	return b
}

// Chapter 2: what is left of the row, with fifteen noughts behind it and the seed on its head, divided by c599.
func sum(seed int, b []byte) int {
	var l []int
	for _, v := range b {
		for bit := 7; bit >= 0; bit-- {
			l = append(l, int(v>>bit)&1)
		}
	}
	l = append(l, make([]int, 15)...)
	for i := range 15 {
		l[i] ^= seed >> (14 - i) & 1
	}
	for i := range 8 * len(b) {
		for k := range l[i]*15 + l[i] {
			l[i+k] ^= 0xc599 >> (15 - k) & 1
		}
	}
	left := 0
	for _, bit := range l[8*len(b):] {
		left = 2*left + bit
	}
	return left
}

// Chapter 3.
func stateBytes(s api.CState) []byte {
	return []byte{byte(s.Round / 256), byte(s.Round % 256), byte(s.Slot), byte(s.Members)}
}

func spelt(kind int, s api.CState, data []byte) []byte {
	b, seed := []byte{byte(kind)}, sum(0x7fff, stateBytes(s))
	if kind != api.Normal {
		b, seed = append(b, stateBytes(s)...), 0
	}
	b = append(append(b, byte(len(data))), data...)
	n := sum(seed, b)
	return append(b, byte(n/256), byte(n%256))
}

// read is the frame that would be spelt so, if there is one.
func read(b []byte, own api.CState) (kind int, s api.CState, data []byte, ok bool) {
	if len(b) < 4 {
		return 0, own, nil, false
	}
	kind, s, data = int(b[0]), own, b[2:len(b)-2]
	if kind != api.Normal {
		if len(b) < 8 {
			return 0, own, nil, false
		}
		s = api.CState{Round: int(b[1])*256 + int(b[2]), Slot: int(b[3]), Members: int(b[4])}
		data = b[6 : len(b)-2]
	}
	ok = kind >= api.Normal && kind <= api.Cold && len(data) <= api.MaxData && s.Slot < api.MaxNodes && bytes.Equal(spelt(kind, s, data), b)
	return kind, s, data, ok
}

// Chapter 5.
func average(l []int) int {
	l = slices.Sorted(slices.Values(l[max(0, len(l)-4):]))
	if len(l) > 2 {
		l = l[1 : len(l)-1]
	}
	n := 0
	for _, v := range l {
		n += v
	}
	if len(l) == 2 {
		return n >> 1
	}
	return n
}

// Chapter 6.
func (g *guardian) passes(x api.Table, sends [8]bool, at [8]int) int {
	if !g.knows {
		return slices.Index(sends[:], true)
	}
	if off := at[g.slot] - g.now; sends[g.slot] && off <= x.Window && off >= -x.Window {
		return g.slot
	}
	return -1
}

func (g *guardian) ends(x api.Table, b []byte, at int) {
	switch {
	case !g.knows:
		kind, s, _, ok := read(b, api.CState{})
		if !ok || kind == api.Normal || s.Slot >= len(x.Nodes) {
			return
		}
		*g = guardian{knows: true, slot: s.Slot, now: at}
	case len(b) == 0:
		if g.silences++; g.silences == 2*len(x.Nodes) {
			g.knows = false
			return
		}
	default:
		g.silences = 0
		if x.Nodes[g.slot].Sync {
			g.measures = append(g.measures, at-g.now)
		}
	}
	if g.slot++; g.slot == len(x.Nodes) {
		g.slot = 0
		if by := average(g.measures); by <= x.Limit && -by <= x.Limit {
			g.now += by
		}
		g.measures = nil
	}
}

// Chapter 10.
func (m *member) beginsAnew(state int) {
	m.state, m.view, m.waited, m.agree, m.fail, m.measures, m.said, m.rounds = state, api.CState{}, 0, 0, 0, nil, [8]saying{}, 0
}

func (m *member) sends() []byte {
	m.sent = false
	was := m.state
	if was == api.Listen {
		if m.waited++; m.waited < m.listen {
			return nil
		}
		m.beginsAnew(api.Begun)
		m.view.Slot = m.i
		return m.spells(api.Cold)
	}
	if m.view.Slot != m.i || was == api.Off || was == api.Frozen {
		return nil
	}
	wrong, alone := m.fail > m.agree, m.agree == 0
	if was == api.Active && wrong {
		m.state = api.Frozen
		return nil
	}
	if alone && was != api.Passive {
		m.beginsAnew(api.Listen)
		return nil
	}
	if was == api.Passive && (alone || wrong) {
		m.agree, m.fail = 0, 0
		return nil
	}
	m.state = api.Active
	if m.info || was != api.Active || m.view.Round%2 == 0 {
		return m.spells(api.Info)
	}
	return m.spells(api.Normal)
}

func (m *member) spells(kind int) []byte {
	m.view.Members |= 1 << m.i
	m.agree, m.fail, m.sent = 0, 0, true
	return spelt(kind, m.view, m.data)
}

func (m *member) takes(b *book, h api.Heard) {
	var l [][]byte
	if h.A == api.Bytes {
		l = append(l, h.X)
	}
	if h.B == api.Bytes {
		l = append(l, h.Y)
	}
	silent := h.A == api.Silent && h.B == api.Silent
	switch {
	case m.state == api.Off || m.state == api.Frozen:
		return
	case m.state == api.Listen:
		if !m.joins(l, h.Offset) {
			if !silent {
				m.waited = 0
			}
			return
		}
	case m.view.Slot == m.i:
		if m.sent && m.sync {
			m.measures = append(m.measures, 0)
		}
	default:
		m.judges(b.x, l, silent, h.Offset)
	}
	m.goesOn(b)
}

func (m *member) joins(l [][]byte, offset int) bool {
	for _, b := range l {
		kind, s, data, ok := read(b, api.CState{})
		if !ok || kind == api.Normal || s.Slot >= m.mostSlots || s.Slot == m.i {
			continue
		}
		m.beginsAnew(api.Passive)
		m.view = s
		m.time += offset
		m.isRight(s.Slot, data)
		for k := range m.said {
			m.said[k].good = m.view.Members>>k&1 == 1
		}
		return true
	}
	return false
}

func (m *member) isRight(who int, data []byte) {
	m.agree++
	m.view.Members |= 1 << who
	m.said[who] = saying{true, data, m.rounds, true}
}

func (m *member) judges(x api.Table, l [][]byte, silent bool, offset int) {
	who := m.view.Slot
	want := m.view
	want.Members |= 1 << who
	for _, b := range l {
		if kind, s, data, ok := read(b, want); ok && kind != api.Cold && s == want {
			m.isRight(who, data)
			if x.Nodes[who].Sync {
				m.measures = append(m.measures, offset)
			}
			return
		}
	}
	m.view.Members &^= 1 << who
	m.said[who].good = false
	if !silent {
		m.fail++
	}
}

func (m *member) goesOn(b *book) {
	if m.view.Slot++; m.view.Slot < m.mostSlots {
		return
	}
	m.view.Slot, m.view.Round = 0, (m.view.Round+1)%65536
	if by := average(m.measures); by > m.limit || -by > m.limit {
		m.state = api.Frozen
	} else {
		m.time += by + m.drift
	}
	m.measures = nil
	m.rounds++
	for k, r := range b.rules {
		m.isSo[k] = why(r, m.had(r.Node))
		m.rings[k] |= m.isSo[k]
	}
}

// Chapters 8 and 9.
func (m *member) had(who int) api.Message {
	if who < 0 || who > 7 {
		return never
	}
	s := m.said[who]
	if !s.ever {
		return api.Message{Age: -1, Good: s.good}
	}
	return api.Message{Data: s.data, Age: min(m.rounds-s.at, api.MaxRound), Good: s.good}
}

func why(r api.Rule, m api.Message) (bits int) {
	if len(m.Data) > 0 {
		if v := int(m.Data[0]); v < r.Low {
			bits = api.TooLow
		} else if v > r.High {
			bits = api.TooHigh
		}
	}
	if m.Age == -1 || m.Age > r.Stale {
		bits += api.TooOld
	}
	if !m.Good {
		bits += api.Lost
	}
	return bits
}

// Chapter 11.
func mayBe(l []api.Fault) bool {
	for _, f := range l {
		guardians := f.Kind == api.Block || f.Kind == api.Leak
		if f.Kind < 1 || f.Kind > 7 || f.N < 0 || f.N > 7 || guardians && f.N > 1 || f.At > 1000 || f.At < -1000 || len(f.Data) > 24 {
			return false
		}
	}
	return len(l) <= 4
}

// hit is what becomes of what all send by the faults, and of when.
func (b *book) hit(sends *[8][]byte, at *[8]int, l []api.Fault) (deaf [8]bool, blocked, leaks [2]bool) {
	for _, f := range l {
		is := f.N < len(b.l)
		switch {
		case f.Kind == api.Block:
			blocked[f.N] = true
		case f.Kind == api.Leak:
			leaks[f.N] = true
		case f.Kind == api.Deaf:
			deaf[f.N] = true
		case f.Kind == api.Omit:
			sends[f.N] = nil
		case f.Kind == api.Babble && is:
			sends[f.N], at[f.N] = f.Data, at[f.N]+f.At
		case f.Kind == api.Late:
			at[f.N] += f.At
		case f.Kind == api.Garble && len(sends[f.N]) > 0:
			turned := slices.Clone(sends[f.N])
			bit := max(f.At, -f.At) % (8 * len(turned))
			turned[bit/8] ^= 0x80 >> (bit % 8)
			sends[f.N] = turned
		}
	}
	return deaf, blocked, leaks
}

// told is what a channel tells of what came through, so many bytes long.
func told(l [][]byte, long int) (int, []byte) {
	b := make([]byte, long)
	ones, noughts := 0, 0
	for i := range 8 * long {
		level := 0
		for _, c := range l {
			if i < 8*len(c) {
				level += int(c[i/8]>>(7-i%8)&1)*2 - 1
			}
		}
		switch level {
		case 1:
			b[i/8] |= 0x80 >> (i % 8)
			ones++
		case -1:
			ones++
		case 0:
			noughts++
		}
	}
	switch {
	case noughts == 8*long:
		return api.Silent, nil
	case ones == 8*long:
		return api.Bytes, b
	}
	return api.Noise, nil
}

// Chapter 12.
func (b *book) slot(faults []api.Fault) api.Errno {
	if !mayBe(faults) {
		return api.ErrArg
	}
	var sends [8][]byte
	var at, clocks [8]int
	for i, m := range b.l {
		sends[i], at[i] = m.sends(), m.time
	}
	clocks = at
	deaf, blocked, leaks := b.hit(&sends, &at, faults)
	var who [8]bool
	var everybody [][]byte
	for i, c := range sends {
		who[i] = len(c) > 0
		everybody = append(everybody, c)
	}
	var through [2][][]byte
	long, from := 0, [2]int{-1, -1}
	for g := range through {
		one := b.guards[g].passes(b.x, who, at)
		switch {
		case blocked[g]:
		case leaks[g]:
			from[g], through[g] = slices.Index(who[:], true), everybody
		case one >= 0:
			from[g], through[g] = one, [][]byte{sends[one]}
		}
		for _, c := range through[g] {
			long = max(long, len(c))
		}
	}
	var h api.Heard
	h.A, h.X = told(through[0], long)
	h.B, h.Y = told(through[1], long)
	b.hears(h, deaf, from, at, clocks)
	for g, c := range [][]byte{h.X, h.Y} {
		when := 0
		if from[g] >= 0 {
			when = at[from[g]]
		}
		b.guards[g].ends(b.x, c, when)
	}
	b.many++
	return api.OK
}

func (b *book) hears(h api.Heard, deaf [8]bool, from [2]int, at, clocks [8]int) {
	for i, m := range b.l {
		own := h
		if deaf[i] {
			own = api.Heard{}
		}
		if from[0] >= 0 {
			own.Offset = at[from[0]] - clocks[i]
		} else if from[1] >= 0 {
			own.Offset = at[from[1]] - clocks[i]
		}
		m.takes(b, own)
	}
}

func (b *book) Step(a api.Act) api.Errno {
	if a.Kind == api.ActSlot {
		return b.slot(a.Faults)
	}
	if a.Node < 0 || a.Node >= len(b.l) {
		return api.ErrArg
	}
	m := b.l[a.Node]
	switch a.Kind {
	case api.ActOn:
		if a.N < -1000 || a.N > 1000 {
			return api.ErrArg
		}
		if m.state != api.Off && m.state != api.Frozen {
			return api.ErrState
		}
		m.beginsAnew(api.Listen)
		m.time = a.N
	case api.ActOff:
		m.beginsAnew(api.Off)
	case api.ActWrite:
		if len(a.Data) > b.x.Nodes[a.Node].Size {
			return api.ErrArg
		}
		m.data = bytes.Clone(a.Data)
	case api.ActAck:
		if a.N < 0 || a.N >= len(b.rules) {
			return api.ErrArg
		}
		if m.rings[a.N]&^m.isSo[a.N] == 0 {
			return api.ErrState
		}
		m.rings[a.N] = m.isSo[a.N]
	default:
		return api.ErrArg
	}
	return api.OK
}

func (b *book) Nodes() int { return len(b.l) }
func (b *book) Slots() int { return b.many }

// of is node i, or one to which nothing ever happened.
func (b *book) of(i int) *member {
	if i < 0 || i >= len(b.l) {
		return &member{}
	}
	return b.l[i]
}

func (b *book) State(i int) int              { return b.of(i).state }
func (b *book) View(i int) api.CState        { return b.of(i).view }
func (b *book) Clock(i int) int              { return b.of(i).time }
func (b *book) Read(i, node int) api.Message { return b.of(i).had(node) }
func (b *book) Rings(i, rule int) int {
	if rule < 0 || rule >= len(b.rules) {
		return 0
	}
	return b.of(i).rings[rule]
}
