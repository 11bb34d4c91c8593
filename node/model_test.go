package node_test

import (
	"bytes"
	"testing"

	"matron/api"
	"matron/node"
)

// What happens to a node.
const (
	waits    = iota
	noises   // while it listens
	has      // these members
	joins    // a node
	right    // likewise, with data
	wrong    // likewise
	missing  // likewise
	measures // so many ticks
	forgets  // its counts
	sends
	slotEnds
	roundEnds
)

// happening is what happens.
type happening struct {
	kind int
	n    int
	data []byte
}

// model is a Node in another way: it keeps what happened since it began anew, and finds out from that each time.
type model struct {
	x        api.Table
	i, drift int
	rules    []api.Rule
	state    int
	time     int
	data     []byte
	begins   api.CState // without Members
	happened []happening
	isSo     [api.MaxRules]int
	rings    [api.MaxRules]int
}

func (m *model) add(kind, n int, data ...byte) {
	m.happened = append(m.happened, happening{kind, n, data})
}

func (m *model) begin(state int, s api.CState) {
	m.state, m.begins, m.happened = state, s, nil
}

// many is how often a kind happened since the last of another kind.
func (m *model) many(kind, since int) int {
	many := 0
	for i := len(m.happened) - 1; i >= 0 && m.happened[i].kind != since; i-- {
		if m.happened[i].kind == kind {
			many++
		}
	}
	return many
}

// last is of which of these kinds was what last happened to a node.
func (m *model) last(who int, kinds ...int) int {
	for i := len(m.happened) - 1; i >= 0; i-- {
		h := m.happened[i]
		for _, kind := range kinds {
			if h.kind == kind && h.n == who {
				return kind
			}
		}
		if h.kind == has && h.n>>who&1 == 1 {
			return has
		}
	}
	return missing
}

func (m *model) isMember(who int) bool {
	kind := m.last(who, joins, right, wrong, missing)
	return kind == has || kind == joins || kind == right
}

// slots is how many slots the state is from Round 0 and Slot 0.
func (m *model) slots() int {
	return m.begins.Round*len(m.x.Nodes) + m.begins.Slot + m.many(slotEnds, -1)
}

func (m *model) view() api.CState {
	n := len(m.x.Nodes)
	s := api.CState{Round: m.slots() / n % 65536, Slot: m.slots() % n}
	for who := range 8 {
		if m.isMember(who) {
			s.Members += 1 << who
		}
	}
	return s
}

func (m *model) read(who int) api.Message {
	age, kind := 0, m.last(who, right, wrong, missing)
	good := kind == has || kind == right
	for i := len(m.happened) - 1; i >= 0; i-- {
		h := m.happened[i]
		if h.kind == roundEnds {
			age++
		}
		if h.kind == right && h.n == who {
			return api.Message{Data: h.data, Age: min(age, 65535), Good: good}
		}
	}
	return api.Message{Age: -1, Good: good}
}

// term is the mean of the last four measures of this round, of more than two without the least and the greatest.
func (m *model) term() int {
	var l []int
	for i := len(m.happened) - 1; i >= 0 && m.happened[i].kind != roundEnds && len(l) < 4; i-- {
		if m.happened[i].kind == measures {
			l = append(l, m.happened[i].n)
		}
	}
	if len(l) == 0 {
		return 0
	}
	sum, least, most := 0, l[0], l[0]
	for _, n := range l {
		sum, least, most = sum+n, min(least, n), max(most, n)
	}
	many := len(l)
	if many > 2 {
		sum, many = sum-least-most, many-2
	}
	return (sum - (sum%many+many)%many) / many
}

func (m *model) ends() {
	m.add(slotEnds, 0)
	if m.slots()%len(m.x.Nodes) != 0 {
		return
	}
	if term := m.term(); max(term, -term) > m.x.Limit {
		m.state = api.Frozen
	} else {
		m.time += term + m.drift
	}
	m.add(roundEnds, 0)
	for i, r := range m.rules {
		m.isSo[i] = why(r, m.read(r.Node))
		m.rings[i] |= m.isSo[i]
	}
}

func why(r api.Rule, m api.Message) int {
	bits := 0
	for i, is := range []bool{
		len(m.Data) > 0 && int(m.Data[0]) < r.Low,
		len(m.Data) > 0 && int(m.Data[0]) > r.High,
		m.Age > r.Stale || m.Age == -1,
		!m.Good,
	} {
		if is {
			bits += 1 << i
		}
	}
	return bits
}

func (m *model) on(at int) api.Errno {
	if at*at > 1000*1000 {
		return api.ErrArg
	}
	if m.state != api.Off && m.state != api.Frozen {
		return api.ErrState
	}
	m.begin(api.Listen, api.CState{})
	m.time = at
	return api.OK
}

func (m *model) off() { m.begin(api.Off, api.CState{}) }

func (m *model) write(data []byte) api.Errno {
	if len(data) > m.x.Nodes[m.i].Size {
		return api.ErrArg
	}
	m.data = data
	return api.OK
}

func (m *model) ack(i int) api.Errno {
	if i < 0 || i >= len(m.rules) {
		return api.ErrArg
	}
	if m.rings[i] == m.isSo[i] {
		return api.ErrState
	}
	m.rings[i] = m.isSo[i]
	return api.OK
}

func (m *model) send() []byte {
	was := m.state
	if was == api.Listen {
		m.add(waits, 0)
		if m.many(waits, noises) < m.x.Nodes[m.i].Listen {
			return nil
		}
		m.begin(api.Begun, api.CState{Slot: m.i})
		return m.sends(api.Cold)
	}
	if was == api.Off || was == api.Frozen || m.slots()%len(m.x.Nodes) != m.i {
		return nil
	}
	agree, fail := m.many(right, forgets), m.many(wrong, forgets)
	if was == api.Passive && (agree == 0 || fail > agree) {
		m.add(forgets, 0)
		return nil
	}
	if was == api.Active && fail > agree {
		m.state = api.Frozen
		return nil
	}
	if agree == 0 {
		m.begin(api.Listen, api.CState{})
		return nil
	}
	m.state = api.Active
	if was == api.Active && !m.x.Nodes[m.i].Info && m.view().Round%2 == 1 {
		return m.sends(api.Normal)
	}
	return m.sends(api.Info)
}

func (m *model) sends(kind int) []byte {
	m.add(joins, m.i)
	m.add(forgets, 0)
	m.add(sends, 0)
	return told(kind, m.view(), m.data...)
}

func (m *model) take(h api.Heard) {
	who := m.slots() % len(m.x.Nodes)
	switch {
	case m.state == api.Off || m.state == api.Frozen:
		return
	case m.state == api.Listen:
		m.listen(h)
		return
	case who == m.i:
		if m.many(sends, slotEnds) > 0 && m.x.Nodes[who].Sync {
			m.add(measures, 0)
		}
	default:
		m.judge(who, h)
	}
	m.ends()
}

func (m *model) listen(h api.Heard) {
	for _, b := range channels(h) {
		kind, s := head(b)
		if kind != api.Info && kind != api.Cold || s.Slot >= len(m.x.Nodes) || s.Slot == m.i {
			continue
		}
		if data, ok := spells(b, kind, s); ok {
			m.begin(api.Passive, s)
			m.add(has, s.Members)
			m.add(right, s.Slot, data...)
			m.time += h.Offset
			m.ends()
			return
		}
	}
	if h.A != api.Silent || h.B != api.Silent {
		m.add(noises, 0)
	}
}

func (m *model) judge(who int, h api.Heard) {
	s := m.view()
	s.Members |= 1 << who
	for _, b := range channels(h) {
		for _, kind := range []int{api.Normal, api.Info} {
			if data, ok := spells(b, kind, s); ok {
				m.add(right, who, data...)
				if m.x.Nodes[who].Sync {
					m.add(measures, h.Offset)
				}
				return
			}
		}
	}
	if h.A == api.Silent && h.B == api.Silent {
		m.add(missing, who)
	} else {
		m.add(wrong, who)
	}
}

// channels is the bytes of those that have some.
func channels(h api.Heard) [][]byte {
	var l [][]byte
	if h.A == api.Bytes {
		l = append(l, h.X)
	}
	if h.B == api.Bytes {
		l = append(l, h.Y)
	}
	return l
}

// head is what the first bytes say, whether a frame's or not.
func head(b []byte) (int, api.CState) {
	if len(b) < 5 {
		return 0, api.CState{}
	}
	return int(b[0]), c(int(b[1])*256+int(b[2]), int(b[3]), int(b[4]))
}

// spells tells whether bytes are those of a frame of that kind and state, by making it anew.
func spells(b []byte, kind int, s api.CState) ([]byte, bool) {
	from := 2
	if kind != api.Normal {
		from = 6
	}
	if len(b) < from+2 || len(b) > from+2+api.MaxData {
		return nil, false
	}
	data := b[from : len(b)-2]
	return bytes.Clone(data), bytes.Equal(b, told(kind, s, data...))
}

// tells is all that it tells.
func (m *model) tells() tells {
	a := tells{state: m.state, c: m.view(), time: m.time, rings: m.rings}
	for who := range a.reads {
		a.reads[who] = m.read(who)
	}
	return a
}

// pair is a node with its model: what is done to the one is done to the other, and both must answer alike.
type pair struct {
	t *testing.T
	n *node.Node
	m model
}

func pairOf(t *testing.T, x api.Table, i, drift int, rules []api.Rule) *pair {
	n, e := node.New(x, i, drift, rules)
	if n == nil || e != api.OK {
		t.Errorf("New(%v, %d, %d, %v): got %v, %v", x, i, drift, rules, n, e)
	}
	return &pair{t, n, model{x: x, i: i, drift: drift, rules: rules}}
}

func (p *pair) alike() {
	p.t.Helper()
	wantAll(p.t, p.n, p.m.tells())
}

func (p *pair) errs(got, want api.Errno) {
	p.t.Helper()
	if got != want {
		p.t.Errorf("got %v, want %v", got, want)
	}
	p.alike()
}

func (p *pair) on(at int)         { p.t.Helper(); p.errs(p.n.On(at), p.m.on(at)) }
func (p *pair) write(data []byte) { p.t.Helper(); p.errs(p.n.Write(data), p.m.write(data)) }
func (p *pair) ack(i int)         { p.t.Helper(); p.errs(p.n.Ack(i), p.m.ack(i)) }

func (p *pair) off() {
	p.t.Helper()
	p.n.Off()
	p.m.off()
	p.alike()
}

func (p *pair) send() []byte {
	p.t.Helper()
	got, want := p.n.Send(), p.m.send()
	if !bytes.Equal(got, want) {
		p.t.Errorf("Send: got %x, want %x", got, want)
	}
	p.alike()
	return got
}

func (p *pair) take(h api.Heard) {
	p.t.Helper()
	p.n.Take(h)
	p.m.take(h)
	p.alike()
}
