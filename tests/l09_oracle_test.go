package tests

import (
	"fmt"
	"reflect"
	"slices"
	"testing"

	"loop.example/g00303/impl"
)

func plainPeerOk(p impl.Peer) bool {
	if !plainMachineOk(p.Machine) || !plainLinkOk(p.Link) {
		return false
	}
	var nodes []int
	for _, m := range p.Machine.Say {
		nodes = append(nodes, m.To)
		told := m
		told.From = p.Link.Id
		if m.From != 0 || !plainMsgOk(told) {
			return false
		}
	}
	for _, c := range p.Machine.Heap {
		if c.Kind == impl.CFar && c.N != -1 {
			nodes = append(nodes, c.N)
		}
	}
	for _, th := range p.Machine.Threads {
		for _, f := range th.Stack {
			if f.Kind == impl.FGive {
				nodes = append(nodes, f.N)
			}
		}
	}
	return !slices.ContainsFunc(nodes, func(n int) bool { return n == p.Link.Id || n < 0 || n >= len(p.Link.Seen) })
}

// plainHear tells what Hear has to, whatever it is given.
func plainHear(p impl.Peer, m impl.Msg) (impl.Peer, bool) {
	if !plainPeerOk(p) || !plainMsgOk(m) || m.To != p.Link.Id || m.From >= len(p.Link.Seen) || len(p.Machine.Heap) > 2800 {
		return copyPeer(p), false
	}
	s := plainStepper{Machine: copyMachine(p.Machine)}
	room := true
	switch m.Kind {
	case impl.MsgFetch:
		if m.Id < len(s.Names) {
			room = s.begin(with(enters(s.Names[m.Id]), giveFrame(m.From, m.Want)))
		}
	case impl.MsgGive:
		if m.Id < len(s.Names) && s.wants(s.Names[m.Id]) && s.knows(m.Cell) {
			s.Heap[s.Names[m.Id]] = s.fromFar(m)
		}
	case impl.MsgFish:
		s.fished(m)
	case impl.MsgWork:
		if s.knows(m.Cell) {
			before := copyMachine(s.Machine)
			c := s.fromFar(m)
			if room = s.begin(with(evals(c.At, c.Kids...), giveFrame(m.From, m.Id))); !room {
				s.Machine = before
			}
		}
	}
	return copyPeer(impl.Peer{Machine: s.Machine, Link: p.Link}), room
}

// begin has the threads by number that may be stood in, and takes the least.
func (p *plainStepper) begin(th impl.Thread) bool {
	for i := 1; i < len(p.Threads); i++ {
		if old := p.Threads[i]; old.Do >= impl.IsDone && old.Out == "" {
			p.Threads[i] = th
			return true
		}
	}
	if len(p.Threads) >= 60 {
		return false
	}
	p.Threads = append(p.Threads, th)
	return true
}

func (p *plainStepper) wants(place int) bool {
	return slices.Contains([]string{"r -1 0", "h 0 0"}, plainCellText(p.Heap[place]))
}

func (p *plainStepper) knows(c impl.Cell) bool {
	if c.Kind != impl.CFun && c.Kind != impl.CThunk {
		return true
	}
	return c.At < len(p.Table.Codes) && len(c.Kids)+c.N >= plainScopeOf(p.Table, c.At)
}

// fromFar tells the message's cell, with new ones for its Kids.
func (p *plainStepper) fromFar(m impl.Msg) impl.Cell {
	c := cell(m.Cell.Kind, m.Cell.N, m.Cell.At)
	for _, number := range m.Cell.Kids {
		c.Kids = append(c.Kids, p.fresh(cell(impl.CFar, m.From, number)))
	}
	return c
}

func (p *plainStepper) fished(m impl.Msg) {
	for len(p.Sparks) > 0 {
		place := plainFollow(p.Heap, p.Sparks[0])
		p.Sparks = p.Sparks[1:]
		if place < 0 || p.Heap[place].Kind != impl.CThunk {
			continue
		}
		before := slices.Clone(p.Names)
		work := impl.Msg{Kind: impl.MsgWork, To: m.From, Id: p.name(place), Cell: thunk(p.Heap[place].At)}
		for _, kid := range p.Heap[place].Kids {
			work.Cell.Kids = append(work.Cell.Kids, p.name(kid))
		}
		told := work
		told.From = m.To
		if plainMsgOk(told) {
			p.Say = append(p.Say, work)
			p.Heap[place] = cell(impl.CHole, 0, 0)
			return
		}
		p.Names = before
	}
}

func plainFlush(p impl.Peer) (impl.Peer, []string) {
	after := copyPeer(p)
	var packs []string
	for len(after.Machine.Say) > 0 {
		m := after.Machine.Say[0]
		m.From = p.Link.Id
		link, bytes, ok := plainSend(after.Link, m)
		if !ok {
			break
		}
		packs = append(packs, bytes)
		after.Link, after.Machine.Say = link, after.Machine.Say[1:]
	}
	return copyPeer(after), packs
}

func plainClear(p impl.Peer) impl.Peer {
	after := copyPeer(p)
	if !plainPeerOk(p) {
		return after
	}
	m := &after.Machine
	for top := range m.Table.Tops {
		if end := plainFollow(p.Machine.Heap, top); m.Heap[top].Kind == impl.CInd && end >= 0 && p.Machine.Heap[end].Kind <= impl.CFun {
			m.Heap[top] = copyHeap(p.Machine.Heap[end : end+1])[0]
		}
	}
	for i := range m.Threads {
		if m.Threads[i].Do >= impl.IsDone {
			m.Threads[i].Kids, m.Threads[i].Stack = nil, nil
		}
	}
	made, places := plainCollect(m.Heap, append(upTo(len(m.Table.Tops)), heldBy(*m)...))
	places = places[len(m.Table.Tops):]
	m.Heap = made
	next := func(old int) int {
		place := places[0]
		places = places[1:]
		return place
	}
	mapHeld(m, next)
	return after
}

// heldBy tells the places that a machine knows, but for those of tops.
func heldBy(m impl.Machine) []int {
	var held []int
	m = copyMachine(m)
	mapHeld(&m, func(old int) int {
		held = append(held, old)
		return old
	})
	return held
}

// mapHeld tells all places anew that threads which have not ended, sparks and
// names have.
func mapHeld(m *impl.Machine, anew func(old int) int) {
	each := func(list []int) {
		for i := range list {
			list[i] = anew(list[i])
		}
	}
	for i := range m.Threads {
		th := &m.Threads[i]
		if th.Do >= impl.IsDone {
			continue
		}
		if th.Do == impl.DoEnter {
			th.At = anew(th.At)
		}
		each(th.Kids)
		for j := range th.Stack {
			if f := &th.Stack[j]; frameParts[f.Kind].at.place {
				f.At = anew(f.At)
			}
			each(th.Stack[j].Kids)
		}
	}
	each(m.Sparks)
	each(m.Names)
}

func plainBusy(p impl.Peer) int {
	busy := len(p.Machine.Threads)
	for _, th := range p.Machine.Threads {
		if th.Do == impl.IsDone || th.Do == impl.IsStuck {
			busy--
		}
	}
	return busy
}

// wantFound asks for promise 9 of a node that was cleared: from each place that
// is held one comes to the same as before. What is not reckoned yet is one place
// where it was one, so that it is reckoned once.
func wantFound(t *testing.T, was impl.Peer, is impl.Peer) {
	t.Helper()
	f := finding{old: was.Machine.Heap, made: is.Machine.Heap, been: map[[2]int]bool{}, newOf: map[int]int{}, oldOf: map[int]int{}}
	ok := f.pair(heldBy(was.Machine), heldBy(is.Machine))
	if topsStay(was.Machine) {
		tops := upTo(len(was.Machine.Table.Tops))
		ok = ok && f.pair(tops, tops)
	}
	for ok && len(f.waiting) > 0 {
		old, made := f.old[f.waiting[0][0]], f.made[f.waiting[0][1]]
		f.waiting = f.waiting[1:]
		ok = old.Kind == made.Kind && old.N == made.N && old.At == made.At && f.pair(old.Kids, made.Kids)
	}
	if !ok {
		t.Fatalf("%s\nfinds something else than\n%s", brief(is), brief(was))
	}
}

// topsStay tells whether no top's cell is a CInd of what is no value: such a one
// is told by what it leads to, which stands elsewhere.
func topsStay(m impl.Machine) bool {
	for top := range m.Table.Tops {
		end := plainFollow(m.Heap, top)
		if m.Heap[top].Kind == impl.CInd && end >= 0 && m.Heap[end].Kind > impl.CFun {
			return false
		}
	}
	return true
}

type finding struct {
	old, made    []impl.Cell
	been         map[[2]int]bool
	newOf, oldOf map[int]int
	waiting      [][2]int
}

func (f *finding) pair(olds []int, news []int) bool {
	if len(olds) != len(news) {
		return false
	}
	for i := range olds {
		pair := [2]int{plainFollow(f.old, olds[i]), plainFollow(f.made, news[i])}
		if (pair[0] < 0) != (pair[1] < 0) {
			return false
		}
		if pair[0] < 0 || f.been[pair] {
			continue
		}
		f.been[pair] = true
		f.waiting = append(f.waiting, pair)
		if f.old[pair[0]].Kind <= impl.CFun {
			continue
		}
		_, known := f.newOf[pair[0]]
		_, taken := f.oldOf[pair[1]]
		if known || taken {
			return false
		}
		f.newOf[pair[0]], f.oldOf[pair[1]] = pair[1], pair[0]
	}
	return true
}

func copyPeer(p impl.Peer) impl.Peer {
	return impl.Peer{Machine: copyMachine(p.Machine), Link: copyLink(p.Link)}
}

func samePeer(a impl.Peer, b impl.Peer) bool { return reflect.DeepEqual(copyPeer(a), copyPeer(b)) }

// peerText is for nodes that are right.
func peerText(p impl.Peer) string {
	return fmt.Sprintf("%.3000s | %s", machineText(p.Machine), linkText(p.Link))
}

// peerMaker makes nodes that are right.
type peerMaker struct {
	*machineMaker
	wire *maker
}

func newPeerMaker(seed uint64) *peerMaker {
	return &peerMaker{machineMaker: newMachineMaker(seed), wire: newMaker(seed)}
}

// peer makes a node of any right machine, among at least so many.
func (k *peerMaker) peer(least int) impl.Peer {
	p := impl.Peer{Machine: k.machine(), Link: k.wire.link(least)}
	if k.IntN(2) == 0 {
		nodes := least + k.IntN(4)
		p.Link, _ = impl.LinkNew(k.IntN(nodes), nodes)
	}
	if k.IntN(6) == 0 {
		k.crowd(&p.Machine)
	}
	k.settle(&p)
	return p
}

// crowd fills a machine with threads, or nearly, in whose places mostly none may
// stand.
func (k *peerMaker) crowd(m *impl.Machine) {
	for len(m.Threads) < 60 {
		th := k.thread(*m)
		if k.IntN(40) > 0 {
			th.Out = "(1:"
		}
		m.Threads = append(m.Threads, th)
	}
	m.Threads = m.Threads[:60-k.IntN(3)]
}

// settle lets all nodes that are named be such as there are, and others.
func (k *peerMaker) settle(p *impl.Peer) {
	nodes := len(p.Link.Seen)
	other := func() int { return (p.Link.Id + 1 + k.IntN(nodes-1)) % nodes }
	p.Machine.Say = nil
	for i, c := range p.Machine.Heap {
		if c.Kind != impl.CFar || c.N < 0 {
			continue
		}
		p.Machine.Heap[i] = cell(impl.CFar, -1, 0)
		if nodes > 1 {
			p.Machine.Heap[i] = cell(impl.CFar, other(), c.At)
		}
	}
	for _, th := range p.Machine.Threads {
		for j, f := range th.Stack {
			if f.Kind != impl.FGive {
				continue
			}
			th.Stack[j] = showFrame()
			if nodes > 1 {
				th.Stack[j] = giveFrame(other(), f.At)
			}
		}
	}
	for range k.IntN(3) {
		m := k.wire.msgAmong(p.Link.Id, nodes)
		m.From = 0
		if nodes > 1 {
			p.Machine.Say = append(p.Machine.Say, m)
		}
	}
}

// msgFor makes a message that a node may hear, mostly of what it knows.
func (k *peerMaker) msgFor(p impl.Peer) impl.Msg {
	nodes := len(p.Link.Seen)
	m := k.wire.msgAmong(p.Link.Id, nodes)
	m.From, m.To = m.To, p.Link.Id
	if m.Kind != impl.MsgFish && k.IntN(8) > 0 {
		m.Id = k.IntN(len(p.Machine.Names) + 1)
	}
	if m.Kind == impl.MsgFish || m.Cell.Kind != impl.CFun && m.Cell.Kind != impl.CThunk || k.IntN(8) == 0 {
		return m
	}
	m.Cell.At = k.IntN(len(p.Machine.Table.Codes) + 1)
	if m.Cell.At < len(p.Machine.Table.Codes) {
		count := plainScopeOf(p.Machine.Table, m.Cell.At) - m.Cell.N + k.IntN(4) - 1
		m.Cell.Kids = nil
		for range count {
			m.Cell.Kids = append(m.Cell.Kids, k.wire.inSpan(wireIds))
		}
	}
	return m
}
