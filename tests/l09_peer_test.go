package tests

import (
	"math"
	"reflect"
	"slices"
	"strings"
	"sync"
	"testing"

	"loop.example/g00303/impl"
)

// sharing is the program of most nodes here: code 0 is an ExLam, 1 an ExOp of the
// ExVars 2 and 3, which wants two in scope; 4 is the other top, an ExIf, and 7 its
// last kid and the last code, an ExNum.
const sharing = "f = \\x y . x + y; main = if 1 then f else 4;"

// peerOf has no thread and these cells behind those of the tops.
func peerOf(t *testing.T, id int, nodes int, cells ...impl.Cell) impl.Peer {
	t.Helper()
	m := machineOf(t, sharing, does(impl.IsDone), cells...)
	m.Threads = nil
	p := impl.Peer{Machine: m, Link: newLink(t, id, nodes)}
	if !impl.PeerOk(p) {
		t.Fatalf("%v is not right", p)
	}
	return p
}

func newPeer(t *testing.T, text string, id int, nodes int) impl.Peer {
	t.Helper()
	p, ok := impl.PeerNew(tableOf(t, text), id, nodes)
	if !ok || !impl.PeerOk(p) {
		t.Fatal(text, id, nodes)
	}
	return p
}

func wantPeer(t *testing.T, got impl.Peer, want impl.Peer) {
	t.Helper()
	if !samePeer(got, want) {
		t.Fatalf("%s\nwant\n%s", brief(got), brief(want))
	}
}

func wantPeerOk(t *testing.T, right bool, p impl.Peer) {
	t.Helper()
	if plainPeerOk(p) != right {
		t.Fatalf("the oracle tells %s: %t", brief(p), !right)
	}
	if impl.PeerOk(p) != right {
		t.Fatalf("PeerOk(%s) = %t", brief(p), !right)
	}
}

// wantHear asks for what the oracle tells, for promise 9, and that what is not
// heard changes nothing.
func wantHear(t *testing.T, p impl.Peer, m impl.Msg) (impl.Peer, bool) {
	t.Helper()
	kept := copyPeer(p)
	after, heard := impl.Hear(p, m)
	want, wantHeard := plainHear(p, m)
	if !samePeer(after, want) || heard != wantHeard {
		t.Fatalf("Hear(%s, %v) = %s, %t; want %s, %t", brief(p), m, brief(after), heard, brief(want), wantHeard)
	}
	if impl.PeerOk(after) != impl.PeerOk(p) || !heard && !samePeer(after, p) {
		t.Fatalf("Hear(%s, %v) = %s", brief(p), m, brief(after))
	}
	wantPeer(t, p, kept)
	return after, heard
}

// wantHeard tells by a text all that the machine has then.
func wantHeard(t *testing.T, p impl.Peer, m impl.Msg, want string) impl.Peer {
	t.Helper()
	after, heard := wantHear(t, p, m)
	if got := machineText(after.Machine); !heard || got != want {
		t.Fatalf("%s hears %v:\n%s\nwant\n%s", machineText(p.Machine), m, got, want)
	}
	if !sameLink(after.Link, p.Link) {
		t.Fatalf("the link became %s", linkText(after.Link))
	}
	return after
}

func wantNothing(t *testing.T, p impl.Peer, m impl.Msg) {
	t.Helper()
	after, heard := wantHear(t, p, m)
	if !heard || !samePeer(after, p) {
		t.Fatalf("%s hears %v: %s, %t", brief(p), m, brief(after), heard)
	}
}

func wantRefused(t *testing.T, p impl.Peer, m impl.Msg) {
	t.Helper()
	after, heard := wantHear(t, p, m)
	if heard || !samePeer(after, p) {
		t.Fatalf("%s hears %v: %s, %t", brief(p), m, brief(after), heard)
	}
}

func wantFlush(t *testing.T, p impl.Peer) (impl.Peer, []string) {
	t.Helper()
	kept := copyPeer(p)
	after, packs := impl.Flush(p)
	want, wantPacks := plainFlush(p)
	if !samePeer(after, want) || !slices.Equal(packs, wantPacks) || impl.PeerOk(p) && !impl.PeerOk(after) {
		t.Fatalf("Flush(%s) = %s, %x; want %s, %x", brief(p), brief(after), packs, brief(want), wantPacks)
	}
	wantPeer(t, p, kept)
	return after, packs
}

func wantClear(t *testing.T, p impl.Peer) impl.Peer {
	t.Helper()
	kept := copyPeer(p)
	after, want := impl.Clear(p), plainClear(p)
	if !samePeer(after, want) {
		t.Fatalf("Clear(%s) = %s; want %s", brief(p), brief(after), brief(want))
	}
	if impl.PeerOk(p) {
		wantFound(t, p, after)
		if topsStay(p.Machine) && !impl.PeerOk(after) {
			t.Fatalf("Clear(%s) = %s is not right", brief(p), brief(after))
		}
	}
	wantPeer(t, p, kept)
	return after
}

func TestPeerNew(t *testing.T) {
	table := tableOf(t, sharing)
	numbers := []int{math.MinInt, -31, -1, 0, 1, 2, 3, 29, 30, 31, 32, 1 << 32, math.MaxInt}
	for _, id := range numbers {
		for _, nodes := range numbers {
			p, ok := impl.PeerNew(table, id, nodes)
			want := impl.Peer{}
			if right := id >= 0 && id < nodes && nodes <= 31; right != ok {
				t.Errorf("PeerNew %d of %d: %t", id, nodes, ok)
			} else if right {
				want = impl.Peer{Machine: impl.MachineNew(table), Link: newLink(t, id, nodes)}
			}
			wantPeer(t, p, want)
			wantPeerOk(t, ok, p)
			if impl.Busy(p) != 0 {
				t.Error("busy at once")
			}
		}
	}
	for i, other := range changedTables(table) {
		p, ok := impl.PeerNew(other, 1, 3)
		if ok != plainTableOk(other) || !ok && !samePeer(p, impl.Peer{}) {
			t.Fatalf("%d: PeerNew(%v) = %v, %t", i, other, p, ok)
		}
	}
	for _, other := range []impl.Table{{}, {Codes: table.Codes}, {Tops: table.Tops}} {
		if p, ok := impl.PeerNew(other, 0, 1); ok || !samePeer(p, impl.Peer{}) {
			t.Errorf("PeerNew(%v) = %v", other, p)
		}
	}
	if _, ok := impl.PeerNew(tableOf(t, manyDefinitions(30)), 30, 31); !ok {
		t.Error("thirty definitions")
	}
}

// Each of Say is as it is to be sent, but for its From.
func TestPeerOkSay(t *testing.T) {
	nodes := []int{math.MinInt, -2, -1, 0, 1, 2, 3, 4, 5, 29, 30, 31, math.MaxInt}
	for _, id := range []int{0, 1, 3} {
		for _, to := range nodes {
			there := to >= 0 && to < 4 && to != id
			for _, from := range nodes {
				p := peerOf(t, id, 4)
				p.Machine.Say = []impl.Msg{fishMsg(from, to)}
				wantPeerOk(t, from == 0 && there, p)
				// A wrong one behind right ones.
				p.Machine.Say = []impl.Msg{fetchMsg(0, (id+1)%4, 1, 2), fishMsg(from, to)}
				wantPeerOk(t, from == 0 && there, p)
			}
			for _, m := range eachMsg() {
				p := peerOf(t, id, 4)
				m.From, m.To = 0, to
				p.Machine.Say = []impl.Msg{m}
				wantPeerOk(t, there, p)
			}
		}
	}
	// Among all nodes that there may be, and one that is alone.
	for _, to := range nodes {
		p := peerOf(t, 30, 31)
		p.Machine.Say = []impl.Msg{fishMsg(0, to)}
		wantPeerOk(t, to >= 0 && to < 30, p)
		p = peerOf(t, 0, 1)
		p.Machine.Say = []impl.Msg{fishMsg(0, to)}
		wantPeerOk(t, false, p)
	}
	for _, m := range eachMsg() {
		m.From, m.To = 0, 2
		for _, other := range changedMsgs(m) {
			p := peerOf(t, 1, 3)
			p.Machine.Say = []impl.Msg{other}
			told := other
			told.From = 1
			wantPeerOk(t, other.From == 0 && plainMsgOk(told) && other.To < 3, p)
		}
	}
	p := peerOf(t, 1, 3)
	p.Machine.Say = slices.Repeat([]impl.Msg{fishMsg(0, 2)}, 1000)
	wantPeerOk(t, true, p)
	p.Machine.Say = append(p.Machine.Say, impl.Msg{})
	wantPeerOk(t, true, p) // A fetch of the first number of node 0, which is another one.
	p = peerOf(t, 0, 3)
	p.Machine.Say = []impl.Msg{{}}
	wantPeerOk(t, false, p)
}

func TestPeerOkFarsAndGives(t *testing.T) {
	for _, id := range []int{0, 1, 3} {
		for _, node := range []int{-2, -1, 0, 1, 2, 3, 4, 5, 30, 31} {
			there := node >= 0 && node < 4 && node != id
			p := peerOf(t, id, 4, intCell(1), intCell(2))
			p.Machine.Heap[3] = cell(impl.CFar, node, 0)
			wantPeerOk(t, there || node == -1, p)
			p.Machine.Heap[2] = cell(impl.CFar, (id+1)%4, math.MaxInt)
			wantPeerOk(t, there || node == -1, p)
			p.Machine.Heap[3] = cell(impl.CFar, node, 7)
			wantPeerOk(t, there, p)
			// In a Stack of a thread of each kind, those that have ended too, at each
			// place in it.
			for _, th := range []impl.Thread{evals(7), enters(0), does(impl.DoNext), does(impl.IsDone), does(impl.IsStuck)} {
				for _, frames := range [][]impl.Frame{
					{giveFrame(node, 5)}, {showFrame(), giveFrame(node, 0)}, {giveFrame(node, math.MaxInt), upd(0)}, {giveFrame((id+2)%4, 1), giveFrame(node, 2)},
				} {
					p := peerOf(t, id, 4)
					p.Machine.Threads = []impl.Thread{enters(1), with(th, frames...)}
					wantPeerOk(t, there, p)
				}
			}
		}
	}
	// N of another kind of cell or frame is no node.
	p := peerOf(t, 1, 2, intCell(1), intCell(31), cell(impl.CFun, 1, 7))
	p.Machine.Threads = []impl.Thread{with(enters(0), frame(impl.FRight, 1, 1), frame(impl.FRight, 1, -5))}
	wantPeerOk(t, true, p)
}

// fullPeer has each kind of all there is.
func fullPeer(t *testing.T) impl.Peer {
	t.Helper()
	m := fullMachine(t)
	m.Threads[3].Stack[0].N = 2
	m.Say = []impl.Msg{fetchMsg(0, 3, 4, 5), giveMsg(0, 0, 6, pairOf(1, 2)), fishMsg(0, 2), workMsg(0, 3, 7, thunk(1, 2, 3))}
	l := newLink(t, 1, 4)
	for _, to := range []int{0, 2, 3} {
		l, _, _ = impl.LinkSend(l, giveMsg(1, to, 3, pairOf(4, 5)))
		l, _, _ = impl.LinkTake(l, dataOf(fishMsg(to, 1), 7, 3))
	}
	p := impl.Peer{Machine: m, Link: l}
	wantPeerOk(t, true, p)
	return p
}

// changedPeers has one field alone changed in each, every step-th one of those
// of its machine.
func changedPeers(p impl.Peer, step int) []impl.Peer {
	var all []impl.Peer
	for i, m := range changedMachines(p.Machine) {
		if i%step == 0 {
			all = append(all, impl.Peer{Machine: m, Link: copyLink(p.Link)})
		}
	}
	for _, l := range changedLinks(p.Link) {
		all = append(all, impl.Peer{Machine: copyMachine(p.Machine), Link: l})
	}
	for i, m := range p.Machine.Say {
		for _, other := range changedMsgs(m) {
			q := copyPeer(p)
			q.Machine.Say[i] = other
			all = append(all, q)
		}
	}
	return append(all, impl.Peer{}, impl.Peer{Machine: copyMachine(p.Machine)}, impl.Peer{Link: copyLink(p.Link)})
}

// A node that is not right, by its machine, its link or its Say: nothing is
// heard, and nothing is cleared.
func TestPeerOkOfOneWrongField(t *testing.T) {
	right, wrong := 0, 0
	for i, p := range changedPeers(fullPeer(t), 3) {
		want := plainPeerOk(p)
		wantPeerOk(t, want, p)
		wantFlush(t, p)
		if impl.Busy(p) != plainBusy(p) {
			t.Fatalf("Busy(%s) = %d", brief(p), impl.Busy(p))
		}
		if want {
			right++
			continue
		}
		wrong++
		for _, m := range []impl.Msg{fetchMsg(0, 1, 0, 3), giveMsg(3, 1, 0, intCell(4)), fishMsg(2, 1), workMsg(0, 1, 5, thunk(0))} {
			if i%4 == 0 {
				wantRefused(t, p, m)
			}
		}
		wantPeer(t, wantClear(t, p), p)
	}
	if right < 500 || wrong < 1000 {
		t.Error("only", right, "right and", wrong, "wrong nodes")
	}
}

func TestHearOfAnotherMessage(t *testing.T) {
	p := fullPeer(t)
	for _, m := range []impl.Msg{
		{}, fishMsg(0, 0), fishMsg(0, 2), fishMsg(0, 3), fishMsg(2, 3), fishMsg(1, 1), fishMsg(1, 0), fishMsg(4, 1), fishMsg(5, 1), fishMsg(30, 1),
		fishMsg(31, 1), fishMsg(-1, 1), fishMsg(0, 4), fishMsg(0, -1), fishMsg(math.MaxInt, 1), fishMsg(math.MinInt, 1), {Kind: 4, To: 1}, {Kind: -1, To: 1},
		{Kind: impl.MsgFish, To: 1, Id: 1}, fetchMsg(0, 1, -1, 0), fetchMsg(0, 1, 0, -1), fetchMsg(0, 1, 1000000, 0), fetchMsg(0, 1, 0, 1000000),
		giveMsg(0, 1, -1, intCell(0)), giveMsg(0, 1, 0, thunk(0)), giveMsg(0, 1, 0, cell(impl.CHole, 0, 0)), giveMsg(0, 1, 0, ind(0)), giveMsg(0, 1, 0, cell(impl.CFar, 2, 0)),
		workMsg(0, 1, 0, intCell(0)), workMsg(0, 1, 1000000, thunk(0)), workMsg(0, 1, 0, thunk(-1)), workMsg(0, 1, 0, thunk(0, upTo(101)...)),
		fetchMsg(4, 1, 0, 0), giveMsg(4, 1, 0, intCell(0)), workMsg(4, 1, 0, thunk(0)),
	} {
		wantRefused(t, p, m)
		wantRefused(t, impl.Peer{}, m)
	}
	// From each node that there is, but this one.
	for from := range 6 {
		if _, heard := wantHear(t, p, fishMsg(from, 1)); heard != (from < 4 && from != 1) {
			t.Error(from, heard)
		}
	}
	for _, m := range eachMsg() {
		m.From, m.To = 3, 1
		for _, other := range changedMsgs(m) {
			if _, heard := wantHear(t, p, other); heard != (plainMsgOk(other) && other.To == 1 && other.From < 4) {
				t.Errorf("%v: %t", other, heard)
			}
		}
	}
	for _, m := range eachMsg() {
		wantRefused(t, peerOf(t, 0, 1), m)
		m.To = 0
		wantRefused(t, peerOf(t, 0, 1), m)
	}
}

func TestHearFetch(t *testing.T) {
	p := peerOf(t, 1, 3, intCell(5), ind(2))
	p.Machine.Names = []int{2, 3, 0, 2}
	cells := "t.0.0 t.0.4 i.5.0 d.0.0.2 | names [2 3 0 2]"
	wantHeard(t, p, fetchMsg(0, 1, 0, 0), "enter 2 give.0.0 | "+cells)
	wantHeard(t, p, fetchMsg(2, 1, 1, 9), "enter 3 give.9.2 | "+cells)
	wantHeard(t, p, fetchMsg(2, 1, 2, 999999), "enter 0 give.999999.2 | "+cells)
	wantHeard(t, p, fetchMsg(0, 1, 3, 1), "enter 2 give.1.0 | "+cells)
	for _, id := range []int{4, 5, 999999} {
		wantNothing(t, p, fetchMsg(0, 1, id, 1))
	}
	wantNothing(t, peerOf(t, 1, 3), fetchMsg(0, 1, 0, 0))
	// Behind some steps: what is given is the value, and its Kids by their numbers.
	p = newPeer(t, "main = 1 : 2 : [];", 1, 3)
	p.Machine.Names = []int{0}
	p = wantHeard(t, p, fetchMsg(2, 1, 0, 8), "enter 0 give.8.2 | t.0.0 | names [0]")
	p.Machine = impl.Run(p.Machine, 0, 20)
	if got := machineText(p.Machine); got != "done | d.0.0.3 t.0.1 t.0.2 c.0.0.1.2 | names [0 1 2] | say 1 0>2 8 0 c 0 0 1 2" {
		t.Error(got)
	}
	wantPeerOk(t, true, p)
	p = wantHeard(t, p, fetchMsg(0, 1, 1, 4), "done | enter 1 give.4.0 | d.0.0.3 t.0.1 t.0.2 c.0.0.1.2 | names [0 1 2] | say 1 0>2 8 0 c 0 0 1 2")
	p.Machine = impl.Run(p.Machine, 1, 20)
	if say := p.Machine.Say; len(say) != 2 || !sameMsg(say[1], giveMsg(0, 0, 4, intCell(1))) {
		t.Error(machineText(p.Machine))
	}
}

func TestHearGiveEachKind(t *testing.T) {
	far, hole := cell(impl.CFar, -1, 0), cell(impl.CHole, 0, 0)
	for _, old := range []impl.Cell{far, hole} {
		p := peerOf(t, 1, 3, intCell(5), old, old)
		p.Machine.Names = []int{2, 3}
		oldText := strings.ReplaceAll(plainCellText(old), " ", ".")
		for _, c := range []struct {
			cell impl.Cell
			want string
			more string
		}{
			{intCell(8), "i.8.0", ""},
			{intCell(math.MinInt), "i.-9223372036854775808.0", ""},
			{cell(impl.CNil, 0, 0), "n.0.0", ""},
			{pairOf(7, 0), "c.0.0.5.6", " r.2.7 r.2.0"},
			{pairOf(999999, 999999), "c.0.0.5.6", " r.2.999999 r.2.999999"},
			{cell(impl.CFun, 6, 7), "f.6.7", ""},
			{cell(impl.CFun, 2, 1), "f.2.1", ""},
			{cell(impl.CFun, 1, 1, 4), "f.1.1.5", " r.2.4"},
			{cell(impl.CFun, 1, 0, 4, 3, 4), "f.1.0.5.6.7", " r.2.4 r.2.3 r.2.4"},
		} {
			wantHeard(t, p, giveMsg(2, 1, 1, c.cell), "t.0.0 t.0.4 i.5.0 "+c.want+" "+oldText+c.more+" | names [2 3]")
		}
		// As many as a message may have.
		after, heard := wantHear(t, p, giveMsg(0, 1, 1, cell(impl.CFun, 1, 7, fromOn(50, 100)...)))
		if !heard || len(after.Machine.Heap) != 105 || after.Machine.Heap[104].At != 149 || !slices.Equal(after.Machine.Heap[3].Kids, fromOn(5, 100)) {
			t.Error(machineText(after.Machine))
		}
		// Functions of no code, or without what their code wants in scope.
		for _, c := range []impl.Cell{
			cell(impl.CFun, 1, 8), cell(impl.CFun, 1, 9), cell(impl.CFun, 6, 999999), cell(impl.CFun, 1, 1), cell(impl.CFun, 1, 3), cell(impl.CFun, 6, 8, upTo(50)...),
		} {
			wantNothing(t, p, giveMsg(2, 1, 1, c))
		}
		for code, want := range []int{0, 2, 1, 2, 0, 0, 0, 0} {
			for count := range 4 {
				for lacks := 1; lacks <= 6; lacks++ {
					after, heard := wantHear(t, p, giveMsg(2, 1, 1, cell(impl.CFun, lacks, code, upTo(count)...)))
					if !heard || samePeer(after, p) != (count+lacks < want) {
						t.Error(code, count, lacks, machineText(after.Machine))
					}
				}
			}
		}
	}
}

func TestHearGiveElsewhere(t *testing.T) {
	gives := []impl.Cell{intCell(8), cell(impl.CNil, 0, 0), pairOf(1, 2), cell(impl.CFun, 2, 1)}
	// At each kind of cell: all but a hole and what was asked for stay. What a
	// CInd leads to is not what stands there.
	for kind, old := range []impl.Cell{intCell(5), cell(impl.CNil, 0, 0), pairOf(0, 1), cell(impl.CFun, 2, 1), thunk(7), cell(impl.CHole, 0, 0), ind(2), cell(impl.CFar, 2, 0)} {
		p := peerOf(t, 1, 3, cell(impl.CHole, 0, 0), cell(impl.CFar, -1, 0), old)
		p.Machine.Names = []int{4}
		for _, c := range gives {
			after, heard := wantHear(t, p, giveMsg(0, 1, 0, c))
			if !heard || samePeer(after, p) != (kind != impl.CHole) {
				t.Error(kind, machineText(after.Machine))
			}
		}
		p.Machine.Heap[4] = ind(3)
		wantNothing(t, p, giveMsg(0, 1, 0, intCell(5)))
		for _, id := range []int{1, 2, 999999} {
			wantNothing(t, p, giveMsg(0, 1, id, intCell(5)))
		}
	}
	wantNothing(t, peerOf(t, 1, 3), giveMsg(0, 1, 0, intCell(5)))
	// A top's own cell, and a number that is not the first one of its place.
	p := peerOf(t, 1, 3)
	p.Machine.Heap[0] = cell(impl.CHole, 0, 0)
	p.Machine.Names = []int{1, 0, 0}
	wantHeard(t, p, giveMsg(2, 1, 2, pairOf(3, 4)), "c.0.0.2.3 t.0.4 r.2.3 r.2.4 | names [1 0 0]")
	// Once: what comes again finds a value there.
	after := wantHeard(t, p, giveMsg(2, 1, 1, intCell(9)), "i.9.0 t.0.4 | names [1 0 0]")
	wantNothing(t, after, giveMsg(2, 1, 1, intCell(10)))
	wantNothing(t, after, giveMsg(0, 1, 2, pairOf(1, 1)))
}

func TestHearFish(t *testing.T) {
	p := peerOf(t, 1, 3, thunk(1, 4, 0), intCell(5), intCell(6), ind(2), cell(impl.CHole, 0, 0), ind(7))
	cells := "t.0.0 t.0.4 t.0.1.4.0 i.5.0 i.6.0 d.0.0.2 h.0.0 d.0.0.7"
	fished := "t.0.0 t.0.4 h.0.0 i.5.0 i.6.0 d.0.0.2 h.0.0 d.0.0.7"
	say := " | names [2 4 0] | say 3 0>2 0 0 t 0 1 1 2"
	hears := func(sparks []int, want string) {
		t.Helper()
		p.Machine.Sparks = sparks
		wantHeard(t, p, fishMsg(2, 1), want)
	}
	hears(nil, cells)
	hears([]int{3}, cells)
	hears([]int{3, 4, 6, 7}, cells)
	hears([]int{2}, fished+say)
	hears([]int{2, 3, 2}, fished+" | sparks [3 2]"+say)
	hears([]int{3, 6, 7, 2, 0}, fished+" | sparks [0]"+say)
	hears([]int{3, 2}, fished+say)
	// Behind CInds, the place is that where one comes to.
	hears([]int{5}, fished+say)
	hears([]int{4, 5, 2}, fished+" | sparks [2]"+say)
	hears([]int{1, 2}, "t.0.0 h.0.0 t.0.1.4.0 i.5.0 i.6.0 d.0.0.2 h.0.0 d.0.0.7 | sparks [2] | names [1] | say 3 0>2 0 0 t 0 4")
	// Numbers that there are stay, the first one of a place counts; what is said
	// already goes ahead.
	p.Machine.Names = []int{0, 5, 0, 2, 2}
	p.Machine.Say = []impl.Msg{fishMsg(0, 2)}
	hears([]int{5}, fished+" | names [0 5 0 2 2 4] | say 2 0>2 0 0 i 0 0 | say 3 0>2 3 0 t 0 1 5 0")
	p.Machine.Sparks = []int{2}
	wantHeard(t, p, fishMsg(0, 1), fished+" | names [0 5 0 2 2 4] | say 2 0>2 0 0 i 0 0 | say 3 0>0 3 0 t 0 1 5 0")
	// Twice: the second one finds no thunk any more.
	p = peerOf(t, 0, 2, thunk(7))
	p.Machine.Sparks = []int{2, 2, 2}
	p = wantHeard(t, p, fishMsg(1, 0), "t.0.0 t.0.4 h.0.0 | sparks [2 2] | names [2] | say 3 0>1 0 0 t 0 7")
	wantHeard(t, p, fishMsg(1, 0), "t.0.0 t.0.4 h.0.0 | names [2] | say 3 0>1 0 0 t 0 7")
	// A thunk that has itself in scope, and one place twice.
	p = peerOf(t, 0, 2, thunk(1, 2, 2, 3, 3), intCell(1))
	p.Machine.Sparks = []int{2}
	wantHeard(t, p, fishMsg(1, 0), "t.0.0 t.0.4 h.0.0 i.1.0 | names [2 3] | say 3 0>1 0 0 t 0 1 0 0 1 1")
	// Fifty sparks, of which the last one is the first thunk.
	p.Machine.Sparks = append(slices.Repeat([]int{3}, 49), 2)
	wantHeard(t, p, fishMsg(1, 0), "t.0.0 t.0.4 h.0.0 i.1.0 | names [2 3] | say 3 0>1 0 0 t 0 1 0 0 1 1")
}

// Work that no message can have stays where it is, and the node stays right: the
// next one goes in its place.
func TestHearFishOfWorkThatNoMessageHas(t *testing.T) {
	for _, count := range []int{99, 100, 101, 102, 5000} {
		p := peerOf(t, 0, 2, thunk(1, slices.Repeat([]int{3, 0}, count)[:count]...), intCell(5), thunk(7))
		p.Machine.Names = []int{1}
		p.Machine.Sparks = []int{3, 2, 4, 2}
		after, heard := wantHear(t, p, fishMsg(1, 0))
		say, names, sparks := after.Machine.Say, []int{1, 2, 3, 0}, []int{4, 2}
		if count > 100 {
			names, sparks = []int{1, 4}, []int{2}
		}
		if !heard || len(say) != 1 || say[0].Id != 1 || (len(say[0].Cell.Kids) == count) != (count <= 100) || !slices.Equal(after.Machine.Names, names) || !slices.Equal(after.Machine.Sparks, sparks) {
			t.Errorf("%d: %s", count, brief(after))
		}
		p.Machine.Sparks = []int{3, 2}
		after, heard = wantHear(t, p, fishMsg(1, 0))
		if !heard || len(after.Machine.Sparks) != 0 || (len(after.Machine.Say) == 1) != (count <= 100) {
			t.Errorf("%d alone: %s", count, brief(after))
		}
	}
	// A million names, and one fewer or more: numbers are told up to 999999.
	for _, names := range []int{999998, 999999, 1000000, 1000001} {
		p := peerOf(t, 0, 2, thunk(1, 3, 3), intCell(5), thunk(7))
		p.Machine.Names = make([]int, names)
		p.Machine.Sparks = []int{2, 4}
		after, heard := impl.Hear(p, fishMsg(1, 0))
		ids, kinds := []int{}, after.Machine.Heap
		for _, m := range after.Machine.Say {
			ids = append(ids, m.Id)
		}
		right := heard && impl.PeerOk(after)
		switch names {
		case 999998:
			right = right && slices.Equal(ids, []int{999998}) && len(after.Machine.Names) == 1000000 && kinds[2].Kind == impl.CHole && len(after.Machine.Sparks) == 1
		case 999999:
			right = right && slices.Equal(ids, []int{999999}) && len(after.Machine.Names) == 1000000 && kinds[4].Kind == impl.CHole && len(after.Machine.Sparks) == 0
		default:
			right = right && len(ids) == 0 && len(after.Machine.Names) == names && kinds[2].Kind == impl.CThunk && kinds[4].Kind == impl.CThunk && len(after.Machine.Sparks) == 0
		}
		if !right {
			t.Error(names, ids, heard)
		}
	}
}

func TestHearWork(t *testing.T) {
	p := peerOf(t, 1, 3, intCell(5))
	cells := "t.0.0 t.0.4 i.5.0"
	wantHeard(t, p, workMsg(2, 1, 6, thunk(7)), "eval 7 give.6.2 | "+cells)
	wantHeard(t, p, workMsg(0, 1, 0, thunk(0)), "eval 0 give.0.0 | "+cells)
	wantHeard(t, p, workMsg(2, 1, 999999, thunk(1, 8, 9)), "eval 1 [3 4] give.999999.2 | "+cells+" r.2.8 r.2.9")
	wantHeard(t, p, workMsg(0, 1, 3, thunk(1, 8, 8, 999999)), "eval 1 [3 4 5] give.3.0 | "+cells+" r.0.8 r.0.8 r.0.999999")
	wantHeard(t, p, workMsg(0, 1, 3, thunk(2, 0)), "eval 2 [3] give.3.0 | "+cells+" r.0.0")
	after, heard := wantHear(t, p, workMsg(0, 1, 3, thunk(7, upTo(100)...)))
	if !heard || len(after.Machine.Heap) != 103 || !slices.Equal(after.Machine.Threads[0].Kids, fromOn(3, 100)) {
		t.Error(machineText(after.Machine))
	}
	// Of no code, or with too few in scope.
	for _, c := range []impl.Cell{thunk(8), thunk(9), thunk(999999), thunk(1), thunk(1, 4), thunk(2), thunk(3), thunk(3, 4), thunk(8, upTo(100)...)} {
		wantNothing(t, p, workMsg(2, 1, 6, c))
	}
	// Reckoned with what is asked for, and given back.
	p = wantHeard(t, p, workMsg(2, 1, 6, thunk(1, 8, 9)), "eval 1 [3 4] give.6.2 | "+cells+" r.2.8 r.2.9")
	p.Machine = impl.Run(p.Machine, 0, 50)
	if got := machineText(p.Machine); got != "enter 3 give.6.2 op.1.0.3.4 | "+cells+" r.-1.0 r.2.9 | names [3] | say 0 0>2 8 0 i 0 0" {
		t.Fatal(got)
	}
	p, _ = wantHear(t, p, giveMsg(2, 1, 0, intCell(30)))
	p.Machine = impl.Run(p.Machine, 0, 50)
	p, _ = wantHear(t, p, giveMsg(2, 1, 1, intCell(12)))
	p.Machine = impl.Run(p.Machine, 0, 50)
	say := p.Machine.Say
	if len(say) != 3 || !sameMsg(say[1], fetchMsg(0, 2, 9, 1)) || !sameMsg(say[2], giveMsg(0, 2, 6, intCell(42))) || p.Machine.Threads[0].Do != impl.IsDone {
		t.Error(machineText(p.Machine))
	}
	wantPeerOk(t, true, p)
}

// A new thread stands in the place of the first one that has ended, has nothing
// in Out and is not the first of all.
func TestHearWhereThreadsStand(t *testing.T) {
	out := func(th impl.Thread) impl.Thread {
		th.Out = "5"
		return th
	}
	done, stuck, busy := does(impl.IsDone), does(impl.IsStuck), enters(0)
	for _, c := range []struct {
		threads []impl.Thread
		slot    int
	}{
		{nil, 0},
		{[]impl.Thread{done}, 1},
		{[]impl.Thread{stuck}, 1},
		{[]impl.Thread{busy}, 1},
		{[]impl.Thread{done, done}, 1},
		{[]impl.Thread{done, stuck}, 1},
		{[]impl.Thread{busy, stuck, done}, 1},
		{[]impl.Thread{done, busy, done, done}, 2},
		{[]impl.Thread{done, busy, stuck, busy}, 2},
		{[]impl.Thread{done, out(done), stuck}, 2},
		{[]impl.Thread{done, out(stuck), done}, 2},
		{[]impl.Thread{done, out(done)}, 2},
		{[]impl.Thread{done, out(stuck), out(busy), busy}, 4},
		{[]impl.Thread{out(done), out(done), out(done)}, 3},
		{[]impl.Thread{busy, does(impl.DoNext), evals(7), done}, 3},
		{[]impl.Thread{busy, does(impl.DoNext), evals(7)}, 3},
		{[]impl.Thread{busy, with(done, giveFrame(2, 1), upd(0))}, 1},
		{slices.Repeat([]impl.Thread{busy}, 59), 59},
		{slices.Repeat([]impl.Thread{busy}, 60), -1},
		{append(slices.Repeat([]impl.Thread{busy}, 59), done), 59},
		{append(slices.Repeat([]impl.Thread{busy}, 59), out(done)), -1},
		{append([]impl.Thread{done}, slices.Repeat([]impl.Thread{busy}, 59)...), -1},
		{append([]impl.Thread{stuck, done}, slices.Repeat([]impl.Thread{busy}, 58)...), 1},
		{slices.Repeat([]impl.Thread{out(done)}, 59), 59},
		{slices.Repeat([]impl.Thread{out(stuck)}, 60), -1},
		{slices.Repeat([]impl.Thread{done}, 60), 1},
	} {
		p := peerOf(t, 1, 3, intCell(5))
		p.Machine.Threads, p.Machine.Names, p.Machine.Sparks = c.threads, []int{2}, []int{0}
		for _, m := range []impl.Msg{fetchMsg(0, 1, 0, 3), workMsg(0, 1, 3, thunk(7, 8))} {
			if c.slot < 0 {
				wantRefused(t, p, m)
				continue
			}
			after, heard := wantHear(t, p, m)
			threads := after.Machine.Threads
			if !heard || len(threads) != max(len(c.threads), c.slot+1) || !reflect.DeepEqual(threads[c.slot].Stack, []impl.Frame{{Kind: impl.FGive, At: 3}}) || threads[c.slot].Out != "" {
				t.Errorf("%v: %v", c.threads, threads)
			}
			// All others are as they were.
			for i := range c.threads {
				if i != c.slot && !reflect.DeepEqual(copyMachine(after.Machine).Threads[i], copyMachine(p.Machine).Threads[i]) {
					t.Errorf("%d of %v became %v", i, c.threads, threads[i])
				}
			}
		}
		// What needs no thread needs no room.
		for _, m := range []impl.Msg{fetchMsg(0, 1, 1, 3), workMsg(0, 1, 3, thunk(8)), workMsg(0, 1, 3, thunk(1, 2)), giveMsg(0, 1, 0, intCell(4))} {
			wantNothing(t, p, m)
		}
		if after, heard := wantHear(t, p, fishMsg(0, 1)); !heard || len(after.Machine.Say) != 1 {
			t.Error("a fish without room for a thread")
		}
	}
}

func TestHearHowManyCells(t *testing.T) {
	for _, count := range []int{3, 2799, 2800, 2801, 2990, 3000} {
		p := peerOf(t, 1, 3, make([]impl.Cell, count-2)...)
		p.Machine.Heap[2] = cell(impl.CHole, 0, 0)
		p.Machine.Names, p.Machine.Sparks = []int{2}, []int{0}
		for _, m := range []impl.Msg{
			fetchMsg(0, 1, 0, 3), giveMsg(0, 1, 0, cell(impl.CFun, 1, 7, upTo(100)...)), fishMsg(0, 1), workMsg(0, 1, 3, thunk(7, upTo(100)...)),
			fetchMsg(0, 1, 5, 3), giveMsg(0, 1, 5, intCell(1)), workMsg(0, 1, 3, thunk(8)),
		} {
			after, heard := wantHear(t, p, m)
			if heard != (count <= 2800) || len(after.Machine.Heap) > 2900 && heard {
				t.Errorf("%d cells, %v: %t", count, m, heard)
			}
		}
	}
}

func TestFlush(t *testing.T) {
	p := peerOf(t, 1, 4)
	say := []impl.Msg{fetchMsg(0, 2, 4, 5), giveMsg(0, 0, 6, pairOf(7, 8)), fishMsg(0, 3), workMsg(0, 2, 9, thunk(1, 2)), fishMsg(0, 0)}
	p.Machine.Say = say
	after, packs := wantFlush(t, p)
	if len(packs) != 5 || len(after.Machine.Say) != 0 || len(after.Link.Out) != 5 || after.Link.Next != 6 {
		t.Fatal(brief(after))
	}
	for i, m := range say {
		m.From = 1
		low := []int{1, 2, 3, 1, 2}[i]
		if packs[i] != packBytes(dataOf(m, i+1, low)) {
			t.Errorf("%d: %x", i, packs[i])
		}
	}
	if got := impl.LinkAgain(after.Link); !slices.Equal(got, packs) {
		t.Errorf("%x", got)
	}
	again, none := wantFlush(t, after)
	if len(none) != 0 || !samePeer(again, after) {
		t.Error(brief(again), none)
	}
	after.Machine.Say = p.Machine.Say
	wantMachine(t, after.Machine, p.Machine)
}

func TestFlushHowMany(t *testing.T) {
	for _, count := range []int{0, 1, 59, 60, 61, 62, 150} {
		for _, out := range []int{0, 1, 30, 59, 60} {
			p := peerOf(t, 1, 3)
			for i := range out {
				p.Link, _, _ = impl.LinkSend(p.Link, fetchMsg(1, 2, i, i))
			}
			for i := range count {
				p.Machine.Say = append(p.Machine.Say, fetchMsg(0, 2*(i%2), i, 3))
			}
			after, packs := wantFlush(t, p)
			sent := min(count, 60-out)
			if len(packs) != sent || len(after.Machine.Say) != count-sent || len(after.Link.Out) != out+sent {
				t.Errorf("%d with %d in Out: %d sent, %d left", count, out, len(packs), len(after.Machine.Say))
			}
			for i, m := range after.Machine.Say {
				if !sameMsg(m, p.Machine.Say[sent+i]) {
					t.Errorf("%v is left", m)
				}
			}
			for i, bytes := range packs {
				pack, _ := impl.GetPack(bytes)
				if m, _ := impl.GetMsg(pack.Body); m.Id != i || m.From != 1 {
					t.Errorf("%d: %v", i, m)
				}
			}
			// Behind acknowledgements what is left goes on.
			for _, s := range after.Link.Out {
				after.Link = impl.LinkAck(after.Link, s.To, s.Seq)
			}
			last, rest := wantFlush(t, after)
			if len(rest) != min(60, count-sent) || len(last.Machine.Say) != count-sent-len(rest) {
				t.Errorf("then %d", len(rest))
			}
		}
	}
	// The last numbers that there are.
	p := peerOf(t, 1, 3)
	p.Link.Next = 999997
	p.Machine.Say = slices.Repeat([]impl.Msg{fishMsg(0, 2)}, 5)
	if after, packs := wantFlush(t, p); len(packs) != 2 || len(after.Machine.Say) != 3 || after.Link.Next != 999999 {
		t.Error(len(packs), brief(after))
	}
}

// Of a node that is not right each goes that LinkSend sends, up to the first one
// that it does not.
func TestFlushOfWrongNodes(t *testing.T) {
	p := peerOf(t, 1, 3)
	p.Machine.Say = []impl.Msg{fishMsg(0, 2), fetchMsg(0, 0, 1, 2), fishMsg(0, 1), fishMsg(0, 2)}
	after, packs := wantFlush(t, p)
	if len(packs) != 2 || len(after.Machine.Say) != 2 || after.Machine.Say[0].To != 1 {
		t.Error(brief(after))
	}
	p.Machine.Say = []impl.Msg{fetchMsg(0, 2, -1, 0), fishMsg(0, 2)}
	if after, packs := wantFlush(t, p); len(packs) != 0 || !samePeer(after, p) {
		t.Error(brief(after))
	}
	p.Machine.Say = []impl.Msg{fishMsg(0, 2)}
	p.Machine.Heap = nil
	if after, packs := wantFlush(t, p); len(packs) != 1 || len(after.Machine.Say) != 0 {
		t.Error(brief(after))
	}
	p.Link.Next = 0
	if after, packs := wantFlush(t, p); len(packs) != 0 || !samePeer(after, p) {
		t.Error(brief(after))
	}
	if after, packs := wantFlush(t, impl.Peer{}); len(packs) != 0 || !samePeer(after, impl.Peer{}) {
		t.Error(brief(after))
	}
	wrong := impl.Peer{Machine: impl.Machine{Say: []impl.Msg{{}, fishMsg(0, 1)}}}
	if after, packs := wantFlush(t, wrong); len(packs) != 0 || !samePeer(after, wrong) {
		t.Error(brief(after))
	}
}

func wantCleared(t *testing.T, p impl.Peer, want string) {
	t.Helper()
	wantPeerOk(t, true, p)
	after := wantClear(t, p)
	if got := machineText(after.Machine); got != want {
		t.Errorf("%s\nis cleared to\n%s\nwant\n%s", machineText(p.Machine), got, want)
	}
	if !sameLink(after.Link, p.Link) || !reflect.DeepEqual(copyTable(after.Machine.Table), copyTable(p.Machine.Table)) {
		t.Error("the link or the table is another one")
	}
}

// What each thread, spark and name has is kept, and nothing else.
func TestClearKeepsWhatIsHeld(t *testing.T) {
	rest := []impl.Cell{intCell(2), intCell(3), intCell(4), thunk(1, 3, 4), pairOf(2, 5)}
	cleared := func(change func(m *impl.Machine), want string) {
		t.Helper()
		p := peerOf(t, 1, 3, rest...)
		change(&p.Machine)
		wantCleared(t, p, want)
	}
	tops := "t.0.0 t.0.4"
	cleared(func(m *impl.Machine) {}, tops)
	cleared(func(m *impl.Machine) { m.Sparks = []int{3} }, tops+" i.3.0 | sparks [2]")
	cleared(func(m *impl.Machine) { m.Sparks = []int{5, 0, 5} }, tops+" i.3.0 i.4.0 t.0.1.2.3 | sparks [4 0 4]")
	cleared(func(m *impl.Machine) { m.Names = []int{6, 1, 3} }, tops+" i.2.0 i.3.0 i.4.0 t.0.1.3.4 c.0.0.2.5 | names [6 1 3]")
	cleared(func(m *impl.Machine) { m.Names = []int{4, 4} }, tops+" i.4.0 | names [2 2]")
	thread := func(th impl.Thread, want string) {
		t.Helper()
		cleared(func(m *impl.Machine) { m.Threads = []impl.Thread{th} }, want)
	}
	thread(enters(3), "enter 2 | "+tops+" i.3.0")
	thread(evals(7, 4, 2), "eval 7 [3 2] | "+tops+" i.2.0 i.4.0")
	thread(evals(2, 3), "eval 2 [2] | "+tops+" i.3.0")
	thread(with(does(impl.DoNext), tail(4)), "next tail.2.0 | "+tops+" i.4.0")
	thread(with(enters(0), upd(4)), "enter 0 upd.2.0 | "+tops+" i.4.0")
	thread(with(enters(0), arg(4)), "enter 0 arg.0.0.2 | "+tops+" i.4.0")
	thread(with(enters(0), frame(impl.FOp, 1, 0, 4, 3, 4)), "enter 0 op.1.0.3.2.3 | "+tops+" i.3.0 i.4.0")
	// At and N of other frames, and At of what is evaluated, are no places.
	thread(with(evals(5), frame(impl.FRight, 1, 5), giveFrame(2, 5), showFrame(), closeFrame()), "eval 5 right.1.5 give.5.2 show.0.0 close.0.0 | "+tops)
	cleared(func(m *impl.Machine) { m.Say = []impl.Msg{giveMsg(0, 2, 5, pairOf(2, 3))} }, tops+" | say 1 0>2 5 0 c 0 0 2 3")
	// Frames and Kids of threads that have ended go, with what they had; Out stays.
	ended := with(does(impl.IsDone), upd(3), arg(4), giveFrame(2, 3))
	ended.Out = "(1:[])"
	thread(ended, "done out (1:[]) | "+tops)
	ended.Do = impl.IsStuck
	thread(ended, "stuck out (1:[]) | "+tops)
	cleared(func(m *impl.Machine) { m.Threads = []impl.Thread{ended, with(enters(4), upd(2)), ended} },
		"stuck out (1:[]) | enter 3 upd.2.0 | stuck out (1:[]) | "+tops+" i.2.0 i.4.0")
}

func TestClearOverCInds(t *testing.T) {
	p := peerOf(t, 1, 3, ind(3), ind(4), intCell(7), pairOf(2, 3), cell(impl.CFar, 2, 9), ind(6), cell(impl.CHole, 0, 0))
	p.Machine.Threads = []impl.Thread{with(enters(2), upd(8), tail(3), arg(7))}
	p.Machine.Sparks, p.Machine.Names = []int{3, 4}, []int{5, 2, 7}
	wantCleared(t, p, "enter 2 upd.5.0 tail.2.0 arg.0.0.4 | t.0.0 t.0.4 i.7.0 c.0.0.2.2 r.2.9 h.0.0 | sparks [2 2] | names [3 2 4]")
	// In a circle: they stay, as they are.
	p = peerOf(t, 1, 3, intCell(1), ind(4), ind(3), ind(4))
	p.Machine.Names = []int{5, 4, 3}
	wantCleared(t, p, "t.0.0 t.0.4 d.0.0.3 d.0.0.2 d.0.0.3 | names [4 3 2]")
	p.Machine.Names = nil
	p.Machine.Heap[0] = ind(0)
	wantCleared(t, p, "d.0.0.0 t.0.4")
	p.Machine.Heap[0] = ind(5)
	wantCleared(t, p, "d.0.0.4 t.0.4 d.0.0.3 d.0.0.2 d.0.0.3")
}

// Top cells that are a CInd of each kind of cell: of a value they are copies; of
// another one they are told by what they lead to.
func TestClearTops(t *testing.T) {
	cleared := func(want string, first impl.Cell, second impl.Cell, cells ...impl.Cell) {
		t.Helper()
		p := peerOf(t, 1, 3, append(cells, intCell(99))...)
		p.Machine.Heap[0], p.Machine.Heap[1] = first, second
		wantCleared(t, p, want)
	}
	cleared("i.7.0 t.0.4", ind(2), thunk(4), intCell(7))
	cleared("n.0.0 t.0.4", ind(2), thunk(4), cell(impl.CNil, 0, 0))
	cleared("c.0.0.2.0 t.0.4 i.8.0", ind(3), thunk(4), intCell(8), pairOf(2, 0))
	cleared("f.1.1.2 t.0.4 i.8.0", ind(3), thunk(4), intCell(8), cell(impl.CFun, 1, 1, 2))
	cleared("t.0.0 i.7.0", thunk(0), ind(2), intCell(7))
	cleared("i.7.0 i.7.0", ind(2), ind(2), intCell(7))
	cleared("i.7.0 i.7.0", ind(1), intCell(7))
	cleared("i.7.0 i.7.0", intCell(7), ind(0))
	cleared("i.7.0 i.7.0", ind(1), ind(2), ind(3), intCell(7))
	cleared("c.0.0.0.1 c.0.0.0.1", ind(2), ind(2), pairOf(0, 1))
	cleared("c.0.0.2.0 t.0.4 c.0.0.2.0", ind(2), thunk(4), pairOf(2, 0))
	// Those that lead to no value: what they lead to stands behind the others.
	cleared("t.0.4 t.0.7", ind(2), thunk(4), thunk(7))
	cleared("t.0.4 h.0.0", ind(2), thunk(4), cell(impl.CHole, 0, 0))
	cleared("t.0.4 r.2.8", ind(2), thunk(4), cell(impl.CFar, 2, 8))
	cleared("t.0.4 r.-1.0", ind(2), thunk(4), cell(impl.CFar, -1, 0))
	cleared("t.0.0 t.0.7", thunk(0), ind(2), thunk(7))
	cleared("t.0.0 h.0.0", thunk(0), ind(3), thunk(7), cell(impl.CHole, 0, 0))
	cleared("i.7.0 h.0.0", ind(3), ind(2), cell(impl.CHole, 0, 0), intCell(7))
	cleared("d.0.0.0 t.0.4", ind(0), thunk(4))
	cleared("d.0.0.1 d.0.0.0", ind(1), ind(0))
	// Cells of tops that are no CInds stay where they are.
	for _, c := range []impl.Cell{intCell(7), cell(impl.CNil, 0, 0), pairOf(0, 1), cell(impl.CFun, 2, 1), thunk(7), cell(impl.CHole, 0, 0), cell(impl.CFar, 2, 8), cell(impl.CFar, -1, 0)} {
		text := strings.ReplaceAll(plainCellText(c), " ", ".")
		cleared(text+" t.0.4", c, thunk(4))
		cleared("t.0.0 "+text, thunk(0), c)
	}
	// A copy is another cell than what it was copied from, where others have that.
	p := peerOf(t, 1, 3, pairOf(0, 3), intCell(4))
	p.Machine.Heap[1] = ind(2)
	p.Machine.Names = []int{1, 2}
	wantCleared(t, p, "t.0.0 c.0.0.0.3 c.0.0.0.3 i.4.0 | names [1 2]")
}

func TestBusy(t *testing.T) {
	for _, c := range []struct {
		does []int
		want int
	}{
		{nil, 0}, {[]int{impl.DoEval}, 1}, {[]int{impl.DoEnter}, 1}, {[]int{impl.DoNext}, 1}, {[]int{impl.IsDone}, 0}, {[]int{impl.IsStuck}, 0},
		{[]int{impl.IsDone, impl.DoEnter, impl.IsStuck, impl.DoEval, impl.DoNext, impl.IsDone}, 3}, {[]int{-1, 5, 6, math.MinInt, math.MaxInt, 3}, 5},
		{slices.Repeat([]int{1}, 60), 60}, {slices.Repeat([]int{1, 3}, 5000), 5000},
	} {
		var p impl.Peer
		for _, do := range c.does {
			p.Machine.Threads = append(p.Machine.Threads, does(do))
		}
		if got := impl.Busy(p); got != c.want {
			t.Errorf("%.20v: %d busy; want %d", c.does, got, c.want)
		}
	}
	p := newPeer(t, "main = 1;", 0, 2)
	p.Machine = impl.Show(impl.Show(p.Machine, 0), 0)
	if impl.Busy(p) != 2 {
		t.Error("two that print")
	}
	p.Machine = impl.Run(p.Machine, 0, 50)
	if impl.Busy(p) != 1 || impl.Busy(wantClear(t, p)) != 1 {
		t.Error("one that prints")
	}
}

// One node fishes for what another one has, reckons it, and gives it back.
func TestWorkIsSharedAndGivenBack(t *testing.T) {
	text := "f = \\x y . x + y * 2; main = let a = 3 : [] in let b = f 5 7 in par b in case a of [] -> b | h : t -> h : b;"
	first, second := newPeer(t, text, 0, 2), newPeer(t, text, 1, 2)
	pass := func(from *impl.Peer, to *impl.Peer) []impl.Msg {
		t.Helper()
		var passed []impl.Msg
		var packs []string
		*from, packs = wantFlush(t, *from)
		for _, bytes := range packs {
			pack, _ := impl.GetPack(bytes)
			m, ok := impl.GetMsg(pack.Body)
			heard := false
			if *to, heard = wantHear(t, *to, m); !ok || !heard {
				t.Fatal("not heard", m)
			}
			passed = append(passed, m)
		}
		return passed
	}
	first.Machine = impl.Run(impl.Show(first.Machine, 1), 0, 5)
	second.Machine.Say = []impl.Msg{fishMsg(0, 0)}
	pass(&second, &first)
	place := first.Machine.Names[0]
	if first.Machine.Heap[place].Kind != impl.CHole || len(first.Machine.Sparks) != 0 {
		t.Fatal(machineText(first.Machine))
	}
	work := pass(&first, &second)
	if len(work) != 1 || work[0].Kind != impl.MsgWork || work[0].Id != 0 || impl.Busy(second) != 1 {
		t.Fatal(work)
	}
	// The first one waits for it, cleared or not; each clears as it likes.
	first.Machine = impl.Run(first.Machine, 0, 100)
	first = wantClear(t, first)
	if first.Machine.Threads[0].Out != "(3:" || first.Machine.Threads[0].Do != impl.DoEnter {
		t.Fatal(machineText(first.Machine))
	}
	second.Machine = impl.Run(second.Machine, 0, 3)
	second = wantClear(t, second)
	second.Machine = impl.Run(second.Machine, 0, 200)
	second = wantClear(t, second)
	given := pass(&second, &first)
	if len(given) != 1 || !sameMsg(given[0], giveMsg(1, 0, 0, intCell(19))) || impl.Busy(second) != 0 {
		t.Fatal(given, machineText(second.Machine))
	}
	first.Machine = impl.Run(wantClear(t, first).Machine, 0, 100)
	if th := first.Machine.Threads[0]; th.Out != "(3:19)" || th.Do != impl.IsDone {
		t.Error(machineText(first.Machine))
	}
}

// team is nodes with a net that turns around what is said, and loses none.
type team struct {
	*peerMaker
	peers []impl.Peer
	net   []string
}

func newTeam(t *testing.T, k *peerMaker, p impl.Program, top int, nodes int) *team {
	t.Helper()
	team := &team{peerMaker: k}
	for id := range nodes {
		peer, ok := impl.PeerNew(impl.TableOf(p), id, nodes)
		if !ok {
			t.Fatal(p)
		}
		team.peers = append(team.peers, peer)
	}
	team.peers[0].Machine = impl.Show(team.peers[0].Machine, top)
	return team
}

// deliver takes a pack out of the net; what is not heard comes again later.
func (m *team) deliver(t *testing.T, at int) {
	t.Helper()
	bytes := m.net[at]
	m.net = slices.Delete(m.net, at, at+1)
	pack, _ := impl.GetPack(bytes)
	to := &m.peers[pack.To]
	if pack.Kind == impl.PackAck {
		to.Link = impl.LinkAck(to.Link, pack.From, pack.Seq)
		return
	}
	link, fresh, due := impl.LinkTake(to.Link, pack)
	msg, _ := impl.GetMsg(pack.Body)
	if fresh {
		after, heard := wantHear(t, *to, msg)
		if !heard {
			m.net = append(m.net, bytes)
			return
		}
		*to = after
	}
	if due {
		to.Link = link
		m.net = append(m.net, impl.PutPack(ack(pack.To, pack.From, pack.Seq)))
	}
}

func (m *team) turn(t *testing.T, clears bool) {
	t.Helper()
	id := m.IntN(len(m.peers))
	p := &m.peers[id]
	switch what := m.IntN(10); {
	case what == 0 && clears:
		*p = wantClear(t, *p)
	case what == 1 && len(p.Machine.Say) < 5:
		p.Machine.Say = append(p.Machine.Say, fishMsg(0, (id+1+m.IntN(len(m.peers)-1))%len(m.peers)))
	case what < 4:
		var packs []string
		*p, packs = wantFlush(t, *p)
		m.net = append(m.net, packs...)
	case what < 7 && len(m.net) > 0:
		m.deliver(t, m.IntN(len(m.net)))
	case len(p.Machine.Threads) > 0:
		p.Machine = impl.Run(p.Machine, m.IntN(len(p.Machine.Threads)), 1+m.IntN(20))
	}
	wantPeerOk(t, true, *p)
}

// Promise 9 of nodes that share the work of a program: each stays right, finds
// what it had, and so what is printed is what is meant.
func TestNodesThatShareWorkPrintWhatIsMeant(t *testing.T) {
	k := newPeerMaker(70)
	list := sharedPrograms(t)
	printed, shared := 0, 0
	for round := range 60 {
		p := list[round/2%len(list)]
		if round%2 == 0 {
			p = k.program()
		}
		top := len(p.Bodies) - 1
		want, code := plainMean(p, top, 3000)
		team := newTeam(t, k, p, top, 2+k.IntN(3))
		th := team.peers[0].Machine.Threads[0]
		for turns := 0; turns < 1500 && th.Do < impl.IsDone; turns++ {
			team.turn(t, round%6 > 1)
			th = team.peers[0].Machine.Threads[0]
		}
		if code == impl.MeanOk && (!strings.HasPrefix(want, th.Out) || th.Do == impl.IsStuck || th.Do == impl.IsDone && th.Out != want) {
			t.Fatalf("%v prints %q; means %q", p, th.Out, want)
		}
		if code == impl.MeanStuck && th.Do == impl.IsDone {
			t.Fatalf("%v prints %q; means nothing", p, th.Out)
		}
		if th.Do == impl.IsDone {
			printed++
		}
		for _, peer := range team.peers[1:] {
			shared += min(1, len(peer.Machine.Threads))
		}
	}
	if printed < 25 || shared < 10 {
		t.Error("only", printed, "printed, with", shared, "nodes that had work")
	}
}

func sharedPrograms(t *testing.T) []impl.Program {
	t.Helper()
	var list []impl.Program
	for _, text := range []string{
		"sum = \\n . if n then n + sum (n - 1) else 0; main = let a = sum 5 in par a in let b = sum 6 in par b in a : b : a + b;",
		"map = \\f l . case l of [] -> [] | h : t -> let y = f h in par y in let r = map f t in par r in y : r; main = map (\\x . x * x) (1 : 2 : 3 : 4 : []);",
		"fib = \\n . if n < 2 then n else let a = fib (n - 1) in par a in fib (n - 2) + a; main = fib 6;",
		"main = let l = 1 : 2 : 3 : [] in par l in let f = \\x . case l of [] -> x | h : t -> h + x in par f in f 4 : f : l;",
		"k = 1 : k; take = \\n l . if n then case l of [] -> [] | h : t -> h : take (n - 1) t else []; main = let a = take 3 k in par a in par k in a : a;",
	} {
		list = append(list, wantProgram(t, text))
	}
	return list
}

// A heap that is cleared before, between and behind the steps of a program:
// what is printed is what is printed without.
func TestClearBetweenSteps(t *testing.T) {
	k := newSortMaker(71)
	list := sharedPrograms(t)
	for range 80 {
		list = append(list, k.program())
	}
	for _, p := range list {
		top := len(p.Bodies) - 1
		plain, ok := impl.PeerNew(impl.TableOf(p), 0, 1)
		if !ok {
			t.Fatal(p)
		}
		plain.Machine = impl.Show(plain.Machine, top)
		cleared := wantClear(t, plain)
		for range 40 {
			steps := k.IntN(30)
			plain.Machine = impl.Run(plain.Machine, 0, steps)
			cleared.Machine = impl.Run(cleared.Machine, 0, steps)
			was, is := plain.Machine.Threads[0], cleared.Machine.Threads[0]
			if was.Do != is.Do || was.Out != is.Out || len(was.Stack) != len(is.Stack) && is.Do < impl.IsDone {
				t.Fatalf("%v: %s; cleared %s", p, machineText(plain.Machine), machineText(cleared.Machine))
			}
			if k.IntN(3) > 0 {
				cleared = wantClear(t, cleared)
				wantPeer(t, wantClear(t, cleared), cleared)
			}
			if len(cleared.Machine.Heap) > len(plain.Machine.Heap) {
				t.Fatalf("%d cells, cleared %d", len(plain.Machine.Heap), len(cleared.Machine.Heap))
			}
		}
	}
	// Where there would be no room without: more than fifty times a heap.
	p := newPeer(t, "f = \\n a . if n then (\\b . if b then f (n - 1) b else 0) (a + 1) else a; main = f 5000 1;", 0, 1)
	p.Machine = impl.Show(p.Machine, 1)
	if end := impl.Run(p.Machine, 0, 100000).Threads[0]; end.Do >= impl.IsDone {
		t.Fatal("there is room without")
	}
	for range 3000 {
		if p.Machine.Threads[0].Do >= impl.IsDone {
			break
		}
		p = impl.Clear(impl.Peer{Machine: impl.Run(p.Machine, 0, 1000), Link: p.Link})
	}
	if th := p.Machine.Threads[0]; th.Out != "5001" || th.Do != impl.IsDone || !impl.PeerOk(p) {
		t.Error(th.Out, th.Do, len(p.Machine.Heap))
	}
}

// Promise 9 of any right nodes and any messages.
func TestNodesStayRightWhateverTheyHear(t *testing.T) {
	k := newPeerMaker(72)
	counts := map[[3]int]int{}
	for range 600 {
		p := k.peer(2)
		wantPeerOk(t, true, p)
		for range 12 {
			m := k.msgFor(p)
			after, heard := wantHear(t, p, m)
			changed, kind := 0, 0
			if !samePeer(after, p) {
				changed = 1
			}
			if heard {
				kind = 1
			}
			counts[[3]int{m.Kind, kind, changed}]++
			p = after
			if len(p.Machine.Threads) > 0 {
				p.Machine = impl.Step(p.Machine, k.IntN(len(p.Machine.Threads)))
			}
			wantPeerOk(t, true, p)
		}
	}
	for _, key := range [][3]int{
		{impl.MsgFetch, 1, 1}, {impl.MsgFetch, 1, 0}, {impl.MsgFetch, 0, 0}, {impl.MsgGive, 1, 1}, {impl.MsgGive, 1, 0},
		{impl.MsgFish, 1, 1}, {impl.MsgFish, 1, 0}, {impl.MsgWork, 1, 1}, {impl.MsgWork, 1, 0}, {impl.MsgWork, 0, 0},
	} {
		if counts[key] < 15 {
			t.Error("too few of some kind:", key, counts)
		}
	}
}

// From a new node on, in any order: steps, messages, flushes and clearings.
func TestNodesStayRightWhateverTheyDo(t *testing.T) {
	k := newPeerMaker(73)
	for range 60 {
		nodes := 2 + k.IntN(3)
		p, ok := impl.PeerNew(impl.TableOf(k.program()), k.IntN(nodes), nodes)
		if !ok {
			t.Fatal("no node")
		}
		for range 100 {
			switch k.IntN(7) {
			case 0:
				p.Machine = impl.Show(p.Machine, k.IntN(len(p.Machine.Heap)))
			case 1:
				p, _ = wantFlush(t, p)
				for _, s := range p.Link.Out {
					p.Link = impl.LinkAck(p.Link, s.To, s.Seq)
				}
			case 2:
				p = wantClear(t, p)
			case 3, 4:
				p, _ = wantHear(t, p, k.msgFor(p))
			default:
				if len(p.Machine.Threads) > 0 {
					p.Machine = impl.Run(p.Machine, k.IntN(len(p.Machine.Threads)), 1+k.IntN(8))
				}
			}
			wantPeerOk(t, true, p)
			if !topsStay(p.Machine) {
				t.Fatalf("%s: a top's cell is a CInd of no value", machineText(p.Machine))
			}
		}
	}
}

func TestClearAnyRightNodes(t *testing.T) {
	k := newPeerMaker(74)
	stay := 0
	for range 1500 {
		p := k.peer(1)
		wantPeerOk(t, true, p)
		after := wantClear(t, p)
		if topsStay(p.Machine) {
			stay++
			wantPeer(t, wantClear(t, after), after)
		}
		wantFlush(t, p)
	}
	if stay < 800 {
		t.Error("only", stay)
	}
}

// peerCalls has what each function that answers a node makes of one.
func peerCalls(k *peerMaker, p impl.Peer) map[string]func() impl.Peer {
	hear := func(m impl.Msg) func() impl.Peer {
		return func() impl.Peer { after, _ := impl.Hear(p, m); return after }
	}
	calls := map[string]func() impl.Peer{
		"new":      func() impl.Peer { made, _ := impl.PeerNew(p.Machine.Table, 1, 3); return made },
		"clear":    func() impl.Peer { return impl.Clear(p) },
		"flush":    func() impl.Peer { after, _ := impl.Flush(p); return after },
		"hear not": hear(impl.Msg{}),
	}
	from := 0
	if p.Link.Id == 0 {
		from = 1
	}
	scope := k.scope(p.Machine, 5)
	calls["fetch"] = hear(fetchMsg(from, p.Link.Id, 0, 3))
	calls["fish"] = hear(fishMsg(from, p.Link.Id))
	calls["work"] = hear(workMsg(from, p.Link.Id, 3, thunk(k.code(p.Machine), scope...)))
	for i := range p.Machine.Names {
		calls["give "+string(rune('a'+i))] = hear(giveMsg(from, p.Link.Id, i, cell(impl.CFun, 3, k.code(p.Machine), scope...)))
	}
	return calls
}

// Promise 12 for this chapter: nothing is written into an argument, nor into the
// room behind it, and no answer shares memory with one.
func TestNodesLeaveArgumentsAlone(t *testing.T) {
	k := newPeerMaker(75)
	for i := range 250 {
		p := k.peer(2)
		if i%4 == 0 {
			p.Machine = k.anyMachine()
		}
		room := impl.Peer{Machine: roomyMachine(p.Machine), Link: roomyLink(p.Link)}
		keptMachine, keptLink := wholeMachine(room.Machine), wholeLink(room.Link)
		asked := func(name string) {
			t.Helper()
			if !reflect.DeepEqual(wholeMachine(room.Machine), keptMachine) || !sameLink(wholeLink(room.Link), keptLink) {
				t.Fatalf("%s: %v became %v", name, keptMachine, room)
			}
		}
		impl.PeerOk(room)
		impl.Busy(room)
		for name, call := range peerCalls(k, room) {
			first, second := call(), call()
			asked(name)
			want := copyPeer(first)
			spoilMachine(first.Machine)
			spoilLink(first.Link)
			asked(name + ", spoilt")
			if !samePeer(second, want) {
				t.Fatalf("%s: two answers share memory", name)
			}
		}
	}
}

// A message that was heard is not kept.
func TestHeardMessagesAreNotKept(t *testing.T) {
	p := peerOf(t, 1, 3, cell(impl.CHole, 0, 0))
	p.Machine.Names = []int{2}
	for _, m := range []impl.Msg{giveMsg(0, 1, 0, cell(impl.CFun, 1, 7, 5, 6)), giveMsg(0, 1, 0, pairOf(5, 6)), workMsg(0, 1, 3, thunk(1, 5, 6))} {
		m.Cell.Kids = append(slices.Clone(m.Cell.Kids), -7, -8)[:2]
		after, _ := impl.Hear(p, m)
		kept := copyPeer(after)
		if !slices.Equal(m.Cell.Kids[:4], []int{5, 6, -7, -8}) {
			t.Errorf("the message became %v", m)
		}
		spoilInts(m.Cell.Kids)
		wantPeer(t, after, kept)
		spoilMachine(after.Machine)
		if !slices.Equal(m.Cell.Kids[:4], []int{-9, -9, -9, -9}) {
			t.Errorf("the message became %v", m)
		}
	}
}

func TestNodeListsShareNoMemory(t *testing.T) {
	k := newPeerMaker(76)
	for range 250 {
		p := k.peer(2)
		// Lists of the argument that share memory share none in the answer.
		if len(p.Machine.Sparks) > 0 {
			p.Machine.Names = p.Machine.Sparks
			p.Machine.Threads = append(p.Machine.Threads[:1:1], p.Machine.Threads[0])
		}
		for name, call := range peerCalls(k, p) {
			after := call()
			wantApart(t, after.Machine)
			for at := range after.Link.Seen {
				want := copyLink(after.Link)
				spoilInts(after.Link.Seen[at].Ids)
				want.Seen[at].Ids = slices.Repeat([]int{-9}, len(want.Seen[at].Ids))
				if !sameLink(after.Link, want) {
					t.Fatalf("%s: the Ids of %d are another's too", name, at)
				}
			}
		}
	}
	// What is left of Say, and the packs.
	p := peerOf(t, 1, 3)
	p.Machine.Say = slices.Repeat([]impl.Msg{giveMsg(0, 2, 3, pairOf(4, 5))}, 70)
	kept := copyPeer(p)
	after, packs := impl.Flush(p)
	wantApart(t, after.Machine)
	want := copyPeer(after)
	for i := range packs {
		packs[i] = "spoilt"
	}
	wantPeer(t, after, want)
	spoilMachine(after.Machine)
	wantPeer(t, p, kept)
}

func TestNodeTextsShareNoMemory(t *testing.T) {
	out, body := []byte("+out"), []byte(msgBytes(fishMsg(1, 2)))
	p := newPeer(t, "main = 1 + 2;", 1, 3)
	p.Machine.Table.Codes[0].Text = textOf(out[:1])
	ended := does(impl.IsDone)
	ended.Out = textOf(out[1:])
	p.Machine.Threads = []impl.Thread{ended}
	p.Link.Next, p.Link.Out = 9, []impl.Sent{{Seq: 5, To: 2, Body: textOf(body)}}
	p.Machine.Say = []impl.Msg{fishMsg(0, 2)}
	wrong := copyPeer(p)
	wrong.Link.Next = 0
	var got, want []impl.Peer
	add := func(p impl.Peer) {
		got, want = append(got, p), append(want, copyPeer(p))
		last := &want[len(want)-1]
		last.Machine.Table.Codes[0].Text = "+"
		for i, s := range p.Link.Out {
			last.Link.Out[i].Body = strings.Clone(s.Body)
		}
	}
	for _, p := range []impl.Peer{p, wrong} {
		for _, m := range []impl.Msg{fishMsg(0, 1), {}} {
			after, _ := impl.Hear(p, m)
			add(after)
		}
		after, _ := impl.Flush(p)
		add(after)
		add(impl.Clear(p))
	}
	made, _ := impl.PeerNew(p.Machine.Table, 1, 3)
	add(made)
	for _, list := range [][]byte{out, body} {
		for i := range list {
			list[i] = '#'
		}
	}
	for i := range got {
		wantPeer(t, got[i], want[i])
	}
}

// Promise 12 for this chapter: the edges in every field, and long lists.
func TestNodesAnswerAtAnyArguments(t *testing.T) {
	full := fullPeer(t)
	for _, n := range append(oddNumbers(), wireEdges()...) {
		list := []int{n, n}
		p := copyPeer(full)
		p.Machine.Heap = []impl.Cell{cell(n, n, n, list...), cell(n, n, n)}
		p.Machine.Sparks, p.Machine.Names = list, slices.Clone(list)
		p.Machine.Threads = []impl.Thread{{Do: n, At: n, Kids: list, Stack: []impl.Frame{frame(n, n, n, list...)}}}
		odd := impl.Msg{Kind: n, From: n, To: n, Id: n, Want: n, Cell: cell(n, n, n, list...)}
		p.Machine.Say = []impl.Msg{odd}
		link := impl.Link{Id: n, Next: n, Out: []impl.Sent{{Seq: n, To: n}}, Seen: []impl.Seen{{Low: n, Ids: list}}}
		for _, p := range []impl.Peer{p, {Machine: p.Machine, Link: link}, {Machine: full.Machine, Link: link}, full, {}} {
			wantPeerOk(t, plainPeerOk(p), p)
			for _, m := range []impl.Msg{odd, fetchMsg(0, 1, n, n), giveMsg(0, 1, n, cell(n, n, n, n)), workMsg(0, 1, n, thunk(n, n)), fishMsg(n, 1), fishMsg(0, n)} {
				wantHear(t, p, m)
			}
			wantFlush(t, p)
			wantClear(t, p)
			impl.Busy(p)
		}
		impl.PeerNew(full.Machine.Table, n, n)
		impl.PeerNew(impl.Table{Codes: []impl.Code{code(n, n, "", list...)}, Tops: list}, 0, 1)
	}
	const many = 200000
	for _, change := range []func(p *impl.Peer){
		func(p *impl.Peer) { p.Machine.Heap = make([]impl.Cell, many) },
		func(p *impl.Peer) { p.Machine.Threads = make([]impl.Thread, many) },
		func(p *impl.Peer) { p.Machine.Sparks = make([]int, many) },
		func(p *impl.Peer) { p.Machine.Names = make([]int, many) },
		func(p *impl.Peer) { p.Machine.Say = slices.Repeat([]impl.Msg{fishMsg(0, 2)}, many) },
		func(p *impl.Peer) { p.Machine.Heap[5] = cell(impl.CFun, 1, 1, make([]int, many)...) },
		func(p *impl.Peer) { p.Machine.Threads[0].Stack = slices.Repeat([]impl.Frame{upd(3)}, many) },
		func(p *impl.Peer) { p.Machine.Threads[3].Out = strings.Repeat("much", many) },
		func(p *impl.Peer) { p.Machine.Table.Codes = make([]impl.Code, many) },
		func(p *impl.Peer) { p.Link.Seen = make([]impl.Seen, many) },
		func(p *impl.Peer) { p.Link.Out = make([]impl.Sent, many) },
		func(p *impl.Peer) { p.Link.Seen[0].Ids = make([]int, many) },
	} {
		p := copyPeer(full)
		change(&p)
		right := impl.PeerOk(p)
		for _, m := range []impl.Msg{fetchMsg(0, 1, 0, 3), giveMsg(0, 1, 0, intCell(1)), fishMsg(0, 1), workMsg(0, 1, 3, thunk(0)), workMsg(0, 1, 3, thunk(0, make([]int, many)...))} {
			if after, heard := impl.Hear(p, m); heard != (right && impl.MsgOk(m)) || !heard && !samePeer(after, p) || impl.PeerOk(after) != right {
				t.Errorf("%v: %t", m.Kind, heard)
			}
		}
		after := impl.Clear(p)
		if right {
			wantFound(t, p, after)
		} else {
			wantPeer(t, after, p)
		}
		impl.Flush(p)
		impl.Busy(p)
	}
}

// Nothing is kept from one call to another, nor shared by calls at one time.
func TestNodesAtOneTime(t *testing.T) {
	k := newPeerMaker(77)
	var peers []impl.Peer
	var msgs []impl.Msg
	for range 40 {
		p := k.peer(2)
		peers, msgs = append(peers, p), append(msgs, k.msgFor(p))
	}
	var wait sync.WaitGroup
	for range 8 {
		wait.Go(func() {
			for i, p := range peers {
				after, heard := impl.Hear(p, msgs[i])
				want, wantHeard := plainHear(p, msgs[i])
				flushed, packs := impl.Flush(p)
				wantFlushed, wantPacks := plainFlush(p)
				same := samePeer(after, want) && heard == wantHeard && samePeer(flushed, wantFlushed) && slices.Equal(packs, wantPacks)
				if !same || !samePeer(impl.Clear(p), plainClear(p)) || !impl.PeerOk(p) || impl.Busy(p) != plainBusy(p) {
					t.Error(i, msgs[i])
				}
			}
		})
	}
	wait.Wait()
}
