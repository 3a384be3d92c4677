package tests

import (
	"math"
	"slices"
	"strings"
	"sync"
	"testing"

	"loop.example/g00303/impl"
)

func newLink(t *testing.T, id int, nodes int) impl.Link {
	t.Helper()
	l, ok := impl.LinkNew(id, nodes)
	if !ok {
		t.Fatal("no link", id, nodes)
	}
	return l
}

func sentOf(seq int, m impl.Msg) impl.Sent {
	return impl.Sent{Seq: seq, To: m.To, Body: msgBytes(m)}
}

// fromOn has so many numbers from that one on.
func fromOn(first int, count int) []int {
	list := upTo(count)
	for i := range list {
		list[i] += first
	}
	return list
}

func wantLink(t *testing.T, got impl.Link, want impl.Link) {
	t.Helper()
	if !sameLink(got, want) {
		t.Fatalf("%s\nwant\n%s", linkText(got), linkText(want))
	}
}

func wantLinkOk(t *testing.T, right bool, l impl.Link) {
	t.Helper()
	if plainLinkOk(l) != right {
		t.Errorf("the oracle tells %s: %t", linkText(l), !right)
	}
	if got := impl.LinkOk(l); got != right {
		t.Errorf("LinkOk(%s) = %t", linkText(l), got)
	}
	wantAgain(t, l)
}

func wantAgain(t *testing.T, l impl.Link) {
	t.Helper()
	var want []string
	if plainLinkOk(l) {
		want = plainAgain(l)
	}
	if got := impl.LinkAgain(l); !slices.Equal(got, want) {
		t.Fatalf("LinkAgain(%s) = %.1000x; want %.1000x", linkText(l), got, want)
	}
}

func wantSend(t *testing.T, l impl.Link, m impl.Msg) (impl.Link, string, bool) {
	t.Helper()
	after, bytes, ok := impl.LinkSend(l, m)
	wantAfter, wantBytes, wantOk := plainSend(l, m)
	if !sameLink(after, wantAfter) || bytes != wantBytes || ok != wantOk {
		t.Fatalf("LinkSend(%s, %v) = %s, %x, %t; want %s, %x, %t", linkText(l), m, linkText(after), bytes, ok, linkText(wantAfter), wantBytes, wantOk)
	}
	if ok && !impl.LinkOk(after) {
		t.Fatalf("%s is not right any more", linkText(after))
	}
	return after, bytes, ok
}

func wantAck(t *testing.T, l impl.Link, from int, seq int) impl.Link {
	t.Helper()
	after, want := impl.LinkAck(l, from, seq), plainAck(l, from, seq)
	if !sameLink(after, want) || impl.LinkOk(after) != impl.LinkOk(l) {
		t.Fatalf("LinkAck(%s, %d, %d) = %s; want %s", linkText(l), from, seq, linkText(after), linkText(want))
	}
	return after
}

func wantTake(t *testing.T, l impl.Link, p impl.Pack) (impl.Link, bool, bool) {
	t.Helper()
	after, fresh, due := impl.LinkTake(l, p)
	wantAfter, wantFresh, wantDue := plainTake(l, p)
	if !sameLink(after, wantAfter) || fresh != wantFresh || due != wantDue {
		t.Fatalf("LinkTake(%s, %s) = %s, %t, %t; want %s, %t, %t", linkText(l), packText(p), linkText(after), fresh, due, linkText(wantAfter), wantFresh, wantDue)
	}
	if impl.LinkOk(after) != impl.LinkOk(l) {
		t.Fatalf("%s is not right any more", linkText(after))
	}
	return after, fresh, due
}

func TestKindsOfLinks(t *testing.T) {
	if impl.MaxOut != 60 || impl.MaxSeen != 60 {
		t.Error(impl.MaxOut, impl.MaxSeen)
	}
}

func TestLinkNew(t *testing.T) {
	numbers := []int{math.MinInt, math.MinInt + 1, -32, -31, -2, -1, 0, 1, 2, 3, 29, 30, 31, 32, 33, 1 << 32, math.MaxInt - 1, math.MaxInt}
	for _, id := range numbers {
		for _, nodes := range numbers {
			l, ok := impl.LinkNew(id, nodes)
			if id < 0 || id >= nodes || nodes > 31 {
				if ok || !sameLink(l, impl.Link{}) {
					t.Errorf("LinkNew(%d, %d) = %s, %t", id, nodes, linkText(l), ok)
				}
				continue
			}
			want := impl.Link{Id: id, Next: 1}
			for range nodes {
				want.Seen = append(want.Seen, impl.Seen{Low: 1})
			}
			if !ok || !sameLink(l, want) {
				t.Errorf("LinkNew(%d, %d) = %s, %t", id, nodes, linkText(l), ok)
			}
			wantLinkOk(t, true, l)
		}
	}
}

func TestLinkOkIdAndNodes(t *testing.T) {
	numbers := []int{math.MinInt, -31, -1, 0, 1, 2, 3, 29, 30, 31, 32, 33, math.MaxInt}
	for _, nodes := range []int{0, 1, 2, 3, 30, 31, 32, 33, 100} {
		for _, id := range append(numbers, nodes-1, nodes, nodes+1) {
			l := impl.Link{Id: id, Next: 1, Seen: slices.Repeat([]impl.Seen{{Low: 1}}, nodes)}
			wantLinkOk(t, id >= 0 && id < nodes && nodes <= 31, l)
		}
	}
	wantLinkOk(t, false, impl.Link{})
	wantLinkOk(t, false, impl.Link{Next: 1})
	wantLinkOk(t, false, impl.Link{Seen: []impl.Seen{{Low: 1}}})
	wantLinkOk(t, false, impl.Link{Next: 1, Seen: []impl.Seen{{}}})
	wantLinkOk(t, true, impl.Link{Next: 1, Seen: []impl.Seen{{Low: 1}}})
	wantLinkOk(t, true, impl.Link{Next: 1, Out: []impl.Sent{}, Seen: []impl.Seen{{Low: 1, Ids: []int{}}}})
}

func TestLinkOkNext(t *testing.T) {
	l := newLink(t, 1, 3)
	for _, next := range append(wireEdges(), 1000001) {
		l.Next = next
		wantLinkOk(t, next >= 1 && next <= 999999, l)
	}
	// Out ends ahead of it.
	m := fishMsg(1, 2)
	for _, seq := range []int{math.MinInt, -1, 0, 1, 2, 8, 9, 10, 11, math.MaxInt} {
		l.Next, l.Out = 10, []impl.Sent{sentOf(seq, m)}
		wantLinkOk(t, seq >= 1 && seq <= 9, l)
		l.Next = 1
		wantLinkOk(t, false, l)
	}
	l.Next = 999999
	for _, seq := range []int{999997, 999998, 999999, 1000000} {
		l.Out = []impl.Sent{sentOf(seq, m)}
		wantLinkOk(t, seq <= 999998, l)
	}
}

func TestLinkOkOut(t *testing.T) {
	l := newLink(t, 1, 4)
	l.Next = 500
	m := fetchMsg(1, 3, 4, 5)
	for _, count := range []int{0, 1, 2, 59, 60, 61, 62, 200} {
		l.Out = nil
		for seq := range count {
			l.Out = append(l.Out, sentOf(1+seq, m))
		}
		wantLinkOk(t, count <= 60, l)
	}
	for _, c := range []struct {
		right bool
		seqs  []int
	}{
		{true, []int{3, 4}}, {true, []int{1, 499}}, {false, []int{3, 3}}, {false, []int{4, 3}}, {true, []int{3, 5, 6}},
		{false, []int{3, 5, 5}}, {false, []int{3, 5, 4}}, {false, []int{3, 6, 3}}, {false, []int{0, 1}}, {false, []int{498, 499, 500}},
		{false, []int{5, math.MaxInt}}, {false, []int{math.MinInt, 5}},
	} {
		l.Out = nil
		for _, seq := range c.seqs {
			l.Out = append(l.Out, sentOf(seq, m))
		}
		wantLinkOk(t, c.right, l)
	}
}

func TestLinkOkBodies(t *testing.T) {
	nodes := []int{math.MinInt, -1, 0, 1, 2, 3, 4, 5, 30, 31, math.MaxInt}
	for _, to := range nodes {
		// To this node, the last one and one further, with the same one in the message.
		l := newLink(t, 1, 4)
		l.Next, l.Out = 10, []impl.Sent{sentOf(5, fishMsg(1, to))}
		wantLinkOk(t, to == 0 || to == 2 || to == 3, l)
		for _, other := range nodes {
			l.Out[0].To = other
			wantLinkOk(t, to == other && (to == 0 || to == 2 || to == 3), l)
		}
		// Of another node.
		for _, from := range nodes {
			l.Out = []impl.Sent{sentOf(5, fishMsg(from, to))}
			wantLinkOk(t, from == 1 && (to == 0 || to == 2 || to == 3), l)
		}
	}
	l := newLink(t, 30, 31)
	l.Next, l.Out = 10, []impl.Sent{sentOf(5, fishMsg(30, 0)), sentOf(6, fishMsg(30, 29))}
	wantLinkOk(t, true, l)
	l.Out = append(l.Out, sentOf(7, fishMsg(30, 30)))
	wantLinkOk(t, false, l)
	// Messages that are none, with From and To as they should be.
	good := msgBytes(fishMsg(1, 2))
	for _, body := range []string{"", "x", good[1:], good[:71], good + "x", good + good, "x" + good, msgBytes(fetchMsg(1, 2, -1, 4)), msgBytes(giveMsg(1, 2, 3, thunk(4))), msgBytes(workMsg(1, 2, 3, thunk(4, upTo(101)...))), msgBytes(impl.Msg{Kind: 4, From: 1, To: 2}), packBytes(dataOf(fishMsg(1, 2), 5, 5))} {
		l := newLink(t, 1, 4)
		l.Next, l.Out = 10, []impl.Sent{{Seq: 5, To: 2, Body: body}}
		wantLinkOk(t, false, l)
		l.Out = []impl.Sent{{Seq: 5, To: 2, Body: good}, {Seq: 6, To: 2, Body: body}, {Seq: 7, To: 2, Body: good}}
		wantLinkOk(t, false, l)
		// Nor is it one that the first node sends to itself, as nothing would be.
		l = newLink(t, 0, 4)
		l.Next, l.Out = 10, []impl.Sent{{Seq: 5, To: 0, Body: body}}
		wantLinkOk(t, false, l)
	}
	// Messages of every kind.
	for _, m := range eachMsg() {
		m.From, m.To = 1, 2
		l := newLink(t, 1, 3)
		l.Next, l.Out = 10, []impl.Sent{sentOf(5, m)}
		wantLinkOk(t, true, l)
	}
}

func TestLinkOkSeen(t *testing.T) {
	for _, at := range []int{0, 1, 2} {
		with := func(low int, ids ...int) impl.Link {
			l := newLink(t, 1, 3)
			l.Seen[at] = impl.Seen{Low: low, Ids: ids}
			return l
		}
		for _, low := range append(wireEdges(), 1000001) {
			wantLinkOk(t, low >= 1 && low <= 1000000, with(low))
		}
		for _, id := range append(wireEdges(), 49, 50, 51) {
			wantLinkOk(t, id >= 50 && id <= 999999, with(50, id))
			wantLinkOk(t, id >= 1 && id <= 999999, with(1, id))
			wantLinkOk(t, id == 999999, with(999999, id))
			wantLinkOk(t, false, with(1000000, id))
		}
		for _, count := range []int{0, 1, 59, 60, 61, 62, 200} {
			wantLinkOk(t, count <= 60, with(7, fromOn(7, count)...))
			wantLinkOk(t, count <= 60, with(7, fromOn(1000000-count, count)...))
		}
		wantLinkOk(t, true, with(5, 5, 6, 9))
		wantLinkOk(t, false, with(5, 5, 5))
		wantLinkOk(t, false, with(5, 6, 5))
		wantLinkOk(t, false, with(5, 7, 9, 9))
		wantLinkOk(t, false, with(5, 7, 9, 8))
		wantLinkOk(t, false, with(5, 4, 6))
		wantLinkOk(t, false, with(5, 6, 1000000))
		wantLinkOk(t, false, with(5, 6, math.MaxInt))
		wantLinkOk(t, false, with(5, math.MinInt, 6))
	}
}

func TestLinkOkOfOneWrongField(t *testing.T) {
	m := newMaker(60)
	right, wrong := 0, 0
	for range 40 {
		for _, l := range changedLinks(m.link(2)) {
			want := plainLinkOk(l)
			wantLinkOk(t, want, l)
			if want {
				right++
			} else {
				wrong++
			}
		}
	}
	if right < 1000 || wrong < 5000 {
		t.Error("only", right, "right and", wrong, "wrong links")
	}
}

// Messages of every kind, to one node and to several: the least that is not
// acknowledged of those to a node is told with each of them.
func TestLinkSendWrittenOut(t *testing.T) {
	l := newLink(t, 1, 4)
	fish := fishMsg(1, 3)
	give := giveMsg(1, 0, 4, intCell(-5))
	work := workMsg(1, 3, 5, thunk(6, 7, 8))
	fetch := fetchMsg(1, 2, 9, 10)
	for i, c := range []struct {
		m   impl.Msg
		low int
	}{{fish, 1}, {give, 2}, {work, 1}, {fetch, 4}, {give, 2}, {fish, 1}} {
		after, bytes, ok := wantSend(t, l, c.m)
		if want := packBytes(dataOf(c.m, i+1, c.low)); !ok || bytes != want {
			t.Errorf("%d: %x, %t; want %x", i, bytes, ok, want)
		}
		if after.Next != i+2 || len(after.Out) != i+1 || after.Out[i] != sentOf(i+1, c.m) {
			t.Errorf("%d: %s", i, linkText(after))
		}
		l = after
	}
	want := []string{packBytes(dataOf(fish, 1, 1)), packBytes(dataOf(give, 2, 2)), packBytes(dataOf(work, 3, 1)), packBytes(dataOf(fetch, 4, 4)), packBytes(dataOf(give, 5, 2)), packBytes(dataOf(fish, 6, 1))}
	if got := impl.LinkAgain(l); !slices.Equal(got, want) {
		t.Errorf("%x", got)
	}
	// Behind an acknowledgement Low goes on, of those to that node alone.
	l = wantAck(t, l, 3, 1)
	want = []string{packBytes(dataOf(give, 2, 2)), packBytes(dataOf(work, 3, 3)), packBytes(dataOf(fetch, 4, 4)), packBytes(dataOf(give, 5, 2)), packBytes(dataOf(fish, 6, 3))}
	if got := impl.LinkAgain(l); !slices.Equal(got, want) {
		t.Errorf("%x", got)
	}
	l, bytes, ok := wantSend(t, l, work)
	if !ok || bytes != packBytes(dataOf(work, 7, 3)) {
		t.Errorf("%x, %t", bytes, ok)
	}
	for _, seq := range []int{6, 3, 7} {
		l = wantAck(t, l, 3, seq)
	}
	l, bytes, ok = wantSend(t, l, fish)
	if !ok || bytes != packBytes(dataOf(fish, 8, 8)) || len(l.Out) != 4 {
		t.Errorf("%x, %t, %s", bytes, ok, linkText(l))
	}
	for _, m := range eachMsg() {
		m.From, m.To = 30, 0
		if _, _, ok := wantSend(t, newLink(t, 30, 31), m); !ok {
			t.Errorf("%v is not sent", m)
		}
	}
}

func TestLinkSendAtItsBounds(t *testing.T) {
	m := giveMsg(1, 2, 3, pairOf(4, 5))
	for _, next := range []int{1, 2, 999997, 999998, 999999} {
		l := newLink(t, 1, 3)
		l.Next = next
		after, bytes, ok := wantSend(t, l, m)
		if ok != (next < 999999) {
			t.Errorf("next %d: %t", next, ok)
		}
		if ok && (after.Next != next+1 || bytes != packBytes(dataOf(m, next, next))) {
			t.Errorf("next %d: %s, %x", next, linkText(after), bytes)
		}
		if !ok && (!sameLink(after, l) || bytes != "") {
			t.Errorf("next %d: %s, %x", next, linkText(after), bytes)
		}
	}
	for _, count := range []int{0, 1, 58, 59, 60} {
		l := newLink(t, 1, 3)
		l.Next = 100
		for i := range count {
			l.Out = append(l.Out, sentOf(10+i, m))
		}
		after, bytes, ok := wantSend(t, l, m)
		if ok != (count < 60) || ok == (bytes == "") || ok == sameLink(after, l) {
			t.Errorf("%d in Out: %s, %x, %t", count, linkText(after), bytes, ok)
		}
		if again, _, ok := wantSend(t, wantAck(t, after, 2, 10), m); !ok {
			t.Errorf("%d in Out, behind an acknowledgement: %s", count, linkText(again))
		}
	}
	// Until there is no room: sixty, and one more behind each acknowledgement.
	l := newLink(t, 1, 3)
	for i := range 70 {
		after, _, ok := wantSend(t, l, m)
		if ok != (i < 60) {
			t.Fatal(i, ok)
		}
		l = after
	}
	if l.Next != 61 {
		t.Error(l.Next)
	}
	for seq := 1; seq <= 30; seq++ {
		after, bytes, ok := wantSend(t, wantAck(t, l, 2, seq), m)
		if p, _ := impl.GetPack(bytes); !ok || p.Seq != 60+seq || p.Low != seq+1 {
			t.Fatal(seq, ok, packText(p))
		}
		l = after
	}
}

func TestLinkSendRefuses(t *testing.T) {
	l := newLink(t, 1, 4)
	l, _, _ = impl.LinkSend(l, fishMsg(1, 3))
	refused := func(l impl.Link, m impl.Msg) {
		t.Helper()
		if after, bytes, ok := wantSend(t, l, m); ok || bytes != "" || !sameLink(after, l) {
			t.Errorf("%v: %s, %x, %t", m, linkText(after), bytes, ok)
		}
	}
	for _, m := range []impl.Msg{
		{}, fishMsg(0, 2), fishMsg(2, 0), fishMsg(1, 1), fishMsg(1, 4), fishMsg(1, 5), fishMsg(1, 30), fishMsg(1, 31), fishMsg(1, -1), fishMsg(-1, 2),
		fishMsg(3, 1), fishMsg(4, 2), fetchMsg(1, 2, -1, 3), fetchMsg(1, 2, 3, 1000000), giveMsg(1, 2, 3, thunk(4)), workMsg(1, 2, 3, intCell(4)),
		workMsg(1, 2, 3, thunk(4, upTo(101)...)), {Kind: 4, From: 1, To: 2}, {Kind: -1, From: 1, To: 2}, {Kind: impl.MsgFish, From: 1, To: 2, Id: 1},
		fishMsg(1, math.MaxInt), fishMsg(1, math.MinInt),
	} {
		refused(l, m)
	}
	for _, other := range changedLinks(l) {
		if !impl.LinkOk(other) {
			refused(other, fishMsg(1, 2))
			refused(other, fishMsg(other.Id, 2))
		}
	}
	refused(impl.Link{}, impl.Msg{})
	refused(impl.Link{}, fishMsg(0, 1))
	refused(newLink(t, 0, 1), fishMsg(0, 1))
	refused(newLink(t, 0, 1), fishMsg(0, 0))
}

func TestLinkAgain(t *testing.T) {
	for _, l := range []impl.Link{newLink(t, 0, 1), newLink(t, 30, 31), {}, {Next: 1}} {
		if got := impl.LinkAgain(l); len(got) != 0 {
			t.Errorf("LinkAgain(%s) = %x", linkText(l), got)
		}
	}
	m := newMaker(61)
	for range 500 {
		l := m.link(2)
		wantAgain(t, l)
		for i, bytes := range impl.LinkAgain(l) {
			p, ok := impl.GetPack(bytes)
			s := l.Out[i]
			if !ok || p.Seq != s.Seq || p.To != s.To || p.Body != s.Body || p.From != l.Id || p.Kind != impl.PackData {
				t.Fatalf("%s: %s, %t", linkText(l), packText(p), ok)
			}
		}
		l.Out = append(l.Out, l.Out...)
		wantAgain(t, l)
	}
}

func TestLinkAckWrittenOut(t *testing.T) {
	l := newLink(t, 1, 4)
	for _, to := range []int{3, 0, 3, 2, 0} {
		l, _, _ = impl.LinkSend(l, fishMsg(1, to))
	}
	seqs := func(l impl.Link) []int {
		var list []int
		for _, s := range l.Out {
			list = append(list, s.Seq)
		}
		return list
	}
	for _, c := range []struct {
		from int
		seq  int
		want []int
	}{
		{3, 1, []int{2, 3, 4, 5}}, {0, 2, []int{1, 3, 4, 5}}, {3, 3, []int{1, 2, 4, 5}}, {2, 4, []int{1, 2, 3, 5}}, {0, 5, []int{1, 2, 3, 4}},
		// What was not sent to that node, or not at all, and nodes that there are not.
		{0, 1, []int{1, 2, 3, 4, 5}}, {3, 2, []int{1, 2, 3, 4, 5}}, {2, 3, []int{1, 2, 3, 4, 5}}, {3, 0, []int{1, 2, 3, 4, 5}}, {3, 6, []int{1, 2, 3, 4, 5}},
		{3, -1, []int{1, 2, 3, 4, 5}}, {1, 1, []int{1, 2, 3, 4, 5}}, {4, 1, []int{1, 2, 3, 4, 5}}, {-1, 1, []int{1, 2, 3, 4, 5}}, {31, 1, []int{1, 2, 3, 4, 5}},
		{math.MaxInt, math.MaxInt, []int{1, 2, 3, 4, 5}}, {math.MinInt, math.MinInt, []int{1, 2, 3, 4, 5}},
	} {
		after := wantAck(t, l, c.from, c.seq)
		if got := seqs(after); !slices.Equal(got, c.want) || after.Next != 6 {
			t.Errorf("%d %d: %v", c.from, c.seq, got)
		}
		// Twice is as once.
		wantLink(t, wantAck(t, after, c.from, c.seq), after)
	}
	for _, other := range changedLinks(l) {
		for _, seq := range []int{0, 1, 3, 5, 6} {
			if after := wantAck(t, other, 3, seq); !impl.LinkOk(other) && !sameLink(after, other) {
				t.Errorf("%s: %s", linkText(other), linkText(after))
			}
		}
	}
	wantLink(t, wantAck(t, impl.Link{}, 0, 0), impl.Link{})
	wrong := impl.Link{Out: []impl.Sent{{}, {}}}
	wantLink(t, wantAck(t, wrong, 0, 0), wrong)
}

func TestLinkTakeWrittenOut(t *testing.T) {
	m := fishMsg(2, 1)
	l := newLink(t, 1, 4)
	for i, c := range []struct {
		seq, low   int
		fresh, due bool
		wantLow    int
		wantIds    []int
	}{
		{1, 1, true, true, 1, []int{1}},
		{1, 1, false, true, 1, []int{1}},
		{4, 1, true, true, 1, []int{1, 4}},
		{3, 1, true, true, 1, []int{1, 3, 4}},
		{4, 1, false, true, 1, []int{1, 3, 4}},
		{9, 3, true, true, 3, []int{3, 4, 9}},
		{2, 1, false, true, 3, []int{3, 4, 9}},
		{2, 2, false, true, 3, []int{3, 4, 9}},
		{9, 4, false, true, 4, []int{4, 9}},
		{3, 3, false, true, 4, []int{4, 9}},
		{5, 5, true, true, 5, []int{5, 9}},
		{8, 6, true, true, 6, []int{8, 9}},
		{20, 20, true, true, 20, []int{20}},
		{20, 20, false, true, 20, []int{20}},
		{30, 25, true, true, 25, []int{30}},
		{24, 24, false, true, 25, []int{30}},
		{25, 1, true, true, 25, []int{25, 30}},
		{999999, 31, true, true, 31, []int{999999}},
		{999998, 999998, true, true, 999998, []int{999998, 999999}},
		{999999, 999999, false, true, 999999, []int{999999}},
		{999998, 1, false, true, 999999, []int{999999}},
		{1, 1, false, true, 999999, []int{999999}},
	} {
		after, fresh, due := wantTake(t, l, dataOf(m, c.seq, c.low))
		if fresh != c.fresh || due != c.due {
			t.Errorf("%d: %t, %t", i, fresh, due)
		}
		want := newLink(t, 1, 4)
		want.Seen[2] = impl.Seen{Low: c.wantLow, Ids: c.wantIds}
		wantLink(t, after, want)
		l = after
	}
	// Each node has its own.
	after, fresh, due := wantTake(t, l, dataOf(fishMsg(3, 1), 7, 2))
	if !fresh || !due || after.Seen[3].Low != 2 || !slices.Equal(after.Seen[3].Ids, []int{7}) || after.Seen[2].Low != 999999 {
		t.Error(linkText(after))
	}
	// Nothing is below the last Low, and all of it was taken.
	l.Seen[2] = impl.Seen{Low: 1000000}
	for _, seq := range []int{1, 2, 999998, 999999} {
		after, fresh, due := wantTake(t, l, dataOf(m, seq, seq))
		if fresh || !due || !sameLink(after, l) {
			t.Error(seq, linkText(after), fresh, due)
		}
	}
}

// In every order: new once, whatever comes twice, and Low and Ids are the same
// in the end.
func TestLinkTakeInAnyOrder(t *testing.T) {
	m := newMaker(62)
	for range 60 {
		l := newLink(t, 0, 2)
		news := map[int]int{}
		for _, at := range m.Perm(120) {
			seq := 1 + at%40
			var fresh, due bool
			l, fresh, due = wantTake(t, l, dataOf(fishMsg(1, 0), seq, 1))
			if !due {
				t.Fatal(seq, linkText(l))
			}
			if fresh {
				news[seq]++
			}
		}
		for seq := 1; seq <= 40; seq++ {
			if news[seq] != 1 {
				t.Fatal(seq, news[seq])
			}
		}
		if l.Seen[1].Low != 1 || !slices.Equal(l.Seen[1].Ids, fromOn(1, 40)) {
			t.Fatal(linkText(l))
		}
	}
}

func TestLinkTakeAtItsBounds(t *testing.T) {
	m := fishMsg(1, 0)
	for _, count := range []int{58, 59, 60} {
		l := newLink(t, 0, 2)
		l.Seen[1] = impl.Seen{Low: 10, Ids: fromOn(20, count)}
		for _, seq := range []int{10, 19, 20 + count, 999999} {
			after, fresh, due := wantTake(t, l, dataOf(m, seq, 10))
			if fresh != (count < 60) || due != (count < 60) || sameLink(after, l) != (count == 60) {
				t.Errorf("%d Ids, %d: %s, %t, %t", count, seq, linkText(after), fresh, due)
			}
		}
		// What was taken is acknowledged, full or not.
		for _, seq := range []int{1, 9, 20, 20 + count - 1} {
			after, fresh, due := wantTake(t, l, dataOf(m, seq, 1))
			if fresh || !due || !sameLink(after, l) {
				t.Errorf("%d Ids, %d: %s, %t, %t", count, seq, linkText(after), fresh, due)
			}
		}
	}
	// A Low that goes on makes room by one, by all, and by none.
	l := newLink(t, 0, 2)
	l.Seen[1] = impl.Seen{Low: 10, Ids: fromOn(20, 60)}
	for _, c := range []struct {
		low   int
		fresh bool
		first int
		count int
	}{{10, false, 20, 60}, {11, false, 20, 60}, {20, false, 20, 60}, {21, true, 21, 59}, {22, true, 22, 58}, {79, true, 79, 1}, {80, true, 80, 0}, {100, true, 100, 0}} {
		after, fresh, due := wantTake(t, l, dataOf(m, 100, c.low))
		want := newLink(t, 0, 2)
		want.Seen[1] = impl.Seen{Low: c.low, Ids: fromOn(c.first, c.count)}
		if c.fresh {
			want.Seen[1].Ids = append(want.Seen[1].Ids, 100)
		}
		if fresh != c.fresh || due != c.fresh || !sameLink(after, want) {
			t.Errorf("%d: %s, %t, %t", c.low, linkText(after), fresh, due)
		}
	}
	// Full, with a Low that goes on below the first of Ids: it goes on all the same.
	after, fresh, due := wantTake(t, l, dataOf(m, 15, 12))
	if fresh || due || after.Seen[1].Low != 12 || len(after.Seen[1].Ids) != 60 {
		t.Error(linkText(after), fresh, due)
	}
	if _, fresh, due := wantTake(t, after, dataOf(m, 11, 11)); fresh || !due {
		t.Error("below Low", fresh, due)
	}
}

func TestLinkTakeRefuses(t *testing.T) {
	l := newLink(t, 1, 4)
	l, _, _ = impl.LinkTake(l, dataOf(fishMsg(2, 1), 5, 3))
	refused := func(l impl.Link, p impl.Pack) {
		t.Helper()
		if after, fresh, due := wantTake(t, l, p); fresh || due || !sameLink(after, l) {
			t.Errorf("%s: %s, %t, %t", packText(p), linkText(after), fresh, due)
		}
	}
	for _, p := range []impl.Pack{
		{}, ack(2, 1, 5), ack(2, 1, 6), ack(1, 2, 5), dataOf(fishMsg(2, 0), 6, 4), dataOf(fishMsg(2, 3), 6, 4), dataOf(fishMsg(1, 2), 6, 4),
		dataOf(fishMsg(4, 1), 6, 4), dataOf(fishMsg(5, 1), 6, 4), dataOf(fishMsg(30, 1), 6, 4), dataOf(fishMsg(31, 1), 6, 4), dataOf(fishMsg(-1, 1), 6, 4),
		dataOf(fishMsg(1, 1), 6, 4), dataOf(fishMsg(2, 4), 6, 4), dataOf(fishMsg(2, 1), 0, 0), dataOf(fishMsg(2, 1), 1000000, 4), dataOf(fishMsg(2, 1), 6, 7),
		dataOf(fishMsg(2, 1), 6, 0), dataOf(fetchMsg(2, 1, -1, 0), 6, 4), {From: 2, To: 1, Seq: 6, Low: 4}, {From: 2, To: 1, Seq: 6, Low: 4, Body: msgBytes(fishMsg(3, 1))},
		{From: 2, To: 1, Seq: 6, Low: 4, Body: msgBytes(fishMsg(2, 0))}, {Kind: 2, From: 2, To: 1, Seq: 6, Low: 4, Body: msgBytes(fishMsg(2, 1))},
		{Kind: 1, From: 2, To: 1, Seq: 6, Low: 4, Body: msgBytes(fishMsg(2, 1))}, dataOf(fishMsg(math.MaxInt, 1), 6, 4), dataOf(fishMsg(math.MinInt, 1), 6, 4),
	} {
		refused(l, p)
	}
	for _, other := range changedLinks(l) {
		if !impl.LinkOk(other) {
			refused(other, dataOf(fishMsg(2, 1), 6, 4))
			refused(other, dataOf(fishMsg(2, 1), 5, 1))
		}
	}
	refused(impl.Link{}, impl.Pack{})
	refused(impl.Link{}, dataOf(fishMsg(1, 0), 1, 1))
	refused(newLink(t, 0, 1), dataOf(fishMsg(1, 0), 1, 1))
	for _, p := range changedPacks(dataOf(giveMsg(2, 1, 3, pairOf(4, 5)), 6, 4)) {
		if after, _, _ := wantTake(t, l, p); !impl.PackOk(p) && !sameLink(after, l) {
			t.Errorf("%s: %s", packText(p), linkText(after))
		}
	}
}

// Any right links, with what comes close to their bounds.
func TestLinksAgainstPlainOnes(t *testing.T) {
	m := newMaker(63)
	seen := map[[2]bool]int{}
	for range 1000 {
		l := m.link(1)
		wantLinkOk(t, true, l)
		wantSend(t, l, m.msgAmong(l.Id, len(l.Seen)))
		wantSend(t, l, m.msg())
		wantAck(t, l, m.IntN(len(l.Seen)), m.near([]int{1, l.Next}, span{0, 1000000}))
		for _, i := range placesIn(len(l.Out)) {
			wantAck(t, l, l.Out[i].To, l.Out[i].Seq)
		}
		for range 10 {
			_, fresh, due := wantTake(t, l, m.packTo(l))
			seen[[2]bool{fresh, due}]++
		}
	}
	if len(seen) != 3 || seen[[2]bool{true, true}] < 500 || seen[[2]bool{false, true}] < 500 || seen[[2]bool{false, false}] < 500 {
		t.Error("only", seen)
	}
}

// badNet is links with a net that loses, doubles and turns around, and what is
// to be asked of them in the end.
type badNet struct {
	*maker
	links []impl.Link
	net   []string
	sent  map[[2]int]string // the body of each that was sent, by its node and number
	open  map[[2]int]int    // to whom it was sent, as long as it is not acknowledged
	news  map[[2]int]int    // how often it was new
	full  int
}

func newBadNet(t *testing.T, m *maker, nodes int) *badNet {
	b := &badNet{maker: m, sent: map[[2]int]string{}, open: map[[2]int]int{}, news: map[[2]int]int{}}
	for id := range nodes {
		b.links = append(b.links, newLink(t, id, nodes))
	}
	return b
}

func (b *badNet) send(t *testing.T, id int) {
	m := b.msgAmong(id, len(b.links))
	after, bytes, ok := wantSend(t, b.links[id], m)
	if ok {
		key := [2]int{id, b.links[id].Next}
		b.sent[key], b.open[key] = msgBytes(m), m.To
		b.net = append(b.net, bytes)
	}
	b.links[id] = after
}

// again sends what is not acknowledged, and asks whether it is just that.
func (b *badNet) again(t *testing.T, id int) {
	t.Helper()
	packs := impl.LinkAgain(b.links[id])
	count := 0
	for key := range b.open {
		if key[0] == id {
			count++
		}
	}
	for _, bytes := range packs {
		p, ok := impl.GetPack(bytes)
		key := [2]int{id, p.Seq}
		to, open := b.open[key]
		if !ok || !open || p.To != to || p.Body != b.sent[key] {
			t.Fatalf("%s is sent again", packText(p))
		}
	}
	if len(packs) != count {
		t.Fatalf("%d are sent again; want %d", len(packs), count)
	}
	b.net = append(b.net, packs...)
}

func (b *badNet) deliver(t *testing.T, at int) {
	t.Helper()
	bytes := b.net[at]
	b.net = slices.Delete(b.net, at, at+1)
	p, ok := impl.GetPack(bytes)
	if !ok {
		return
	}
	if p.Kind == impl.PackAck {
		b.links[p.To] = wantAck(t, b.links[p.To], p.From, p.Seq)
		delete(b.open, [2]int{p.To, p.Seq})
		return
	}
	after, fresh, due := wantTake(t, b.links[p.To], p)
	key := [2]int{p.From, p.Seq}
	if fresh {
		b.news[key]++
	}
	if b.news[key] > 1 || fresh && p.Body != b.sent[key] || due && b.news[key] == 0 {
		t.Fatalf("%s was %d times new", packText(p), b.news[key])
	}
	b.links[p.To] = after
	if due {
		b.net = append(b.net, impl.PutPack(ack(p.To, p.From, p.Seq)))
	} else {
		b.full++
	}
}

// storm does anything at all.
func (b *badNet) storm(t *testing.T, sends int, events int) {
	t.Helper()
	for range events {
		id, at := b.IntN(len(b.links)), b.IntN(len(b.net)+1)
		switch what := b.IntN(16); {
		case what < 3 && len(b.sent) < sends:
			b.send(t, id)
		case what == 4:
			b.again(t, id)
		case at == len(b.net):
		case what < 7:
			b.net = slices.Delete(b.net, at, at+1)
		case what < 9:
			b.net = append(b.net, b.net[at])
		case what == 9:
			b.net[at] = b.net[at][:len(b.net[at])-1]
		default:
			b.deliver(t, at)
		}
	}
}

// calm delivers all, again and again, until nothing is open any more.
func (b *badNet) calm(t *testing.T) {
	t.Helper()
	for range 5 {
		for id := range b.links {
			b.again(t, id)
		}
		for len(b.net) > 0 {
			b.deliver(t, b.IntN(len(b.net)))
		}
	}
}

// Promise 8: whatever is lost, doubled, cut and turned around, what is not
// acknowledged is sent again, and all that was sent is new just once.
func TestWhatIsSentIsNewOnce(t *testing.T) {
	m := newMaker(64)
	for round := range 60 {
		b := newBadNet(t, m, 2+round%5)
		b.storm(t, 59, 1500)
		b.calm(t)
		if len(b.sent) < 50 || b.full > 0 {
			t.Fatal("only", len(b.sent), "were sent, and", b.full, "had no room")
		}
		for key, body := range b.sent {
			if b.news[key] != 1 {
				t.Fatalf("%v (%x) was %d times new", key, body, b.news[key])
			}
		}
		for id, l := range b.links {
			if len(l.Out) != 0 || len(impl.LinkAgain(l)) != 0 || len(b.open) != 0 {
				t.Fatal(id, linkText(l), len(b.open))
			}
		}
	}
}

// The same where there is no room at times: what has no room is not
// acknowledged, hence sent again, and new at most once.
func TestWhatHasNoRoomIsSentAgain(t *testing.T) {
	m := newMaker(65)
	full := 0
	for range 12 {
		b := newBadNet(t, m, 2)
		for range 40 {
			b.storm(t, 4000, 100)
			b.net = nil
			b.again(t, b.IntN(2))
		}
		b.calm(t)
		full += b.full
		for key := range b.open {
			if b.news[key] > 1 {
				t.Fatal(key, b.news[key])
			}
		}
		for key := range b.sent {
			if _, open := b.open[key]; !open && b.news[key] != 1 {
				t.Fatal(key, b.news[key])
			}
		}
	}
	if full == 0 {
		t.Error("there was room always")
	}
}

// Promise 12 for this chapter: the edges in every field, and long lists.
func TestLinksAnswerAtAnyArguments(t *testing.T) {
	m := newMaker(66)
	for range 12 {
		for _, l := range changedLinks(m.link(1)) {
			wantSend(t, l, m.msgAmong(max(0, min(l.Id, 30)), len(l.Seen)))
			wantTake(t, l, m.packTo(impl.Link{Id: max(0, min(l.Id, 30)), Seen: l.Seen}))
		}
	}
	for range 40 {
		l := m.link(1)
		for _, a := range linkNumbers(l) {
			for _, b := range linkNumbers(l) {
				wantAck(t, l, a, b)
				wantSend(t, l, fishMsg(a, b))
				wantTake(t, l, dataOf(fishMsg(a, b), l.Seen[0].Low%999999+1, 1))
				wantTake(t, l, dataOf(fishMsg(0, l.Id), a, b))
			}
		}
	}
	const many = 1 << 20
	wide := impl.Link{Next: 999999, Seen: slices.Repeat([]impl.Seen{{Low: 1}}, many)}
	long := newLink(t, 0, 2)
	long.Next, long.Out = 999999, slices.Repeat([]impl.Sent{sentOf(1, fishMsg(0, 1))}, many)
	deep := newLink(t, 0, 2)
	deep.Seen[1].Ids = fromOn(1, many)
	big := newLink(t, 0, 2)
	big.Next, big.Out = 2, []impl.Sent{{Seq: 1, To: 1, Body: strings.Repeat("\x00", 8*many)}}
	for _, l := range []impl.Link{wide, long, deep, big} {
		if impl.LinkOk(l) || len(impl.LinkAgain(l)) != 0 {
			t.Error("a long link is right")
		}
		wantSend(t, l, fishMsg(0, 1))
		wantAck(t, l, 1, 1)
		wantTake(t, l, dataOf(fishMsg(1, 0), 2, 2))
	}
	for _, l := range []impl.Link{{}, newLink(t, 0, 2)} {
		wantTake(t, l, impl.Pack{From: 1, Seq: 1, Low: 1, Body: strings.Repeat("\x01", 8*many)})
		wantSend(t, l, workMsg(0, 1, 2, thunk(3, make([]int, many)...)))
	}
}

// roomyLink is the same one, with other things in the room behind each list.
func roomyLink(l impl.Link) impl.Link {
	k := copyLink(l)
	k.Out = append(k.Out, impl.Sent{Seq: -7, To: -7, Body: "spare"}, impl.Sent{Seq: -8})[:len(l.Out)]
	k.Seen = append(k.Seen, impl.Seen{Low: -7, Ids: []int{-7}}, impl.Seen{Low: -8})[:len(l.Seen)]
	for i, s := range k.Seen {
		k.Seen[i].Ids = append(slices.Clone(s.Ids), -7, -8)[:len(s.Ids)]
	}
	return k
}

// wholeLink has the room behind each list too.
func wholeLink(l impl.Link) impl.Link {
	l.Out = l.Out[:cap(l.Out)]
	l.Seen = slices.Clone(l.Seen[:cap(l.Seen)])
	for i, s := range l.Seen {
		l.Seen[i].Ids = s.Ids[:cap(s.Ids)]
	}
	return copyLink(l)
}

// spoilLink writes over all that a link has, the spare room too.
func spoilLink(l impl.Link) {
	out, seen := l.Out[:cap(l.Out)], l.Seen[:cap(l.Seen)]
	for i := range out {
		out[i] = impl.Sent{Seq: -9, To: -9, Body: "spoilt"}
	}
	for i := range seen {
		spoilInts(seen[i].Ids)
		seen[i] = impl.Seen{Low: -9}
	}
}

// linkCalls has what each function that answers a link makes of one.
func linkCalls(m *maker, l impl.Link) map[string]func() impl.Link {
	msg := m.msgAmong(max(0, min(l.Id, 30)), len(l.Seen))
	p := m.packTo(impl.Link{Id: max(0, min(l.Id, 30)), Seen: append(l.Seen[:len(l.Seen):len(l.Seen)], impl.Seen{Low: 1})})
	from, seq := -1, -1
	if len(l.Out) > 0 {
		s := l.Out[m.IntN(len(l.Out))]
		from, seq = s.To, s.Seq
	}
	return map[string]func() impl.Link{
		"send":    func() impl.Link { after, _, _ := impl.LinkSend(l, msg); return after },
		"ack":     func() impl.Link { return impl.LinkAck(l, from, seq) },
		"ack not": func() impl.Link { return impl.LinkAck(l, -1, seq) },
		"take":    func() impl.Link { after, _, _ := impl.LinkTake(l, p); return after },
	}
}

// Promise 12 for this chapter: nothing is written into an argument, nor into
// the room behind it, and answers share no memory with one.
func TestLinksLeaveArgumentsAlone(t *testing.T) {
	m := newMaker(67)
	for i := range 600 {
		l := m.link(1)
		if i%3 == 0 {
			all := changedLinks(l)
			l = all[m.IntN(len(all))]
		}
		room := roomyLink(l)
		kept := wholeLink(room)
		asked := func(name string) {
			t.Helper()
			if !sameLink(wholeLink(room), kept) {
				t.Fatalf("%s: %s became %s", name, linkText(kept), linkText(wholeLink(room)))
			}
		}
		impl.LinkOk(room)
		again := impl.LinkAgain(room)
		for i := range again {
			again[i] = "spoilt"
		}
		asked("again")
		for name, call := range linkCalls(m, room) {
			first := call()
			asked(name)
			want := copyLink(first)
			second := call()
			spoilLink(first)
			asked(name + ", spoilt")
			if !sameLink(second, want) {
				t.Fatalf("%s: two answers share memory", name)
			}
			// Nor do two lists of one answer.
			for at := range second.Seen {
				spoilInts(second.Seen[at].Ids)
				want.Seen[at].Ids = slices.Repeat([]int{-9}, len(want.Seen[at].Ids))
				if !sameLink(second, want) {
					t.Fatalf("%s: the Ids of %d are another's too", name, at)
				}
			}
		}
	}
	first, second := newLink(t, 1, 3), newLink(t, 1, 3)
	spoilLink(first)
	wantLinkOk(t, true, second)
	one, other := append(second.Seen[0].Ids, 5), append(second.Seen[1].Ids, 6)
	if one[0] != 5 || other[0] != 6 {
		t.Error("two lists of a new link share their room")
	}
}

func TestLinkTextsShareNoMemory(t *testing.T) {
	bodies := [][]byte{[]byte(msgBytes(workMsg(1, 2, 3, thunk(4, 5, 6)))), []byte(msgBytes(giveMsg(1, 0, 3, pairOf(4, 5))))}
	l := newLink(t, 1, 3)
	l.Next, l.Out = 9, []impl.Sent{{Seq: 5, To: 2, Body: textOf(bodies[0])}, {Seq: 6, To: 0, Body: textOf(bodies[1])}}
	wrong := l
	wrong.Next = 0
	sent := []byte(msgBytes(fishMsg(2, 1)))
	p := impl.Pack{From: 2, To: 1, Seq: 4, Low: 2, Body: textOf(sent)}
	var got, want []impl.Link
	add := func(l impl.Link) {
		got, want = append(got, l), append(want, copyLink(l))
		for i, s := range l.Out {
			want[len(want)-1].Out[i].Body = strings.Clone(s.Body)
		}
	}
	for _, l := range []impl.Link{l, wrong} {
		for _, m := range []impl.Msg{fishMsg(1, 2), {}} {
			after, _, _ := impl.LinkSend(l, m)
			add(after)
		}
		for _, p := range []impl.Pack{p, {}} {
			after, _, _ := impl.LinkTake(l, p)
			add(after)
		}
		add(impl.LinkAck(l, 2, 5))
		add(impl.LinkAck(l, 2, 6))
	}
	after, bytes, _ := impl.LinkSend(l, fishMsg(1, 2))
	again := impl.LinkAgain(l)
	wantBytes, wantAgain := strings.Clone(bytes), []string{strings.Clone(again[0]), strings.Clone(again[1])}
	add(after)
	for _, list := range append(bodies, sent) {
		for i := range list {
			list[i] = '#'
		}
	}
	for i := range got {
		wantLink(t, got[i], want[i])
	}
	if bytes != wantBytes || !slices.Equal(again, wantAgain) {
		t.Errorf("what was sent became %x and %x", bytes, again)
	}
}

// Nothing is kept from one call to another, nor shared by calls at one time.
func TestLinksAtOneTime(t *testing.T) {
	m := newMaker(68)
	var links []impl.Link
	var packs []impl.Pack
	var msgs []impl.Msg
	for range 100 {
		l := m.link(2)
		links, packs, msgs = append(links, l), append(packs, m.packTo(l)), append(msgs, m.msgAmong(l.Id, len(l.Seen)))
	}
	var wait sync.WaitGroup
	for range 8 {
		wait.Go(func() {
			for i, l := range links {
				taken, fresh, due := impl.LinkTake(l, packs[i])
				wantTaken, wantFresh, wantDue := plainTake(l, packs[i])
				sent, bytes, ok := impl.LinkSend(l, msgs[i])
				wantSent, wantBytes, wantOk := plainSend(l, msgs[i])
				same := sameLink(taken, wantTaken) && fresh == wantFresh && due == wantDue
				same = same && sameLink(sent, wantSent) && bytes == wantBytes && ok == wantOk
				if !same || !slices.Equal(impl.LinkAgain(l), plainAgain(l)) || !impl.LinkOk(l) {
					t.Error(linkText(l))
				}
			}
		})
	}
	wait.Wait()
}
