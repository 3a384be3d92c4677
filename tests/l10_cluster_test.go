package tests

import (
	"fmt"
	"math"
	"reflect"
	"slices"
	"strings"
	"sync"
	"testing"

	"loop.example/g00303/impl"
)

// lending is the program of most clusters here: its work can be shared once it
// has taken four steps. Code 5 is (f 4), which wants itself in scope.
const lending = "f = \\x . x + 1; main = let y = f 4 in par y in y : 3;"

// pingPong takes some hundred rounds on two nodes, once the second one has
// fished for some of it.
const pingPong = "map = \\f l . case l of [] -> [] | h : t -> let y = f h in par y in let r = map f t in par r in y : r; from = \\a b . if b < a then [] else a : from (a + 1) b; main = map (\\x . x * x) (from 1 40);"

func runEvent(at int, n int, much int) impl.Event {
	return impl.Event{Kind: impl.EvRun, At: at, N: n, Much: much}
}

func fishEvent(at int, n int) impl.Event { return impl.Event{Kind: impl.EvFish, At: at, N: n} }

func event(kind int, at int) impl.Event { return impl.Event{Kind: kind, At: at} }

func newCluster(t *testing.T, text string, nodes int) impl.Cluster {
	t.Helper()
	c, ok := impl.ClusterNew(wantProgram(t, text), nodes)
	if !ok || !impl.ClusterOk(c) {
		t.Fatal(text, nodes)
	}
	return c
}

func wantCluster(t *testing.T, got impl.Cluster, want impl.Cluster) {
	t.Helper()
	if !sameCluster(got, want) {
		t.Fatalf("%s\nwant\n%s", brief(got), brief(want))
	}
}

func wantClusterOk(t *testing.T, right bool, c impl.Cluster) {
	t.Helper()
	if plainClusterOk(c) != right {
		t.Fatalf("the oracle tells %s: %t", brief(c), !right)
	}
	if impl.ClusterOk(c) != right {
		t.Fatalf("ClusterOk(%s) = %t", brief(c), !right)
	}
}

// wantDo asks for what the oracle tells of an event.
func wantDo(t *testing.T, c impl.Cluster, e impl.Event) impl.Cluster {
	t.Helper()
	kept := copyCluster(c)
	after, want := impl.ClusterDo(c, e), plainDo(c, e)
	if !sameCluster(after, want) {
		t.Fatalf("ClusterDo(%s, %v) = %s; want %s", brief(c), e, brief(after), brief(want))
	}
	wantCluster(t, c, kept)
	return after
}

// wantNoEvent asks that an event changes nothing.
func wantNoEvent(t *testing.T, c impl.Cluster, e impl.Event) {
	t.Helper()
	if after := wantDo(t, c, e); !sameCluster(after, c) {
		t.Fatalf("ClusterDo(%s, %v) = %s", brief(c), e, brief(after))
	}
}

// wantTold asks what is told of a cluster, by the oracle and by a text.
func wantTold(t *testing.T, c impl.Cluster, want string) {
	t.Helper()
	if got := impl.ClusterText(c); got != want || got != plainClusterText(c) {
		t.Errorf("ClusterText(%s) = %q; want %q", brief(c), got, want)
	}
}

func wantPrinted(t *testing.T, c impl.Cluster, text string, told bool) {
	t.Helper()
	if got, ok := impl.Printed(c); got != text || ok != told {
		t.Errorf("Printed(%s) = %q, %t; want %q, %t", brief(c), got, ok, text, told)
	}
}

func TestKindsOfEvents(t *testing.T) {
	kinds := []int{impl.EvRun, impl.EvSend, impl.EvTick, impl.EvDeliver, impl.EvDrop, impl.EvTwice, impl.EvCut, impl.EvClear, impl.EvFish}
	if !slices.Equal(kinds, upTo(9)) || impl.MaxNet != 300 {
		t.Error(kinds, impl.MaxNet)
	}
}

func TestClusterNew(t *testing.T) {
	for _, text := range []string{
		"main = 1;", lending, pingPong, "main = 1; x = 2; y = 3;", "x = 1; main = x; y = 3;", strings.Replace(manyDefinitions(30), "d29", "main", 1),
	} {
		p := wantProgram(t, text)
		main := slices.Index(p.Names, "main")
		for _, nodes := range []int{math.MinInt, -6, -1, 0, 1, 2, 3, 4, 5, 6, 7, 8, 30, 31, 32, 1 << 32, math.MaxInt} {
			c, ok := impl.ClusterNew(p, nodes)
			if ok != (nodes >= 1 && nodes <= 6) {
				t.Fatalf("%q, %d nodes: %t", text, nodes, ok)
			}
			var want impl.Cluster
			for id := 0; ok && id < nodes; id++ {
				peer := newPeer(t, text, id, nodes)
				if id == 0 {
					peer.Machine.Threads = []impl.Thread{with(enters(main), showFrame())}
				}
				want.Peers = append(want.Peers, peer)
			}
			wantCluster(t, c, want)
			wantClusterOk(t, ok, c)
			wantPrinted(t, c, "", false)
		}
	}
}

func TestClusterNewOfWrongPrograms(t *testing.T) {
	one := num(1)
	for i, p := range []impl.Program{
		{}, wantProgram(t, "x = 1;"), wantProgram(t, "mai = 1; main1 = 2; m = 3; amain = 4;"), wantProgram(t, manyDefinitions(30)),
		{Names: []string{"main"}}, {Bodies: []impl.Exp{one}}, {Names: []string{"main", "x"}, Bodies: []impl.Exp{one}}, {Names: []string{"main"}, Bodies: []impl.Exp{one, one}},
		{Names: []string{"main", "main"}, Bodies: []impl.Exp{one, one}}, {Names: []string{"main", "X"}, Bodies: []impl.Exp{one, one}}, {Names: []string{"main", ""}, Bodies: []impl.Exp{one, one}},
		{Names: []string{"main"}, Bodies: []impl.Exp{expN(impl.ExVar, 0)}}, {Names: []string{"main"}, Bodies: []impl.Exp{expN(impl.ExTop, 1)}}, {Names: []string{"main"}, Bodies: []impl.Exp{num(-1)}},
		{Names: []string{"main"}, Bodies: []impl.Exp{exp(12)}}, {Names: []string{"main"}, Bodies: []impl.Exp{exp(impl.ExApp, one)}}, {Names: []string{"main", "x"}, Bodies: []impl.Exp{one, exp(-1)}},
	} {
		for _, nodes := range []int{-1, 0, 1, 2, 6, 7} {
			if c, ok := impl.ClusterNew(p, nodes); ok || !sameCluster(c, impl.Cluster{}) {
				t.Errorf("%d: ClusterNew(%v, %d) = %s, %t", i, p, nodes, brief(c), ok)
			}
		}
	}
	if _, ok := impl.ClusterNew(impl.Program{Names: []string{"main"}, Bodies: []impl.Exp{one}}, 1); !ok {
		t.Error("a right one")
	}
}

// What is told and printed of each event, one behind the other: node 2 fishes
// for work of node 0 over a net that loses, doubles, turns around and cuts.
func TestEventsWrittenOut(t *testing.T) {
	c := newCluster(t, lending, 3)
	for i, step := range []struct {
		event impl.Event
		first string
		last  string
		net   string
	}{
		{runEvent(0, 0, 4), "5 1 1 1 0 0", "2 0 0 0 0 0", ""},
		{fishEvent(2, 0), "5 1 1 1 0 0", "2 0 0 0 0 0", ""},
		{event(impl.EvSend, 2), "5 1 1 1 0 0", "2 0 0 0 0 1", "1/1 fish 2 > 0"},
		{event(impl.EvSend, 2), "5 1 1 1 0 0", "2 0 0 0 0 1", "1/1 fish 2 > 0"},
		{event(impl.EvTick, 2), "5 1 1 1 0 0", "2 0 0 0 0 1", "1/1 fish 2 > 0, 1/1 fish 2 > 0"},
		{event(impl.EvDrop, 0), "5 1 1 1 0 0", "2 0 0 0 0 1", "1/1 fish 2 > 0"},
		{event(impl.EvTwice, 0), "5 1 1 1 0 0", "2 0 0 0 0 1", "1/1 fish 2 > 0, 1/1 fish 2 > 0"},
		{event(impl.EvDeliver, 0), "5 1 1 0 1 0", "2 0 0 0 0 1", "1/1 fish 2 > 0, ack 0 > 2 1"},
		{event(impl.EvDeliver, 0), "5 1 1 0 1 0", "2 0 0 0 0 1", "ack 0 > 2 1, ack 0 > 2 1"},
		{runEvent(0, 0, 50), "5 1 1 0 1 0", "2 0 0 0 0 1", "ack 0 > 2 1, ack 0 > 2 1"},
		{event(impl.EvSend, 0), "5 1 1 0 1 1", "2 0 0 0 0 1", "ack 0 > 2 1, ack 0 > 2 1, 1/1 work 0 > 2 0 t 0 5 0"},
		{event(impl.EvCut, 2), "5 1 1 0 1 1", "2 0 0 0 0 1", "ack 0 > 2 1, ack 0 > 2 1, ?"},
		{event(impl.EvDeliver, 1), "5 1 1 0 1 1", "2 0 0 0 0 0", "ack 0 > 2 1, ?"},
		{event(impl.EvDeliver, 1), "5 1 1 0 1 1", "2 0 0 0 0 0", "ack 0 > 2 1"},
		{event(impl.EvDeliver, 0), "5 1 1 0 1 1", "2 0 0 0 0 0", ""},
		{event(impl.EvTick, 2), "5 1 1 0 1 1", "2 0 0 0 0 0", ""},
		{event(impl.EvTick, 0), "5 1 1 0 1 1", "2 0 0 0 0 0", "1/1 work 0 > 2 0 t 0 5 0"},
		{event(impl.EvDeliver, 0), "5 1 1 0 1 1", "3 1 1 0 0 0", "ack 2 > 0 1"},
		{runEvent(2, 0, 2), "5 1 1 0 1 1", "4 1 1 0 0 0", "ack 2 > 0 1"},
		{event(impl.EvClear, 0), "4 1 1 0 1 1", "4 1 1 0 0 0", "ack 2 > 0 1"},
		{event(impl.EvClear, 2), "4 1 1 0 1 1", "4 1 1 0 0 0", "ack 2 > 0 1"},
		{runEvent(2, 0, 50), "4 1 1 0 1 1", "8 1 0 0 0 0", "ack 2 > 0 1"},
		{event(impl.EvClear, 2), "4 1 1 0 1 1", "2 1 0 0 0 0", "ack 2 > 0 1"},
		{event(impl.EvSend, 2), "4 1 1 0 1 1", "2 1 0 0 0 1", "ack 2 > 0 1, 2/2 give 2 > 0 0 i 5 0"},
		{event(impl.EvDeliver, 1), "4 1 1 0 1 1", "2 1 0 0 0 1", "ack 2 > 0 1, ack 0 > 2 2"},
		{event(impl.EvDeliver, 0), "4 1 1 0 1 0", "2 1 0 0 0 1", "ack 0 > 2 2"},
		{runEvent(0, 0, 100), "5 1 0 0 1 0", "2 1 0 0 0 1", "ack 0 > 2 2"},
	} {
		wantPrinted(t, c, "", false)
		c = wantDo(t, c, step.event)
		wantClusterOk(t, true, c)
		if got := netText(c); got != step.net {
			t.Fatalf("%d, %v: the net has %s; want %s", i, step.event, got, step.net)
		}
		wantTold(t, c, fmt.Sprintf("%s\n2 0 0 0 0 0\n%s\nnet %d\n", step.first, step.last, len(c.Net)))
	}
	wantPrinted(t, c, "(5:3)", true)
	if got := machineText(c.Peers[0].Machine); got != "done out (5:3) | t.0.0 c.0.0.2.3 i.5.0 d.0.0.4 i.3.0 | names [2]" {
		t.Error(got)
	}
	// Printed is printed: nothing more is done, until somebody does it.
	wantCluster(t, impl.Calm(c, 200), c)
	c = wantDo(t, c, event(impl.EvDeliver, 0))
	wantTold(t, c, "5 1 0 0 1 0\n2 0 0 0 0 0\n2 1 0 0 0 0\nnet 0\n")
}

// busyCluster has something for each event to do.
func busyCluster(t *testing.T, nodes int) impl.Cluster {
	t.Helper()
	c := newCluster(t, lending, nodes)
	c = impl.ClusterDo(c, runEvent(0, 0, 4))
	for id := 1; id < nodes; id++ {
		c = impl.ClusterRun(c, []impl.Event{fishEvent(id, 0), event(impl.EvSend, id), fishEvent(id, 0)})
		c.Peers[id].Machine = impl.Show(c.Peers[id].Machine, 1)
	}
	wantClusterOk(t, true, c)
	return c
}

func TestEventsOfNoKind(t *testing.T) {
	c := busyCluster(t, 3)
	for _, kind := range []int{math.MinInt, -1 << 32, -9, -2, -1, 9, 10, 11, 300, 1 << 32, math.MaxInt} {
		for _, at := range []int{-1, 0, 1, 2, 3} {
			wantNoEvent(t, c, impl.Event{Kind: kind, At: at, N: 1, Much: 5})
			wantNoEvent(t, c, impl.Event{Kind: kind, At: at, Much: 5})
			wantNoEvent(t, impl.Cluster{}, impl.Event{Kind: kind, At: at, Much: 5})
		}
	}
	// Each kind there is does something, and what it has no use for is nothing to
	// it.
	for kind := range 9 {
		at := 0
		if kind == impl.EvSend || kind == impl.EvTick || kind == impl.EvFish {
			at = 1
		}
		after := wantDo(t, c, impl.Event{Kind: kind, At: at, Much: 5})
		if sameCluster(after, c) != (kind == impl.EvClear) {
			t.Errorf("kind %d: %s", kind, clusterText(after))
		}
		if kind != impl.EvRun && kind != impl.EvFish {
			for _, n := range []int{-1, 2, 7, math.MaxInt} {
				wantCluster(t, wantDo(t, c, impl.Event{Kind: kind, At: at, N: n, Much: n}), after)
			}
		}
	}
	// The zero event is a run of no step.
	wantNoEvent(t, c, impl.Event{})
	wantNoEvent(t, impl.Cluster{}, impl.Event{})
}

func TestEventsOfNodesThatThereAreNot(t *testing.T) {
	for _, nodes := range []int{1, 2, 3, 6} {
		c := busyCluster(t, nodes)
		for _, kind := range []int{impl.EvRun, impl.EvSend, impl.EvTick, impl.EvClear, impl.EvFish} {
			for _, at := range []int{math.MinInt, -nodes, -2, -1, nodes, nodes + 1, 31, math.MaxInt} {
				wantNoEvent(t, c, impl.Event{Kind: kind, At: at, Much: 5})
				wantNoEvent(t, c, impl.Event{Kind: kind, At: at, N: nodes - 1, Much: 5})
			}
			// The last one is there.
			last := nodes - 1
			c.Peers[last].Machine.Heap = append(c.Peers[last].Machine.Heap, intCell(99))
			after := wantDo(t, c, impl.Event{Kind: kind, At: last, Much: 5})
			if nodes > 1 && sameCluster(after, c) {
				t.Errorf("nothing came of %d at the last one of %d", kind, nodes)
			}
		}
	}
}

func TestRunEvents(t *testing.T) {
	c := newCluster(t, "l = \\n . l (n + 1); main = 1 : 2 : l 3;", 2)
	c.Peers[1].Machine = impl.Show(impl.Show(c.Peers[1].Machine, 1), 0)
	for _, much := range []int{math.MinInt, -100000, -2, -1, 0, 1, 2, 3, 20, 99999, 100000, 100001, 1 << 32, math.MaxInt} {
		for at := range 2 {
			for _, n := range []int{math.MinInt, -2, -1, 0, 1, 2, 3, 60, math.MaxInt} {
				e := runEvent(at, n, much)
				after := wantDo(t, c, e)
				right := much >= 0 && much <= 100000 && n >= 0 && n <= at
				if sameCluster(after, c) != (!right || much == 0) {
					t.Errorf("%v: %s", e, clusterText(after))
				}
				want := copyCluster(c)
				want.Peers[at].Machine = impl.Run(c.Peers[at].Machine, n, much)
				wantCluster(t, after, want)
			}
		}
	}
	if after := impl.ClusterDo(c, runEvent(0, 0, 100000)); len(after.Peers[0].Machine.Heap) < 2990 {
		t.Error(impl.ClusterText(after))
	}
	// Of a thread that has ended, and of one that waits.
	c = newCluster(t, "main = let x = x in x;", 1)
	c = wantDo(t, c, runEvent(0, 0, 100))
	wantNoEvent(t, c, runEvent(0, 0, 100))
	c = newCluster(t, "main = 5;", 1)
	c = wantDo(t, c, runEvent(0, 0, 100))
	wantPrinted(t, c, "5", true)
	wantNoEvent(t, c, runEvent(0, 0, 100))
}

func TestSendAndTickEvents(t *testing.T) {
	c := newCluster(t, lending, 4)
	c.Peers[1].Machine.Say = []impl.Msg{fishMsg(0, 0), fetchMsg(0, 2, 4, 5), fishMsg(0, 0), fishMsg(0, 3)}
	c.Net = []string{"ahead"}
	wantNoEvent(t, c, event(impl.EvTick, 1))
	wantNoEvent(t, c, event(impl.EvSend, 0))
	after := wantDo(t, c, event(impl.EvSend, 1))
	told := "?, 1/1 fish 1 > 0, 2/2 fetch 1 > 2 4 5, 3/1 fish 1 > 0, 4/4 fish 1 > 3"
	if netText(after) != told || len(after.Peers[1].Machine.Say) != 0 || len(after.Peers[1].Link.Out) != 4 {
		t.Error(clusterText(after))
	}
	wantNoEvent(t, after, event(impl.EvSend, 1))
	wantNoEvent(t, after, event(impl.EvTick, 2))
	for range 3 {
		after = wantDo(t, after, event(impl.EvTick, 1))
		told += ", 1/1 fish 1 > 0, 2/2 fetch 1 > 2 4 5, 3/1 fish 1 > 0, 4/4 fish 1 > 3"
		if netText(after) != told {
			t.Error(netText(after))
		}
	}
	wantClusterOk(t, true, after)
	// As many as a link sends: what is left stays.
	c.Peers[2].Machine.Say = slices.Repeat([]impl.Msg{fishMsg(0, 3)}, 65)
	after = wantDo(t, c, event(impl.EvSend, 2))
	if len(after.Net) != 61 || len(after.Peers[2].Machine.Say) != 5 || len(after.Peers[2].Link.Out) != 60 {
		t.Error(clusterText(after))
	}
	after = wantDo(t, after, event(impl.EvSend, 2))
	if len(after.Net) != 61 {
		t.Error(clusterText(after))
	}
}

// A net that has as many packs as it may have, or nearly: what has no room is
// lost, and nothing else.
func TestNetsThatAreFull(t *testing.T) {
	c := newCluster(t, lending, 2)
	c.Peers[1].Machine.Say = []impl.Msg{fishMsg(0, 0), fishMsg(0, 0), fishMsg(0, 0)}
	packs := wantDo(t, c, event(impl.EvSend, 1)).Net
	for _, count := range []int{0, 1, 296, 297, 298, 299, 300, 301, 302, 1000} {
		full := copyCluster(c)
		for i := range count {
			full.Net = append(full.Net, fmt.Sprint("pack ", i))
		}
		wantClusterOk(t, count <= 300, full)
		lost := func(after impl.Cluster, before []string, more []string) {
			t.Helper()
			room := min(len(more), max(0, 300-len(before)))
			if !slices.Equal(after.Net, slices.Concat(before, more[:room])) {
				t.Errorf("%d packs: then %d", count, len(after.Net))
			}
		}
		sent := wantDo(t, full, event(impl.EvSend, 1))
		lost(sent, full.Net, packs)
		// What is lost was sent all the same.
		if len(sent.Peers[1].Machine.Say) != 0 || len(sent.Peers[1].Link.Out) != 3 {
			t.Error(count, clusterText(sent))
		}
		again := copyCluster(sent)
		again.Net = full.Net
		ticked := wantDo(t, again, event(impl.EvTick, 1))
		lost(ticked, full.Net, packs)
		wantCluster(t, impl.Cluster{Peers: ticked.Peers}, impl.Cluster{Peers: again.Peers})
		if count == 0 {
			continue
		}
		for _, at := range []int{0, count / 2, count - 1} {
			lost(wantDo(t, full, event(impl.EvTwice, at)), full.Net, full.Net[at:at+1])
		}
		// An acknowledgement has the room of what it is of.
		for _, at := range []int{0, count / 2, count - 1} {
			got := copyCluster(sent)
			got.Net = slices.Clone(full.Net)
			got.Net[at] = packs[1]
			rest := slices.Delete(slices.Clone(full.Net), at, at+1)
			after := wantDo(t, got, event(impl.EvDeliver, at))
			lost(after, rest, []string{packBytes(ack(0, 1, 2))})
			if ids := after.Peers[0].Link.Seen[1].Ids; !slices.Equal(ids, []int{2}) {
				t.Error(count, "taken", ids)
			}
			// And that of what came again.
			after.Net = slices.Clone(got.Net)
			lost(wantDo(t, after, event(impl.EvDeliver, at)), rest, []string{packBytes(ack(0, 1, 2))})
		}
	}
}

func TestEventsOfPacks(t *testing.T) {
	c := newCluster(t, lending, 2)
	c.Net = []string{"first", packBytes(dataOf(fishMsg(1, 0), 1, 1)), "", "last"}
	for _, kind := range []int{impl.EvDeliver, impl.EvDrop, impl.EvTwice, impl.EvCut} {
		for _, at := range []int{math.MinInt, -4, -2, -1, 4, 5, 299, 300, math.MaxInt} {
			wantNoEvent(t, c, event(kind, at))
		}
		wantNoEvent(t, newCluster(t, lending, 2), event(kind, 0))
	}
	for at := range c.Net {
		net := func(after impl.Cluster, want ...string) {
			t.Helper()
			if !slices.Equal(after.Net, want) {
				t.Errorf("%d: %q", at, after.Net)
			}
			wantCluster(t, impl.Cluster{Peers: after.Peers}, impl.Cluster{Peers: c.Peers})
		}
		net(wantDo(t, c, event(impl.EvDrop, at)), slices.Delete(slices.Clone(c.Net), at, at+1)...)
		net(wantDo(t, c, event(impl.EvTwice, at)), append(slices.Clone(c.Net), c.Net[at])...)
		cut := slices.Clone(c.Net)
		cut[at] = cut[at][:max(0, len(cut[at])-1)]
		net(wantDo(t, c, event(impl.EvCut, at)), cut...)
		if at != 1 {
			net(wantDo(t, c, event(impl.EvDeliver, at)), slices.Delete(slices.Clone(c.Net), at, at+1)...)
		}
	}
	// Cut byte by byte, until it has none, and then.
	c.Net = []string{"ab", "c"}
	for _, want := range []string{"a", "", "", ""} {
		c = wantDo(t, c, event(impl.EvCut, 0))
		if c.Net[0] != want || c.Net[1] != "c" {
			t.Errorf("%q", c.Net)
		}
	}
	// All that were doubled are those that are there.
	c.Net = []string{"a", "b"}
	for range 3 {
		c = wantDo(t, c, event(impl.EvTwice, 1))
	}
	if !slices.Equal(c.Net, []string{"a", "b", "b", "b", "b"}) {
		t.Errorf("%q", c.Net)
	}
}

// delivered is what comes of one pack alone.
func delivered(t *testing.T, c impl.Cluster, bytes string) impl.Cluster {
	t.Helper()
	c = copyCluster(c)
	c.Net = []string{bytes}
	return wantDo(t, c, event(impl.EvDeliver, 0))
}

// wantGone asks that nothing comes of a pack but that it goes.
func wantGone(t *testing.T, c impl.Cluster, bytes string) {
	t.Helper()
	c = copyCluster(c)
	c.Net = nil
	wantCluster(t, delivered(t, c, bytes), c)
}

func TestDeliverWhatIsNone(t *testing.T) {
	c := busyCluster(t, 3)
	right := packBytes(dataOf(fishMsg(1, 0), 1, 1))
	if after := delivered(t, c, right); len(after.Net) != 1 {
		t.Fatal(clusterText(after))
	}
	for at := range right {
		wantGone(t, c, right[:at])
		other := []byte(right)
		other[at] ^= 64
		// The sum is of the message alone: a number of the pack may be another one.
		if _, ok := plainGetPack(string(other)); !ok {
			wantGone(t, c, string(other))
		}
	}
	for _, bytes := range []string{"", "x", right + "x", right + right, right[1:], "\x00" + right} {
		wantGone(t, c, bytes)
	}
	for _, p := range changedPacks(dataOf(fishMsg(1, 0), 1, 1)) {
		if !plainPackOk(p) {
			wantGone(t, c, packBytes(p))
		}
	}
}

// Packs to nodes that there are not, or of such; a node that is alone.
func TestDeliverWhereThereIsNoNode(t *testing.T) {
	for _, nodes := range []int{1, 2, 3, 6} {
		c := busyCluster(t, nodes)
		for _, other := range []int{nodes, nodes + 1, 30} {
			for node := range nodes {
				for _, p := range []impl.Pack{dataOf(fishMsg(node, other), 1, 1), ack(node, other, 1), ack(other, node, 1), dataOf(fishMsg(other, node), 1, 1)} {
					wantGone(t, c, packBytes(p))
				}
			}
			wantGone(t, c, packBytes(ack(other, other-1, 1)))
			wantGone(t, c, packBytes(dataOf(fishMsg(other, 29), 1, 1)))
		}
	}
	alone := newCluster(t, lending, 1)
	for _, p := range eachPack() {
		wantGone(t, alone, packBytes(p))
	}
	for _, e := range []impl.Event{event(impl.EvSend, 0), event(impl.EvTick, 0), event(impl.EvClear, 0), fishEvent(0, 0), fishEvent(0, 1), fishEvent(0, -1), fishEvent(1, 0)} {
		wantNoEvent(t, alone, e)
	}
}

func TestDeliverAcknowledgements(t *testing.T) {
	c := newCluster(t, lending, 3)
	c.Peers[1].Machine.Say = []impl.Msg{fishMsg(0, 0), fishMsg(0, 2), fishMsg(0, 0)}
	c = wantDo(t, c, event(impl.EvSend, 1))
	seqs := func(c impl.Cluster) []int {
		var list []int
		for _, s := range c.Peers[1].Link.Out {
			list = append(list, s.Seq)
		}
		return list
	}
	for _, step := range []struct {
		from, seq int
		want      []int
	}{{0, 1, []int{2, 3}}, {0, 3, []int{1, 2}}, {2, 2, []int{1, 3}}} {
		after := delivered(t, c, packBytes(ack(step.from, 1, step.seq)))
		if !slices.Equal(seqs(after), step.want) || len(after.Net) != 0 {
			t.Error(step, clusterText(after))
		}
		// Acknowledged once more: there is nothing any more.
		wantGone(t, after, packBytes(ack(step.from, 1, step.seq)))
	}
	// Of what was not sent, was sent to another one, or by another one.
	for _, p := range []impl.Pack{ack(0, 1, 2), ack(2, 1, 1), ack(2, 1, 3), ack(0, 1, 4), ack(2, 1, 999999), ack(1, 0, 1), ack(1, 2, 2), ack(2, 0, 1)} {
		wantGone(t, c, packBytes(p))
	}
	// With all of them acknowledged a tick tells nothing.
	for _, p := range []impl.Pack{ack(0, 1, 1), ack(2, 1, 2), ack(0, 1, 3)} {
		c = delivered(t, c, packBytes(p))
	}
	wantNoEvent(t, c, event(impl.EvTick, 1))
	if len(c.Peers[1].Link.Out) != 0 {
		t.Error(clusterText(c))
	}
}

func TestDeliverMessages(t *testing.T) {
	c := busyCluster(t, 3)
	c.Net = nil
	c.Peers[0].Machine.Names = []int{2}
	for _, step := range []struct {
		msg  impl.Msg
		want string
	}{
		{fishMsg(1, 0), "enter 4 show.0.0 upd.1.0 | t.0.0 h.0.0 h.0.0 t.0.12.2 c.0.0.2.3 | names [2] | say 3 0>1 0 0 t 0 5 0"},
		{fetchMsg(2, 0, 0, 7), "enter 4 show.0.0 upd.1.0 | enter 2 give.7.2 | t.0.0 h.0.0 t.0.5.2 t.0.12.2 c.0.0.2.3 | sparks [2] | names [2]"},
		{workMsg(1, 0, 3, thunk(5, 8)), "enter 4 show.0.0 upd.1.0 | eval 5 [5] give.3.1 | t.0.0 h.0.0 t.0.5.2 t.0.12.2 c.0.0.2.3 r.1.8 | sparks [2] | names [2]"},
		// These make nothing of the machine, but are heard.
		{giveMsg(2, 0, 0, intCell(7)), machineText(c.Peers[0].Machine)},
		{fetchMsg(2, 0, 1, 7), machineText(c.Peers[0].Machine)},
	} {
		bytes := packBytes(dataOf(step.msg, 4, 2))
		after := delivered(t, c, bytes)
		if got := machineText(after.Peers[0].Machine); got != step.want {
			t.Errorf("%v: %s", step.msg, got)
		}
		from := step.msg.From
		seen := impl.Seen{Low: 2, Ids: []int{4}}
		if !reflect.DeepEqual(after.Peers[0].Link.Seen[from], seen) || netText(after) != fmt.Sprintf("ack 0 > %d 4", from) {
			t.Errorf("%v: %s", step.msg, clusterText(after))
		}
		// Again: it is acknowledged, and nothing else; Low goes on.
		again := delivered(t, after, bytes)
		wantCluster(t, again, after)
		again = delivered(t, after, packBytes(dataOf(step.msg, 4, 3)))
		if got := again.Peers[0].Link.Seen[from]; got.Low != 3 || len(got.Ids) != 1 || !sameMachine(again.Peers[0].Machine, after.Peers[0].Machine) || len(again.Net) != 1 {
			t.Errorf("%v: %s", step.msg, clusterText(again))
		}
		// Below Low: likewise.
		again = delivered(t, after, packBytes(dataOf(step.msg, 1, 1)))
		if !sameMachine(again.Peers[0].Machine, after.Peers[0].Machine) || netText(again) != fmt.Sprintf("ack 0 > %d 1", from) {
			t.Errorf("%v: %s", step.msg, clusterText(again))
		}
		for id := 1; id < 3; id++ {
			wantPeer(t, after.Peers[id], c.Peers[id])
		}
	}
}

// A message that cannot be heard for want of room: nothing at all comes of it,
// so that it is new when it comes again.
func TestDeliverWithoutRoom(t *testing.T) {
	c := newCluster(t, lending, 3)
	roomy := copyCluster(c)
	roomy.Peers[1].Machine.Names = []int{0}
	fetch, fish := packBytes(dataOf(fetchMsg(0, 1, 0, 3), 5, 2)), packBytes(dataOf(fishMsg(0, 1), 6, 2))
	heard := func(c impl.Cluster, bytes string, want bool) impl.Cluster {
		t.Helper()
		if !want {
			wantGone(t, c, bytes)
			return c
		}
		after := delivered(t, c, bytes)
		if pack, _ := plainGetPack(bytes); len(after.Net) != 1 || !slices.Contains(after.Peers[1].Link.Seen[0].Ids, pack.Seq) {
			t.Errorf("%s", clusterText(after))
		}
		return after
	}
	for _, threads := range []int{58, 59, 60} {
		full := copyCluster(roomy)
		full.Peers[1].Machine.Threads = slices.Repeat([]impl.Thread{enters(1)}, threads)
		heard(full, fetch, threads < 60)
		heard(full, fish, true)
		// With room it is new.
		full.Peers[1].Machine.Threads[5].Do, full.Peers[1].Machine.Threads[5].At = impl.IsDone, 0
		heard(full, fetch, true)
	}
	for _, cells := range []int{2799, 2800, 2801, 3000} {
		full := copyCluster(roomy)
		full.Peers[1].Machine.Heap = append(full.Peers[1].Machine.Heap, make([]impl.Cell, cells-2)...)
		wantClusterOk(t, true, full)
		heard(full, fetch, cells <= 2800)
		heard(full, fish, cells <= 2800)
		// What came before is acknowledged all the same.
		if cells <= 2800 {
			full = heard(full, fetch, true)
			full.Peers[1].Machine.Heap = append(full.Peers[1].Machine.Heap, make([]impl.Cell, 3000-cells)...)
			heard(full, fetch, true)
		}
		// And with a heap that is cleared it is new.
		full = wantDo(t, full, event(impl.EvClear, 1))
		heard(full, fish, true)
	}
	// With sixty above Low: neither new nor to be acknowledged, and Low stays.
	full := copyCluster(roomy)
	full.Peers[1].Link.Seen[0] = impl.Seen{Low: 1, Ids: fromOn(10, 60)}
	wantClusterOk(t, true, full)
	for _, p := range []impl.Pack{dataOf(fishMsg(0, 1), 9, 1), dataOf(fishMsg(0, 1), 9, 5), dataOf(fishMsg(0, 1), 70, 10)} {
		wantGone(t, full, packBytes(p))
	}
	after := delivered(t, full, packBytes(dataOf(fishMsg(0, 1), 70, 11)))
	if got := after.Peers[1].Link.Seen[0]; got.Low != 11 || !slices.Equal(got.Ids, fromOn(11, 60)) || len(after.Net) != 1 {
		t.Error(clusterText(after))
	}
}

func TestClearEvents(t *testing.T) {
	c := busyCluster(t, 3)
	for id := range c.Peers {
		c.Peers[id].Machine.Heap = append(c.Peers[id].Machine.Heap, intCell(8), intCell(9))
	}
	for at := range c.Peers {
		after := wantDo(t, c, event(impl.EvClear, at))
		for id, p := range after.Peers {
			want := c.Peers[id]
			if id == at {
				want = impl.Clear(want)
			}
			wantPeer(t, p, want)
		}
		if len(after.Peers[at].Machine.Heap) != len(c.Peers[at].Machine.Heap)-2 || !slices.Equal(after.Net, c.Net) {
			t.Error(clusterText(after))
		}
		wantNoEvent(t, after, event(impl.EvClear, at))
	}
}

func TestFishEvents(t *testing.T) {
	for _, nodes := range []int{1, 2, 3, 6} {
		c := newCluster(t, lending, nodes)
		for _, at := range []int{-1, 0, 1, nodes - 1, nodes} {
			for _, n := range []int{math.MinInt, -2, -1, 0, 1, 2, nodes - 1, nodes, nodes + 1, 30, 31, math.MaxInt} {
				there := at >= 0 && at < nodes && n >= 0 && n < nodes && at != n
				after := wantDo(t, c, fishEvent(at, n))
				wantClusterOk(t, true, after)
				if sameCluster(after, c) == there {
					t.Errorf("%d of %d fishes at %d: %s", at, nodes, n, clusterText(after))
				}
				if there && !sameMsg(after.Peers[at].Machine.Say[0], impl.Msg{Kind: impl.MsgFish, To: n}) {
					t.Error(after.Peers[at].Machine.Say)
				}
			}
		}
	}
	for _, count := range []int{0, 1, 48, 49, 50, 51, 52, 1000} {
		c := newCluster(t, lending, 3)
		c.Peers[1].Machine.Say = slices.Repeat([]impl.Msg{fetchMsg(0, 2, 4, 5)}, count)
		after := wantDo(t, c, fishEvent(1, 0))
		say := after.Peers[1].Machine.Say
		if count < 50 && (len(say) != count+1 || !sameMsg(say[count], fishMsg(0, 0))) || count >= 50 && !sameCluster(after, c) {
			t.Errorf("behind %d: %d", count, len(say))
		}
	}
	c := newCluster(t, lending, 2)
	for range 60 {
		c = wantDo(t, c, fishEvent(1, 0))
	}
	if len(c.Peers[1].Machine.Say) != 50 {
		t.Error(clusterText(c))
	}
}

func TestClusterRunIsEventsOneByOne(t *testing.T) {
	k := newClusterMaker(80)
	programs := sharedPrograms(t)
	for round := range 60 {
		p := programs[round%len(programs)]
		c := begun(t, p, []int{1, 2, 3, 6}[k.IntN(4)])
		one := copyCluster(c)
		var list []impl.Event
		for range 120 {
			e := k.event(one)
			one = impl.ClusterDo(one, e)
			list = append(list, e)
		}
		kept := slices.Clone(list)
		wantCluster(t, impl.ClusterRun(c, list), one)
		half := impl.ClusterRun(c, list[:50])
		wantCluster(t, impl.ClusterRun(half, list[50:]), one)
		wantCluster(t, impl.ClusterRun(c, nil), c)
		if !slices.Equal(list, kept) {
			t.Fatal("the events became others")
		}
	}
}

func begun(t *testing.T, p impl.Program, nodes int) impl.Cluster {
	t.Helper()
	c, ok := impl.ClusterNew(p, nodes)
	if !ok {
		t.Fatal(p)
	}
	return c
}

func TestClusterRunHowManyEvents(t *testing.T) {
	c := newCluster(t, "main = \\x . 1;", 2)
	c.Peers[1].Machine.Heap = append(c.Peers[1].Machine.Heap, intCell(5))
	c.Net = []string{strings.Repeat("x", 1000)}
	for _, count := range []int{0, 1, 2, 499, 500, 501, 502, 10000} {
		list := slices.Repeat([]impl.Event{event(impl.EvCut, 0)}, count)
		after := impl.ClusterRun(c, list)
		want := 1000 - count
		if count > 500 {
			want = 1000
		}
		if len(after.Net) != 1 || len(after.Net[0]) != want {
			t.Errorf("%d events: %d bytes", count, len(after.Net[0]))
		}
		if count > 500 {
			wantCluster(t, after, c)
		}
		// None of them counts for less, and the last one is one of them.
		if count > 0 {
			list = make([]impl.Event, count)
			list[count-1] = event(impl.EvClear, 1)
			if after := impl.ClusterRun(c, list); sameCluster(after, c) != (count > 500) {
				t.Errorf("%d events: %s", count, clusterText(after))
			}
		}
	}
}

func TestClusterOkHowManyPeers(t *testing.T) {
	for nodes := range 9 {
		var c impl.Cluster
		for id := range nodes {
			c.Peers = append(c.Peers, newPeer(t, lending, id, nodes))
		}
		wantClusterOk(t, nodes >= 1 && nodes <= 6, c)
		if nodes > 0 {
			less := copyCluster(c)
			less.Peers = less.Peers[:nodes-1]
			wantClusterOk(t, false, less)
			less.Peers = append(less.Peers, newPeer(t, lending, nodes-1, nodes), newPeer(t, lending, nodes, nodes+1))
			wantClusterOk(t, false, less)
		}
	}
	wantClusterOk(t, false, impl.Cluster{})
	wantClusterOk(t, false, impl.Cluster{Peers: make([]impl.Peer, 1)})
	wantClusterOk(t, false, impl.Cluster{Peers: make([]impl.Peer, 6)})
	wantClusterOk(t, false, impl.Cluster{Peers: make([]impl.Peer, 100)})
	wantClusterOk(t, false, impl.Cluster{Net: []string{"a pack"}})
}

// Peers of another Id, of another number of nodes, of another Table; the net.
func TestClusterOkOfOtherPeers(t *testing.T) {
	for _, nodes := range []int{1, 2, 3, 6} {
		c := newCluster(t, lending, nodes)
		for at := range nodes {
			changed := func(right bool, p impl.Peer) {
				t.Helper()
				d := copyCluster(c)
				d.Peers[at] = p
				wantClusterOk(t, right, d)
			}
			for id := range 8 {
				for other := id + 1; other <= 8; other++ {
					changed(id == at && other == nodes, newPeer(t, lending, id, other))
				}
			}
			for _, text := range []string{"main = 1;", strings.Replace(lending, "4", "5", 1), strings.Replace(lending, "x +", "x -", 1), lending + " z = 1;", "f = \\x . x; main = 1;"} {
				changed(nodes == 1, newPeer(t, text, at, nodes))
			}
			// Names are none of a table's.
			changed(true, newPeer(t, strings.ReplaceAll(lending, "f", "g"), at, nodes))
			changed(false, impl.Peer{})
			changed(false, impl.Peer{Machine: c.Peers[at].Machine})
			changed(false, impl.Peer{Link: c.Peers[at].Link})
		}
		// All of another table.
		other := newCluster(t, "main = 1;", nodes)
		for at := range nodes {
			other.Peers[at].Link = c.Peers[at].Link
		}
		wantClusterOk(t, true, other)
		for _, packs := range []int{0, 1, 299, 300, 301, 302, 5000} {
			d := copyCluster(c)
			d.Net = make([]string, packs)
			wantClusterOk(t, packs <= 300, d)
			for i := range d.Net {
				d.Net[i] = fmt.Sprint("no pack ", i)
			}
			wantClusterOk(t, packs <= 300, d)
		}
	}
}

// fullCluster has three new nodes around one that has each kind of all there is.
func fullCluster(t *testing.T) impl.Cluster {
	t.Helper()
	c := newCluster(t, everything, 4)
	c.Peers[1] = fullPeer(t)
	c.Net = []string{
		packBytes(dataOf(fetchMsg(0, 1, 0, 3), 9, 4)), packBytes(ack(2, 1, 2)), packBytes(dataOf(fishMsg(3, 1), 9, 5)), packBytes(dataOf(fishMsg(2, 1), 7, 6)),
		"no pack", packBytes(dataOf(workMsg(2, 1, 5, thunk(0)), 8, 4)), packBytes(dataOf(fishMsg(2, 3), 1, 1)), packBytes(ack(2, 30, 2)),
	}
	wantClusterOk(t, true, c)
	return c
}

// eachEvent has each kind of event at each node of four and each pack of eight.
func eachEvent() []impl.Event {
	var list []impl.Event
	for kind := -1; kind <= 9; kind++ {
		for at := range 8 {
			list = append(list, impl.Event{Kind: kind, At: at, N: (at + 1) % 4, Much: 3})
		}
	}
	return list
}

// A cluster that is not right by one field of one of its nodes: an event does
// what it does by what its node, its link or its machine makes of it then.
func TestClusterOkOfOneWrongField(t *testing.T) {
	full := fullCluster(t)
	events := eachEvent()
	right, wrong := 0, 0
	for i, p := range changedPeers(full.Peers[1], 13) {
		c := copyCluster(full)
		c.Peers[1] = p
		want := plainClusterOk(c)
		wantClusterOk(t, want, c)
		if want {
			right++
		} else {
			wrong++
		}
		if i%5 > 0 {
			continue
		}
		for j := range 12 {
			wantDo(t, c, events[(i+7*j)%len(events)])
		}
		wantCluster(t, impl.Calm(c, 2), plainCalm(c, 2, plainDo))
		wantTold(t, c, plainClusterText(c))
	}
	if right < 300 || wrong < 600 {
		t.Error("only", right, "right and", wrong, "wrong clusters")
	}
}

// Clusters that are not right at each function.
func TestWrongClusters(t *testing.T) {
	full := fullCluster(t)
	var list []impl.Cluster
	change := func(do func(c *impl.Cluster)) {
		c := copyCluster(full)
		do(&c)
		wantClusterOk(t, false, c)
		list = append(list, c)
	}
	change(func(c *impl.Cluster) { *c = impl.Cluster{} })
	change(func(c *impl.Cluster) { c.Peers = nil })
	change(func(c *impl.Cluster) { c.Peers = c.Peers[:3] })
	change(func(c *impl.Cluster) { c.Peers = c.Peers[1:] })
	change(func(c *impl.Cluster) { c.Peers = append(c.Peers, c.Peers...) })
	change(func(c *impl.Cluster) { c.Peers[0], c.Peers[1] = c.Peers[1], c.Peers[0] })
	change(func(c *impl.Cluster) { c.Peers[0] = impl.Peer{} })
	change(func(c *impl.Cluster) { c.Peers[1] = impl.Peer{} })
	change(func(c *impl.Cluster) { c.Peers[1].Link = impl.Link{} })
	change(func(c *impl.Cluster) { c.Peers[1].Machine = impl.Machine{} })
	change(func(c *impl.Cluster) { c.Peers[1].Machine.Say[0].From = 1 })
	change(func(c *impl.Cluster) { c.Peers[1].Machine.Say[0].To = 4 })
	change(func(c *impl.Cluster) { c.Peers[1].Machine.Heap[3].Kind = 8 })
	change(func(c *impl.Cluster) { c.Peers[1].Machine.Threads[0].At = -1 })
	change(func(c *impl.Cluster) { c.Peers[1].Machine.Table.Tops = nil })
	change(func(c *impl.Cluster) { c.Peers[3].Machine.Table.Codes[0].N++ })
	change(func(c *impl.Cluster) { c.Peers[1].Link.Seen = c.Peers[1].Link.Seen[:2] })
	change(func(c *impl.Cluster) { c.Peers[1].Link.Next = 0 })
	change(func(c *impl.Cluster) { c.Net = slices.Repeat(c.Net, 38) })
	for _, c := range list {
		for _, e := range append(eachEvent(), impl.Event{}) {
			wantDo(t, c, e)
		}
		one := c
		for _, e := range eachEvent() {
			one = impl.ClusterDo(one, e)
		}
		wantCluster(t, impl.ClusterRun(c, eachEvent()), one)
		wantCluster(t, impl.ClusterRun(c, slices.Repeat(eachEvent(), 6)), c)
		for _, rounds := range []int{-1, 0, 1, 3, 201} {
			wantCluster(t, impl.Calm(c, rounds), plainCalm(c, rounds, plainDo))
		}
		text, told := plainPrinted(c)
		wantPrinted(t, c, text, told)
		wantTold(t, c, plainClusterText(c))
	}
}

func TestPrinted(t *testing.T) {
	c := newCluster(t, lending, 2)
	for _, first := range []impl.Peer{c.Peers[0], {}} {
		c.Peers[0] = first
		for _, step := range []struct {
			threads []impl.Thread
			text    string
			told    bool
		}{
			{nil, "", false},
			{[]impl.Thread{{Do: impl.DoEval, Out: "(1:"}}, "", false},
			{[]impl.Thread{{Do: impl.DoEnter, Out: "(1:"}}, "", false},
			{[]impl.Thread{{Do: impl.DoNext, Out: "5"}}, "", false},
			{[]impl.Thread{{Do: impl.IsDone, Out: "(1:[])"}}, "(1:[])", true},
			{[]impl.Thread{{Do: impl.IsDone}}, "", true},
			{[]impl.Thread{{Do: impl.IsStuck, Out: "(1:"}}, "", false},
			{[]impl.Thread{{Do: -1, Out: "x"}}, "", false},
			{[]impl.Thread{{Do: 5, Out: "x"}}, "", false},
			{[]impl.Thread{{Do: impl.DoEnter}, {Do: impl.IsDone, Out: "second"}}, "", false},
			{[]impl.Thread{{Do: impl.IsStuck}, {Do: impl.IsDone, Out: "second"}}, "", false},
			{[]impl.Thread{{Do: impl.IsDone, Out: "first"}, {Do: impl.IsDone, Out: "second"}}, "first", true},
			{[]impl.Thread{{Do: impl.IsDone, Out: "\x00\xff"}, {Do: impl.IsStuck}}, "\x00\xff", true},
		} {
			c.Peers[0].Machine.Threads = step.threads
			wantPrinted(t, c, step.text, step.told)
			// Other nodes print nothing.
			c.Peers[1].Machine.Threads = []impl.Thread{{Do: impl.IsDone, Out: "elsewhere"}}
			wantPrinted(t, c, step.text, step.told)
			c.Peers[1].Machine.Threads = nil
		}
	}
	wantPrinted(t, impl.Cluster{}, "", false)
	wantPrinted(t, impl.Cluster{Net: []string{"x"}}, "", false)
	wantPrinted(t, impl.Cluster{Peers: c.Peers[1:]}, "", false)
}

func TestClusterText(t *testing.T) {
	wantTold(t, impl.Cluster{}, "net 0\n")
	wantTold(t, impl.Cluster{Net: []string{"", "x"}}, "net 2\n")
	wantTold(t, impl.Cluster{Peers: make([]impl.Peer, 2)}, "0 0 0 0 0 0\n0 0 0 0 0 0\nnet 0\n")
	wantTold(t, newCluster(t, lending, 1), "2 1 1 0 0 0\nnet 0\n")
	wantTold(t, newCluster(t, pingPong, 3), "3 1 1 0 0 0\n3 0 0 0 0 0\n3 0 0 0 0 0\nnet 0\n")
	// As many of each as of nothing else.
	p := impl.Peer{Machine: impl.Machine{Heap: make([]impl.Cell, 11), Sparks: make([]int, 13), Names: make([]int, 14), Say: make([]impl.Msg, 16)}}
	p.Machine.Threads = append(make([]impl.Thread, 9), slices.Repeat([]impl.Thread{does(impl.IsDone), does(impl.IsStuck)}, 4)...)
	p.Machine.Threads[0].Out = "much is printed"
	p.Link.Out = make([]impl.Sent, 15)
	p.Link.Seen = make([]impl.Seen, 18)
	wantTold(t, impl.Cluster{Peers: []impl.Peer{{}, p}, Net: make([]string, 10)}, "0 0 0 0 0 0\n11 17 9 13 14 15\nnet 10\n")
	// Many nodes, each in its place, whoever tells it first.
	var c impl.Cluster
	want := ""
	for i := range 2000 {
		c.Peers = append(c.Peers, impl.Peer{Machine: impl.Machine{Heap: make([]impl.Cell, i)}})
		want += fmt.Sprintf("%d 0 0 0 0 0\n", i)
	}
	for range 20 {
		wantTold(t, c, want+"net 0\n")
	}
}

// shared is a cluster in which the second node has work of the first one.
func shared(t *testing.T, text string, nodes int) impl.Cluster {
	t.Helper()
	c := newCluster(t, text, nodes)
	for range 10 {
		c = impl.ClusterDo(c, runEvent(0, 0, 100))
		for id := 1; id < nodes; id++ {
			c = impl.ClusterRun(c, []impl.Event{fishEvent(id, 0), event(impl.EvSend, id)})
		}
		c = impl.ClusterRun(c, slices.Repeat([]impl.Event{event(impl.EvDeliver, 0)}, 20))
	}
	wantClusterOk(t, true, c)
	wantPrinted(t, c, "", false)
	return c
}

func TestCalmHowManyRounds(t *testing.T) {
	c := shared(t, pingPong, 2)
	for _, rounds := range []int{math.MinInt, -200, -2, -1, 0, 201, 202, 1 << 32, math.MaxInt} {
		wantCluster(t, impl.Calm(c, rounds), c)
	}
	// Each round makes something of it, up to the last one.
	all := []impl.Cluster{c}
	for i := range 200 {
		after := plainRound(all[i], impl.ClusterDo)
		if sameCluster(after, all[i]) {
			t.Fatal("nothing came of round", i)
		}
		all = append(all, after)
	}
	for _, rounds := range []int{1, 2, 3, 50, 199, 200} {
		after := impl.Calm(c, rounds)
		wantCluster(t, after, all[rounds])
		wantClusterOk(t, true, after)
		wantPrinted(t, after, "", false)
	}
	want, _ := impl.Mean(wantProgram(t, pingPong), impl.MaxFuel)
	last := impl.Calm(all[200], 200)
	wantPrinted(t, last, want, true)
	// Behind that nothing is done, though others have something to do.
	last.Peers[1].Machine = impl.Show(last.Peers[1].Machine, 2)
	last.Net = []string{packBytes(dataOf(fishMsg(0, 1), 900000, 900000)), "x"}
	wantCluster(t, impl.Calm(last, 200), last)
	last.Peers[0].Machine.Threads[0].Do = impl.IsStuck
	if after := impl.Calm(last, 1); sameCluster(after, last) || len(after.Net) != 0 {
		t.Error("one that is stuck has printed nothing")
	}
}

// A round has a hundred steps of each thread and four hundred packs at most, in
// its order.
func TestCalmIsEvents(t *testing.T) {
	for _, nodes := range []int{1, 2, 3, 6} {
		for _, text := range []string{lending, pingPong, "l = \\n . l (n + 1); main = l 0;", "main = case 1 of [] -> 2 | a : b -> 3;"} {
			c := busyCluster(t, nodes)
			if text != lending {
				c = newCluster(t, text, nodes)
			}
			for rounds := range 4 {
				wantCluster(t, impl.Calm(c, rounds), plainCalm(c, rounds, plainDo))
			}
		}
	}
	// Of four hundred each round the data of three hundred and the first hundred
	// of their acknowledgements.
	c := newCluster(t, "main = let x = x in x;", 2)
	c.Net = slices.Repeat([]string{packBytes(dataOf(fishMsg(1, 0), 3, 2))}, 300)
	for _, left := range []int{200, 0, 0} {
		c = impl.Calm(c, 1)
		if len(c.Net) != left || strings.Count(netText(c), "ack 0 > 1 3") != left {
			t.Error(len(c.Net), "packs are left; want", left)
		}
	}
	c.Net = slices.Repeat([]string{"no pack"}, 1000)
	for _, left := range []int{600, 200, 0} {
		c = impl.Calm(c, 1)
		if len(c.Net) != left {
			t.Error(len(c.Net), "packs are left; want", left)
		}
	}
	// What a node sends comes once more by its tick, behind it, and what the nodes
	// ahead of it sent.
	c.Peers[1].Machine.Say, c.Peers[0].Machine.Say = []impl.Msg{fishMsg(0, 0)}, []impl.Msg{fishMsg(0, 1), fishMsg(0, 1)}
	c.Net = slices.Repeat([]string{"no pack"}, 298)
	full := impl.Calm(c, 1)
	if len(full.Peers[0].Link.Out) != 0 || len(full.Peers[1].Link.Out) != 1 || len(full.Net) != 0 {
		t.Error(clusterText(full))
	}
	// Steps of the thread: each prints one number more in some of them.
	c = newCluster(t, "l = \\n . n : l (n + 1); main = l 0;", 1)
	c.Peers[0].Machine = impl.Show(c.Peers[0].Machine, 1)
	want := impl.Run(impl.Run(c.Peers[0].Machine, 0, 100), 1, 100)
	wantMachine(t, impl.Calm(c, 1).Peers[0].Machine, want)
}

func TestCalmOfManyClusters(t *testing.T) {
	k := newClusterMaker(81)
	for i := range 60 {
		c := k.cluster(1 + k.IntN(6))
		wantClusterOk(t, true, c)
		if i%3 == 0 {
			c.Peers[k.IntN(len(c.Peers))].Machine = k.anyMachine()
		}
		rounds := k.IntN(4)
		wantCluster(t, impl.Calm(c, rounds), plainCalm(c, rounds, plainDo))
	}
}

// Events of any right clusters, and of some that are not.
func TestEventsOfManyClusters(t *testing.T) {
	k := newClusterMaker(82)
	counts := map[[2]int]int{}
	for i := range 150 {
		c := k.cluster(1 + k.IntN(6))
		wantClusterOk(t, true, c)
		if i%5 == 0 {
			c.Peers[k.IntN(len(c.Peers))].Machine = k.anyMachine()
		}
		for range 25 {
			e := k.event(c)
			after := wantDo(t, c, e)
			changed := 0
			if !sameCluster(after, c) {
				changed = 1
			}
			counts[[2]int{e.Kind, changed}]++
			c = after
			c.Net = append(c.Net, k.bytes(c))
			wantClusterOk(t, plainClusterOk(c), c)
			wantTold(t, c, plainClusterText(c))
			text, told := plainPrinted(c)
			wantPrinted(t, c, text, told)
		}
	}
	for kind := range 9 {
		if counts[[2]int{kind, 0}] < 10 || counts[[2]int{kind, 1}] < 30 {
			t.Error("too few of kind", kind, counts)
		}
	}
}

// A node that is alone prints what a machine alone does.
func TestClusterOfOneIsSolo(t *testing.T) {
	k := newSortMaker(83)
	list := sharedPrograms(t)
	for _, text := range []string{lending, "main = 1;", "main = [];", "main = \\x . x;", "main = 1 : 2 : [];", "main = 1 2;", "main = main;", "main = (1 : [] [] ) : 2;"} {
		list = append(list, wantProgram(t, text))
	}
	for range 150 {
		list = append(list, k.program())
	}
	printed, not := 0, 0
	for _, p := range list {
		c := begun(t, p, 1)
		text, told := impl.Solo(impl.TableOf(p), slices.Index(p.Names, "main"), 5000)
		wantPrinted(t, impl.Calm(c, 50), text, told)
		// In steps, with events between that do nothing.
		for i := 0; i < 500; i += 50 {
			c = impl.ClusterRun(c, []impl.Event{runEvent(0, 0, 500), fishEvent(0, 0), event(impl.EvSend, 0), event(impl.EvTick, 0), event(impl.EvDeliver, 0)})
		}
		wantPrinted(t, c, text, told)
		if len(c.Net) != 0 || len(c.Peers[0].Link.Out) != 0 {
			t.Errorf("one that is alone said something: %s", clusterText(c))
		}
		if told {
			printed++
		} else {
			not++
		}
	}
	if printed < 80 || not < 10 {
		t.Error("only", printed, "printed, and", not, "did not")
	}
}

// storm is a cluster under many events.
type storm struct {
	*clusterMaker
	impl.Cluster
	// How often each kind comes, one against the other.
	often [9]int
	// What the program means.
	text string
	code int
}

func newStorm(t *testing.T, k *clusterMaker, p impl.Program, nodes int) *storm {
	t.Helper()
	s := &storm{clusterMaker: k, Cluster: begun(t, p, nodes)}
	s.text, s.code = impl.Mean(p, impl.MaxFuel)
	// Mostly such that work is shared ahead of being done.
	for kind, often := range [9]int{5, 8, 3, 12, 1, 1, 1, 1, 3} {
		s.often[kind] = often * (1 + k.IntN(3))
	}
	return s
}

func (s *storm) kind() int {
	sum := 0
	for _, n := range s.often {
		sum += n
	}
	n := s.IntN(sum)
	for kind := range s.often {
		if n < s.often[kind] {
			return kind
		}
		n -= s.often[kind]
	}
	return -1
}

func (s *storm) next() impl.Event {
	e := impl.Event{Kind: s.kind(), At: s.IntN(len(s.Peers))}
	switch e.Kind {
	case impl.EvRun:
		// A thread that there is, mostly, and few steps, so that others fish for
		// what is left.
		e.N, e.Much = s.IntN(1+len(s.Peers[e.At].Machine.Threads)), s.IntN(8)
	case impl.EvFish:
		e.N = s.IntN(len(s.Peers))
	case impl.EvDeliver, impl.EvDrop, impl.EvTwice, impl.EvCut:
		e.At = s.IntN(1 + len(s.Net))
	}
	return e
}

// lend lets the first node come to a spark, for which each other one fishes, and
// say what it has of work.
func (s *storm) lend() {
	for steps := 0; steps < 60 && len(s.Peers[0].Machine.Sparks) == 0; steps++ {
		s.Cluster = impl.ClusterDo(s.Cluster, runEvent(0, 0, 1))
	}
	for id := range s.Peers {
		s.Cluster = impl.ClusterRun(s.Cluster, []impl.Event{fishEvent(id, 0), event(impl.EvSend, id), event(impl.EvDeliver, len(s.Net))})
	}
	s.Cluster = impl.ClusterDo(s.Cluster, event(impl.EvSend, 0))
}

// blow lets so many events come.
func (s *storm) blow(t *testing.T, count int) {
	t.Helper()
	for i := range count {
		s.Cluster = impl.ClusterDo(s.Cluster, s.next())
		if i%10 == 9 {
			s.wantMeant(t)
		}
	}
	s.wantMeant(t)
}

// wantMeant asks for the first half of promise 10: nothing is printed but what
// the program means, as far as it came.
func (s *storm) wantMeant(t *testing.T) {
	t.Helper()
	if !impl.ClusterOk(s.Cluster) {
		t.Fatalf("%s is not right", brief(s.Cluster))
	}
	th := s.Peers[0].Machine.Threads[0]
	got, told := impl.Printed(s.Cluster)
	switch {
	case s.code == impl.MeanOk && (!strings.HasPrefix(s.text, th.Out) || th.Do == impl.IsStuck || told && got != s.text):
		t.Fatalf("%q is printed; %q is meant", th.Out, s.text)
	case s.code == impl.MeanStuck && told:
		t.Fatalf("%q is printed; nothing is meant", got)
	}
}

// wantCalm asks for its second half: that is printed when the net is calm.
func (s *storm) wantCalm(t *testing.T) {
	t.Helper()
	s.Cluster = impl.Calm(s.Cluster, 200)
	s.wantMeant(t)
	if got, told := impl.Printed(s.Cluster); s.code == impl.MeanOk && !told {
		t.Fatalf("%q is printed when it is calm; %q is meant: %s", got, s.text, clusterText(s.Cluster))
	}
}

// stormPrograms has programs of which much can be shared, and one without a par.
func stormPrograms(t *testing.T) []impl.Program {
	t.Helper()
	list := sharedPrograms(t)
	for _, text := range []string{
		lending,
		"ones = 1 : ones; zip = \\a b . case a of [] -> [] | h : t -> case b of [] -> [] | g : s -> let x = h + g in par x in let z = zip t s in par z in x : z; fibs = 0 : 1 : zip fibs (case fibs of [] -> [] | h : t -> t); take = \\n l . if n then case l of [] -> [] | h : t -> h : take (n - 1) t else []; main = par fibs in par ones in let q = take 8 fibs in par q in q : take 2 ones;",
		"app = \\a b . case a of [] -> b | h : t -> let r = app t b in par r in h : r; fil = \\f l . case l of [] -> [] | h : t -> let r = fil f t in par r in if f h then h : r else r; qs = \\l . case l of [] -> [] | h : t -> let a = qs (fil (\\x . x < h) t) in par a in let b = qs (fil (\\x . (x < h) == 0) t) in par b in app a (h : b); main = qs (3 : 1 : 4 : 1 : 5 : []);",
		"sum = \\n . if n then n + sum (n - 1) else 0; main = sum 20 : sum 3 : [];",
		"main = let bad = 1 2 in par bad in let loop = loop in par loop in let far = 6 * 7 in par far in far : (\\a b c . a) far 1;",
		"twice = \\f x . f (f x); main = let g = twice (\\x . x * 3) in par g in let h = twice g in par h in g 1 : h 1 : h;",
	} {
		list = append(list, wantProgram(t, text))
	}
	return list
}

// Promise 10: whatever is lost, doubled, turned around and cleared, and whoever
// does what.
func TestClustersPrintWhatIsMeant(t *testing.T) {
	k := newClusterMaker(84)
	list := stormPrograms(t)
	printed, lent, meant := 0, 0, 0
	for round := range 240 {
		p := list[round/2%len(list)]
		if round%2 == 1 {
			p = k.program()
		}
		s := newStorm(t, k, p, []int{1, 2, 3, 6}[k.IntN(4)])
		if round%6 == 0 {
			s.often[impl.EvDrop] = 0
		}
		for range k.IntN(4) {
			s.lend()
			s.blow(t, k.IntN(150))
		}
		if _, told := impl.Printed(s.Cluster); told {
			printed++
		}
		for _, peer := range s.Peers[1:] {
			lent += min(1, len(peer.Machine.Threads))
		}
		if s.code == impl.MeanOk {
			meant++
			s.wantCalm(t)
			continue
		}
		s.Cluster = impl.Calm(s.Cluster, 20)
		s.wantMeant(t)
	}
	if printed < 20 || lent < 60 || meant < 180 || meant > 235 {
		t.Error("only", printed, "printed in the storm, with", lent, "nodes that had work;", meant, "meant something")
	}
}

// A calm net between storms, and clearings in the calm: what is printed is told
// on from where it was.
func TestClustersStayRightBetweenStorms(t *testing.T) {
	k := newClusterMaker(85)
	for _, p := range stormPrograms(t) {
		s := newStorm(t, k, p, 2+k.IntN(2))
		for range 8 {
			s.blow(t, 60)
			s.Cluster = impl.Calm(s.Cluster, k.IntN(3))
			for at := range s.Peers {
				s.Cluster = impl.ClusterDo(s.Cluster, event(impl.EvClear, at))
			}
			s.wantMeant(t)
		}
		s.wantCalm(t)
		was := s.Cluster
		s.blow(t, 60)
		first, _ := impl.Printed(was)
		wantPrinted(t, s.Cluster, first, true)
	}
}

// A net that loses all but one pack each time, which comes twice and once cut:
// each message comes at last.
func TestClustersOverANetThatLosesNearlyAll(t *testing.T) {
	text := strings.Replace(pingPong, "40", "10", 1)
	want, _ := impl.Mean(wantProgram(t, text), impl.MaxFuel)
	for _, nodes := range []int{2, 3, 6} {
		c := shared(t, text, nodes)
		for turn := range 3000 {
			var list []impl.Event
			for at, p := range c.Peers {
				for n := range p.Machine.Threads {
					list = append(list, runEvent(at, n, 50))
				}
				list = append(list, event(impl.EvSend, at), event(impl.EvTick, at), event(impl.EvClear, at))
			}
			c = impl.ClusterRun(c, list)
			if len(c.Net) > 0 {
				at := turn * 7 % len(c.Net)
				last := len(c.Net)
				c = impl.ClusterRun(c, []impl.Event{
					event(impl.EvTwice, at), event(impl.EvTwice, at), event(impl.EvCut, last), event(impl.EvDeliver, last), event(impl.EvDeliver, last), event(impl.EvDeliver, at),
				})
				// An acknowledgement is lost half of the time.
				for len(c.Net) > turn%2 {
					c = impl.ClusterDo(c, event(impl.EvDrop, 0))
				}
			}
			if _, told := impl.Printed(c); told {
				break
			}
		}
		wantClusterOk(t, true, c)
		wantPrinted(t, c, want, true)
	}
}

// clusterCalls has what each function that answers a cluster makes of one.
func clusterCalls(k *clusterMaker, c impl.Cluster) map[string]func() impl.Cluster {
	p := k.program()
	var list []impl.Event
	calls := map[string]func() impl.Cluster{
		"new":      func() impl.Cluster { made, _ := impl.ClusterNew(p, 3); return made },
		"run":      func() impl.Cluster { return impl.ClusterRun(c, list) },
		"run many": func() impl.Cluster { return impl.ClusterRun(c, make([]impl.Event, 501)) },
		"calm":     func() impl.Cluster { return impl.Calm(c, 2) },
		"calm 0":   func() impl.Cluster { return impl.Calm(c, 0) },
		"calm not": func() impl.Cluster { return impl.Calm(c, -1) },
	}
	for kind := -1; kind <= 9; kind++ {
		for _, at := range []int{-1, 0, 1} {
			e := impl.Event{Kind: kind, At: at, N: 1 - at, Much: 20}
			if kind == impl.EvRun {
				e.N = 0
			}
			list = append(list, e)
			calls[fmt.Sprint("event ", e)] = func() impl.Cluster { return impl.ClusterDo(c, e) }
		}
	}
	return calls
}

func roomyCluster(c impl.Cluster) impl.Cluster {
	n := copyCluster(c)
	for i, p := range n.Peers {
		n.Peers[i] = impl.Peer{Machine: roomyMachine(p.Machine), Link: roomyLink(p.Link)}
	}
	n.Peers = append(n.Peers, impl.Peer{Link: impl.Link{Id: -7}}, impl.Peer{Link: impl.Link{Id: -8}})[:len(c.Peers)]
	n.Net = append(n.Net, "spare", "more")[:len(c.Net)]
	return n
}

// wholeCluster has the room behind each list too.
func wholeCluster(c impl.Cluster) impl.Cluster {
	n := impl.Cluster{Peers: slices.Clone(c.Peers[:cap(c.Peers)]), Net: c.Net[:cap(c.Net)]}
	for i, p := range n.Peers {
		n.Peers[i] = impl.Peer{Machine: wholeMachine(p.Machine), Link: wholeLink(p.Link)}
	}
	return copyCluster(n)
}

func spoilPeer(p *impl.Peer) {
	spoilMachine(p.Machine)
	spoilLink(p.Link)
}

// spoilCluster writes over all that a cluster has, the spare room too.
func spoilCluster(c impl.Cluster) {
	for i := range c.Peers[:cap(c.Peers)] {
		spoilPeer(&c.Peers[:cap(c.Peers)][i])
		c.Peers[:cap(c.Peers)][i] = impl.Peer{Link: impl.Link{Id: -9}}
	}
	for i := range c.Net[:cap(c.Net)] {
		c.Net[:cap(c.Net)][i] = "spoilt"
	}
}

// Promise 12 for this chapter: nothing is written into an argument, nor into the
// room behind it, and no answer shares memory with one.
func TestClustersLeaveArgumentsAlone(t *testing.T) {
	k := newClusterMaker(86)
	for i := range 40 {
		c := k.cluster(2 + k.IntN(3))
		if i%3 == 0 {
			c.Peers[k.IntN(2)].Machine = k.anyMachine()
		}
		room := roomyCluster(c)
		kept := wholeCluster(room)
		asked := func(name string) {
			t.Helper()
			if !sameCluster(wholeCluster(room), kept) {
				t.Fatalf("%s: %s became %s", name, brief(kept), brief(room))
			}
		}
		impl.ClusterOk(room)
		impl.ClusterText(room)
		impl.Printed(room)
		asked("what is told")
		for name, call := range clusterCalls(k, room) {
			first, second := call(), call()
			asked(name)
			want := copyCluster(first)
			spoilCluster(first)
			asked(name + ", spoilt")
			if !sameCluster(second, want) {
				t.Fatalf("%s: two answers share memory", name)
			}
		}
	}
}

func TestClusterListsShareNoMemory(t *testing.T) {
	k := newClusterMaker(87)
	for range 40 {
		c := k.cluster(3)
		// Lists of the argument that share memory share none in the answer.
		c.Peers[1].Machine = c.Peers[0].Machine
		c.Peers[2].Machine.Table = c.Peers[0].Machine.Table
		c.Peers[2].Machine.Names = c.Peers[0].Machine.Names
		c.Peers[1].Link.Seen, c.Peers[1].Link.Out = c.Peers[0].Link.Seen, c.Peers[0].Link.Out
		for name, call := range clusterCalls(k, c) {
			after := call()
			for _, p := range after.Peers {
				wantApart(t, p.Machine)
			}
			for at := range after.Peers {
				want := copyCluster(after)
				spoilPeer(&after.Peers[at])
				after.Peers[at], want.Peers[at] = impl.Peer{}, impl.Peer{}
				if !sameCluster(after, want) {
					t.Fatalf("%s: what node %d has is another's too", name, at)
				}
			}
		}
	}
	// The room behind one list is none of another's.
	c := newCluster(t, lending, 2)
	c.Peers[1].Machine.Say = []impl.Msg{fishMsg(0, 0), fishMsg(0, 0)}
	c = impl.ClusterRun(c, []impl.Event{event(impl.EvSend, 1), event(impl.EvDrop, 0)})
	kept := copyCluster(c)
	for i := range c.Net[:cap(c.Net)] {
		c.Net[:cap(c.Net)][i] = kept.Net[0]
	}
	wantCluster(t, c, kept)
}

func TestClusterTextsShareNoMemory(t *testing.T) {
	out, body, none := []byte("out+"), []byte(msgBytes(fishMsg(1, 0))), []byte("no pack")
	data := []byte(packBytes(dataOf(fishMsg(1, 0), 4, 2)))
	c := newCluster(t, "main = 1 + 2;", 2)
	c.Peers[1].Machine.Table.Codes[0].Text = textOf(out[3:])
	ended := does(impl.IsDone)
	ended.Out = textOf(out[:3])
	c.Peers[0].Machine.Threads = []impl.Thread{ended}
	c.Peers[1].Link.Next, c.Peers[1].Link.Out = 9, []impl.Sent{{Seq: 5, To: 0, Body: textOf(body)}}
	c.Net = []string{textOf(data), textOf(none)}
	type answer struct{ got, want impl.Cluster }
	var list []answer
	add := func(c impl.Cluster) {
		want := copyCluster(c)
		for _, p := range want.Peers {
			for i, s := range p.Link.Out {
				p.Link.Out[i].Body = strings.Clone(s.Body)
			}
		}
		list = append(list, answer{c, want})
	}
	for kind := -1; kind <= 9; kind++ {
		for at := range 2 {
			add(impl.ClusterDo(c, impl.Event{Kind: kind, At: at, N: 1 - at, Much: 5}))
			add(impl.ClusterRun(c, []impl.Event{{Kind: kind, At: at, N: 1 - at, Much: 5}}))
		}
	}
	add(impl.Calm(c, 2))
	add(impl.Calm(c, 201))
	add(impl.ClusterRun(c, make([]impl.Event, 501)))
	busy := copyCluster(c)
	busy.Net = slices.Clone(c.Net)
	busy.Peers[0].Machine.Threads[0].Do = impl.IsStuck
	add(impl.Calm(busy, 1))
	printed, _ := impl.Printed(c)
	names := []byte("main")
	made, _ := impl.ClusterNew(impl.Program{Names: []string{textOf(names)}, Bodies: []impl.Exp{opExp(textOf(out[3:]), num(1), num(2))}}, 2)
	add(made)
	for _, bytes := range [][]byte{out, body, none, data, names} {
		for i := range bytes {
			bytes[i] = '#'
		}
	}
	for i, a := range list {
		if !sameCluster(a.got, a.want) {
			t.Errorf("%d: a text is the argument's: %s", i, brief(a.got))
		}
	}
	if printed != "out" {
		t.Errorf("%q is printed", printed)
	}
}

// Promise 12 for this chapter: the edges in every field, and long lists.
func TestClustersAnswerAtAnyArguments(t *testing.T) {
	full := fullCluster(t)
	for _, n := range append(oddNumbers(), wireEdges()...) {
		odd := copyCluster(full)
		p := &odd.Peers[1]
		list := []int{n, n}
		p.Machine.Heap = []impl.Cell{cell(n, n, n, list...), cell(n, n, n)}
		p.Machine.Threads = []impl.Thread{{Do: n, At: n, Kids: list, Stack: []impl.Frame{frame(n, n, n, list...)}}}
		p.Machine.Sparks, p.Machine.Names = list, slices.Clone(list)
		p.Machine.Say = []impl.Msg{{Kind: n, From: n, To: n, Id: n, Want: n, Cell: cell(n, n, n, list...)}}
		odd.Peers[2].Link = impl.Link{Id: n, Next: n, Out: []impl.Sent{{Seq: n, To: n}}, Seen: []impl.Seen{{Low: n, Ids: list}}}
		pack := impl.Pack{Kind: n, From: n, To: n, Seq: n, Low: n}
		odd.Net = append(odd.Net, packBytes(pack), packBytes(ack(n, 1, n)), packBytes(ack(1, n, 1)), packBytes(dataOf(fetchMsg(0, 1, n, n), 3, 2)))
		for _, c := range []impl.Cluster{full, odd, {}} {
			for kind := -1; kind <= 9; kind++ {
				wantDo(t, c, impl.Event{Kind: kind, At: n, N: n, Much: n})
				wantDo(t, c, impl.Event{Kind: kind, At: 1, N: n, Much: n})
			}
			wantDo(t, c, impl.Event{Kind: n, At: 1, N: 1, Much: 2})
			if n < 0 || n > 20 && n != 200 {
				wantCluster(t, impl.Calm(c, n), plainCalm(c, min(n, 201), impl.ClusterDo))
			}
			for at := range c.Net {
				wantDo(t, c, event(impl.EvDeliver, at))
			}
			wantClusterOk(t, plainClusterOk(c), c)
			wantTold(t, c, plainClusterText(c))
			impl.Printed(c)
		}
		impl.ClusterNew(wantProgram(t, lending), n)
		impl.ClusterNew(impl.Program{Names: []string{"main"}, Bodies: []impl.Exp{expN(n, n)}}, 2)
	}
	const many = 100000
	for _, change := range []func(c *impl.Cluster){
		func(c *impl.Cluster) { c.Peers = make([]impl.Peer, many) },
		func(c *impl.Cluster) { c.Net = make([]string, many) },
		func(c *impl.Cluster) { c.Net = []string{strings.Repeat("much", many)} },
		func(c *impl.Cluster) { c.Peers[1].Machine.Heap = make([]impl.Cell, many) },
		func(c *impl.Cluster) { c.Peers[1].Machine.Threads = make([]impl.Thread, many/100) },
		func(c *impl.Cluster) { c.Peers[1].Machine.Say = make([]impl.Msg, many) },
		func(c *impl.Cluster) { c.Peers[1].Link.Out = make([]impl.Sent, many) },
		func(c *impl.Cluster) { c.Peers[1].Link.Seen = make([]impl.Seen, many) },
	} {
		c := copyCluster(full)
		change(&c)
		impl.ClusterOk(c)
		if got := impl.ClusterText(c); got != plainClusterText(c) {
			t.Errorf("%.100q", got)
		}
		for _, e := range eachEvent() {
			if e.At == 1 {
				impl.ClusterDo(c, e)
			}
		}
		impl.ClusterRun(c, eachEvent())
		impl.ClusterRun(c, make([]impl.Event, many))
		impl.Calm(c, 1)
		impl.Printed(c)
	}
}

// Nothing is kept from one call to another, nor shared by calls at one time.
func TestClustersAtOneTime(t *testing.T) {
	k := newClusterMaker(88)
	type call struct {
		c    impl.Cluster
		e    impl.Event
		want [2]impl.Cluster
	}
	var calls []call
	for range 25 {
		c := k.cluster(1 + k.IntN(6))
		e := k.event(c)
		calls = append(calls, call{c, e, [2]impl.Cluster{plainDo(c, e), plainCalm(c, 1, plainDo)}})
	}
	var wait sync.WaitGroup
	for range 8 {
		wait.Go(func() {
			for i, call := range calls {
				same := sameCluster(impl.ClusterDo(call.c, call.e), call.want[0]) && sameCluster(impl.Calm(call.c, 1), call.want[1])
				if !same || !impl.ClusterOk(call.c) || impl.ClusterText(call.c) != plainClusterText(call.c) {
					t.Error(i, call.e)
				}
			}
		})
	}
	wait.Wait()
}
