package tests

import (
	"fmt"
	"reflect"
	"slices"
	"strings"

	"loop.example/g00303/impl"
)

func plainClusterOk(c impl.Cluster) bool {
	right := len(c.Peers) >= 1 && len(c.Peers) <= 6 && len(c.Net) <= 300
	for i, p := range c.Peers {
		right = right && plainPeerOk(p) && p.Link.Id == i && len(p.Link.Seen) == len(c.Peers)
		right = right && reflect.DeepEqual(copyTable(p.Machine.Table), copyTable(c.Peers[0].Machine.Table))
	}
	return right
}

// plainDo tells what ClusterDo has to, whatever it is given.
func plainDo(c impl.Cluster, e impl.Event) impl.Cluster {
	c = copyCluster(c)
	switch e.Kind {
	case impl.EvDeliver, impl.EvDrop, impl.EvTwice, impl.EvCut:
		if e.At >= 0 && e.At < len(c.Net) {
			plainDoPack(&c, e.Kind, e.At)
		}
	default:
		if e.At >= 0 && e.At < len(c.Peers) {
			plainDoNode(&c, e)
		}
	}
	return copyCluster(c)
}

func plainDoNode(c *impl.Cluster, e impl.Event) {
	p := &c.Peers[e.At]
	switch e.Kind {
	case impl.EvRun:
		p.Machine = impl.Run(p.Machine, e.N, e.Much)
	case impl.EvSend:
		after, packs := plainFlush(*p)
		*p = after
		plainLay(c, packs...)
	case impl.EvTick:
		if plainLinkOk(p.Link) {
			plainLay(c, plainAgain(p.Link)...)
		}
	case impl.EvClear:
		*p = plainClear(*p)
	case impl.EvFish:
		if e.N >= 0 && e.N < len(c.Peers) && e.N != e.At && len(p.Machine.Say) <= 49 {
			p.Machine.Say = append(p.Machine.Say, fishMsg(0, e.N))
		}
	}
}

func plainLay(c *impl.Cluster, packs ...string) {
	for _, bytes := range packs {
		if len(c.Net) < 300 {
			c.Net = append(c.Net, bytes)
		}
	}
}

func plainDoPack(c *impl.Cluster, kind int, at int) {
	bytes := c.Net[at]
	switch kind {
	case impl.EvTwice:
		plainLay(c, bytes)
	case impl.EvCut:
		c.Net[at] = bytes[:max(0, len(bytes)-1)]
	default:
		c.Net = slices.Delete(c.Net, at, at+1)
		pack, ok := plainGetPack(bytes)
		if kind == impl.EvDeliver && ok && pack.To < len(c.Peers) {
			plainArrive(c, pack)
		}
	}
}

// plainArrive is of a pack to a node that there is.
func plainArrive(c *impl.Cluster, pack impl.Pack) {
	p := &c.Peers[pack.To]
	if pack.Kind == impl.PackAck {
		p.Link = plainAck(p.Link, pack.From, pack.Seq)
		return
	}
	link, fresh, due := plainTake(p.Link, pack)
	msg, _ := plainGetMsg(pack.Body)
	if fresh {
		after, heard := plainHear(*p, msg)
		if !heard {
			return
		}
		p.Machine = after.Machine
	} else if !due {
		return
	}
	p.Link = link
	plainLay(c, packBytes(ack(pack.To, pack.From, pack.Seq)))
}

// plainRound is a round of Calm, by what is told of one event.
func plainRound(c impl.Cluster, do func(c impl.Cluster, e impl.Event) impl.Cluster) impl.Cluster {
	for at := range c.Peers {
		for n := range c.Peers[at].Machine.Threads {
			c = do(c, impl.Event{Kind: impl.EvRun, At: at, N: n, Much: 100})
		}
		c = do(c, impl.Event{Kind: impl.EvSend, At: at})
		c = do(c, impl.Event{Kind: impl.EvTick, At: at})
	}
	for left := 400; left > 0 && len(c.Net) > 0; left-- {
		c = do(c, impl.Event{Kind: impl.EvDeliver})
	}
	return copyCluster(c)
}

func plainCalm(c impl.Cluster, rounds int, do func(c impl.Cluster, e impl.Event) impl.Cluster) impl.Cluster {
	c = copyCluster(c)
	if rounds < 0 || rounds > 200 {
		return c
	}
	for range rounds {
		if _, told := plainPrinted(c); !told {
			c = plainRound(c, do)
		}
	}
	return c
}

func plainPrinted(c impl.Cluster) (string, bool) {
	for _, p := range c.Peers[:min(1, len(c.Peers))] {
		for _, th := range p.Machine.Threads[:min(1, len(p.Machine.Threads))] {
			if th.Do == impl.IsDone {
				return th.Out, true
			}
		}
	}
	return "", false
}

func plainClusterText(c impl.Cluster) string {
	var text strings.Builder
	for _, p := range c.Peers {
		m := p.Machine
		fmt.Fprintf(&text, "%d %d %d %d %d %d\n", len(m.Heap), len(m.Threads), plainBusy(p), len(m.Sparks), len(m.Names), len(p.Link.Out))
	}
	fmt.Fprintf(&text, "net %d\n", len(c.Net))
	return text.String()
}

// copyCluster has nil for each list without anything, and no spare room.
func copyCluster(c impl.Cluster) impl.Cluster {
	var n impl.Cluster
	for _, p := range c.Peers {
		n.Peers = append(n.Peers, copyPeer(p))
	}
	for _, bytes := range c.Net {
		n.Net = append(n.Net, strings.Clone(bytes))
	}
	n.Peers, n.Net = slices.Clip(n.Peers), slices.Clip(n.Net)
	return n
}

func sameCluster(a impl.Cluster, b impl.Cluster) bool {
	return reflect.DeepEqual(copyCluster(a), copyCluster(b))
}

// netText tells each pack of the net by a text.
func netText(c impl.Cluster) string {
	var parts []string
	for _, bytes := range c.Net {
		pack, ok := plainGetPack(bytes)
		text := "?"
		switch msg, _ := plainGetMsg(pack.Body); {
		case ok && pack.Kind == impl.PackData:
			text = fmt.Sprintf("%d/%d %s", pack.Seq, pack.Low, plainMsgText(msg))
		case ok:
			text = fmt.Sprintf("ack %d > %d %d", pack.From, pack.To, pack.Seq)
		}
		parts = append(parts, text)
	}
	return strings.Join(parts, ", ")
}

// clusterText is for clusters of nodes that are right.
func clusterText(c impl.Cluster) string {
	var parts []string
	for _, p := range c.Peers {
		parts = append(parts, fmt.Sprintf("%.700s | %.200s", machineText(p.Machine), linkText(p.Link)))
	}
	return strings.Join(parts, "\n") + fmt.Sprintf("\nnet %.700s", netText(c))
}

// clusterMaker makes clusters and events.
type clusterMaker struct {
	*peerMaker
}

func newClusterMaker(seed uint64) *clusterMaker { return &clusterMaker{newPeerMaker(seed)} }

// among lets a node be one of so many, and settles it there.
func (k *clusterMaker) among(p impl.Peer, id int, nodes int) impl.Peer {
	p.Link, _ = impl.LinkNew(id, nodes)
	k.settle(&p)
	for range k.IntN(4) {
		if nodes > 1 {
			p.Link, _, _ = impl.LinkSend(p.Link, k.wire.msgAmong(id, nodes))
		}
	}
	return p
}

// cluster makes one that is right, of any right nodes.
func (k *clusterMaker) cluster(nodes int) impl.Cluster {
	var c impl.Cluster
	table := impl.TableOf(k.program())
	for id := range nodes {
		c.Peers = append(c.Peers, k.among(impl.Peer{Machine: k.machineBy(copyTable(table))}, id, nodes))
	}
	for range k.IntN(8) {
		c.Net = append(c.Net, k.bytes(c))
	}
	return c
}

// bytes makes a pack, mostly one that a node of the cluster can have.
func (k *clusterMaker) bytes(c impl.Cluster) string {
	nodes := len(c.Peers)
	if nodes < 2 {
		return packBytes(k.wire.pack())
	}
	p := c.Peers[k.IntN(nodes)]
	msg := k.msgFor(p)
	seq := 1 + k.IntN(5)
	switch k.IntN(10) {
	case 0:
		return packBytes(k.wire.pack())
	case 1:
		return "no pack"
	case 2:
		return packBytes(ack(msg.From, msg.To, seq))
	case 3:
		for _, s := range p.Link.Out {
			return packBytes(ack(s.To, p.Link.Id, s.Seq))
		}
	}
	return packBytes(dataOf(msg, seq, 1+k.IntN(seq)))
}

// event makes one that a cluster may have, mostly.
func (k *clusterMaker) event(c impl.Cluster) impl.Event {
	e := impl.Event{Kind: k.IntN(9), At: k.IntN(len(c.Peers))}
	switch e.Kind {
	case impl.EvRun:
		e.N, e.Much = k.IntN(1+len(c.Peers[e.At].Machine.Threads)), k.IntN(30)
	case impl.EvFish:
		e.N = k.IntN(len(c.Peers))
	case impl.EvDeliver, impl.EvDrop, impl.EvTwice, impl.EvCut:
		e.At = k.IntN(1 + len(c.Net))
	}
	switch k.IntN(30) {
	case 0:
		e.Kind = k.IntN(13) - 2
	case 1:
		e.At = k.IntN(10) - 2
	case 2:
		e.N = k.IntN(10) - 2
	}
	return e
}
