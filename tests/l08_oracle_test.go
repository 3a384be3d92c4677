package tests

import (
	"fmt"
	"math"
	"reflect"
	"slices"
	"sort"
	"strings"

	"loop.example/g00303/impl"
)

func plainLinkOk(l impl.Link) bool {
	nodes := len(l.Seen)
	if nodes > 31 || l.Id < 0 || l.Id >= nodes || l.Next < 1 || l.Next > 999999 || len(l.Out) > 60 {
		return false
	}
	for i, s := range l.Out {
		m, ok := plainGetMsg(s.Body)
		if !ok || m.From != l.Id || m.To != s.To || s.To >= nodes {
			return false
		}
		if s.Seq < 1 || s.Seq >= l.Next || i > 0 && s.Seq <= l.Out[i-1].Seq {
			return false
		}
	}
	for _, s := range l.Seen {
		if s.Low < 1 || s.Low > 1000000 || len(s.Ids) > 60 {
			return false
		}
		for i, id := range s.Ids {
			if id < s.Low || id > 999999 || i > 0 && id <= s.Ids[i-1] {
				return false
			}
		}
	}
	return true
}

// plainAgain tells the packs of Out, right or not.
func plainAgain(l impl.Link) []string {
	var packs []string
	for _, s := range l.Out {
		low := s.Seq
		for _, other := range l.Out {
			if other.To == s.To {
				low = min(low, other.Seq)
			}
		}
		packs = append(packs, packBytes(impl.Pack{From: l.Id, To: s.To, Seq: s.Seq, Low: low, Body: s.Body}))
	}
	return packs
}

// plainSend asks of what would come out whether it is right.
func plainSend(l impl.Link, m impl.Msg) (impl.Link, string, bool) {
	after := copyLink(l)
	after.Out = append(after.Out, impl.Sent{Seq: l.Next, To: m.To, Body: msgBytes(m)})
	after.Next = l.Next + 1
	if !plainLinkOk(l) || !plainLinkOk(after) {
		return l, "", false
	}
	packs := plainAgain(after)
	return after, packs[len(packs)-1], true
}

func plainAck(l impl.Link, from int, seq int) impl.Link {
	after := copyLink(l)
	if plainLinkOk(l) {
		after.Out = slices.DeleteFunc(after.Out, func(s impl.Sent) bool { return s.To == from && s.Seq == seq })
	}
	return after
}

// plainTake has what was taken of a node in a map.
func plainTake(l impl.Link, p impl.Pack) (impl.Link, bool, bool) {
	if !plainLinkOk(l) || !plainPackOk(p) || p.Kind != impl.PackData || p.To != l.Id || p.From >= len(l.Seen) {
		return l, false, false
	}
	after := copyLink(l)
	seen := &after.Seen[p.From]
	seen.Low = max(seen.Low, p.Low)
	known := map[int]bool{}
	for _, id := range seen.Ids {
		if id >= seen.Low {
			known[id] = true
		}
	}
	old := p.Seq < seen.Low || known[p.Seq]
	fresh := !old && len(known) < 60
	if fresh {
		known[p.Seq] = true
	}
	seen.Ids = nil
	for id := range known {
		seen.Ids = append(seen.Ids, id)
	}
	sort.Ints(seen.Ids)
	return after, fresh, fresh || old
}

// copyLink has nil for each list without anything.
func copyLink(l impl.Link) impl.Link {
	l.Out = append([]impl.Sent(nil), l.Out...)
	l.Seen = append([]impl.Seen(nil), l.Seen...)
	for i, s := range l.Seen {
		l.Seen[i].Ids = append([]int(nil), s.Ids...)
	}
	return l
}

func sameLink(a impl.Link, b impl.Link) bool { return reflect.DeepEqual(copyLink(a), copyLink(b)) }

// linkText has the bodies' messages for them.
func linkText(l impl.Link) string {
	var text strings.Builder
	fmt.Fprintf(&text, "{%d next %d out", l.Id, l.Next)
	for _, s := range l.Out {
		m, ok := plainGetMsg(s.Body)
		fmt.Fprintf(&text, " [%d > %d: %.60s %t]", s.Seq, s.To, plainMsgText(m), ok)
	}
	fmt.Fprintf(&text, " seen %v}", l.Seen)
	return fmt.Sprintf("%.1200s", text.String())
}

// someOf makes numbers that ascend, so many at most, half of them close to each
// other.
func (m *maker) someOf(s span, count int) []int {
	if s.most < s.least {
		return nil
	}
	if m.IntN(2) == 0 {
		s.most = min(s.most, s.least+count+m.IntN(40))
	}
	var list []int
	for range count {
		list = append(list, m.inSpan(s))
	}
	sort.Ints(list)
	return slices.Compact(list)
}

// msgAmong makes a message of that one of so many nodes to another one, or to
// one that there is not where it is alone.
func (m *maker) msgAmong(from int, nodes int) impl.Msg {
	made := m.msg()
	if len(made.Cell.Kids) > 5 {
		made.Cell.Kids = made.Cell.Kids[:m.IntN(5)]
	}
	made.From, made.To = from, (from+1)%31
	if nodes > 1 && from < nodes {
		made.To = (from + 1 + m.IntN(nodes-1)) % nodes
	}
	return made
}

// link makes a link that is right, of at least so many nodes.
func (m *maker) link(least int) impl.Link {
	nodes := m.inSpan(span{least, 31})
	if m.IntN(2) == 0 {
		nodes = least + m.IntN(4)
	}
	l := impl.Link{Id: m.inSpan(span{0, nodes - 1}), Next: m.inSpan(span{1, 999999})}
	if nodes > 1 {
		for _, seq := range m.someOf(span{1, l.Next - 1}, m.inSpan(span{0, 60})) {
			made := m.msgAmong(l.Id, nodes)
			l.Out = append(l.Out, impl.Sent{Seq: seq, To: made.To, Body: msgBytes(made)})
		}
	}
	for range nodes {
		low := m.inSpan(span{1, 1000000})
		l.Seen = append(l.Seen, impl.Seen{Low: low, Ids: m.someOf(span{low, 999999}, m.inSpan(span{0, 60}))})
	}
	return l
}

// near makes a number that is close to one of a list, or any one.
func (m *maker) near(list []int, s span) int {
	n := m.inSpan(s)
	if m.IntN(4) > 0 {
		n = list[m.IntN(len(list))] + m.IntN(3) - 1
	}
	return min(max(n, s.least), s.most)
}

// packTo makes a pack for a link, with a Seq and a Low close to what it has
// seen; some are of a node that there is not, and some for another one.
func (m *maker) packTo(l impl.Link) impl.Pack {
	from := (l.Id + 1 + m.IntN(max(1, len(l.Seen)-1))) % max(len(l.Seen), 2)
	if m.IntN(10) == 0 {
		from = m.IntN(31)
	}
	body := m.msgAmong(from, 31)
	if m.IntN(10) > 0 && from != l.Id {
		body.To = l.Id
	}
	places := []int{1, 999999}
	if from < len(l.Seen) {
		places = append(slices.Clone(l.Seen[from].Ids), l.Seen[from].Low, l.Seen[from].Low)
	}
	seq := m.near(places, span{1, 999999})
	p := impl.Pack{From: body.From, To: body.To, Seq: seq, Low: m.near(append(places, seq), span{1, seq}), Body: msgBytes(body)}
	if m.IntN(20) == 0 {
		p = ack(p.From, p.To, p.Seq)
	}
	return p
}

// changedLinks has one field alone changed in each.
func changedLinks(l impl.Link) []impl.Link {
	var all []impl.Link
	change := func(do func(k *impl.Link)) {
		k := copyLink(l)
		do(&k)
		all = append(all, k)
	}
	for _, number := range append(wireEdges(), l.Next-1, l.Next+1, len(l.Seen), len(l.Seen)-1, 1000001) {
		change(func(k *impl.Link) { k.Id = number })
		change(func(k *impl.Link) { k.Next = number })
		for _, i := range placesIn(len(l.Out)) {
			change(func(k *impl.Link) { k.Out[i].Seq = number })
			change(func(k *impl.Link) { k.Out[i].To = number })
		}
		for _, i := range placesIn(len(l.Seen)) {
			change(func(k *impl.Link) { k.Seen[i].Low = number })
			change(func(k *impl.Link) { k.Seen[i].Ids = append(k.Seen[i].Ids, number) })
			for _, j := range placesIn(len(l.Seen[i].Ids)) {
				change(func(k *impl.Link) { k.Seen[i].Ids[j] = number })
			}
		}
	}
	for _, i := range placesIn(len(l.Out)) {
		for _, other := range placesIn(len(l.Out)) {
			change(func(k *impl.Link) { k.Out[i] = k.Out[other] })
			change(func(k *impl.Link) { k.Out[i].Seq = k.Out[other].Seq })
			change(func(k *impl.Link) { k.Out[i].To = k.Out[other].To })
			change(func(k *impl.Link) { k.Out[i].Body = k.Out[other].Body })
		}
		body := l.Out[i].Body
		for _, other := range []string{"", "x", body[1:], body[:len(body)-1], body + "x", body + body, strings.Repeat("\x00", 72), packBytes(impl.Pack{Body: body})} {
			change(func(k *impl.Link) { k.Out[i].Body = other })
		}
	}
	for _, i := range placesIn(len(l.Seen)) {
		for _, other := range placesIn(len(l.Seen)) {
			change(func(k *impl.Link) { k.Seen[i].Low = k.Seen[other].Low })
			change(func(k *impl.Link) { k.Seen[i].Ids = slices.Clone(k.Seen[other].Ids) })
		}
	}
	for _, count := range []int{0, 1, l.Id, l.Id + 1, 30, 31, 32, 33} {
		change(func(k *impl.Link) { k.Seen = slices.Repeat([]impl.Seen{{Low: 1}}, count) })
	}
	return all
}

// placesIn has the first place of a list, the middle one and the last two.
func placesIn(length int) []int {
	places := []int{0, length / 2, length - 2, length - 1}
	sort.Ints(places)
	places = slices.Compact(places)
	return slices.DeleteFunc(places, func(i int) bool { return i < 0 || i >= length })
}

// linkNumbers has the edges of what a link is asked with.
func linkNumbers(l impl.Link) []int {
	return []int{math.MinInt, -1, 0, 1, 2, l.Id, len(l.Seen) - 1, len(l.Seen), 30, 31, l.Next - 1, l.Next, 999999, 1000000, math.MaxInt}
}
