package tests

import (
	"encoding/binary"
	"fmt"
	"hash/crc32"
	"math"
	"strings"

	"loop.example/g00303/impl"
)

type span struct{ least, most int }

func (s span) has(n int) bool { return n >= s.least && n <= s.most }

// wireRule says of which numbers the fields of a message are; without a word
// of a field it is 0.
type wireRule struct{ id, want, n, at, kids span }

var (
	wireIds  = span{0, 999999}
	wireKids = span{0, 100}
)

// wireRules has each kind of message that there is, with each kind of cell.
var wireRules = map[[2]int]wireRule{
	{impl.MsgFetch, 0}:          {id: wireIds, want: wireIds},
	{impl.MsgFish, 0}:           {},
	{impl.MsgGive, impl.CInt}:   {id: wireIds, n: span{math.MinInt, math.MaxInt}},
	{impl.MsgGive, impl.CNil}:   {id: wireIds},
	{impl.MsgGive, impl.CCons}:  {id: wireIds, kids: span{2, 2}},
	{impl.MsgGive, impl.CFun}:   {id: wireIds, n: span{1, 6}, at: wireIds, kids: wireKids},
	{impl.MsgWork, impl.CThunk}: {id: wireIds, at: wireIds, kids: wireKids},
}

func plainNodesOk(from int, to int) bool {
	nodes := span{0, 30}
	return nodes.has(from) && nodes.has(to) && from != to
}

func plainMsgOk(m impl.Msg) bool {
	rule, found := wireRules[[2]int{m.Kind, m.Cell.Kind}]
	right := found && plainNodesOk(m.From, m.To) && rule.id.has(m.Id) && rule.want.has(m.Want)
	right = right && rule.n.has(m.Cell.N) && rule.at.has(m.Cell.At) && rule.kids.has(len(m.Cell.Kids))
	for _, kid := range m.Cell.Kids {
		right = right && wireIds.has(kid)
	}
	return right
}

// bytesOf tells the bytes of numbers, right or not.
func bytesOf(numbers ...int) string {
	var bytes []byte
	for _, n := range numbers {
		bytes = binary.BigEndian.AppendUint64(bytes, uint64(n))
	}
	return string(bytes)
}

// msgBytes tells what would be the bytes of a message if it were right.
func msgBytes(m impl.Msg) string {
	c := m.Cell
	return bytesOf(m.Kind, m.From, m.To, m.Id, m.Want, c.Kind, c.N, c.At, len(c.Kids)) + bytesOf(c.Kids...)
}

// plainGetMsg makes a message of any bytes, and asks whether it is right and
// these are its bytes.
func plainGetMsg(s string) (impl.Msg, bool) {
	if len(s) < 72 || len(s) > 872 {
		return impl.Msg{}, false
	}
	var list []int
	for at := 0; at+8 <= len(s); at += 8 {
		list = append(list, int(binary.BigEndian.Uint64([]byte(s[at:]))))
	}
	m := impl.Msg{Kind: list[0], From: list[1], To: list[2], Id: list[3], Want: list[4]}
	m.Cell = cell(list[5], list[6], list[7], append([]int(nil), list[9:]...)...)
	if !plainMsgOk(m) || msgBytes(m) != s {
		return impl.Msg{}, false
	}
	return m, true
}

func plainPackOk(p impl.Pack) bool {
	seqs := span{1, 999999}
	if p.Kind == impl.PackAck {
		return plainNodesOk(p.From, p.To) && seqs.has(p.Seq) && p.Low == 0 && p.Body == ""
	}
	m, right := plainGetMsg(p.Body)
	lows := span{1, p.Seq}
	return p.Kind == impl.PackData && right && m.From == p.From && m.To == p.To && seqs.has(p.Seq) && lows.has(p.Low)
}

// packBytes tells what would be the bytes of a pack if it were right.
func packBytes(p impl.Pack) string {
	sum := crc32.ChecksumIEEE([]byte(p.Body))
	return bytesOf(p.Kind, p.From, p.To, p.Seq, p.Low, int(sum)) + p.Body
}

func plainGetPack(s string) (impl.Pack, bool) {
	if len(s) < 48 || len(s) > 48+872 {
		return impl.Pack{}, false
	}
	var list [6]int
	for i := range list {
		list[i] = int(binary.BigEndian.Uint64([]byte(s[8*i:])))
	}
	p := impl.Pack{Kind: list[0], From: list[1], To: list[2], Seq: list[3], Low: list[4], Body: s[48:]}
	if !plainPackOk(p) || packBytes(p) != s {
		return impl.Pack{}, false
	}
	return p, true
}

func plainMsgText(m impl.Msg) string {
	if !plainMsgOk(m) {
		return ""
	}
	switch m.Kind {
	case impl.MsgFetch:
		return fmt.Sprintf("fetch %d > %d %d %d", m.From, m.To, m.Id, m.Want)
	case impl.MsgFish:
		return fmt.Sprintf("fish %d > %d", m.From, m.To)
	case impl.MsgGive:
		return fmt.Sprintf("give %d > %d %d %s", m.From, m.To, m.Id, plainCellText(m.Cell))
	}
	return fmt.Sprintf("work %d > %d %d %s", m.From, m.To, m.Id, plainCellText(m.Cell))
}

// plainGetNum reads the digits of the bytes in base 16.
func plainGetNum(s string, i int) (int, int) {
	if i < 0 || i > len(s) || len(s[i:]) < 8 {
		return 0, -1
	}
	var bits uint64
	if _, err := fmt.Sscanf(fmt.Sprintf("%x", s[i:i+8]), "%x", &bits); err != nil {
		panic(err)
	}
	return int(bits), i + 8
}

// wireEdges has the edges of all that is numbered on the wire.
func wireEdges() []int {
	return []int{math.MinInt, math.MinInt + 1, -1 << 32, -2, -1, 0, 1, 2, 3, 4, 5, 6, 7, 8, 29, 30, 31, 32, 99, 100, 101, 255, 256, 999998, 999999, 1000000, 1 << 32, 1<<32 + 1, 1 << 56, 1 << 61, math.MaxInt - 1, math.MaxInt}
}

// inSpan makes a number of a span, each third one at an end of it.
func (m *maker) inSpan(s span) int {
	switch {
	case m.IntN(6) == 0:
		return s.least
	case m.IntN(6) == 0:
		return s.most
	case s.least == math.MinInt:
		return int(m.Uint64())
	}
	return s.least + m.IntN(s.most-s.least+1)
}

// msg makes a message that is right.
func (m *maker) msg() impl.Msg {
	kinds := [][2]int{
		{impl.MsgFetch, 0}, {impl.MsgFish, 0}, {impl.MsgGive, impl.CInt}, {impl.MsgGive, impl.CNil},
		{impl.MsgGive, impl.CCons}, {impl.MsgGive, impl.CFun}, {impl.MsgWork, impl.CThunk},
	}
	kind := kinds[m.IntN(len(kinds))]
	rule := wireRules[kind]
	made := impl.Msg{Kind: kind[0], Id: m.inSpan(rule.id), Want: m.inSpan(rule.want)}
	made.From, made.To = m.nodes()
	made.Cell = cell(kind[1], m.inSpan(rule.n), m.inSpan(rule.at))
	for range m.inSpan(rule.kids) {
		made.Cell.Kids = append(made.Cell.Kids, m.inSpan(wireIds))
	}
	return made
}

func (m *maker) nodes() (int, int) {
	from := m.inSpan(span{0, 30})
	return from, (from + 1 + m.IntN(30)) % 31
}

// pack makes a pack that is right.
func (m *maker) pack() impl.Pack {
	seq := m.inSpan(span{1, 999999})
	if m.IntN(3) == 0 {
		from, to := m.nodes()
		return impl.Pack{Kind: impl.PackAck, From: from, To: to, Seq: seq}
	}
	body := m.msg()
	return impl.Pack{From: body.From, To: body.To, Seq: seq, Low: m.inSpan(span{1, seq}), Body: msgBytes(body)}
}

// changedMsgs has one field alone changed in each.
func changedMsgs(m impl.Msg) []impl.Msg {
	var all []impl.Msg
	change := func(do func(n *impl.Msg)) {
		n := copyMsg(m)
		do(&n)
		all = append(all, n)
	}
	for _, number := range wireEdges() {
		change(func(n *impl.Msg) { n.Kind = number })
		change(func(n *impl.Msg) { n.From = number })
		change(func(n *impl.Msg) { n.To = number })
		change(func(n *impl.Msg) { n.Id = number })
		change(func(n *impl.Msg) { n.Want = number })
		change(func(n *impl.Msg) { n.Cell.Kind = number })
		change(func(n *impl.Msg) { n.Cell.N = number })
		change(func(n *impl.Msg) { n.Cell.At = number })
		change(func(n *impl.Msg) { n.Cell.Kids = append(n.Cell.Kids, number) })
		for _, i := range []int{0, len(m.Cell.Kids) / 2, len(m.Cell.Kids) - 1} {
			if len(m.Cell.Kids) > 0 {
				change(func(n *impl.Msg) { n.Cell.Kids[i] = number })
			}
		}
	}
	for _, count := range []int{0, 1, 2, 3, 99, 100, 101, 102, 1000} {
		change(func(n *impl.Msg) { n.Cell.Kids = make([]int, count) })
	}
	return all
}

// changedPacks has one field alone changed in each.
func changedPacks(p impl.Pack) []impl.Pack {
	var all []impl.Pack
	change := func(do func(q *impl.Pack)) {
		q := p
		do(&q)
		all = append(all, q)
	}
	for _, number := range append(wireEdges(), p.Seq-1, p.Seq, p.Seq+1, p.Low-1, p.Low, p.Low+1) {
		change(func(q *impl.Pack) { q.Kind = number })
		change(func(q *impl.Pack) { q.From = number })
		change(func(q *impl.Pack) { q.To = number })
		change(func(q *impl.Pack) { q.Seq = number })
		change(func(q *impl.Pack) { q.Low = number })
	}
	change(func(q *impl.Pack) { q.From, q.To = p.To, p.From })
	for _, body := range []string{"", "x", strings.Repeat("\x00", 72), p.Body + p.Body, p.Body + "\x00", p.Body[:len(p.Body)/2]} {
		change(func(q *impl.Pack) { q.Body = body })
	}
	return all
}

func copyMsg(m impl.Msg) impl.Msg {
	m.Cell.Kids = append([]int(nil), m.Cell.Kids...)
	return m
}
