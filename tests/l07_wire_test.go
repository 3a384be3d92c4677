package tests

import (
	"fmt"
	"hash/crc32"
	"math"
	"reflect"
	"slices"
	"strings"
	"sync"
	"testing"

	"loop.example/g00303/impl"
)

func fetchMsg(from int, to int, id int, want int) impl.Msg {
	return impl.Msg{Kind: impl.MsgFetch, From: from, To: to, Id: id, Want: want}
}

func giveMsg(from int, to int, id int, c impl.Cell) impl.Msg {
	return impl.Msg{Kind: impl.MsgGive, From: from, To: to, Id: id, Cell: c}
}

func fishMsg(from int, to int) impl.Msg {
	return impl.Msg{Kind: impl.MsgFish, From: from, To: to}
}

func workMsg(from int, to int, id int, c impl.Cell) impl.Msg {
	return impl.Msg{Kind: impl.MsgWork, From: from, To: to, Id: id, Cell: c}
}

func ack(from int, to int, seq int) impl.Pack {
	return impl.Pack{Kind: impl.PackAck, From: from, To: to, Seq: seq}
}

func dataOf(m impl.Msg, seq int, low int) impl.Pack {
	return impl.Pack{From: m.From, To: m.To, Seq: seq, Low: low, Body: msgBytes(m)}
}

// upTo has the numbers from 0 on, so many.
func upTo(count int) []int {
	var list []int
	for i := range count {
		list = append(list, i)
	}
	return list
}

// eachMsg has a right message of each kind, with each kind of cell, and with
// no Kids, one, two and many.
func eachMsg() []impl.Msg {
	return []impl.Msg{
		fetchMsg(1, 2, 3, 4), fishMsg(30, 0), giveMsg(2, 1, 4, intCell(-5)), giveMsg(0, 30, 5, cell(impl.CNil, 0, 0)),
		giveMsg(7, 8, 6, pairOf(9, 10)), giveMsg(8, 7, 7, cell(impl.CFun, 1, 11)), giveMsg(9, 3, 8, cell(impl.CFun, 6, 12, 13)),
		giveMsg(3, 9, 9, cell(impl.CFun, 2, 13, 14, 14)), workMsg(4, 5, 10, thunk(15)), workMsg(5, 4, 11, thunk(16, 17)),
		workMsg(6, 5, 12, thunk(17, 18, 19)), workMsg(5, 6, 13, thunk(18, upTo(100)...)), giveMsg(5, 6, 14, cell(impl.CFun, 3, 19, upTo(40)...)),
	}
}

func eachPack() []impl.Pack {
	list := []impl.Pack{ack(1, 2, 5), ack(30, 0, 999999), ack(0, 30, 1)}
	for i, m := range eachMsg() {
		list = append(list, dataOf(m, 5+i, 3+i))
	}
	return list
}

func sameMsg(a impl.Msg, b impl.Msg) bool { return reflect.DeepEqual(copyMsg(a), copyMsg(b)) }

// wantMsg asks for all that is told of a message, and whether it comes back.
func wantMsg(t *testing.T, right bool, m impl.Msg) {
	t.Helper()
	if plainMsgOk(m) != right {
		t.Errorf("the oracle tells %s: %t", brief(m), !right)
	}
	bytes, text, back := "", "", impl.Msg{}
	if right {
		bytes, text, back = msgBytes(m), plainMsgText(m), m
	}
	if got := impl.MsgOk(m); got != right {
		t.Errorf("MsgOk(%s) = %t", brief(m), got)
	}
	if got := impl.PutMsg(m); got != bytes {
		t.Errorf("PutMsg(%s) = %.400x; want %.400x", brief(m), got, bytes)
	}
	if got := impl.MsgText(m); got != text {
		t.Errorf("MsgText(%s) = %.300q; want %.300q", brief(m), got, text)
	}
	// The bytes that a wrong message would have are none's either.
	if got, ok := impl.GetMsg(msgBytes(m)); ok != right || !sameMsg(got, back) {
		t.Errorf("GetMsg of the bytes of %s = %s, %t", brief(m), brief(got), ok)
	}
}

// packText has the bytes of the body as digits.
func packText(p impl.Pack) string {
	return fmt.Sprintf("{%d %d > %d %d %d %.400x}", p.Kind, p.From, p.To, p.Seq, p.Low, p.Body)
}

func wantPack(t *testing.T, right bool, p impl.Pack) {
	t.Helper()
	if plainPackOk(p) != right {
		t.Errorf("the oracle tells %s: %t", packText(p), !right)
	}
	bytes, back := "", impl.Pack{}
	if right {
		bytes, back = packBytes(p), p
	}
	if got := impl.PackOk(p); got != right {
		t.Errorf("PackOk(%s) = %t", packText(p), got)
	}
	if got := impl.PutPack(p); got != bytes {
		t.Errorf("PutPack(%s) = %.400x; want %.400x", packText(p), got, bytes)
	}
	if got, ok := impl.GetPack(packBytes(p)); ok != right || got != back {
		t.Errorf("GetPack of the bytes of %s = %s, %t", packText(p), packText(got), ok)
	}
}

// wantMsgBytes asks for what bytes are told to be, and whether that has no other
// bytes; it tells whether they are a message's.
func wantMsgBytes(t *testing.T, s string) bool {
	t.Helper()
	m, ok := impl.GetMsg(s)
	want, right := plainGetMsg(s)
	if ok != right || !sameMsg(m, want) {
		t.Fatalf("GetMsg(%.400x) = %s, %t; want %s, %t", s, brief(m), ok, brief(want), right)
	}
	if ok && impl.PutMsg(m) != s {
		t.Fatalf("PutMsg of %s is not %.400x", brief(m), s)
	}
	return ok
}

func wantPackBytes(t *testing.T, s string) bool {
	t.Helper()
	p, ok := impl.GetPack(s)
	want, right := plainGetPack(s)
	if ok != right || p != want {
		t.Fatalf("GetPack(%.400x) = %s, %t; want %s, %t", s, packText(p), ok, packText(want), right)
	}
	if ok && impl.PutPack(p) != s {
		t.Fatalf("PutPack of %s is not %.400x", packText(p), s)
	}
	return ok
}

func TestKindsOfPacks(t *testing.T) {
	if impl.MaxNodes != 31 || impl.PackData != 0 || impl.PackAck != 1 {
		t.Error(impl.MaxNodes, impl.PackData, impl.PackAck)
	}
}

func TestPutNumEdges(t *testing.T) {
	for _, c := range []struct {
		n    int
		want string
	}{
		{0, "\x00\x00\x00\x00\x00\x00\x00\x00"},
		{1, "\x00\x00\x00\x00\x00\x00\x00\x01"},
		{-1, "\xff\xff\xff\xff\xff\xff\xff\xff"},
		{-2, "\xff\xff\xff\xff\xff\xff\xff\xfe"},
		{127, "\x00\x00\x00\x00\x00\x00\x00\x7f"},
		{128, "\x00\x00\x00\x00\x00\x00\x00\x80"},
		{255, "\x00\x00\x00\x00\x00\x00\x00\xff"},
		{256, "\x00\x00\x00\x00\x00\x00\x01\x00"},
		{-256, "\xff\xff\xff\xff\xff\xff\xff\x00"},
		{999999, "\x00\x00\x00\x00\x00\x0f\x42\x3f"},
		{1 << 32, "\x00\x00\x00\x01\x00\x00\x00\x00"},
		{0x0102030405060708, "\x01\x02\x03\x04\x05\x06\x07\x08"},
		{math.MaxInt, "\x7f\xff\xff\xff\xff\xff\xff\xff"},
		{math.MinInt, "\x80\x00\x00\x00\x00\x00\x00\x00"},
		{math.MinInt + 1, "\x80\x00\x00\x00\x00\x00\x00\x01"},
	} {
		if got := impl.PutNum(c.n); got != c.want {
			t.Errorf("PutNum(%d) = %x; want %x", c.n, got, c.want)
		}
		if n, at := impl.GetNum(c.want, 0); n != c.n || at != 8 {
			t.Errorf("GetNum(%x, 0) = %d, %d; want %d", c.want, n, at, c.n)
		}
	}
}

func TestNumbersComeBackFromTheirBytes(t *testing.T) {
	m := newMaker(50)
	list := wireEdges()
	for bit := range 64 {
		list = append(list, 1<<bit, -1<<bit, 1<<bit-1, ^(1 << bit))
	}
	for range 2000 {
		list = append(list, int(m.Uint64()))
	}
	for i, n := range list {
		ahead := strings.Repeat("\xa5", i%20)
		text := ahead + impl.PutNum(n) + strings.Repeat("\x5a", i%3)
		if got, at := impl.GetNum(text, len(ahead)); got != n || at != len(ahead)+8 || impl.PutNum(n) != bytesOf(n) {
			t.Errorf("%d: %d, %d", n, got, at)
		}
	}
}

func TestGetNumAtEachPlace(t *testing.T) {
	letters := "\x80\x01\x7f\xff\x00\xfe\xca\x11\x22\x99\xab\xcd\xef\x10\x20\x30\x40\x50"
	for length := range len(letters) + 1 {
		text := letters[:length]
		places := []int{math.MinInt, math.MinInt + 1, math.MinInt + 7, math.MinInt + 8, -1 << 32, math.MaxInt - 8, math.MaxInt - 7, math.MaxInt - 1, math.MaxInt, 1 << 32}
		for at := -20; at < 40; at++ {
			places = append(places, at)
		}
		for _, at := range places {
			n, behind := impl.GetNum(text, at)
			wantN, wantBehind := plainGetNum(text, at)
			if n != wantN || behind != wantBehind {
				t.Errorf("GetNum(%x, %d) = %d, %d; want %d, %d", text, at, n, behind, wantN, wantBehind)
			}
		}
	}
	// The last place with eight bytes, and the one further.
	text := "abc" + impl.PutNum(-7)
	if n, at := impl.GetNum(text, 3); n != -7 || at != 11 {
		t.Error(n, at)
	}
	for _, place := range []int{4, 10, 11, 12, -1, math.MaxInt, math.MinInt} {
		if n, at := impl.GetNum(text, place); n != 0 || at != -1 {
			t.Error(place, n, at)
		}
	}
	for _, short := range []string{"", "1", "1234567"} {
		if n, at := impl.GetNum(short, 0); n != 0 || at != -1 {
			t.Errorf("%q: %d, %d", short, n, at)
		}
	}
}

func TestMsgOkEachKind(t *testing.T) {
	for _, m := range eachMsg() {
		wantMsg(t, true, m)
	}
	// What may not be sent.
	for _, c := range []impl.Cell{thunk(1), cell(impl.CHole, 0, 0), ind(1), cell(impl.CFar, 1, 1), cell(impl.CFar, -1, 0), cell(8, 0, 0), cell(-1, 0, 0)} {
		wantMsg(t, false, giveMsg(1, 2, 3, c))
	}
	for _, c := range []impl.Cell{{}, intCell(1), cell(impl.CNil, 0, 0), pairOf(1, 2), cell(impl.CFun, 1, 1), cell(impl.CHole, 0, 0), ind(1), cell(impl.CFar, 1, 1), cell(8, 0, 0), cell(-1, 0, 0)} {
		wantMsg(t, false, workMsg(1, 2, 3, c))
	}
	for _, kind := range []int{math.MinInt, -1, 4, 5, 256, 1 << 32, math.MaxInt} {
		wantMsg(t, false, impl.Msg{Kind: kind, From: 1, To: 2})
	}
	// A message without Kids may have an empty list of them.
	for _, m := range eachMsg() {
		if len(m.Cell.Kids) == 0 {
			m.Cell.Kids = []int{}
			wantMsg(t, true, m)
		}
	}
	wantMsg(t, false, impl.Msg{})
	wantMsg(t, true, impl.Msg{To: 1})
}

func TestMsgOkNodes(t *testing.T) {
	nodes := []int{math.MinInt, -31, -1, 0, 1, 15, 29, 30, 31, 32, 1 << 32, math.MaxInt}
	for _, from := range nodes {
		for _, to := range nodes {
			right := from >= 0 && from <= 30 && to >= 0 && to <= 30 && from != to
			wantMsg(t, right, fetchMsg(from, to, 3, 4))
			wantMsg(t, right, fishMsg(from, to))
			wantMsg(t, right, giveMsg(from, to, 1, pairOf(1, 2)))
			wantMsg(t, right, workMsg(from, to, 1, thunk(2)))
			wantPack(t, right, ack(from, to, 7))
			wantPack(t, right, dataOf(fishMsg(from, to), 7, 7))
		}
	}
}

func TestMsgOkNumbers(t *testing.T) {
	for _, n := range wireEdges() {
		right := n >= 0 && n <= 999999
		wantMsg(t, right, fetchMsg(1, 2, n, 0))
		wantMsg(t, right, fetchMsg(1, 2, 0, n))
		wantMsg(t, right, giveMsg(1, 2, n, intCell(3)))
		wantMsg(t, right, giveMsg(1, 2, n, cell(impl.CNil, 0, 0)))
		wantMsg(t, right, giveMsg(1, 2, 3, pairOf(n, 0)))
		wantMsg(t, right, giveMsg(1, 2, 3, pairOf(0, n)))
		wantMsg(t, right, giveMsg(1, 2, 3, cell(impl.CFun, 1, n)))
		wantMsg(t, right, giveMsg(1, 2, 3, cell(impl.CFun, 1, 0, 5, n, 5)))
		wantMsg(t, right, workMsg(1, 2, n, thunk(0)))
		wantMsg(t, right, workMsg(1, 2, 0, thunk(n)))
		wantMsg(t, right, workMsg(1, 2, 0, thunk(0, n)))
		wantMsg(t, n >= 1 && n <= 6, giveMsg(1, 2, 3, cell(impl.CFun, n, 0)))
		// The greatest and the least number may be sent themselves.
		wantMsg(t, true, giveMsg(1, 2, 3, intCell(n)))
	}
}

func TestMsgOkHowManyKids(t *testing.T) {
	for _, count := range []int{0, 1, 2, 3, 50, 99, 100, 101, 102, 200, 1000} {
		kids := upTo(count)
		wantMsg(t, count <= 100, giveMsg(1, 2, 3, cell(impl.CFun, 2, 4, kids...)))
		wantMsg(t, count <= 100, workMsg(1, 2, 3, thunk(4, kids...)))
		wantMsg(t, count == 2, giveMsg(1, 2, 3, cell(impl.CCons, 0, 0, kids...)))
		wantMsg(t, count == 0, giveMsg(1, 2, 3, cell(impl.CInt, 5, 0, kids...)))
		wantMsg(t, count == 0, giveMsg(1, 2, 3, cell(impl.CNil, 0, 0, kids...)))
		wantMsg(t, count == 0, impl.Msg{Kind: impl.MsgFetch, From: 1, To: 2, Cell: cell(0, 0, 0, kids...)})
		wantMsg(t, count == 0, impl.Msg{Kind: impl.MsgFish, From: 1, To: 2, Cell: cell(0, 0, 0, kids...)})
		if count > 0 {
			// The last one counts as the others do.
			kids[count-1] = 1000000
			wantMsg(t, false, workMsg(1, 2, 3, thunk(4, kids...)))
			kids[count-1] = -1
			wantMsg(t, false, giveMsg(1, 2, 3, cell(impl.CFun, 2, 4, kids...)))
		}
	}
}

// What a kind (or a cell's) has not is zero.
func TestMsgOkOfOneWrongField(t *testing.T) {
	for _, m := range []impl.Msg{
		{Kind: impl.MsgFetch, From: 1, To: 2, Cell: intCell(1)},
		{Kind: impl.MsgFetch, From: 1, To: 2, Cell: cell(impl.CNil, 0, 0)},
		{Kind: impl.MsgFetch, From: 1, To: 2, Cell: cell(0, 0, 1)},
		{Kind: impl.MsgFetch, From: 1, To: 2, Cell: cell(0, 0, 0, 0)},
		{Kind: impl.MsgFish, From: 1, To: 2, Id: 1},
		{Kind: impl.MsgFish, From: 1, To: 2, Want: 1},
		{Kind: impl.MsgFish, From: 1, To: 2, Cell: intCell(1)},
		{Kind: impl.MsgFish, From: 1, To: 2, Cell: thunk(0)},
		{Kind: impl.MsgGive, From: 1, To: 2, Want: 1},
		{Kind: impl.MsgWork, From: 1, To: 2, Want: 1, Cell: thunk(0)},
		giveMsg(1, 2, 3, cell(impl.CInt, 0, 1)),
		giveMsg(1, 2, 3, cell(impl.CNil, 1, 0)),
		giveMsg(1, 2, 3, cell(impl.CNil, 0, 1)),
		giveMsg(1, 2, 3, cell(impl.CCons, 1, 0, 1, 2)),
		giveMsg(1, 2, 3, cell(impl.CCons, 0, 1, 1, 2)),
		workMsg(1, 2, 3, cell(impl.CThunk, 1, 0)),
	} {
		wantMsg(t, false, m)
	}
	right, wrong := 0, 0
	for _, m := range eachMsg() {
		for _, other := range changedMsgs(m) {
			want := plainMsgOk(other)
			wantMsg(t, want, other)
			if want {
				right++
			} else {
				wrong++
			}
		}
	}
	if right < 500 || wrong < 2000 {
		t.Error("only", right, "right and", wrong, "wrong messages")
	}
}

func TestPutMsgWrittenOut(t *testing.T) {
	num := func(last string) string { return strings.Repeat("\x00", 8-len(last)) + last }
	zero := num("")
	for _, c := range []struct {
		m    impl.Msg
		want string
	}{
		{fetchMsg(1, 2, 3, 999999), zero + num("\x01") + num("\x02") + num("\x03") + num("\x0f\x42\x3f") + zero + zero + zero + zero},
		{giveMsg(30, 0, 258, intCell(-2)), num("\x01") + num("\x1e") + zero + num("\x01\x02") + zero + zero + "\xff\xff\xff\xff\xff\xff\xff\xfe" + zero + zero},
		{giveMsg(2, 1, 4, cell(impl.CNil, 0, 0)), num("\x01") + num("\x02") + num("\x01") + num("\x04") + zero + num("\x01") + zero + zero + zero},
		{giveMsg(2, 1, 4, pairOf(5, 6)), num("\x01") + num("\x02") + num("\x01") + num("\x04") + zero + num("\x02") + zero + zero + num("\x02") + num("\x05") + num("\x06")},
		{giveMsg(2, 1, 4, cell(impl.CFun, 6, 7, 8)), num("\x01") + num("\x02") + num("\x01") + num("\x04") + zero + num("\x03") + num("\x06") + num("\x07") + num("\x01") + num("\x08")},
		{fishMsg(1, 2), num("\x02") + num("\x01") + num("\x02") + zero + zero + zero + zero + zero + zero},
		{workMsg(2, 1, 9, thunk(7, 1)), num("\x03") + num("\x02") + num("\x01") + num("\x09") + zero + num("\x04") + zero + num("\x07") + num("\x01") + num("\x01")},
	} {
		if got := impl.PutMsg(c.m); got != c.want {
			t.Errorf("PutMsg(%v) = %x; want %x", c.m, got, c.want)
		}
		if got, ok := impl.GetMsg(c.want); !ok || !reflect.DeepEqual(got, c.m) {
			t.Errorf("GetMsg(%x) = %v, %t; want %v", c.want, got, ok, c.m)
		}
	}
	work := workMsg(2, 1, 9, thunk(7, 1))
	body := impl.PutMsg(work)
	pack := num("") + num("\x02") + num("\x01") + num("\x05") + num("\x03") + impl.PutNum(int(crc32.ChecksumIEEE([]byte(body)))) + body
	if got := impl.PutPack(impl.Pack{From: 2, To: 1, Seq: 5, Low: 3, Body: body}); got != pack {
		t.Errorf("%x; want %x", got, pack)
	}
	// The sum of nothing is 0.
	if got := impl.PutPack(ack(2, 1, 5)); got != num("\x01")+num("\x02")+num("\x01")+num("\x05")+zero+zero {
		t.Errorf("%x", got)
	}
}

// Promise 7 for messages.
func TestMessagesComeBackFromTheirBytes(t *testing.T) {
	m := newMaker(51)
	seen := map[int]int{}
	for range 20000 {
		made := m.msg()
		seen[made.Kind*8+made.Cell.Kind]++
		bytes := impl.PutMsg(made)
		got, ok := impl.GetMsg(bytes)
		if !ok || !sameMsg(got, made) || len(bytes) != 72+8*len(made.Cell.Kids) || !impl.MsgOk(made) {
			t.Fatalf("%v: %x, %v, %t", made, bytes, got, ok)
		}
	}
	if len(seen) != 7 {
		t.Error("only", seen)
	}
}

// Promise 7 for packs.
func TestPacksComeBackFromTheirBytes(t *testing.T) {
	m := newMaker(52)
	for range 20000 {
		made := m.pack()
		bytes := impl.PutPack(made)
		got, ok := impl.GetPack(bytes)
		if !ok || got != made || len(bytes) != 48+len(made.Body) || !impl.PackOk(made) {
			t.Fatalf("%s: %x, %s, %t", packText(made), bytes, packText(got), ok)
		}
	}
}

// Two that are not the same have not the same bytes.
func TestBytesAreOfOneAlone(t *testing.T) {
	m := newMaker(53)
	msgs, packs := map[string]impl.Msg{}, map[string]impl.Pack{}
	for _, made := range eachMsg() {
		for _, other := range changedMsgs(made) {
			bytes := impl.PutMsg(other)
			if known, found := msgs[bytes]; found && bytes != "" && !sameMsg(known, other) {
				t.Fatalf("%v and %v", known, other)
			}
			msgs[bytes] = other
		}
	}
	for range 500 {
		for _, other := range changedPacks(m.pack()) {
			bytes := impl.PutPack(other)
			if known, found := packs[bytes]; found && bytes != "" && known != other {
				t.Fatalf("%s and %s", packText(known), packText(other))
			}
			packs[bytes] = other
		}
	}
}

// A cut, one byte more, and another one, at every place.
func wantNoOtherBytes(t *testing.T, s string, told func(t *testing.T, s string) bool) {
	t.Helper()
	if !told(t, s) {
		t.Fatalf("%.400x is told to be none", s)
	}
	for at := range len(s) {
		if told(t, s[:at]) {
			t.Fatalf("%.400x is told, cut at %d", s, at)
		}
		if told(t, s[:at]+s[at+1:]) || at > 0 && told(t, s[at:]) {
			t.Fatalf("%.400x is told without byte %d", s, at)
		}
	}
	for at := range len(s) + 1 {
		for _, more := range []string{"\x00", "\x01", "\xff", "x", "\n"} {
			if told(t, s[:at]+more+s[at:]) {
				t.Fatalf("%.400x is told with a byte more at %d", s, at)
			}
		}
	}
	for _, more := range []string{strings.Repeat("\x00", 8), bytesOf(-1), bytesOf(5), bytesOf(1, 2), s} {
		if told(t, s+more) || told(t, more+s) {
			t.Fatalf("%.400x is told with %.400x", s, more)
		}
	}
}

// wantAnyByte puts another byte at every place; what that is told to be, if
// anything, has to have these bytes.
func wantAnyByte(t *testing.T, s string, told func(t *testing.T, s string) bool) {
	t.Helper()
	right := 0
	bytes := []byte(s)
	for at := range bytes {
		kept := bytes[at]
		for b := range 256 {
			bytes[at] = byte(b)
			if bytes[at] != kept && told(t, string(bytes)) {
				right++
			}
		}
		bytes[at] = kept
	}
	if right == 0 {
		t.Errorf("%.400x: none of the others is right", s)
	}
}

func TestGetMsgOfOtherBytes(t *testing.T) {
	for _, m := range eachMsg() {
		s := impl.PutMsg(m)
		wantNoOtherBytes(t, s, wantMsgBytes)
		wantAnyByte(t, s, wantMsgBytes)
	}
	for _, s := range []string{"", "x", strings.Repeat("\x00", 71), strings.Repeat("\x00", 72), strings.Repeat("\x00", 80), strings.Repeat("\xff", 72), strings.Repeat("\x00", 872), impl.PutPack(ack(1, 2, 3))} {
		if got, ok := impl.GetMsg(s); ok || !reflect.DeepEqual(got, impl.Msg{}) {
			t.Errorf("%x: %v, %t", s, got, ok)
		}
	}
}

func TestGetPackOfOtherBytes(t *testing.T) {
	for _, p := range eachPack() {
		s := impl.PutPack(p)
		wantNoOtherBytes(t, s, wantPackBytes)
		if len(p.Body) < 200 {
			wantAnyByte(t, s, wantPackBytes)
		}
	}
	for _, s := range []string{"", "x", strings.Repeat("\x00", 47), strings.Repeat("\x00", 48), strings.Repeat("\xff", 48), strings.Repeat("\x00", 48+72), impl.PutMsg(fetchMsg(1, 2, 3, 4)), impl.PutMsg(giveMsg(1, 2, 3, pairOf(1, 2)))} {
		if got, ok := impl.GetPack(s); ok || got != (impl.Pack{}) {
			t.Errorf("%x: %s, %t", s, packText(got), ok)
		}
	}
}

// A number of Kids that is not that of the Kids that are there.
func TestGetMsgHowManyKids(t *testing.T) {
	for _, there := range []int{0, 1, 2, 3, 99, 100, 101, 128, 150} {
		kids := upTo(there)
		counts := []int{there - 1, there + 1, -there, there + 1<<61, there + 1<<62, there + 1<<32, there + 256, there - 1<<61, there - 1<<62, there | math.MinInt}
		for _, count := range append(counts, wireEdges()...) {
			for _, head := range [][]int{{impl.MsgWork, 1, 2, 3, 0, impl.CThunk, 0, 4}, {impl.MsgGive, 1, 2, 3, 0, impl.CFun, 5, 4}, {impl.MsgGive, 1, 2, 3, 0, impl.CCons, 0, 0}, {impl.MsgGive, 1, 2, 3, 0, impl.CInt, 9, 0}, {impl.MsgFetch, 1, 2, 3, 4, 0, 0, 0}, {impl.MsgFish, 1, 2, 0, 0, 0, 0, 0}} {
				s := bytesOf(head...) + bytesOf(count) + bytesOf(kids...)
				m, ok := impl.GetMsg(s)
				if ok != wantMsgBytes(t, s) || ok && count != there || !ok && !reflect.DeepEqual(m, impl.Msg{}) {
					t.Errorf("%v, %d of %d: %v, %t", head, count, there, m, ok)
				}
				// Nor is it a body.
				p := impl.Pack{From: 1, To: 2, Seq: 1, Low: 1, Body: s}
				wantPack(t, ok, p)
			}
		}
	}
	// Kids that are cut within one of them.
	s := impl.PutMsg(workMsg(1, 2, 3, thunk(4, 5, 6)))
	for length := 72; length < len(s); length++ {
		if _, ok := impl.GetMsg(s[:length]); ok {
			t.Error("cut at", length)
		}
	}
}

func TestPackOkData(t *testing.T) {
	m := fetchMsg(1, 2, 3, 4)
	for _, seq := range wireEdges() {
		for _, low := range append(wireEdges(), seq-1, seq, seq+1) {
			wantPack(t, seq >= 1 && seq <= 999999 && low >= 1 && low <= seq, dataOf(m, seq, low))
		}
	}
	wantPack(t, false, dataOf(m, 0, 0))
	wantPack(t, true, dataOf(m, 1, 1))
	wantPack(t, false, dataOf(m, 1, 2))
	wantPack(t, true, dataOf(m, 999999, 999999))
	wantPack(t, false, dataOf(m, 999999, 1000000))
	wantPack(t, false, dataOf(m, 1000000, 1))
	for _, body := range []impl.Msg{fetchMsg(2, 1, 3, 4), fetchMsg(1, 3, 3, 4), fetchMsg(3, 2, 3, 4), fishMsg(0, 2), giveMsg(1, 0, 3, intCell(4))} {
		wantPack(t, false, impl.Pack{From: 1, To: 2, Seq: 5, Low: 3, Body: msgBytes(body)})
	}
	// Bodies that are no message, though of the same From and To.
	for _, body := range []impl.Msg{fetchMsg(1, 2, -1, 4), giveMsg(1, 2, 3, thunk(1)), workMsg(1, 2, 3, thunk(4, upTo(101)...)), {Kind: 4, From: 1, To: 2}} {
		wantPack(t, false, dataOf(body, 5, 3))
	}
	for _, body := range []string{"", "x", msgBytes(m) + "x", msgBytes(m)[:71], msgBytes(m)[1:], msgBytes(m) + msgBytes(m), strings.Repeat("\x00", 72), packBytes(dataOf(m, 5, 3))} {
		wantPack(t, false, impl.Pack{From: 1, To: 2, Seq: 5, Low: 3, Body: body})
	}
}

func TestPackOkAck(t *testing.T) {
	for _, seq := range wireEdges() {
		wantPack(t, seq >= 1 && seq <= 999999, ack(1, 2, seq))
		p := ack(1, 2, 5)
		p.Low = seq
		wantPack(t, seq == 0, p)
	}
	for _, body := range []string{"x", "\x00", msgBytes(fetchMsg(1, 2, 3, 4))} {
		p := ack(1, 2, 5)
		p.Body = body
		wantPack(t, false, p)
	}
	wantPack(t, false, impl.Pack{})
}

func TestPackOkOfOneWrongField(t *testing.T) {
	right, wrong := 0, 0
	for _, p := range eachPack() {
		for _, other := range changedPacks(p) {
			want := plainPackOk(other)
			wantPack(t, want, other)
			if want {
				right++
			} else {
				wrong++
			}
		}
	}
	if right < 200 || wrong < 1000 {
		t.Error("only", right, "right and", wrong, "wrong packs")
	}
}

// A sum that is another one's is refused, whatever bits of it are wrong.
func TestGetPackWrongSum(t *testing.T) {
	for _, p := range eachPack() {
		s := packBytes(p)
		sum := int(crc32.ChecksumIEEE([]byte(p.Body)))
		for _, other := range append(wireEdges(), sum-1, sum+1, -sum, ^sum, sum+1<<32, sum-1<<32, sum|math.MinInt, sum^0xffffffff) {
			changed := s[:40] + bytesOf(other) + s[48:]
			if _, ok := impl.GetPack(changed); ok != (other == sum) {
				t.Errorf("%s with the sum %d: %t", packText(p), other, ok)
			}
		}
		for bit := range 64 {
			changed := s[:40] + bytesOf(sum^1<<bit) + s[48:]
			if got, ok := impl.GetPack(changed); ok || got != (impl.Pack{}) {
				t.Errorf("%s with bit %d of the sum another one", packText(p), bit)
			}
		}
		// A body that is another message of the same From and To.
		for at := 48; at < len(s); at++ {
			changed := []byte(s)
			changed[at] ^= 1
			if got, ok := impl.GetPack(string(changed)); ok || got != (impl.Pack{}) {
				t.Errorf("%s with another byte at %d", packText(p), at)
			}
		}
	}
}

func TestCheckSum(t *testing.T) {
	for _, c := range []struct {
		text string
		want uint32
	}{
		{"", 0},
		{"123456789", 3421780262},
		{"a", 3904355907},
		{"abc", 891568578},
		{"\x00", 3523407757},
		{"\xff", 4278190080},
		{"\x00\x00\x00\x00", 558161692},
		{"\xff\xff\xff\xff", 4294967295},
		{"The quick brown fox jumps over the lazy dog", 1095738169},
	} {
		if got := impl.CheckSum(c.text); got != c.want {
			t.Errorf("CheckSum(%q) = %d; want %d", c.text, got, c.want)
		}
	}
	m := newMaker(54)
	texts := []string{strings.Repeat("\x00", 1000), strings.Repeat("\xff", 1001), "\xc3\xa9\xe2\x82\xac\xff"}
	for b := range 256 {
		texts = append(texts, string([]byte{byte(b)}), string([]byte{byte(b), 0}), string([]byte{0, byte(b)}))
	}
	for length := range 300 {
		bytes := make([]byte, length)
		for i := range bytes {
			bytes[i] = byte(m.IntN(256))
		}
		texts = append(texts, string(bytes))
	}
	for _, text := range texts {
		if got, want := impl.CheckSum(text), crc32.ChecksumIEEE([]byte(text)); got != want {
			t.Errorf("CheckSum(%x) = %d; want %d", text, got, want)
		}
	}
}

func TestMsgTextWrittenOut(t *testing.T) {
	for _, c := range []struct {
		m    impl.Msg
		want string
	}{
		{fetchMsg(1, 2, 3, 4), "fetch 1 > 2 3 4"},
		{fetchMsg(0, 30, 0, 999999), "fetch 0 > 30 0 999999"},
		{fishMsg(30, 0), "fish 30 > 0"},
		{giveMsg(2, 1, 4, intCell(-7)), "give 2 > 1 4 i -7 0"},
		{giveMsg(2, 1, 0, intCell(math.MinInt)), "give 2 > 1 0 i -9223372036854775808 0"},
		{giveMsg(2, 1, 0, intCell(math.MaxInt)), "give 2 > 1 0 i 9223372036854775807 0"},
		{giveMsg(2, 1, 4, cell(impl.CNil, 0, 0)), "give 2 > 1 4 n 0 0"},
		{giveMsg(2, 1, 4, pairOf(5, 6)), "give 2 > 1 4 c 0 0 5 6"},
		{giveMsg(2, 1, 4, cell(impl.CFun, 6, 8)), "give 2 > 1 4 f 6 8"},
		{giveMsg(2, 1, 4, cell(impl.CFun, 1, 999999, 3, 0, 3)), "give 2 > 1 4 f 1 999999 3 0 3"},
		{workMsg(2, 1, 9, thunk(7)), "work 2 > 1 9 t 0 7"},
		{workMsg(2, 1, 9, thunk(7, 1, 999999)), "work 2 > 1 9 t 0 7 1 999999"},
		{impl.Msg{}, ""},
		{fetchMsg(1, 1, 3, 4), ""},
		{fetchMsg(1, 31, 3, 4), ""},
		{giveMsg(2, 1, 4, thunk(7)), ""},
		{workMsg(2, 1, 9, pairOf(1, 2)), ""},
		{impl.Msg{Kind: 4, From: 1, To: 2}, ""},
		{impl.Msg{Kind: -1, From: 1, To: 2}, ""},
	} {
		if got := impl.MsgText(c.m); got != c.want {
			t.Errorf("MsgText(%v) = %q; want %q", c.m, got, c.want)
		}
	}
	m := newMaker(55)
	for range 2000 {
		made := m.msg()
		if got, want := impl.MsgText(made), plainMsgText(made); got != want {
			t.Errorf("MsgText(%v) = %q; want %q", made, got, want)
		}
	}
}

// What a machine says is right as soon as it is told who says it.
func TestWhatMachinesSayIsRight(t *testing.T) {
	m := machineOf(t, "main = 1; f = \\a b . a;", with(enters(2), giveFrame(3, 4)), pairOf(0, 1))
	said := impl.Run(m, 0, 10).Say
	if len(said) != 1 {
		t.Fatal(said)
	}
	said[0].From = 2
	wantMsg(t, true, said[0])
	if got := impl.MsgText(said[0]); got != "give 2 > 3 4 c 0 0 0 1" {
		t.Error(got)
	}
}

// Promise 12 for this chapter: the edges in every field at once, many Kids, and
// long texts.
func TestWireAnswersAtAnyArguments(t *testing.T) {
	for _, n := range wireEdges() {
		for _, other := range wireEdges() {
			m := impl.Msg{Kind: n, From: other, To: n, Id: other, Want: n, Cell: cell(other, n, other, n, other)}
			wantMsg(t, plainMsgOk(m), m)
			for _, body := range []string{"", impl.PutMsg(fishMsg(1, 2)), msgBytes(m)} {
				p := impl.Pack{Kind: n, From: other, To: n, Seq: other, Low: n, Body: body}
				wantPack(t, plainPackOk(p), p)
			}
		}
		impl.GetNum(impl.PutNum(n), n)
	}
	const many = 1 << 20
	zeros := make([]int, many)
	for _, m := range []impl.Msg{workMsg(1, 2, 3, thunk(4, zeros...)), giveMsg(1, 2, 3, cell(impl.CFun, 1, 4, zeros...)), giveMsg(1, 2, 3, cell(impl.CCons, 0, 0, zeros...)), {From: 1, To: 2, Cell: cell(0, 0, 0, zeros...)}} {
		if impl.MsgOk(m) || impl.PutMsg(m) != "" || impl.MsgText(m) != "" {
			t.Error("many Kids")
		}
		bytes := msgBytes(m)
		wantMsgBytes(t, bytes)
		wantPackBytes(t, bytes)
		if p := (impl.Pack{From: 1, To: 2, Seq: 1, Low: 1, Body: bytes}); impl.PackOk(p) || impl.PutPack(p) != "" {
			t.Error("a long body")
		}
	}
	for _, letter := range []string{"\x00", "\x01", "\xff", " "} {
		long := strings.Repeat(letter, 8*many)
		wantMsgBytes(t, long)
		wantPackBytes(t, long)
		if got, want := impl.CheckSum(long), crc32.ChecksumIEEE([]byte(long)); got != want {
			t.Error("a long text", got)
		}
		if _, at := impl.GetNum(long, 8*many-8); at != 8*many {
			t.Error("a far number", at)
		}
	}
	m := newMaker(56)
	for range 20000 {
		bytes := make([]byte, m.IntN(130))
		for i := range bytes {
			bytes[i] = byte(m.IntN(3) * m.IntN(3) / 4)
		}
		wantMsgBytes(t, string(bytes))
		wantPackBytes(t, string(bytes))
	}
}

// Promise 12 for this chapter: nothing is written into an argument, nor into
// the room behind it, and answers share no memory with one.
func TestWireLeavesArgumentsAlone(t *testing.T) {
	m := newMaker(57)
	for i := range 2000 {
		made := m.msg()
		if i%4 == 0 {
			made.Cell.Kids = append(made.Cell.Kids, -1)
		}
		room := append(slices.Clone(made.Cell.Kids), -7, -8)
		kept := slices.Clone(room)
		roomyMsg := made
		roomyMsg.Cell.Kids = room[:len(made.Cell.Kids)]
		impl.MsgOk(roomyMsg)
		impl.MsgText(roomyMsg)
		bytes := impl.PutMsg(roomyMsg)
		got, _ := impl.GetMsg(bytes)
		spoilInts(got.Cell.Kids)
		if !slices.Equal(room, kept) {
			t.Fatalf("%v became %v", kept, room)
		}
		if again, ok := impl.GetMsg(bytes); ok && !sameMsg(again, made) {
			t.Fatalf("%v became %v", made, again)
		}
	}
}

func TestWireTextsShareNoMemory(t *testing.T) {
	body := []byte(msgBytes(workMsg(1, 2, 3, thunk(4, 5, 6))))
	p := impl.Pack{From: 1, To: 2, Seq: 5, Low: 3, Body: textOf(body)}
	want := strings.Clone(packBytes(p))
	put := impl.PutPack(p)
	bytes := []byte(want)
	got, ok := impl.GetPack(textOf(bytes))
	wantBody := string(body)
	m, _ := impl.GetMsg(textOf(body))
	for i := range body {
		body[i] = '#'
	}
	for i := range bytes {
		bytes[i] = '#'
	}
	if put != want {
		t.Errorf("what was put became %x", put)
	}
	if !ok || got.Body != wantBody {
		t.Errorf("what was got became %s", packText(got))
	}
	if !sameMsg(m, workMsg(1, 2, 3, thunk(4, 5, 6))) {
		t.Errorf("the message became %v", m)
	}
}

// Nothing is kept from one call to another, nor shared by calls at one time.
func TestWireAtOneTime(t *testing.T) {
	m := newMaker(58)
	var list []impl.Pack
	for range 300 {
		list = append(list, m.pack())
	}
	var wait sync.WaitGroup
	for range 8 {
		wait.Go(func() {
			for _, p := range list {
				bytes := impl.PutPack(p)
				got, ok := impl.GetPack(bytes)
				body, right := impl.GetMsg(p.Body)
				wantBody, wantRight := plainGetMsg(p.Body)
				if bytes != packBytes(p) || !ok || got != p || right != wantRight || !sameMsg(body, wantBody) {
					t.Error(packText(p))
				}
			}
		})
	}
	wait.Wait()
}
