package tests

import (
	"fmt"
	"math"
	"slices"
	"strings"
	"testing"

	"loop.example/g00303/impl"
)

// cellRule says what a right cell of a kind has: numbers of least to most for N
// and At (or a code for At), and so many kids (-1 for any number).
type cellRule struct {
	leastN, mostN   int
	leastAt, mostAt int
	isCode          bool
	kids            int
}

var cellRules = map[int]cellRule{
	impl.CInt:   {leastN: math.MinInt, mostN: math.MaxInt},
	impl.CNil:   {},
	impl.CCons:  {kids: 2},
	impl.CFun:   {leastN: 1, mostN: 6, isCode: true, kids: -1},
	impl.CThunk: {isCode: true, kids: -1},
	impl.CHole:  {},
	impl.CInd:   {kids: 1},
	impl.CFar:   {leastN: 0, mostN: 30, mostAt: math.MaxInt},
}

func plainHeapOk(heap []impl.Cell, codes int) bool {
	right := 0
	for _, c := range heap {
		rule, found := cellRules[c.Kind]
		if c.Kind == impl.CFar && c.N == -1 {
			rule = cellRule{leastN: -1, mostN: -1}
		}
		if !found || c.N < rule.leastN || c.N > rule.mostN {
			return false
		}
		if rule.isCode && (c.At < 0 || c.At >= codes) || !rule.isCode && (c.At < rule.leastAt || c.At > rule.mostAt) {
			return false
		}
		if rule.kids >= 0 && rule.kids != len(c.Kids) {
			return false
		}
		for _, kid := range c.Kids {
			if kid < 0 || kid >= len(heap) {
				return false
			}
		}
		right++
	}
	return right <= 3000
}

// plainFollow keeps where it was, and ends where it comes again.
func plainFollow(heap []impl.Cell, at int) int {
	been := map[int]bool{}
	for at >= 0 && at < len(heap) && !been[at] {
		if heap[at].Kind != impl.CInd || len(heap[at].Kids) == 0 {
			return at
		}
		been[at] = true
		at = heap[at].Kids[0]
	}
	return -1
}

// plainAlive goes through the whole heap as long as that finds more.
func plainAlive(heap []impl.Cell, roots []int) []int {
	alive := make([]bool, len(heap))
	mark := func(places []int) bool {
		more := false
		for _, at := range places {
			if at >= 0 && at < len(heap) && !alive[at] {
				alive[at] = true
				more = true
			}
		}
		return more
	}
	for more := mark(roots); more; {
		more = false
		for at := range heap {
			more = alive[at] && mark(heap[at].Kids) || more
		}
	}
	var list []int
	for at := range heap {
		if alive[at] {
			list = append(list, at)
		}
	}
	return list
}

func plainCollect(heap []impl.Cell, roots []int) ([]impl.Cell, []int) {
	told := copyHeap(heap)
	for i := range told {
		told[i].Kids = plainTold(heap, told[i].Kids)
	}
	roots = plainTold(heap, roots)
	alive := plainAlive(told, roots)
	anew := func(list []int) []int {
		var places []int
		for _, at := range list {
			places = append(places, slices.Index(alive, at))
		}
		return places
	}
	var kept []impl.Cell
	for _, at := range alive {
		c := told[at]
		c.Kids = anew(c.Kids)
		kept = append(kept, c)
	}
	return kept, anew(roots)
}

func plainTold(heap []impl.Cell, list []int) []int {
	var told []int
	for _, at := range list {
		if end := plainFollow(heap, at); end >= 0 {
			at = end
		}
		told = append(told, at)
	}
	return told
}

func plainCellText(c impl.Cell) string {
	letters := map[int]string{impl.CInt: "i", impl.CNil: "n", impl.CCons: "c", impl.CFun: "f", impl.CThunk: "t", impl.CHole: "h", impl.CInd: "d", impl.CFar: "r"}
	if letters[c.Kind] == "" {
		return ""
	}
	return strings.TrimRight(fmt.Sprintf("%s %d %d %s", letters[c.Kind], c.N, c.At, strings.Trim(fmt.Sprint(c.Kids), "[]")), " ")
}

// copyHeap shares no memory with the heap, has no spare room, and nil for each
// list that is empty.
func copyHeap(heap []impl.Cell) []impl.Cell {
	var cells []impl.Cell
	for _, c := range heap {
		c.Kids = append([]int(nil), c.Kids...)
		cells = append(cells, c)
	}
	return cells
}

// pairing goes through a heap and what a collection made of it side by side.
type pairing struct {
	old, made []impl.Cell
	newOf     map[int]int
	waiting   [][2]int
}

// wantSameGraph asks for promise 5 itself: from each root one comes to the same
// as before, over kids as they were told, and to nothing else there is.
func wantSameGraph(t *testing.T, heap []impl.Cell, roots []int, made []impl.Cell, newRoots []int) {
	t.Helper()
	p := pairing{old: heap, made: made, newOf: map[int]int{}}
	if !p.pair(roots, newRoots) {
		t.Fatalf("%s from %v: roots %v", brief(heap), roots, newRoots)
	}
	for len(p.waiting) > 0 {
		was, is := heap[p.waiting[0][0]], made[p.waiting[0][1]]
		p.waiting = p.waiting[1:]
		if was.Kind != is.Kind || was.N != is.N || was.At != is.At || !p.pair(was.Kids, is.Kids) {
			t.Fatalf("%s from %v: %v became %v", brief(heap), roots, was, is)
		}
	}
	if len(p.newOf) != len(made) {
		t.Fatalf("%s from %v: %d cells, of which one comes to %d", brief(heap), roots, len(made), len(p.newOf))
	}
	wantInOrder(t, p.newOf)
}

// pair tells whether each of two lists leads to the same, as far as known.
func (p *pairing) pair(olds []int, news []int) bool {
	if len(olds) != len(news) {
		return false
	}
	for i, at := range olds {
		if end := plainFollow(p.old, at); end >= 0 {
			at = end
		}
		if at < 0 || at >= len(p.old) {
			if news[i] != -1 {
				return false
			}
			continue
		}
		if news[i] < 0 || news[i] >= len(p.made) {
			return false
		}
		known, found := p.newOf[at]
		if found && known != news[i] {
			return false
		}
		if !found {
			p.newOf[at] = news[i]
			p.waiting = append(p.waiting, [2]int{at, news[i]})
		}
	}
	return true
}

// wantInOrder asks that no two cells became one, nor changed their order.
func wantInOrder(t *testing.T, newOf map[int]int) {
	t.Helper()
	var olds []int
	for at := range newOf {
		olds = append(olds, at)
	}
	slices.Sort(olds)
	for number, at := range olds {
		if newOf[at] != number {
			t.Fatalf("place %d became %d; want %d", at, newOf[at], number)
		}
	}
}
