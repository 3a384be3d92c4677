package tests

import (
	"math"
	"reflect"
	"slices"
	"sync"
	"testing"

	"loop.example/g00303/impl"
)

func cell(kind int, n int, at int, kids ...int) impl.Cell {
	return impl.Cell{Kind: kind, N: n, At: at, Kids: kids}
}

func ind(kids ...int) impl.Cell { return cell(impl.CInd, 0, 0, kids...) }

func pairOf(head int, tail int) impl.Cell { return cell(impl.CCons, 0, 0, head, tail) }

func thunk(at int, kids ...int) impl.Cell { return cell(impl.CThunk, 0, at, kids...) }

func intCell(n int) impl.Cell { return cell(impl.CInt, n, 0) }

// eachKind has a right cell of each kind, with codes 0 .. 3.
func eachKind() []impl.Cell {
	return []impl.Cell{
		intCell(-5), cell(impl.CNil, 0, 0), pairOf(0, 1), cell(impl.CFun, 2, 3, 2, 2, 0), thunk(1, 7, 4),
		cell(impl.CHole, 0, 0), ind(3), cell(impl.CFar, 4, 9), cell(impl.CFar, -1, 0), cell(impl.CFun, 1, 0), thunk(0),
	}
}

func wantHeap(t *testing.T, right bool, codes int, heap ...impl.Cell) {
	t.Helper()
	if impl.HeapOk(heap, codes) != right {
		t.Errorf("HeapOk(%s, %d) = %t", brief(heap), codes, !right)
	}
	if plainHeapOk(heap, codes) != right {
		t.Errorf("the oracle tells HeapOk(%s, %d) = %t", brief(heap), codes, !right)
	}
}

// wantAll holds each function of the chapter against its oracle.
func wantAll(t *testing.T, heap []impl.Cell, roots []int) {
	t.Helper()
	for _, at := range append(placesAround(len(heap)), roots...) {
		if got, want := impl.Follow(heap, at), plainFollow(heap, at); got != want {
			t.Fatalf("Follow(%s, %d) = %d; want %d", brief(heap), at, got, want)
		}
	}
	if got, want := impl.Alive(heap, roots), plainAlive(heap, roots); !slices.Equal(got, want) {
		t.Fatalf("Alive(%s, %v) = %v; want %v", brief(heap), roots, got, want)
	}
	cells, places := impl.Collect(heap, roots)
	wantCells, wantPlaces := plainCollect(heap, roots)
	if !reflect.DeepEqual(copyHeap(cells), wantCells) || !slices.Equal(places, wantPlaces) {
		t.Fatalf("Collect(%s, %v) = %s, %v; want %s, %v", brief(heap), roots, brief(cells), places, brief(wantCells), wantPlaces)
	}
	wantSameGraph(t, heap, roots, cells, places)
}

// placesAround has all places of a heap, or the outer ones of a great heap, and
// some that are none.
func placesAround(size int) []int {
	list := []int{math.MinInt, -size, -2, -1, size, size + 1, 2 * size, math.MaxInt}
	for at := range min(size, 40) {
		list = append(list, at, size-1-at)
	}
	return list
}

func wantCollect(t *testing.T, heap []impl.Cell, roots []int, wantCells []impl.Cell, wantPlaces ...int) {
	t.Helper()
	cells, places := impl.Collect(heap, roots)
	if !reflect.DeepEqual(copyHeap(cells), copyHeap(wantCells)) || !slices.Equal(places, wantPlaces) {
		t.Errorf("Collect(%v, %v) = %v, %v; want %v, %v", heap, roots, cells, places, wantCells, wantPlaces)
	}
	wantAll(t, heap, roots)
}

func TestKindsOfCells(t *testing.T) {
	kinds := []int{impl.CInt, impl.CNil, impl.CCons, impl.CFun, impl.CThunk, impl.CHole, impl.CInd, impl.CFar}
	if !slices.Equal(kinds, []int{0, 1, 2, 3, 4, 5, 6, 7}) || impl.MaxHeap != 3000 {
		t.Error(kinds, impl.MaxHeap)
	}
}

func TestHeapOkEachKind(t *testing.T) {
	wantHeap(t, true, 4, eachKind()...)
	wantHeap(t, false, 3, eachKind()...)
	wantHeap(t, true, 0)
	wantHeap(t, true, math.MinInt)
	for _, n := range []int{math.MinInt, -1, 0, 1, math.MaxInt} {
		wantHeap(t, true, 0, intCell(n))
	}
	for n := -2; n < 10; n++ {
		wantHeap(t, n >= 1 && n <= 6, 1, cell(impl.CFun, n, 0))
	}
	for _, node := range []int{-2, -1, 0, 1, 29, 30, 31, 32, math.MinInt, math.MaxInt} {
		wantHeap(t, node >= -1 && node <= 30, 0, cell(impl.CFar, node, 0))
		for _, at := range []int{math.MinInt, -1, 0, 1, 1000000, math.MaxInt} {
			wantHeap(t, node >= 0 && node <= 30 && at >= 0 || node == -1 && at == 0, 0, cell(impl.CFar, node, at))
		}
	}
	// Any number of places may be in scope, and one of them twice.
	for _, count := range []int{0, 1, 5, 90, 91, 5000} {
		kids := make([]int, count)
		wantHeap(t, true, 1, cell(impl.CFun, 1, 0, kids...))
		wantHeap(t, true, 1, thunk(0, kids...))
	}
	for count := range 5 {
		kids := make([]int, count)
		wantHeap(t, count == 0, 0, cell(impl.CInt, 0, 0, kids...))
		wantHeap(t, count == 0, 0, cell(impl.CNil, 0, 0, kids...))
		wantHeap(t, count == 0, 0, cell(impl.CHole, 0, 0, kids...))
		wantHeap(t, count == 0, 0, cell(impl.CFar, 0, 0, kids...))
		wantHeap(t, count == 0, 0, cell(impl.CFar, -1, 0, kids...))
		wantHeap(t, count == 2, 0, cell(impl.CCons, 0, 0, kids...))
		wantHeap(t, count == 1, 0, ind(kids...))
	}
	for _, kind := range []int{math.MinInt, -1, 8, 9, 1 << 32, 1<<32 + 1, math.MaxInt} {
		wantHeap(t, false, 4, cell(kind, 0, 0))
		wantHeap(t, false, 4, intCell(1), cell(kind, 0, 0))
	}
}

func TestHeapOkCodes(t *testing.T) {
	for _, codes := range []int{math.MinInt, math.MinInt + 1, -1, 0, 1, 2, 100, math.MaxInt} {
		for _, at := range []int{math.MinInt, -1, 0, 1, 2, 99, 100, math.MaxInt - 1, math.MaxInt} {
			right := at >= 0 && at < codes
			wantHeap(t, right, codes, thunk(at))
			wantHeap(t, right, codes, cell(impl.CFun, 3, at))
		}
		// Without a cell of a code there is nothing to ask of codes.
		wantHeap(t, true, codes, intCell(1), cell(impl.CNil, 0, 0), pairOf(0, 1), cell(impl.CHole, 0, 0), ind(0), cell(impl.CFar, 1, 5))
	}
}

// What a kind has not is zero.
func TestHeapOkOfOneWrongField(t *testing.T) {
	right, wrong := 0, 0
	numbers := []int{math.MinInt, -2, -1, 0, 1, 2, 3, 4, 5, 6, 7, 10, 11, 30, 31, math.MaxInt}
	for at, c := range eachKind() {
		var changed []impl.Cell
		for _, n := range numbers {
			changed = append(changed, cell(n, c.N, c.At, c.Kids...), cell(c.Kind, n, c.At, c.Kids...), cell(c.Kind, c.N, n, c.Kids...))
			changed = append(changed, cell(c.Kind, c.N, c.At, append(slices.Clone(c.Kids), n)...))
			for i := range c.Kids {
				kids := slices.Clone(c.Kids)
				kids[i] = n
				changed = append(changed, cell(c.Kind, c.N, c.At, kids...), cell(c.Kind, c.N, c.At, kids[:i]...))
			}
		}
		for _, other := range changed {
			heap := eachKind()
			heap[at] = other
			want := plainHeapOk(heap, 4)
			wantHeap(t, want, 4, heap...)
			if want {
				right++
			} else {
				wrong++
			}
		}
	}
	if right < 100 || wrong < 400 {
		t.Error("only", right, "right and", wrong, "wrong heaps")
	}
}

func TestHeapOkHowMany(t *testing.T) {
	for _, size := range []int{1, 2999, 3000, 3001, 3002, 100000} {
		heap := make([]impl.Cell, size)
		wantHeap(t, size <= 3000, 0, heap...)
		for _, kid := range []int{-1, 0, size - 1, size, math.MinInt, math.MaxInt} {
			right := size <= 3000 && kid >= 0 && kid < size
			heap[size-1] = ind(kid)
			wantHeap(t, right, 0, heap...)
			heap[size-1] = thunk(0, 0, kid)
			wantHeap(t, right, 1, heap...)
			heap[size-1] = pairOf(kid, 0)
			wantHeap(t, right, 1, heap...)
			heap[size-1] = cell(impl.CFun, 6, 0, 0, kid, 0)
			wantHeap(t, right, 1, heap...)
		}
		// One wrong cell among right ones, at either end.
		for _, at := range []int{0, size / 2, size - 1} {
			other := make([]impl.Cell, size)
			other[at].At = 1
			wantHeap(t, false, 9, other...)
		}
	}
}

func TestFollowOverCInds(t *testing.T) {
	heap := []impl.Cell{intCell(1), ind(0), ind(1), ind(3), ind(5), ind(6), ind(4), ind(6), ind(), ind(8), ind(99), ind(-1), ind(10), ind(0, 4), pairOf(1, 2), ind(14)}
	want := []int{0, 0, 0, -1, -1, -1, -1, -1, 8, 8, -1, -1, -1, 0, 14, 14}
	for at := range heap {
		if got := impl.Follow(heap, at); got != want[at] {
			t.Errorf("Follow %d = %d; want %d", at, got, want[at])
		}
	}
	for _, at := range []int{math.MinInt, -16, -1, 16, 17, 1 << 32, math.MaxInt} {
		if got := impl.Follow(heap, at); got != -1 {
			t.Errorf("Follow %d = %d", at, got)
		}
		if got := impl.Follow(nil, at); got != -1 {
			t.Errorf("Follow %d of nothing = %d", at, got)
		}
	}
	if impl.Follow(nil, 0) != -1 || impl.Follow([]impl.Cell{}, 0) != -1 {
		t.Error("a place of nothing")
	}
	// One stays at each other kind, kids or not, whether it is right or not.
	for kind := -2; kind < 10; kind++ {
		if at := impl.Follow([]impl.Cell{intCell(0), cell(kind, 0, 0, 0)}, 1); kind != impl.CInd && at != 1 || kind == impl.CInd && at != 0 {
			t.Errorf("kind %d: %d", kind, at)
		}
	}
}

// A chain as long as the heap, forth and back, with each end that it may have.
func TestFollowLongChains(t *testing.T) {
	for _, size := range []int{1, 2, 3, 10, impl.MaxHeap, impl.MaxHeap + 1, 100000} {
		for _, last := range []impl.Cell{intCell(7), ind(), ind(size - 1), ind(0), ind(size), ind(-1), ind(size / 2)} {
			heap := make([]impl.Cell, size)
			for at := range heap {
				heap[at] = ind(at + 1)
			}
			heap[size-1] = last
			want := -1
			if last.Kind == impl.CInt || len(last.Kids) == 0 {
				want = size - 1
			}
			for _, at := range []int{0, size / 2, size - 1} {
				if got := impl.Follow(heap, at); got != want {
					t.Errorf("%d of %d, last %v: %d; want %d", at, size, last, got, want)
				}
			}
		}
		heap := make([]impl.Cell, size)
		for at := range heap {
			heap[at] = ind(at - 1)
		}
		heap[0] = cell(impl.CNil, 0, 0)
		if got := impl.Follow(heap, size-1); got != 0 {
			t.Errorf("back from %d: %d", size-1, got)
		}
	}
}

func TestAliveOverKids(t *testing.T) {
	heap := []impl.Cell{
		intCell(1), ind(0), pairOf(1, 5), thunk(2, 4, 4), thunk(3, 3), cell(impl.CNil, 0, 0),
		cell(impl.CFun, 1, 0, 8, 7), cell(impl.CFar, 2, 0), cell(impl.CHole, 0, 0), ind(9), ind(), pairOf(-1, 99),
	}
	for _, c := range []struct{ roots, want []int }{
		{nil, nil},
		{[]int{}, nil},
		{[]int{-1, 12, 99, math.MinInt, math.MaxInt}, nil},
		{[]int{0}, []int{0}},
		{[]int{1}, []int{0, 1}},
		{[]int{2}, []int{0, 1, 2, 5}},
		{[]int{3}, []int{3, 4}},
		{[]int{4}, []int{3, 4}},
		{[]int{6}, []int{6, 7, 8}},
		{[]int{9}, []int{9}},
		{[]int{10, 10, -1, 10}, []int{10}},
		{[]int{11}, []int{11}},
		{[]int{8, 7, 5, 7}, []int{5, 7, 8}},
		{[]int{11, 9, 6, 4, 2, 10}, []int{0, 1, 2, 3, 4, 5, 6, 7, 8, 9, 10, 11}},
	} {
		if got := impl.Alive(heap, c.roots); !slices.Equal(got, c.want) {
			t.Errorf("Alive from %v: %v; want %v", c.roots, got, c.want)
		}
		wantAll(t, heap, c.roots)
	}
	if got := impl.Alive(nil, []int{0, 1}); len(got) != 0 {
		t.Error(got)
	}
}

func TestCollectOrdinaryHeaps(t *testing.T) {
	// Nothing goes, nor is anything told anew.
	all := []impl.Cell{intCell(3), cell(impl.CNil, 0, 0), pairOf(0, 1), cell(impl.CFun, 2, 3, 2, 2, 0), thunk(1, 6, 4), cell(impl.CHole, 0, 0), cell(impl.CFar, 4, 9), cell(impl.CFar, -1, 0)}
	wantCollect(t, all, []int{7, 5, 4, 3}, all, 7, 5, 4, 3)
	// Kids that are shared stay so.
	wantCollect(t, []impl.Cell{intCell(9), intCell(1), pairOf(1, 1), thunk(0, 2, 1)}, []int{3}, []impl.Cell{intCell(1), pairOf(0, 0), thunk(0, 1, 0)}, 2)
	// Circles over thunks and pairs.
	wantCollect(t, []impl.Cell{intCell(9), pairOf(3, 1), intCell(8), thunk(5, 1)}, []int{3}, []impl.Cell{pairOf(1, 0), thunk(5, 0)}, 1)
	wantCollect(t, []impl.Cell{thunk(5, 0), thunk(6, 1)}, []int{1}, []impl.Cell{thunk(6, 0)}, 0)
	wantCollect(t, []impl.Cell{pairOf(0, 0), cell(impl.CFun, 6, 1, 0, 1)}, []int{1}, []impl.Cell{pairOf(0, 0), cell(impl.CFun, 6, 1, 0, 1)}, 1)
	// Two that are alike stay two.
	wantCollect(t, []impl.Cell{intCell(4), intCell(4)}, []int{1, 0}, []impl.Cell{intCell(4), intCell(4)}, 1, 0)
}

func TestCollectOverCInds(t *testing.T) {
	// The root is a CInd, and so are the kids; none of them is there any more.
	heap := []impl.Cell{ind(4), ind(0), pairOf(1, 0), ind(2), intCell(6)}
	wantCollect(t, heap, []int{3}, []impl.Cell{pairOf(1, 1), intCell(6)}, 0)
	wantCollect(t, heap, []int{1, 0, 4, 1}, []impl.Cell{intCell(6)}, 0, 0, 0, 0)
	// A chain as long as the heap.
	for _, size := range []int{2, 3, 50, impl.MaxHeap} {
		chain := make([]impl.Cell, size)
		for at := range chain {
			chain[at] = ind(at - 1)
		}
		chain[0] = intCell(8)
		wantCollect(t, chain, []int{size - 1, 0, size / 2}, []impl.Cell{intCell(8)}, 0, 0, 0)
	}
	// A circle through a CInd.
	wantCollect(t, []impl.Cell{pairOf(1, 1), ind(0)}, []int{1}, []impl.Cell{pairOf(0, 0)}, 0)
}

// Where Follow tells -1, the place is left as it is, and the CInds stay.
func TestCollectWhatHasNoEnd(t *testing.T) {
	wantCollect(t, []impl.Cell{intCell(1), ind(1)}, []int{1}, []impl.Cell{ind(0)}, 0)
	wantCollect(t, []impl.Cell{intCell(1), ind(2), ind(3), ind(1)}, []int{2}, []impl.Cell{ind(1), ind(2), ind(0)}, 1)
	wantCollect(t, []impl.Cell{intCell(1), pairOf(2, 0), ind(3), ind(2)}, []int{1}, []impl.Cell{intCell(1), pairOf(2, 0), ind(3), ind(2)}, 1)
	// A chain into a circle.
	wantCollect(t, []impl.Cell{intCell(1), ind(2), ind(3), ind(3)}, []int{1}, []impl.Cell{ind(1), ind(2), ind(2)}, 0)
	// A CInd without Kids is where one comes to, and stays.
	wantCollect(t, []impl.Cell{intCell(1), ind(), ind(1), pairOf(2, 1)}, []int{3, 2}, []impl.Cell{ind(), pairOf(0, 0)}, 1, 0)
	// CInds of no place.
	wantCollect(t, []impl.Cell{intCell(1), ind(99), ind(1), pairOf(2, -7)}, []int{3}, []impl.Cell{ind(-1), ind(0), pairOf(1, -1)}, 2)
	wantCollect(t, []impl.Cell{ind(math.MaxInt), ind(math.MinInt)}, []int{0, 1}, []impl.Cell{ind(-1), ind(-1)}, 0, 1)
}

func TestCollectRootsThatAreNone(t *testing.T) {
	heap := []impl.Cell{intCell(1), intCell(2)}
	wantCollect(t, heap, nil, nil)
	wantCollect(t, heap, []int{}, nil)
	wantCollect(t, nil, nil, nil)
	wantCollect(t, nil, []int{0, -1, 5}, nil, -1, -1, -1)
	wantCollect(t, heap, []int{-1, 2, math.MinInt, math.MaxInt, 1 << 32}, nil, -1, -1, -1, -1, -1)
	wantCollect(t, heap, []int{2, 1, -1, 1, 3, 1}, []impl.Cell{intCell(2)}, -1, 0, -1, 0, -1, 0)
}

// Cells that are not right are gone over as right ones are.
func TestCollectOfWrongCells(t *testing.T) {
	heap := []impl.Cell{
		intCell(1), cell(impl.CInt, 3, 4, 6), cell(99, -1, -2, 1, 0), cell(impl.CNil, 7, 0, 2), cell(impl.CHole, 1, 1, 3),
		cell(impl.CFar, 99, -1, 4), ind(0, 5), pairOf(0, 0), cell(math.MinInt, math.MaxInt, math.MinInt, 5, math.MaxInt, 6, -1),
	}
	want := []impl.Cell{
		intCell(1), cell(impl.CInt, 3, 4, 0), cell(99, -1, -2, 1, 0), cell(impl.CNil, 7, 0, 2), cell(impl.CHole, 1, 1, 3),
		cell(impl.CFar, 99, -1, 4), cell(math.MinInt, math.MaxInt, math.MinInt, 5, -1, 0, -1),
	}
	wantCollect(t, heap, []int{8}, want, 6)
	// Both kids of a CInd are told, though one follows it to the first alone.
	wantCollect(t, []impl.Cell{ind(0, 1), ind(2), intCell(5)}, []int{0}, []impl.Cell{ind(0, 1), intCell(5)}, 0)
}

// All heaps of three cells, each a CInd of anything, a pair of anything, or a
// number.
func TestHeapsAllSmallOnes(t *testing.T) {
	choices := []impl.Cell{intCell(1), ind()}
	for kid := -1; kid <= 3; kid++ {
		choices = append(choices, ind(kid))
		for tail := -1; tail <= 3; tail++ {
			choices = append(choices, pairOf(kid, tail))
		}
	}
	rootLists := [][]int{{0}, {2, 1}, {1, -1, 1}, {3, 2}}
	for number := range len(choices) * len(choices) * len(choices) {
		heap := []impl.Cell{choices[number%len(choices)], choices[number/len(choices)%len(choices)], choices[number/len(choices)/len(choices)]}
		for _, roots := range rootLists {
			wantAll(t, heap, roots)
		}
		right := plainHeapOk(heap, 0)
		if impl.HeapOk(heap, 0) != right {
			t.Fatalf("HeapOk(%v, 0) = %t", heap, !right)
		}
	}
}

// rightHeap makes a heap that is right, with codes 0 .. 9.
func (m *maker) rightHeap(size int) []impl.Cell {
	heap := make([]impl.Cell, size)
	kids := func(count int) []int {
		var list []int
		for range count {
			list = append(list, m.IntN(size))
		}
		return list
	}
	for at := range heap {
		switch kind := m.IntN(8); kind {
		case impl.CInt:
			heap[at] = intCell(m.IntN(100) - 50)
		case impl.CCons:
			heap[at] = cell(kind, 0, 0, kids(2)...)
		case impl.CFun:
			heap[at] = cell(kind, 1+m.IntN(6), m.IntN(10), kids(m.IntN(4))...)
		case impl.CThunk:
			heap[at] = cell(kind, 0, m.IntN(10), kids(m.IntN(4))...)
		case impl.CInd:
			heap[at] = ind(kids(1)...)
		case impl.CFar:
			heap[at] = cell(kind, m.IntN(31), m.IntN(1000))
		default:
			heap[at] = cell(kind, 0, 0)
		}
	}
	return heap
}

// anyHeap makes cells of any kind and any kids, many of them CInds.
func (m *maker) anyHeap(size int) []impl.Cell {
	heap := make([]impl.Cell, size)
	for at := range heap {
		c := cell(m.IntN(11)-1, m.IntN(4)-1, m.IntN(4)-1)
		if m.IntN(2) == 0 {
			c.Kind = impl.CInd
		}
		for range m.IntN(4) {
			c.Kids = append(c.Kids, m.IntN(size+2)-1)
		}
		heap[at] = c
	}
	return heap
}

func (m *maker) places(size int) []int {
	var list []int
	for range m.IntN(5) {
		list = append(list, m.IntN(size+2)-1)
	}
	return list
}

// Promise 5.
func TestWhatIsReachedStaysAsItWas(t *testing.T) {
	m := newMaker(21)
	for range 4000 {
		size := 1 + m.IntN(30)
		wantAll(t, m.anyHeap(size), m.places(size))
		heap, roots := m.rightHeap(size), m.places(size)
		wantAll(t, heap, roots)
		if !impl.HeapOk(heap, 10) {
			t.Fatalf("%v is right", heap)
		}
		cells, places := impl.Collect(heap, roots)
		if !impl.HeapOk(cells, 10) {
			t.Fatalf("Collect(%v, %v) = %v is not right", heap, roots, cells)
		}
		// There is nothing left to collect.
		again, same := impl.Collect(cells, places)
		if !reflect.DeepEqual(copyHeap(again), copyHeap(cells)) || !slices.Equal(same, places) {
			t.Fatalf("Collect(%v, %v) = %v, %v", cells, places, again, same)
		}
	}
	for _, size := range []int{500, impl.MaxHeap, impl.MaxHeap + 1} {
		wantAll(t, m.rightHeap(size), m.places(size))
		wantAll(t, m.anyHeap(size), m.places(size))
	}
}

func TestCellTextEachKind(t *testing.T) {
	want := []string{"i -5 0", "n 0 0", "c 0 0 0 1", "f 2 3 2 2 0", "t 0 1 7 4", "h 0 0", "d 0 0 3", "r 4 9", "r -1 0", "f 1 0", "t 0 0"}
	for i, c := range eachKind() {
		if got := impl.CellText(c); got != want[i] {
			t.Errorf("%v: %q; want %q", c, got, want[i])
		}
	}
	for _, kind := range []int{math.MinInt, -1, 8, 9, 256, 1 << 32, math.MaxInt} {
		if got := impl.CellText(cell(kind, 1, 2, 3)); got != "" {
			t.Errorf("kind %d: %q", kind, got)
		}
	}
	// A cell that is not right is told like one that is.
	numbers := []int{math.MinInt, -1, 0, 7, math.MaxInt}
	for kind := -1; kind < 9; kind++ {
		for _, n := range numbers {
			for _, c := range []impl.Cell{cell(kind, n, 0), cell(kind, 0, n), cell(kind, 1, 2, n), cell(kind, n, n, n, n, n), {Kind: kind, Kids: []int{}}} {
				if got := impl.CellText(c); got != plainCellText(c) {
					t.Errorf("%v: %q; want %q", c, got, plainCellText(c))
				}
			}
		}
	}
	if got := impl.CellText(cell(impl.CHole, math.MinInt, math.MaxInt, -3)); got != "h -9223372036854775808 9223372036854775807 -3" {
		t.Error(got)
	}
}

// Promise 12 for this chapter: great heaps, many kids, and many roots.
func TestHeapsAnswerAtAnyArguments(t *testing.T) {
	const size = 200000
	heap := make([]impl.Cell, 2*size)
	roots := make([]int, 2*size)
	for at := range size {
		// Each cell of one half leads into the chain that the other half is.
		heap[at] = ind(at + 1)
		heap[size+at] = pairOf(at, size+at+1)
		roots[at], roots[size+at] = at, size+at
	}
	heap[size-1] = intCell(1)
	cells, places := impl.Collect(heap, roots)
	if len(cells) != size+1 || len(places) != 2*size || places[0] != 0 || places[size] != 1 || cells[size].Kids[1] != -1 {
		t.Error(len(cells), len(places))
	}
	if got := impl.Alive(heap, []int{size}); len(got) != 2*size {
		t.Error(len(got))
	}
	if impl.HeapOk(heap, 0) || impl.Follow(heap, 0) != size-1 {
		t.Error("a great heap")
	}
	wide := []impl.Cell{thunk(0, roots...)}
	if cells, _ := impl.Collect(wide, roots); len(cells) != 1 || len(cells[0].Kids) != 2*size || impl.HeapOk(wide, 1) {
		t.Error("a wide cell")
	}
	numbers := []int{math.MinInt, math.MinInt + 1, -1, 0, 1, math.MaxInt - 1, math.MaxInt}
	for _, kind := range append(numbers, 2, 3, 4, 5, 6, 7, 8) {
		for _, n := range numbers {
			for _, kids := range [][]int{nil, {n}, {n, n}, {0, n, 1}} {
				odd := []impl.Cell{cell(kind, n, n, kids...), cell(kind, 0, n, kids...), cell(kind, n, 0, kids...)}
				wantAll(t, odd, numbers)
				for _, codes := range numbers {
					if impl.HeapOk(odd, codes) != plainHeapOk(odd, codes) {
						t.Errorf("HeapOk(%v, %d)", odd, codes)
					}
				}
			}
		}
	}
}

// roomyHeap has spare room behind each of its lists, in which something stands.
func roomyHeap(heap []impl.Cell) []impl.Cell {
	cells := append(copyHeap(heap), cell(-7, -7, -7, -7))
	for i := range cells {
		kids := cells[i].Kids
		cells[i].Kids = append(slices.Clone(kids), -7, -8)[:len(kids)]
	}
	return cells
}

func heapSpares(heap []impl.Cell) []int {
	var spares []int
	for _, c := range heap {
		spares = append(spares, c.Kids[len(c.Kids):cap(c.Kids)]...)
	}
	return spares
}

func spoilInts(list []int) {
	list = list[:cap(list)]
	for i := range list {
		list[i] = -9
	}
}

// spoilHeap writes over all that a heap has, the spare room too.
func spoilHeap(heap []impl.Cell) {
	heap = heap[:cap(heap)]
	for i := range heap {
		spoilInts(heap[i].Kids)
		heap[i] = cell(-9, -9, -9)
	}
}

// Promise 12 for this chapter: nothing is written into an argument, nor into
// the room behind it, and answers share no memory with one.
func TestHeapsLeaveArgumentsAlone(t *testing.T) {
	m := newMaker(22)
	for i := range 600 {
		size := 1 + m.IntN(20)
		made := m.anyHeap(size)
		if i%2 == 0 {
			made = m.rightHeap(size)
		}
		big := roomyHeap(made)
		bigRoots := append(m.places(size), 0, -7, -8)
		kept, spares, keptRoots := copyHeap(big), heapSpares(big), slices.Clone(bigRoots)
		heap, roots := big[:size], bigRoots[:len(bigRoots)-2]
		impl.HeapOk(heap, 10)
		impl.Follow(heap, 0)
		for _, c := range heap {
			impl.CellText(c)
		}
		spoilInts(impl.Alive(heap, roots))
		cells, places := impl.Collect(heap, roots)
		spoilHeap(cells)
		spoilInts(places)
		if !reflect.DeepEqual(copyHeap(big), kept) || !slices.Equal(heapSpares(big), spares) || !slices.Equal(bigRoots, keptRoots) {
			t.Fatalf("%v became %v, %v became %v", kept, big, keptRoots, bigRoots)
		}
	}
}

func TestCollectListsShareNoMemory(t *testing.T) {
	m := newMaker(23)
	for range 300 {
		size := 1 + m.IntN(20)
		heap, roots := m.anyHeap(size), append(m.places(size), 0)
		cells, places := impl.Collect(heap, roots)
		other, otherPlaces := impl.Collect(heap, roots)
		spoilHeap(other)
		spoilInts(otherPlaces)
		seen := map[*int]bool{}
		lists := [][]int{places}
		for _, c := range cells {
			lists = append(lists, c.Kids)
		}
		for _, list := range lists {
			list = list[:cap(list)]
			for i := range list {
				if seen[&list[i]] {
					t.Fatal("one number in two lists")
				}
				seen[&list[i]] = true
			}
		}
		wantCells, wantPlaces := plainCollect(heap, roots)
		if !reflect.DeepEqual(copyHeap(cells), wantCells) || !slices.Equal(places, wantPlaces) {
			t.Fatalf("two answers share memory: %v, %v", cells, places)
		}
	}
}

// Nothing is kept from one call to another, nor shared by calls at one time.
func TestHeapsAtOneTime(t *testing.T) {
	m := newMaker(24)
	var heaps [][]impl.Cell
	for range 30 {
		heaps = append(heaps, m.anyHeap(20))
	}
	roots := []int{3, 19, -1, 3}
	var wait sync.WaitGroup
	for range 8 {
		wait.Go(func() {
			for _, heap := range heaps {
				cells, places := impl.Collect(heap, roots)
				wantCells, wantPlaces := plainCollect(heap, roots)
				if !reflect.DeepEqual(copyHeap(cells), wantCells) || !slices.Equal(places, wantPlaces) || !slices.Equal(impl.Alive(heap, roots), plainAlive(heap, roots)) {
					t.Errorf("%v: %v, %v", heap, cells, places)
				}
			}
		})
	}
	wait.Wait()
}
