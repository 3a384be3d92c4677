package tests

import (
	"fmt"
	"math"
	"reflect"
	"slices"
	"strings"
	"sync"
	"testing"

	"loop.example/g00303/impl"
)

func frame(kind int, at int, n int, kids ...int) impl.Frame {
	return impl.Frame{Kind: kind, At: at, N: n, Kids: kids}
}

func upd(at int) impl.Frame { return frame(impl.FUpd, at, 0) }

func arg(kid int) impl.Frame { return frame(impl.FArg, 0, 0, kid) }

func showFrame() impl.Frame { return frame(impl.FShow, 0, 0) }

func tail(at int) impl.Frame { return frame(impl.FTail, at, 0) }

func closeFrame() impl.Frame { return frame(impl.FClose, 0, 0) }

func giveFrame(n int, at int) impl.Frame { return frame(impl.FGive, at, n) }

func evals(at int, kids ...int) impl.Thread {
	return impl.Thread{Do: impl.DoEval, At: at, Kids: kids}
}

func enters(at int) impl.Thread { return impl.Thread{Do: impl.DoEnter, At: at} }

func does(do int) impl.Thread { return impl.Thread{Do: do} }

// with is a thread with these frames, the last of which goes first.
func with(th impl.Thread, frames ...impl.Frame) impl.Thread {
	th.Stack = frames
	return th
}

func tableOf(t *testing.T, text string) impl.Table {
	t.Helper()
	table := plainTable(wantProgram(t, text))
	if !impl.TableOk(table) {
		t.Fatalf("the table of %q", text)
	}
	return table
}

// machineOf has a thread, and cells behind those of the tops.
func machineOf(t *testing.T, text string, th impl.Thread, cells ...impl.Cell) impl.Machine {
	t.Helper()
	m := impl.Machine{Table: tableOf(t, text), Threads: []impl.Thread{th}}
	for _, top := range m.Table.Tops {
		m.Heap = append(m.Heap, thunk(top))
	}
	m.Heap = append(m.Heap, cells...)
	if !impl.MachineOk(m) {
		t.Fatalf("%q, %v, %v is not right", text, th, cells)
	}
	return m
}

func sameMachine(a impl.Machine, b impl.Machine) bool {
	return reflect.DeepEqual(copyMachine(a), copyMachine(b))
}

func wantMachine(t *testing.T, got impl.Machine, want impl.Machine) {
	t.Helper()
	if !sameMachine(got, want) {
		t.Fatalf("%s\nwant\n%s", brief(got), brief(want))
	}
}

// machineText tells all that a machine has but its table: the threads, the
// heap, and what there is of Sparks, Names and Say.
func machineText(m impl.Machine) string {
	var parts []string
	for _, th := range m.Threads {
		text := []string{"eval", "enter", "next", "done", "stuck"}[th.Do]
		if th.Do == impl.DoEval || th.At != 0 || th.Do == impl.DoEnter {
			text += fmt.Sprint(" ", th.At)
		}
		if len(th.Kids) > 0 {
			text += fmt.Sprint(" ", th.Kids)
		}
		for _, f := range th.Stack {
			text += " " + frameText(f)
		}
		if th.Out != "" {
			text += " out " + th.Out
		}
		parts = append(parts, text)
	}
	var cells []string
	for _, c := range m.Heap {
		cells = append(cells, strings.ReplaceAll(plainCellText(c), " ", "."))
	}
	parts = append(parts, strings.Join(cells, " "))
	if len(m.Sparks) > 0 {
		parts = append(parts, fmt.Sprint("sparks ", m.Sparks))
	}
	if len(m.Names) > 0 {
		parts = append(parts, fmt.Sprint("names ", m.Names))
	}
	for _, msg := range m.Say {
		parts = append(parts, fmt.Sprintf("say %d %d>%d %d %d %s", msg.Kind, msg.From, msg.To, msg.Id, msg.Want, plainCellText(msg.Cell)))
	}
	return strings.Join(parts, " | ")
}

func frameText(f impl.Frame) string {
	text := []string{"upd", "arg", "if", "case", "op", "right", "show", "tail", "close", "give"}[f.Kind]
	for _, n := range append([]int{f.At, f.N}, f.Kids...) {
		text += fmt.Sprint(".", n)
	}
	return text
}

// wantSteps takes a step of the first thread for each text, which is all that
// the machine has then.
func wantSteps(t *testing.T, m impl.Machine, want ...string) {
	t.Helper()
	for i, text := range want {
		next := impl.Step(m, 0)
		if got := machineText(next); got != text {
			t.Errorf("step %d of %s\nis   %s\nwant %s", i, machineText(m), got, text)
			return
		}
		wantMachine(t, next, plainStep(m, 0))
		if !impl.MachineOk(next) || !reflect.DeepEqual(copyTable(next.Table), copyTable(m.Table)) {
			t.Errorf("%s is not right", text)
		}
		m = next
	}
}

func TestKindsOfFramesAndThreads(t *testing.T) {
	frames := []int{impl.FUpd, impl.FArg, impl.FIf, impl.FCase, impl.FOp, impl.FRight, impl.FShow, impl.FTail, impl.FClose, impl.FGive}
	dos := []int{impl.DoEval, impl.DoEnter, impl.DoNext, impl.IsDone, impl.IsStuck}
	messages := []int{impl.MsgFetch, impl.MsgGive, impl.MsgFish, impl.MsgWork}
	all := []int{0, 1, 2, 3, 4, 5, 6, 7, 8, 9}
	if !slices.Equal(frames, all) || !slices.Equal(dos, all[:5]) || !slices.Equal(messages, all[:4]) || impl.MaxThreads != 60 || impl.MaxSparks != 50 {
		t.Error(frames, dos, messages, impl.MaxThreads, impl.MaxSparks)
	}
}

func TestMachineNew(t *testing.T) {
	for _, c := range []struct {
		text string
		want []impl.Cell
	}{
		{"main = 1;", []impl.Cell{thunk(0)}},
		{"a = 1 + 2; b = a; c = \\x . x;", []impl.Cell{thunk(0), thunk(3), thunk(4)}},
		{manyDefinitions(30), nil},
	} {
		table := tableOf(t, c.text)
		m := impl.MachineNew(table)
		if c.want != nil && !reflect.DeepEqual(copyHeap(m.Heap), copyHeap(c.want)) {
			t.Errorf("%q: %v", c.text, m.Heap)
		}
		want := impl.Machine{Table: table}
		for _, top := range table.Tops {
			want.Heap = append(want.Heap, thunk(top))
		}
		wantMachine(t, m, want)
		if !impl.MachineOk(m) {
			t.Errorf("%q: %v is not right", c.text, m)
		}
	}
	wantMachine(t, impl.MachineNew(impl.Table{}), impl.Machine{})
	k := newSortMaker(31)
	for range 6 {
		for i, table := range changedTables(plainTable(k.program())) {
			if i%11 != 0 {
				continue
			}
			if m := impl.MachineNew(table); plainTableOk(table) != (len(m.Heap) > 0) || !plainTableOk(table) && !sameMachine(m, impl.Machine{}) {
				t.Fatalf("MachineNew(%v) = %v", table, m)
			}
		}
	}
}

func wantScopes(t *testing.T, text string, want ...int) {
	t.Helper()
	table := tableOf(t, text)
	for at := range table.Codes {
		if got := impl.ScopeOf(table, at); at >= len(want) || got != want[at] || got != plainScopeOf(table, at) {
			t.Errorf("ScopeOf(%q, %d) = %d; want %v", text, at, got, want)
		}
	}
	for _, at := range []int{math.MinInt, -2, -1, len(table.Codes), len(table.Codes) + 1, 1 << 32, math.MaxInt} {
		if got := impl.ScopeOf(table, at); got != -1 {
			t.Errorf("ScopeOf(%q, %d) = %d", text, at, got)
		}
	}
}

func TestScopeOfEachKind(t *testing.T) {
	wantScopes(t, "main = 1;", 0)
	wantScopes(t, "main = [];", 0)
	wantScopes(t, "main = main;", 0)
	wantScopes(t, "main = \\x . x;", 0, 1)
	wantScopes(t, "main = \\x . 5;", 0, 0)
	wantScopes(t, "main = \\x y z . y;", 0, 2)
	wantScopes(t, "main = \\x y z . z;", 0, 3)
	wantScopes(t, "main = \\x . \\y z . y;", 0, 0, 2)
	wantScopes(t, "main = \\x . \\y z . z;", 0, 1, 3)
	wantScopes(t, "main = \\x y . x : y;", 0, 2, 1, 2)
	wantScopes(t, "main = \\x y . y x;", 0, 2, 2, 1)
	wantScopes(t, "main = \\x y . x + y * y;", 0, 2, 1, 2, 2, 2)
	wantScopes(t, "main = \\x y z . if y then x else z;", 0, 3, 2, 1, 3)
	wantScopes(t, "main = \\x y z . if z then 1 else [];", 0, 3, 3, 0, 0)
	wantScopes(t, "main = \\x y . par x in y;", 0, 2, 1, 2)
	wantScopes(t, "main = \\x y . par y in x;", 0, 2, 2, 1)
	wantScopes(t, "main = \\x . par main in 1;", 0, 0, 0, 0)
	// The name of a let stands in both kids.
	wantScopes(t, "main = let x = x in x;", 0, 1, 1)
	wantScopes(t, "main = let x = 1 in x;", 0, 0, 1)
	wantScopes(t, "main = let x = x in 1;", 0, 1, 0)
	wantScopes(t, "main = \\a . let x = a in x;", 0, 1, 1, 2)
	wantScopes(t, "main = \\a . let x = x in a;", 0, 1, 2, 1)
	wantScopes(t, "main = \\a b . let x = 1 in b;", 0, 1, 0, 2)
	wantScopes(t, "main = \\a b . let x = b in 1;", 0, 1, 2, 0)
	// Both names of a case stand in its third kid alone.
	wantScopes(t, "main = \\a . case a of [] -> 1 | h : t -> h;", 0, 1, 1, 0, 2)
	wantScopes(t, "main = \\a . case 1 of [] -> a | h : t -> h;", 0, 1, 0, 1, 2)
	wantScopes(t, "main = \\a . case 1 of [] -> 2 | h : t -> t;", 0, 1, 0, 0, 3)
	wantScopes(t, "main = \\a b c . case 1 of [] -> 2 | h : t -> c;", 0, 1, 0, 0, 3)
	wantScopes(t, "main = \\a b . case 1 of [] -> b | h : t -> h;", 0, 2, 0, 2, 3)
	// Names that hide none bring their places all the same: what an ExVar wants is
	// told by its N alone, and may be below 0 within them.
	wantScopes(t, "main = \\x . \\y z . x;", 0, 0, 1)
	wantScopes(t, "main = \\a . let x = a in a;", 0, 0, 1, 1)
	wantScopes(t, "main = \\a . case 1 of [] -> 2 | h : t -> a;", 0, 0, 0, 0, 1)
	wantScopes(t, "main = \\x . \\x . \\x . x;", 0, 1, 2, 3)
	wantScopes(t, "main = \\a b . \\c . \\d e . let f = b in f d;", 0, 2, 3, 5, 2, 6, 6, 4)
	wantScopes(t, "main = \\a b c d e f . \\g . a : f;", 0, 5, 6, 1, 6)
	// A definition's body has nothing in scope, whatever names are around it.
	wantScopes(t, "f = \\a b . a; main = \\x . f x x;", 0, 1, 0, 1, 1, 0, 1, 1)
}

func TestScopeOfNothing(t *testing.T) {
	for _, at := range []int{math.MinInt, -1, 0, 1, math.MaxInt} {
		if got := impl.ScopeOf(impl.Table{}, at); got != -1 {
			t.Errorf("ScopeOf nothing at %d = %d", at, got)
		}
	}
	k := newSortMaker(32)
	right, wrong := 0, 0
	for range 6 {
		for i, table := range changedTables(plainTable(k.program())) {
			if i%7 != 0 {
				continue
			}
			ok := plainTableOk(table)
			for _, at := range []int{-1, 0, len(table.Codes) / 2, len(table.Codes) - 1, len(table.Codes)} {
				want := -1
				if ok && at >= 0 && at < len(table.Codes) {
					want = plainScopeOf(table, at)
					right++
				} else {
					wrong++
				}
				if got := impl.ScopeOf(table, at); got != want {
					t.Fatalf("ScopeOf(%v, %d) = %d; want %d", table, at, got, want)
				}
			}
		}
	}
	if right < 50 || wrong < 1000 {
		t.Error("only", right, "right and", wrong, "wrong ones")
	}
}

func TestScopeOfManyPrograms(t *testing.T) {
	sorts, any := newSortMaker(33), newMaker(33)
	for i := range 100 {
		p := sorts.program()
		if i%2 == 0 {
			_, p = any.program()
		}
		table := plainTable(p)
		for at := range table.Codes {
			if got, want := impl.ScopeOf(table, at), plainScopeOf(table, at); got != want {
				t.Fatalf("ScopeOf(%v, %d) = %d; want %d", table, at, got, want)
			}
		}
	}
}

// everything is the program of a machine that has each kind of all there is:
// code 0 is an ExLam, 1 an ExIf of 2, 3 and 9, 3 an ExCase of 4, 5 and 6, 6 an
// ExOp of the ExVars 7 and 8; 10 is the other top.
const everything = "f = \\a b . if a then case b of [] -> [] | h : t -> h + t else a; main = f 1 2;"

func fullMachine(t *testing.T) impl.Machine {
	t.Helper()
	m := machineOf(t, everything, does(impl.IsDone),
		intCell(-4), cell(impl.CNil, 0, 0), pairOf(2, 3), cell(impl.CFun, 2, 1), cell(impl.CFun, 1, 1, 2), thunk(1, 2, 4),
		cell(impl.CHole, 0, 0), ind(5), cell(impl.CFar, 3, 8), cell(impl.CFar, -1, 0), thunk(6, 2, 3, 4, 5), cell(impl.CFun, 4, 6))
	m.Threads = []impl.Thread{
		with(evals(1, 2, 3), showFrame(), upd(0), arg(5)),
		with(enters(9), frame(impl.FIf, 1, 0, 2, 3), frame(impl.FCase, 3, 0, 2, 4, 5), frame(impl.FOp, 6, 0, 2, 4, 5, 6)),
		with(does(impl.DoNext), closeFrame(), tail(4), frame(impl.FRight, 6, -3)),
		with(does(impl.IsDone), giveFrame(30, 7)),
		with(does(impl.IsStuck), giveFrame(0, 0)),
	}
	m.Threads[3].Out = "(1:"
	m.Sparks, m.Names = []int{0, 13, 0}, []int{4, 2, 4}
	m.Say = []impl.Msg{{Kind: impl.MsgFetch, To: 3, Id: 4}, {Kind: impl.MsgGive, To: 1, Cell: pairOf(1, 2)}}
	if !impl.MachineOk(m) || !plainMachineOk(m) {
		t.Fatalf("%v is right", m)
	}
	return m
}

func wantRightMachine(t *testing.T, right bool, m impl.Machine) {
	t.Helper()
	if impl.MachineOk(m) != right {
		t.Fatalf("MachineOk(%s) = %t", brief(m), !right)
	}
	if plainMachineOk(m) != right {
		t.Fatalf("the oracle tells MachineOk(%s) = %t", brief(m), !right)
	}
}

// wantChange tells whether a machine that something is done to is right.
func wantChange(t *testing.T, right bool, change func(m *impl.Machine)) {
	t.Helper()
	m := fullMachine(t)
	change(&m)
	wantRightMachine(t, right, m)
	if right {
		return
	}
	for i := range m.Threads {
		wantMachine(t, impl.Step(m, i), m)
	}
}

func TestMachineOkHowMany(t *testing.T) {
	for _, count := range []int{0, 1, 59, 60, 61, 1000} {
		wantChange(t, count <= 60, func(m *impl.Machine) { m.Threads = make([]impl.Thread, count); spareThreads(m.Threads) })
		wantChange(t, count <= 50, func(m *impl.Machine) { m.Sparks = make([]int, count) })
		wantChange(t, true, func(m *impl.Machine) { m.Names = make([]int, count) })
		wantChange(t, true, func(m *impl.Machine) { m.Say = make([]impl.Msg, count) })
		wantChange(t, true, func(m *impl.Machine) { m.Threads[0].Stack = slices.Repeat([]impl.Frame{showFrame()}, count) })
	}
	for _, count := range []int{49, 50, 51} {
		wantChange(t, count <= 50, func(m *impl.Machine) { m.Sparks = make([]int, count) })
	}
	for _, count := range []int{14, 2989, 2990, 2991, 2999, 3000, 3001} {
		wantChange(t, count <= 3000, func(m *impl.Machine) {
			m.Heap = append(m.Heap, make([]impl.Cell, count-len(m.Heap))...)
		})
	}
	// As many cells as there are Tops are enough, of whatever kind.
	for count := range 4 {
		wantChange(t, count >= 2, func(m *impl.Machine) {
			m.Heap, m.Threads, m.Sparks, m.Names = make([]impl.Cell, count), nil, nil, nil
		})
	}
	wantRightMachine(t, false, impl.Machine{})
}

func spareThreads(list []impl.Thread) {
	for i := range list {
		list[i].Do = impl.IsDone
	}
}

// What a code wants in scope it has, or more; one fewer is too few.
func TestMachineOkScopes(t *testing.T) {
	// Of codes that want 0, 1, 2, 3 and 4: the ExLam, its ExVar 0, the ExIf, the
	// ExVar 2 of the ExOp, and this.
	wants := map[int]int{0: 0, 2: 1, 1: 2, 7: 3, 6: 4}
	for code, want := range wants {
		for count := range 9 {
			scope := make([]int, count)
			wantChange(t, count >= want, func(m *impl.Machine) { m.Heap[7] = thunk(code, scope...) })
			wantChange(t, count >= want, func(m *impl.Machine) { m.Heap[1] = thunk(code, scope...) })
			wantChange(t, count >= want, func(m *impl.Machine) { m.Threads[1] = evals(code, scope...) })
			for lacks := 1; lacks <= 6; lacks++ {
				wantChange(t, count+lacks >= want, func(m *impl.Machine) { m.Heap[5] = cell(impl.CFun, lacks, code, scope...) })
			}
			frames := map[int]int{1: impl.FIf, 6: impl.FOp, 3: impl.FCase}
			if kind, found := frames[code]; found {
				wantChange(t, count >= want, func(m *impl.Machine) { m.Threads[1].Stack[0] = frame(kind, code, 0, scope...) })
			}
		}
	}
	for count := range 5 {
		wantChange(t, count >= 2, func(m *impl.Machine) { m.Threads[3].Stack[0] = frame(impl.FCase, 3, 0, make([]int, count)...) })
	}
	// A function need not be of an ExLam's kid, nor have at most its names.
	wantChange(t, true, func(m *impl.Machine) { m.Heap[5] = cell(impl.CFun, 6, 10) })
	wantChange(t, true, func(m *impl.Machine) { m.Heap[5] = cell(impl.CFun, 6, 1, 0, 0, 0) })
}

// oddNumbers has the edges of all that is numbered in a machine like that of
// fullMachine: 14 cells, 15 codes, 10 kinds of frames, 5 of threads, 31 nodes.
func oddNumbers() []int {
	return []int{math.MinInt, math.MinInt + 1, -1 << 32, -2, -1, 0, 1, 2, 3, 4, 5, 6, 7, 8, 9, 10, 11, 12, 13, 14, 15, 16, 17, 29, 30, 31, 32, 59, 60, 61, 999999, 1000000, 1 << 32, math.MaxInt - 1, math.MaxInt}
}

// changedMachines has one field alone changed in each.
func changedMachines(m impl.Machine) []impl.Machine {
	var all []impl.Machine
	change := func(do func(n *impl.Machine)) {
		n := copyMachine(m)
		do(&n)
		all = append(all, n)
	}
	lists := func(list []int, into func(n *impl.Machine, changed []int)) {
		for _, changed := range append(changedLists(list, len(m.Heap)), nil) {
			change(func(n *impl.Machine) { into(n, changed) })
		}
	}
	for _, number := range oddNumbers() {
		for i := range m.Threads {
			change(func(n *impl.Machine) { n.Threads[i].Do = number })
			change(func(n *impl.Machine) { n.Threads[i].At = number })
			change(func(n *impl.Machine) { n.Threads[i].Kids = append(n.Threads[i].Kids, number) })
			for j := range m.Threads[i].Stack {
				change(func(n *impl.Machine) { n.Threads[i].Stack[j].Kind = number })
				change(func(n *impl.Machine) { n.Threads[i].Stack[j].At = number })
				change(func(n *impl.Machine) { n.Threads[i].Stack[j].N = number })
				change(func(n *impl.Machine) { n.Threads[i].Stack[j].Kids = append(n.Threads[i].Stack[j].Kids, number) })
			}
		}
		for i := range m.Heap {
			change(func(n *impl.Machine) { n.Heap[i].Kind = number })
			change(func(n *impl.Machine) { n.Heap[i].N = number })
			change(func(n *impl.Machine) { n.Heap[i].At = number })
			change(func(n *impl.Machine) { n.Heap[i].Kids = append(n.Heap[i].Kids, number) })
		}
		change(func(n *impl.Machine) { n.Sparks = append(n.Sparks, number) })
		change(func(n *impl.Machine) { n.Names = append(n.Names, number) })
		change(func(n *impl.Machine) {
			n.Say = append(n.Say, impl.Msg{Kind: number, From: number, To: number, Id: number, Want: number, Cell: cell(number, number, number, number)})
		})
	}
	for i := range m.Heap {
		lists(m.Heap[i].Kids, func(n *impl.Machine, changed []int) { n.Heap[i].Kids = changed })
		change(func(n *impl.Machine) { n.Heap = n.Heap[:i] })
	}
	for i := range m.Threads {
		lists(m.Threads[i].Kids, func(n *impl.Machine, changed []int) { n.Threads[i].Kids = changed })
		for j := range m.Threads[i].Stack {
			lists(m.Threads[i].Stack[j].Kids, func(n *impl.Machine, changed []int) { n.Threads[i].Stack[j].Kids = changed })
		}
		change(func(n *impl.Machine) { n.Threads[i].Out = "\x00\xff" })
	}
	lists(m.Sparks, func(n *impl.Machine, changed []int) { n.Sparks = changed })
	lists(m.Names, func(n *impl.Machine, changed []int) { n.Names = changed })
	for i, table := range changedTables(m.Table) {
		if i%9 == 0 {
			change(func(n *impl.Machine) { n.Table = table })
		}
	}
	return all
}

func TestMachineOkOfOneWrongField(t *testing.T) {
	right, wrong := 0, 0
	for _, m := range changedMachines(fullMachine(t)) {
		want := plainMachineOk(m)
		wantRightMachine(t, want, m)
		if want {
			right++
			continue
		}
		wrong++
		wantMachine(t, impl.Step(m, wrong%5), m)
		wantMachine(t, impl.Run(m, wrong%5, 10), m)
	}
	if right < 500 || wrong < 2000 {
		t.Error("only", right, "right and", wrong, "wrong machines")
	}
}

func TestStepEvaluatesEachKind(t *testing.T) {
	five := intCell(5)
	step := func(body string, th impl.Thread, want string) {
		t.Helper()
		wantSteps(t, machineOf(t, "main = "+body+";", th, five), want)
	}
	step("7", evals(0), "enter 2 | t.0.0 i.5.0 i.7.0")
	step("7", with(evals(0, 1, 0), showFrame(), arg(1)), "enter 2 show.0.0 arg.0.0.1 | t.0.0 i.5.0 i.7.0")
	step("[]", evals(0, 1), "enter 2 | t.0.0 i.5.0 n.0.0")
	step("\\x y . x", evals(0), "enter 2 | t.0.0 i.5.0 f.2.1")
	step("\\x y . x", evals(0, 1, 0), "enter 2 | t.0.0 i.5.0 f.2.1.1.0")
	step("\\x y z a b c . x", evals(0), "enter 2 | t.0.0 i.5.0 f.6.1")
	step("\\x y . x", evals(1, 1, 0), "enter 1 | t.0.0 i.5.0")
	step("\\x y . y", evals(1, 1, 0), "enter 0 | t.0.0 i.5.0")
	step("main", evals(0, 1), "enter 0 | t.0.0 i.5.0")
	// What is given to a function stands in a place that there is, or a new one.
	step("\\f x . f x", evals(1, 0, 1), "eval 2 [0 1] arg.0.0.1 | t.0.0 i.5.0")
	step("\\f x . x f", evals(1, 0, 1), "eval 2 [0 1] arg.0.0.0 | t.0.0 i.5.0")
	step("\\f . f main", evals(1, 1), "eval 2 [1] arg.0.0.0 | t.0.0 i.5.0")
	step("\\f . f 6", with(evals(1, 1), upd(1)), "eval 2 [1] upd.1.0 arg.0.0.2 | t.0.0 i.5.0 t.0.3.1")
	step("main 6 7", evals(0), "eval 1 arg.0.0.2 | t.0.0 i.5.0 t.0.4")
	// A let's name stands for a thunk that has itself in scope.
	step("\\a . let x = x in a", evals(1, 1), "eval 3 [1 2] | t.0.0 i.5.0 t.0.2.1.2")
	step("let x = 1 in x", evals(0), "eval 2 [2] | t.0.0 i.5.0 t.0.1.2")
	step("let x = main in 1", evals(0), "eval 2 [2] | t.0.0 i.5.0 t.0.1.2")
	step("\\a . a : main", evals(1, 1), "enter 2 | t.0.0 i.5.0 c.0.0.1.0")
	step("\\a . main : a", evals(1, 1), "enter 2 | t.0.0 i.5.0 c.0.0.0.1")
	step("\\a . a : a", evals(1, 1), "enter 2 | t.0.0 i.5.0 c.0.0.1.1")
	step("\\a . 1 + a : []", evals(1, 1), "enter 4 | t.0.0 i.5.0 t.0.2.1 t.0.5.1 c.0.0.2.3")
	step("\\a . 1 : a", evals(1, 1), "enter 3 | t.0.0 i.5.0 t.0.2.1 c.0.0.2.1")
	step("\\a . a : []", evals(1, 1), "enter 3 | t.0.0 i.5.0 t.0.3.1 c.0.0.1.2")
	step("\\a . if a then 1 else 2", evals(1, 1), "eval 2 [1] if.1.0.1 | t.0.0 i.5.0")
	step("\\a . case 3 of [] -> 1 | h : t -> 2", evals(1, 1, 1), "eval 2 [1 1] case.1.0.1.1 | t.0.0 i.5.0")
	step("3 < 4", with(evals(0), showFrame()), "eval 1 show.0.0 op.0.0 | t.0.0 i.5.0")
	step("\\a . par a in 3", evals(1, 1), "eval 3 [1] | t.0.0 i.5.0 | sparks [1]")
	step("\\a . par main in a", evals(1, 1), "eval 3 [1] | t.0.0 i.5.0 | sparks [0]")
	wantSteps(t, machineOf(t, "main = b; b = 2;", evals(0, 1)), "enter 1 | t.0.0 t.0.1")
	wantSteps(t, machineOf(t, "main = b 1; b = 2;", evals(0)), "eval 1 arg.0.0.2 | t.0.0 t.0.3 t.0.2")
	wantSteps(t, machineOf(t, "main = 1 b; b = 2;", evals(0)), "eval 1 arg.0.0.1 | t.0.0 t.0.3")
}

func TestStepSparks(t *testing.T) {
	for _, count := range []int{0, 1, 48, 49, 50} {
		m := machineOf(t, "main = \\a . par a in 3;", evals(1, 1), intCell(5))
		m.Sparks = make([]int, count)
		next := impl.Step(m, 0)
		want := slices.Clone(m.Sparks)
		if count < 50 {
			want = append(want, 1)
		}
		if !slices.Equal(next.Sparks, want) || next.Threads[0].Do != impl.DoEval || next.Threads[0].At != 3 {
			t.Errorf("%d sparks: %v", count, machineText(next))
		}
		wantMachine(t, next, plainStep(m, 0))
	}
}

func TestStepEntersEachKind(t *testing.T) {
	step := func(th impl.Thread, want string, cells ...impl.Cell) {
		t.Helper()
		wantSteps(t, machineOf(t, "main = \\x . x;", th, cells...), want)
	}
	step(with(enters(0), showFrame()), "eval 0 show.0.0 upd.0.0 | h.0.0")
	step(enters(1), "eval 1 [0 1] upd.1.0 | t.0.0 h.0.0", thunk(1, 0, 1))
	// Over CInds: the place that is entered is that where one comes to.
	step(enters(1), "eval 0 upd.0.0 | h.0.0 d.0.0.2 d.0.0.0", ind(2), ind(0))
	step(enters(2), "done | t.0.0 i.3.0 d.0.0.1", intCell(3), ind(1))
	step(with(enters(2), upd(0)), "enter 1 | d.0.0.1 i.3.0 d.0.0.1", intCell(3), ind(1))
	step(with(enters(1), upd(2)), "enter 1 | t.0.0 i.3.0 d.0.0.1", intCell(3), ind(1))
	// Nothing changes at a hole, nor at what was asked for already.
	hole := cell(impl.CHole, 0, 0)
	step(with(enters(1), upd(0), showFrame()), "enter 1 upd.0.0 show.0.0 | t.0.0 h.0.0", hole)
	step(enters(1), "enter 1 | t.0.0 h.0.0", hole)
	step(enters(2), "enter 2 | t.0.0 h.0.0 d.0.0.1", hole, ind(1))
	asked := cell(impl.CFar, -1, 0)
	step(with(enters(1), upd(0), showFrame()), "enter 1 upd.0.0 show.0.0 | t.0.0 r.-1.0", asked)
	step(enters(2), "enter 2 | t.0.0 r.-1.0 d.0.0.1", asked, ind(1))
	// CInds in a circle, and those that lead into one.
	step(with(enters(1), showFrame()), "stuck show.0.0 | t.0.0 d.0.0.1", ind(1))
	step(enters(1), "stuck | t.0.0 d.0.0.2 d.0.0.3 d.0.0.1", ind(2), ind(3), ind(1))
	step(enters(1), "stuck | t.0.0 d.0.0.2 d.0.0.2", ind(2), ind(2))
	// Each value, where nothing waits.
	for _, c := range []impl.Cell{intCell(0), cell(impl.CNil, 0, 0), pairOf(0, 0), cell(impl.CFun, 3, 1)} {
		step(enters(1), "done | t.0.0 "+strings.ReplaceAll(plainCellText(c), " ", "."), c)
	}
}

func TestStepAsksForWhatIsFar(t *testing.T) {
	m := machineOf(t, "main = 1;", with(enters(2), upd(0)), cell(impl.CFar, 3, 7), ind(1))
	wantSteps(t, m, "enter 2 upd.0.0 | t.0.0 r.-1.0 d.0.0.1 | names [1] | say 0 0>3 7 0 i 0 0",
		"enter 2 upd.0.0 | t.0.0 r.-1.0 d.0.0.1 | names [1] | say 0 0>3 7 0 i 0 0")
	// A place that has a number keeps it, the first one of several; a CInd of it
	// is another place.
	for _, c := range []struct{ names, want []int }{
		{nil, []int{1}}, {[]int{1}, []int{1}}, {[]int{0, 1, 0, 1}, []int{0, 1, 0, 1}}, {[]int{0, 2}, []int{0, 2, 1}}, {[]int{2, 2, 1}, []int{2, 2, 1}},
	} {
		m.Names = c.names
		m.Say = []impl.Msg{{Kind: impl.MsgFish, To: 9}}
		next := impl.Step(m, 0)
		want := impl.Msg{Kind: impl.MsgFetch, To: 3, Id: 7, Want: slices.Index(c.want, 1)}
		if !slices.Equal(next.Names, c.want) || len(next.Say) != 2 || next.Say[0].Kind != impl.MsgFish || !reflect.DeepEqual(copyMachine(next).Say[1], want) {
			t.Errorf("names %v: %s", c.names, machineText(next))
		}
		wantMachine(t, next, plainStep(m, 0))
	}
	for _, node := range []int{0, 30} {
		for _, at := range []int{0, math.MaxInt} {
			next := impl.Step(machineOf(t, "main = 1;", enters(1), cell(impl.CFar, node, at)), 0)
			if len(next.Say) != 1 || next.Say[0].To != node || next.Say[0].Id != at || next.Heap[1].N != -1 || next.Heap[1].At != 0 {
				t.Errorf("%d, %d: %s", node, at, machineText(next))
			}
		}
	}
}

// waitingProgram has code 1 an ExIf of 2, 3 and 7, 3 an ExCase of 4, 5 and 6, and
// 7 an ExOp of 8 and 9.
const waitingProgram = "main = \\a . if a then case a of [] -> a | h : t -> t else a - 2;"

// Each kind of value for each kind of frame; what is not told is stuck.
func TestStepGivesValuesToFrames(t *testing.T) {
	values := []impl.Cell{intCell(5), intCell(0), cell(impl.CNil, 0, 0), pairOf(0, 1), cell(impl.CFun, 1, 2), cell(impl.CFun, 2, 2)}
	texts := []string{"i.5.0", "i.0.0", "n.0.0", "c.0.0.0.1", "f.1.2", "f.2.2"}
	for _, c := range []struct {
		frame impl.Frame
		want  []string
	}{
		{upd(0), []string{"enter 1 show.0.0 | d.0.0.1 V", "enter 1 show.0.0 | d.0.0.1 V", "enter 1 show.0.0 | d.0.0.1 V", "enter 1 show.0.0 | d.0.0.1 V", "enter 1 show.0.0 | d.0.0.1 V", "enter 1 show.0.0 | d.0.0.1 V"}},
		{upd(1), []string{"stuck show.0.0 | t.0.0 d.0.0.1", "stuck show.0.0 | t.0.0 d.0.0.1", "stuck show.0.0 | t.0.0 d.0.0.1", "stuck show.0.0 | t.0.0 d.0.0.1", "stuck show.0.0 | t.0.0 d.0.0.1", "stuck show.0.0 | t.0.0 d.0.0.1"}},
		{arg(0), []string{"", "", "", "", "eval 2 [0] show.0.0 | t.0.0 V", "enter 2 show.0.0 | t.0.0 V f.1.2.0"}},
		{frame(impl.FIf, 1, 0, 1), []string{"eval 3 [1] show.0.0 | t.0.0 V", "eval 7 [1] show.0.0 | t.0.0 V", "", "", "", ""}},
		{frame(impl.FCase, 3, 0, 1), []string{"", "", "eval 5 [1] show.0.0 | t.0.0 V", "eval 6 [1 0 1] show.0.0 | t.0.0 V", "", ""}},
		{frame(impl.FOp, 7, 0, 1), []string{"eval 9 [1] show.0.0 right.7.5 | t.0.0 V", "eval 9 [1] show.0.0 right.7.0 | t.0.0 V", "", "", "", ""}},
		{frame(impl.FRight, 7, 3), []string{"enter 2 show.0.0 | t.0.0 V i.-2.0", "enter 2 show.0.0 | t.0.0 V i.3.0", "", "", "", ""}},
		{showFrame(), []string{"next show.0.0 out 5 | t.0.0 V", "next show.0.0 out 0 | t.0.0 V", "next show.0.0 out [] | t.0.0 V", "enter 0 show.0.0 tail.1.0 show.0.0 out ( | t.0.0 V", "next show.0.0 out fun | t.0.0 V", "next show.0.0 out fun | t.0.0 V"}},
		{tail(0), make([]string, 6)},
		{closeFrame(), make([]string, 6)},
		{giveFrame(4, 9), []string{"done show.0.0 | t.0.0 V | say 1 0>4 9 0 i 5 0", "done show.0.0 | t.0.0 V | say 1 0>4 9 0 i 0 0", "done show.0.0 | t.0.0 V | say 1 0>4 9 0 n 0 0", "done show.0.0 | t.0.0 V | names [0 1] | say 1 0>4 9 0 c 0 0 0 1", "done show.0.0 | t.0.0 V | say 1 0>4 9 0 f 1 2", "done show.0.0 | t.0.0 V | say 1 0>4 9 0 f 2 2"}},
	} {
		for i, want := range c.want {
			if want == "" {
				want = "stuck show.0.0 | t.0.0 V"
			}
			m := machineOf(t, waitingProgram, with(enters(1), showFrame(), c.frame), values[i])
			wantSteps(t, m, strings.ReplaceAll(want, "V", texts[i]))
		}
	}
}

func TestStepGivesAway(t *testing.T) {
	cells := []impl.Cell{cell(impl.CFun, 2, 1, 3, 0, 3, 2), ind(1), intCell(4)}
	m := machineOf(t, waitingProgram, with(enters(2), giveFrame(30, math.MaxInt)), cells...)
	m.Names = []int{2, 0, 0}
	m.Threads[0].Out = "kept"
	wantSteps(t, m, fmt.Sprintf("done out kept | t.0.0 f.2.1.3.0.3.2 d.0.0.1 i.4.0 | names [2 0 0 3] | say 1 0>30 %d 0 f 2 1 3 1 3 0", math.MaxInt))
	m = machineOf(t, waitingProgram, with(enters(1), giveFrame(0, 0)), pairOf(2, 2), intCell(4))
	wantSteps(t, m, "done | t.0.0 c.0.0.2.2 i.4.0 | names [2] | say 1 0>0 0 0 c 0 0 0 0")
}

// A function of several names is given one place at a time; what lacks more is a
// new function each time, and the old one stays.
func TestStepFunctionsThatLackMore(t *testing.T) {
	m := machineOf(t, "main = \\a b c . b;", with(enters(0), showFrame(), arg(3), arg(2), arg(1)), intCell(7), intCell(8), intCell(9))
	wantSteps(t, m,
		"eval 0 show.0.0 arg.0.0.3 arg.0.0.2 arg.0.0.1 upd.0.0 | h.0.0 i.7.0 i.8.0 i.9.0",
		"enter 4 show.0.0 arg.0.0.3 arg.0.0.2 arg.0.0.1 upd.0.0 | h.0.0 i.7.0 i.8.0 i.9.0 f.3.1",
		"enter 4 show.0.0 arg.0.0.3 arg.0.0.2 arg.0.0.1 | d.0.0.4 i.7.0 i.8.0 i.9.0 f.3.1",
		"enter 5 show.0.0 arg.0.0.3 arg.0.0.2 | d.0.0.4 i.7.0 i.8.0 i.9.0 f.3.1 f.2.1.1",
		"enter 6 show.0.0 arg.0.0.3 | d.0.0.4 i.7.0 i.8.0 i.9.0 f.3.1 f.2.1.1 f.1.1.1.2",
		"eval 1 [1 2 3] show.0.0 | d.0.0.4 i.7.0 i.8.0 i.9.0 f.3.1 f.2.1.1 f.1.1.1.2",
		"enter 2 show.0.0 | d.0.0.4 i.7.0 i.8.0 i.9.0 f.3.1 f.2.1.1 f.1.1.1.2",
		"next out 8 | d.0.0.4 i.7.0 i.8.0 i.9.0 f.3.1 f.2.1.1 f.1.1.1.2",
		"done out 8 | d.0.0.4 i.7.0 i.8.0 i.9.0 f.3.1 f.2.1.1 f.1.1.1.2",
		"done out 8 | d.0.0.4 i.7.0 i.8.0 i.9.0 f.3.1 f.2.1.1 f.1.1.1.2")
	// One too few: what is shown lacks more still.
	m = machineOf(t, "main = \\a b c . b;", with(enters(1), showFrame(), arg(0)), cell(impl.CFun, 2, 1, 0))
	wantSteps(t, m, "enter 2 show.0.0 | t.0.0 f.2.1.0 f.1.1.0.0", "next out fun | t.0.0 f.2.1.0 f.1.1.0.0", "done out fun | t.0.0 f.2.1.0 f.1.1.0.0")
	for lacks := 1; lacks <= 6; lacks++ {
		m := machineOf(t, "main = \\a b c d e f . f;", with(enters(1), arg(0)), cell(impl.CFun, lacks, 1, make([]int, 6-lacks)...))
		next := impl.Step(m, 0)
		want, at := cell(impl.CFun, lacks-1, 1, make([]int, 7-lacks)...), len(next.Heap)-1
		if lacks > 1 && (at != 2 || !reflect.DeepEqual(copyHeap(next.Heap)[2], copyHeap([]impl.Cell{want})[0]) || next.Threads[0].At != 2) {
			t.Errorf("lacks %d: %s", lacks, machineText(next))
		}
		if lacks == 1 && (at != 1 || next.Threads[0].Do != impl.DoEval || len(next.Threads[0].Kids) != 6) {
			t.Errorf("lacks %d: %s", lacks, machineText(next))
		}
	}
}

func TestStepGoesOnPrinting(t *testing.T) {
	for _, c := range []struct {
		frame impl.Frame
		want  string
	}{
		{tail(1), "enter 1 close.0.0 show.0.0 out 9: | t.0.0 i.5.0"},
		{tail(0), "enter 0 close.0.0 show.0.0 out 9: | t.0.0 i.5.0"},
		{closeFrame(), "next out 9) | t.0.0 i.5.0"},
		{upd(0), "stuck out 9 | t.0.0 i.5.0"},
		{arg(0), "stuck out 9 | t.0.0 i.5.0"},
		{frame(impl.FIf, 1, 0, 1), "stuck out 9 | t.0.0 i.5.0"},
		{frame(impl.FCase, 3, 0, 1), "stuck out 9 | t.0.0 i.5.0"},
		{frame(impl.FOp, 7, 0, 1), "stuck out 9 | t.0.0 i.5.0"},
		{frame(impl.FRight, 7, 1), "stuck out 9 | t.0.0 i.5.0"},
		{showFrame(), "stuck out 9 | t.0.0 i.5.0"},
		{giveFrame(1, 1), "stuck out 9 | t.0.0 i.5.0"},
	} {
		th := with(does(impl.DoNext), c.frame)
		th.Out = "9"
		wantSteps(t, machineOf(t, waitingProgram, th, intCell(5)), c.want)
		// What waits behind it waits on.
		th.Stack = []impl.Frame{upd(1), closeFrame(), c.frame}
		m := machineOf(t, waitingProgram, th, intCell(5))
		if next := impl.Step(m, 0); !sameMachine(next, plainStep(m, 0)) || len(next.Threads[0].Stack) < 2 {
			t.Errorf("%v: %s", c.frame, machineText(next))
		}
	}
	wantSteps(t, machineOf(t, waitingProgram, does(impl.DoNext)), "done | t.0.0")
}

// A pair whose head and tail are reckoned while it is printed.
func TestStepPrintsPairs(t *testing.T) {
	m := impl.Show(impl.MachineNew(tableOf(t, "main = 1 : [];")), 0)
	wantSteps(t, m,
		"eval 0 show.0.0 upd.0.0 | h.0.0",
		"enter 3 show.0.0 upd.0.0 | h.0.0 t.0.1 t.0.2 c.0.0.1.2",
		"enter 3 show.0.0 | d.0.0.3 t.0.1 t.0.2 c.0.0.1.2",
		"enter 1 tail.2.0 show.0.0 out ( | d.0.0.3 t.0.1 t.0.2 c.0.0.1.2",
		"eval 1 tail.2.0 show.0.0 upd.1.0 out ( | d.0.0.3 h.0.0 t.0.2 c.0.0.1.2",
		"enter 4 tail.2.0 show.0.0 upd.1.0 out ( | d.0.0.3 h.0.0 t.0.2 c.0.0.1.2 i.1.0",
		"enter 4 tail.2.0 show.0.0 out ( | d.0.0.3 d.0.0.4 t.0.2 c.0.0.1.2 i.1.0",
		"next tail.2.0 out (1 | d.0.0.3 d.0.0.4 t.0.2 c.0.0.1.2 i.1.0",
		"enter 2 close.0.0 show.0.0 out (1: | d.0.0.3 d.0.0.4 t.0.2 c.0.0.1.2 i.1.0",
		"eval 2 close.0.0 show.0.0 upd.2.0 out (1: | d.0.0.3 d.0.0.4 h.0.0 c.0.0.1.2 i.1.0",
		"enter 5 close.0.0 show.0.0 upd.2.0 out (1: | d.0.0.3 d.0.0.4 h.0.0 c.0.0.1.2 i.1.0 n.0.0",
		"enter 5 close.0.0 show.0.0 out (1: | d.0.0.3 d.0.0.4 d.0.0.5 c.0.0.1.2 i.1.0 n.0.0",
		"next close.0.0 out (1:[] | d.0.0.3 d.0.0.4 d.0.0.5 c.0.0.1.2 i.1.0 n.0.0",
		"next out (1:[]) | d.0.0.3 d.0.0.4 d.0.0.5 c.0.0.1.2 i.1.0 n.0.0",
		"done out (1:[]) | d.0.0.3 d.0.0.4 d.0.0.5 c.0.0.1.2 i.1.0 n.0.0")
}

func TestShow(t *testing.T) {
	m := fullMachine(t)
	for _, at := range append(oddNumbers(), 13) {
		want := copyMachine(m)
		if at >= 0 && at < len(m.Heap) {
			want.Threads = append(want.Threads, with(enters(at), showFrame()))
		}
		wantMachine(t, impl.Show(m, at), want)
	}
	for _, count := range []int{0, 1, 58, 59, 60, 61, 100} {
		m.Threads = make([]impl.Thread, count)
		spareThreads(m.Threads)
		shown := impl.Show(m, 5)
		if len(shown.Threads) != count && count >= 60 || len(shown.Threads) != count+1 && count < 60 {
			t.Errorf("%d threads, then %d", count, len(shown.Threads))
		}
		if impl.MachineOk(shown) != (count <= 60) {
			t.Errorf("%d threads: right %t", count, count > 60)
		}
	}
	// Of a machine that is not right nothing else is asked.
	for _, m := range []impl.Machine{{}, {Names: []int{-1}}, {Threads: make([]impl.Thread, 3)}} {
		wantMachine(t, impl.Show(m, 0), m)
		wantMachine(t, impl.Show(m, -1), m)
		n := copyMachine(m)
		n.Heap = []impl.Cell{cell(99, 1, 2, 3)}
		want := copyMachine(n)
		want.Threads = append(want.Threads, with(enters(0), showFrame()))
		wantMachine(t, impl.Show(n, 0), want)
		wantMachine(t, impl.Show(n, 1), n)
	}
}

func TestStepOfNoThread(t *testing.T) {
	m := fullMachine(t)
	for _, i := range append(oddNumbers(), -5, -6) {
		if i >= 0 && i < len(m.Threads) {
			continue
		}
		wantMachine(t, impl.Step(m, i), m)
		wantMachine(t, impl.Run(m, i, 5), m)
	}
	// Those that have ended, whatever is in their Stacks.
	for _, i := range []int{3, 4} {
		wantMachine(t, impl.Step(m, i), m)
		wantMachine(t, impl.Run(m, i, 5), m)
	}
	// The others are what a step makes of each alone.
	for i := range 3 {
		next := impl.Step(m, i)
		if sameMachine(next, m) {
			t.Errorf("thread %d takes no step", i)
		}
		wantMachine(t, next, plainStep(m, i))
		for j := range m.Threads {
			if j != i && !reflect.DeepEqual(copyMachine(next).Threads[j], copyMachine(m).Threads[j]) {
				t.Errorf("thread %d changes %d", i, j)
			}
		}
	}
}

// A heap of 2990 cells has room for one more step, one of 2991 has none, though
// that step would make no cell.
func TestStepHowManyCells(t *testing.T) {
	for _, count := range []int{2987, 2989, 2990, 2991, 2999, 3000} {
		cells := make([]impl.Cell, count-1)
		for _, th := range []impl.Thread{evals(0), evals(2), enters(0), with(enters(1), showFrame()), does(impl.DoNext), evals(1), evals(3)} {
			m := machineOf(t, "main = let x = 1 + 2 in x : x : [];", th, cells...)
			if th.Do == impl.DoEval {
				m.Threads[0].Kids = []int{1}
			}
			next := impl.Step(m, 0)
			if sameMachine(next, m) != (count > 2990) {
				t.Errorf("%d cells, %v: %v", count, th, next.Threads)
			}
			wantMachine(t, next, plainStep(m, 0))
			if !impl.MachineOk(next) {
				t.Errorf("%d cells, %v: not right", count, th)
			}
			ran := impl.Run(m, 0, 100)
			if !impl.MachineOk(ran) || len(ran.Heap) > 2993 && count <= 2990 {
				t.Errorf("%d cells, %v: then %d", count, th, len(ran.Heap))
			}
		}
	}
}

// A program that needs more cells than there are stays where there are no more.
func TestRunUntilTheHeapIsFull(t *testing.T) {
	table := tableOf(t, "f = \\n . n : f (n + 1); main = f 1;")
	m := impl.Run(impl.Show(impl.MachineNew(table), 1), 0, 100000)
	if len(m.Heap) <= 2990 || len(m.Heap) > 2993 || m.Threads[0].Do > impl.DoNext || !impl.MachineOk(m) || !strings.HasPrefix(m.Threads[0].Out, "(1:(2:(3:(4:") {
		t.Errorf("%d cells, %v", len(m.Heap), m.Threads[0].Do)
	}
	wantMachine(t, impl.Step(m, 0), m)
	wantMachine(t, impl.Run(m, 0, 1000), m)
	if text, ok := impl.Solo(table, 1, 100000); text != "" || ok {
		t.Errorf("%.50q", text)
	}
}

// Run is Step so often.
func TestRunIsSteps(t *testing.T) {
	k := newMachineMaker(34)
	for range 150 {
		m := k.machine()
		i := k.IntN(len(m.Threads))
		stepped := m
		for steps := range 40 {
			wantMachine(t, impl.Run(m, i, steps), stepped)
			stepped = impl.Step(stepped, i)
		}
	}
}

func TestRunHowManySteps(t *testing.T) {
	// It never ends, nor makes cells, but for each time around.
	m := impl.Show(impl.MachineNew(tableOf(t, "f = \\x . f x; main = f 1;")), 1)
	for _, steps := range []int{math.MinInt, -100000, -2, -1, 0, 100001, 100002, 1 << 32, math.MaxInt} {
		wantMachine(t, impl.Run(m, 0, steps), m)
	}
	for _, steps := range []int{1, 2, 99999, 100000} {
		ran := impl.Run(m, 0, steps)
		wantMachine(t, impl.Run(impl.Run(m, 0, steps/2), 0, steps-steps/2), ran)
		want := m
		for range steps {
			want = plainStepOfRight(want, 0)
		}
		wantMachine(t, ran, want)
	}
	// A thread that ends takes no more steps.
	one := impl.Show(impl.MachineNew(tableOf(t, "main = 7;")), 0)
	for steps := range 9 {
		ran := impl.Run(one, 0, steps)
		if (ran.Threads[0].Do == impl.IsDone) != (steps >= 5) {
			t.Errorf("%d steps: %s", steps, machineText(ran))
		}
		if _, ok := impl.Solo(one.Table, 0, steps); ok != (steps >= 5) {
			t.Errorf("Solo with %d steps", steps)
		}
	}
	wantMachine(t, impl.Run(one, 0, 100000), impl.Run(one, 0, 5))
	for _, steps := range []int{math.MinInt, -1, 100001, math.MaxInt} {
		if text, ok := impl.Solo(one.Table, 0, steps); ok || text != "" {
			t.Errorf("Solo with %d steps: %q", steps, text)
		}
	}
	if text, ok := impl.Solo(one.Table, 0, 100000); !ok || text != "7" {
		t.Errorf("Solo: %q", text)
	}
}

// A list without an end prints on, with as much behind Out each time.
func TestRunPrintsOn(t *testing.T) {
	m := impl.Run(impl.Show(impl.MachineNew(tableOf(t, "main = let x = 1 : x in x;")), 0), 0, 100000)
	out := m.Threads[0].Out
	if !strings.HasPrefix(strings.Repeat("(1:", 100000), out) || len(out) < 50000 || m.Threads[0].Do > impl.DoNext {
		t.Errorf("%d bytes, %.40q", len(out), out)
	}
	on := impl.Run(m, 0, 1000)
	if !strings.HasPrefix(on.Threads[0].Out, out) || len(on.Threads[0].Out) < len(out)+500 || !impl.MachineOk(on) {
		t.Errorf("%d bytes, then %d", len(out), len(on.Threads[0].Out))
	}
}

func TestSoloOfNoTop(t *testing.T) {
	table := tableOf(t, "a = 1; b = 2 : a; c = a + 3;")
	for top, want := range []string{"1", "(2:1)", "4"} {
		if text, ok := impl.Solo(table, top, 100); !ok || text != want {
			t.Errorf("Solo %d: %q, %t", top, text, ok)
		}
	}
	for _, top := range []int{math.MinInt, -1, 3, 4, 1 << 32, math.MaxInt} {
		if text, ok := impl.Solo(table, top, 100); ok || text != "" {
			t.Errorf("Solo %d: %q", top, text)
		}
	}
	for _, wrong := range []impl.Table{{}, {Codes: table.Codes}, {Tops: table.Tops}, {Codes: table.Codes[1:], Tops: table.Tops}} {
		for _, top := range []int{-1, 0, 1, math.MaxInt} {
			if text, ok := impl.Solo(wrong, top, 100); ok || text != "" {
				t.Errorf("Solo of %v: %q", wrong, text)
			}
		}
	}
}

func wantSolo(t *testing.T, text string, want string) {
	t.Helper()
	p := wantProgram(t, text)
	main := slices.Index(p.Names, "main")
	if got, ok := impl.Solo(impl.TableOf(p), main, 100000); !ok || got != want {
		t.Errorf("Solo of %q = %.100q, %t; want %.100q", text, got, ok, want)
	}
	if got, code := impl.Mean(p, impl.MaxFuel); code != impl.MeanOk || got != want {
		t.Errorf("Mean of %q = %.100q, %d; want %.100q", text, got, code, want)
	}
}

// Promise 6 of ordinary programs.
func TestSoloPrintsWhatIsMeant(t *testing.T) {
	wantSolo(t, "main = 7;", "7")
	wantSolo(t, "main = 0 - 7;", "-7")
	wantSolo(t, "main = [];", "[]")
	wantSolo(t, "main = \\x . x;", "fun")
	wantSolo(t, "main = (\\x y . x) 1;", "fun")
	wantSolo(t, "main = (\\x y z . y) 1 2;", "fun")
	wantSolo(t, "main = (\\x y z . y) 1 2 3;", "2")
	wantSolo(t, "main = (\\a b c d e f . b - e) 1 2 3 4 5 6;", "-3")
	wantSolo(t, "main = 2 + 3 * 4 - 1;", "13")
	wantSolo(t, "main = (1 < 2) : (2 < 1) : (3 == 3) : (3 == 4) : [];", "(1:(0:(1:(0:[]))))")
	wantSolo(t, "main = if 5 then 1 else 2;", "1")
	wantSolo(t, "main = if 0 then 1 else 2;", "2")
	wantSolo(t, "main = case [] of [] -> 4 | h : t -> h;", "4")
	wantSolo(t, "main = case 5 : 6 : [] of [] -> 4 | h : t -> t : h;", "((6:[]):5)")
	wantSolo(t, "main = (1 : 2) : 3 : [];", "((1:2):(3:[]))")
	wantSolo(t, "main = let x = 1 : x in case x of [] -> 5 | h : t -> par t in h;", "1")
	wantSolo(t, "main = let x = 4 in par x in let y = x + x in par y in y * y;", "64")
	wantSolo(t, "main = par main in 3;", "3")
	wantSolo(t, "main = let f = \\n . if n then n * f (n - 1) else 1 in f 10;", "3628800")
	// What is not wanted is not reckoned, whatever it is.
	wantSolo(t, "bad = 1 2; main = (\\x y . y) bad (if 1 then 5 else bad);", "5")
	wantSolo(t, "loop = loop; main = case loop : 2 : [] of [] -> 1 | h : t -> t;", "(2:[])")
	wantSolo(t, "even = \\n . if n then odd (n - 1) else 1; odd = \\n . if n then even (n - 1) else 0; main = even 40 : odd 41 : even 7;", "(1:(1:0))")
	wantSolo(t, "a = b + 1; b = c * 2; c = 5; main = a : b : c : a + b;", "(11:(10:(5:21)))")
	wantSolo(t, "map = \\f l . case l of [] -> [] | h : t -> f h : map f t; main = map (\\x . x * x) (1 : 2 : 3 : []);", "(1:(4:(9:[])))")
	wantSolo(t, "fold = \\f z l . case l of [] -> z | h : t -> f h (fold f z t); main = fold (\\a b . a + b) 0 (1 : 2 : 3 : 4 : []);", "10")
	wantSolo(t, "take = \\n l . if n then case l of [] -> [] | h : t -> h : take (n - 1) t else []; nats = \\n . n : nats (n + 1); main = take 5 (nats 3);", "(3:(4:(5:(6:(7:[])))))")
	wantSolo(t, "main = (999999999 * 999999999) * (999999999 * 999999999);", "-8697042068240017407")
	// What is wanted twice is reckoned once: as many steps as cells allow would
	// not do for 2 to the 30th sums.
	wantOnce(t)
}

func wantOnce(t *testing.T) {
	t.Helper()
	text := "main = "
	for i := range 30 {
		text += fmt.Sprintf("let x%d = ", i+1)
		if i == 0 {
			text += "1"
		} else {
			text += fmt.Sprintf("x%d + x%d", i, i)
		}
		text += " in "
	}
	table := impl.TableOf(wantProgram(t, text+"x30;"))
	if got, ok := impl.Solo(table, 0, 1000); !ok || got != "536870912" {
		t.Errorf("Solo = %q, %t", got, ok)
	}
}

func wantThreadEnd(t *testing.T, text string, do int, out string) {
	t.Helper()
	p := wantProgram(t, text)
	main := slices.Index(p.Names, "main")
	m := impl.Run(impl.Show(impl.MachineNew(impl.TableOf(p)), main), 0, 2000)
	if m.Threads[0].Do != do || m.Threads[0].Out != out || !impl.MachineOk(m) {
		t.Errorf("%q: %s", text, machineText(m))
	}
	if got, ok := impl.Solo(impl.TableOf(p), main, 2000); ok || got != "" {
		t.Errorf("Solo of %q = %q", text, got)
	}
	want := impl.MeanStuck
	if do != impl.IsStuck {
		want = impl.MeanFuel
	}
	if _, code := impl.Mean(p, 2000); code != want {
		t.Errorf("Mean of %q = %d", text, code)
	}
}

func TestSoloOfWhatPrintsNothing(t *testing.T) {
	for _, body := range []string{
		"1 2", "[] 1", "(1 : 2) 3", "if [] then 1 else 2", "if 1 : 2 then 1 else 2", "if \\x . x then 1 else 2",
		"case 1 of [] -> 1 | h : t -> 2", "case \\x . x of [] -> 1 | h : t -> 2", "[] + 1", "1 + []", "(1 : 2) * 3", "3 - (\\x . x)", "(\\x . x) == 1", "1 < ([] : [])",
	} {
		wantThreadEnd(t, "main = "+body+";", impl.IsStuck, "")
		wantThreadEnd(t, "main = 5 : (6 : ("+body+")) : 7;", impl.IsStuck, "(5:((6:")
	}
	// Holes that are entered by who reckons them.
	for _, text := range []string{"main = main;", "main = let x = x in x;", "main = let x = x + 1 in x;", "main = 1 + main;", "a = b; b = main; main = a;", "main = (\\x . main) 1;"} {
		wantThreadEnd(t, text, impl.DoEnter, "")
	}
	wantThreadEnd(t, "main = let x = 1 : case x of [] -> 2 | h : t -> t in x;", impl.DoEnter, "(1:")
	wantThreadEnd(t, "main = 3 : main + 1;", impl.IsStuck, "(3:")
}

// wantMeant holds a machine alone against what Mean tells, and tells which code
// that is.
func wantMeant(t *testing.T, p impl.Program, top int, steps int) int {
	t.Helper()
	table := impl.TableOf(p)
	m := impl.Run(impl.Show(impl.MachineNew(table), top), 0, steps)
	if !impl.MachineOk(m) {
		t.Fatalf("%v: %s is not right", p, machineText(m))
	}
	th := m.Threads[0]
	text, ok := impl.Solo(table, top, steps)
	if ok != (th.Do == impl.IsDone) || ok && text != th.Out || !ok && text != "" {
		t.Fatalf("%v: Solo tells %.80q, %t; %.80q, %d", p, text, ok, th.Out, th.Do)
	}
	want, code := plainMean(p, top, 3000)
	// With room and steps enough it ends as it is meant to.
	whole := len(m.Heap) <= 2990 && steps == 100000
	wrong := false
	switch code {
	case impl.MeanOk:
		wrong = !strings.HasPrefix(want, th.Out) || ok && th.Out != want || th.Do == impl.IsStuck || whole && !ok
	case impl.MeanStuck:
		wrong = ok || whole && th.Do != impl.IsStuck
	}
	if wrong {
		t.Fatalf("%v: %.80q, %d with %d cells; means %.80q, %d", p, th.Out, th.Do, len(m.Heap), want, code)
	}
	return code
}

// Promise 6 of many programs: what a machine alone prints is what they mean.
func TestSoloOfManyPrograms(t *testing.T) {
	counts := map[int]int{}
	k, any := newSortMaker(35), newMaker(35)
	for range 500 {
		p := k.program()
		for top := range p.Bodies {
			counts[wantMeant(t, p, top, 100000)]++
			wantMeant(t, p, top, 12)
			wantMeant(t, p, top, 60)
		}
	}
	if counts[impl.MeanOk] < 400 || counts[impl.MeanFuel] < 30 || counts[impl.MeanStuck] < 50 {
		t.Error("too few of some kind:", counts)
	}
	for range 400 {
		_, p := any.program()
		wantMeant(t, p, 0, 100000)
	}
}

// Promise 6: a machine of a program is right ahead of and behind each step.
func TestMachineStaysRightAtEachStep(t *testing.T) {
	k := newSortMaker(36)
	for range 150 {
		p := k.program()
		m := impl.MachineNew(impl.TableOf(p))
		for top := range p.Bodies {
			m = impl.Show(m, top)
		}
		for step := range 60 {
			// All threads by turns: one enters what another one reckons.
			next := impl.Step(m, step%len(p.Bodies))
			if !impl.MachineOk(next) {
				t.Fatalf("%v: %s became %s", p, machineText(m), machineText(next))
			}
			wantMachine(t, next, plainStep(m, step%len(p.Bodies)))
			m = next
		}
	}
}

// Promise 6 of machines with anything in them that is right.
func TestAnyRightMachineStaysRight(t *testing.T) {
	k := newMachineMaker(37)
	ends := map[int]int{}
	for range 500 {
		m := k.machine()
		if !impl.MachineOk(m) || !plainMachineOk(m) {
			t.Fatalf("%v is right", m)
		}
		for range 25 {
			i := k.IntN(len(m.Threads))
			next := impl.Step(m, i)
			if !impl.MachineOk(next) {
				t.Fatalf("step of %d: %s became %s", i, machineText(m), machineText(next))
			}
			wantMachine(t, next, plainStep(m, i))
			m = next
		}
		for _, th := range m.Threads {
			ends[th.Do]++
		}
	}
	for do := range 5 {
		if ends[do] < 20 && do != impl.DoNext {
			t.Error("too few of some kind:", ends)
		}
	}
}

// intLists has each list of numbers of a machine, and of the room behind its
// lists, too.
func intLists(m impl.Machine) [][]int {
	all := [][]int{m.Table.Tops, m.Sparks, m.Names}
	for _, c := range m.Table.Codes[:cap(m.Table.Codes)] {
		all = append(all, c.Kids)
	}
	for _, c := range m.Heap[:cap(m.Heap)] {
		all = append(all, c.Kids)
	}
	for _, msg := range m.Say[:cap(m.Say)] {
		all = append(all, msg.Cell.Kids)
	}
	for _, th := range m.Threads[:cap(m.Threads)] {
		all = append(all, th.Kids)
		for _, f := range th.Stack[:cap(th.Stack)] {
			all = append(all, f.Kids)
		}
	}
	return all
}

// roomyMachine has spare room behind each of its lists, in which something
// stands.
func roomyMachine(m impl.Machine) impl.Machine {
	n := copyMachine(m)
	room := func(list []int) []int { return append(slices.Clone(list), -7, -8)[:len(list)] }
	n.Table = roomy(n.Table)
	n.Table.Codes, n.Table.Tops = n.Table.Codes[:len(m.Table.Codes)], n.Table.Tops[:len(m.Table.Tops)]
	n.Heap = roomyHeap(n.Heap)[:len(m.Heap)]
	n.Sparks, n.Names = room(n.Sparks), room(n.Names)
	for i := range n.Threads {
		th := &n.Threads[i]
		th.Kids = room(th.Kids)
		for j := range th.Stack {
			th.Stack[j].Kids = room(th.Stack[j].Kids)
		}
		th.Stack = append(th.Stack, frame(-7, -7, -7, -7), frame(-8, -8, -8))[:len(th.Stack)]
	}
	n.Threads = append(n.Threads, impl.Thread{Do: -7, Kids: []int{-7}, Stack: []impl.Frame{frame(-7, -7, -7, -7)}})[:len(n.Threads)]
	for i := range n.Say {
		n.Say[i].Cell.Kids = room(n.Say[i].Cell.Kids)
	}
	n.Say = append(n.Say, impl.Msg{Kind: -7, Cell: cell(-7, -7, -7, -7)})[:len(n.Say)]
	return n
}

// wholeMachine has the room behind each list as part of it.
func wholeMachine(m impl.Machine) impl.Machine {
	m.Table.Codes = slices.Clone(m.Table.Codes[:cap(m.Table.Codes)])
	for i := range m.Table.Codes {
		m.Table.Codes[i].Kids = m.Table.Codes[i].Kids[:cap(m.Table.Codes[i].Kids)]
	}
	m.Table.Tops = m.Table.Tops[:cap(m.Table.Tops)]
	m.Heap = slices.Clone(m.Heap[:cap(m.Heap)])
	for i := range m.Heap {
		m.Heap[i].Kids = m.Heap[i].Kids[:cap(m.Heap[i].Kids)]
	}
	m.Sparks, m.Names = m.Sparks[:cap(m.Sparks)], m.Names[:cap(m.Names)]
	m.Threads = slices.Clone(m.Threads[:cap(m.Threads)])
	for i := range m.Threads {
		th := &m.Threads[i]
		th.Kids = th.Kids[:cap(th.Kids)]
		th.Stack = slices.Clone(th.Stack[:cap(th.Stack)])
		for j := range th.Stack {
			th.Stack[j].Kids = th.Stack[j].Kids[:cap(th.Stack[j].Kids)]
		}
	}
	m.Say = slices.Clone(m.Say[:cap(m.Say)])
	for i := range m.Say {
		m.Say[i].Cell.Kids = m.Say[i].Cell.Kids[:cap(m.Say[i].Cell.Kids)]
	}
	return copyMachine(m)
}

// spoilMachine writes over all that a machine has, the spare room too.
func spoilMachine(m impl.Machine) {
	for _, list := range intLists(m) {
		spoilInts(list)
	}
	spoilHeap(m.Heap)
	spoilTable(&m.Table)
	for i, th := range m.Threads[:cap(m.Threads)] {
		for j := range th.Stack[:cap(th.Stack)] {
			th.Stack[:cap(th.Stack)][j] = frame(-9, -9, -9)
		}
		m.Threads[:cap(m.Threads)][i] = impl.Thread{Do: -9, Out: "spoilt"}
	}
	for i := range m.Say[:cap(m.Say)] {
		m.Say[:cap(m.Say)][i] = impl.Msg{Kind: -9}
	}
}

// anyMachine makes one that is right, or one with something wrong in it, now
// and then with a thread that meets one of the rarer steps.
func (k *machineMaker) anyMachine() impl.Machine {
	m := k.machine()
	switch k.IntN(4) {
	case 0:
		m.Threads[0].At = -1
	case 1:
		m.Heap = append(m.Heap, cell(k.IntN(12)-2, k.IntN(4)-1, k.IntN(4)-1, k.IntN(30)))
	}
	return m
}

// Promise 12 for this chapter: nothing is written into an argument, nor into
// the room behind it, and answers share no memory with one.
func TestMachinesLeaveArgumentsAlone(t *testing.T) {
	k := newMachineMaker(38)
	for range 250 {
		m := roomyMachine(k.anyMachine())
		kept := wholeMachine(m)
		impl.MachineOk(m)
		impl.ScopeOf(m.Table, 0)
		impl.Solo(m.Table, 0, 20)
		spoilMachine(impl.MachineNew(m.Table))
		spoilMachine(impl.Show(m, 0))
		spoilMachine(impl.Show(m, -1))
		spoilMachine(impl.Run(m, 0, -1))
		for i := range m.Threads {
			spoilMachine(impl.Step(m, i))
			for _, steps := range []int{0, 2, 3, 5, 30} {
				spoilMachine(impl.Run(m, i, steps))
			}
		}
		if now := wholeMachine(m); !reflect.DeepEqual(now, kept) {
			t.Fatalf("%v became %v", kept, now)
		}
	}
}

// wantApart asks that no two lists of a machine share any memory.
func wantApart(t *testing.T, m impl.Machine) {
	t.Helper()
	seen := map[any]bool{}
	once := func(place any) {
		if seen[place] {
			t.Fatalf("one place in two lists of %s", machineText(m))
		}
		seen[place] = true
	}
	for _, list := range intLists(m) {
		for i := range list[:cap(list)] {
			once(&list[:cap(list)][i])
		}
	}
	for i, th := range m.Threads[:cap(m.Threads)] {
		once(&m.Threads[:cap(m.Threads)][i])
		for j := range th.Stack[:cap(th.Stack)] {
			once(&th.Stack[:cap(th.Stack)][j])
		}
	}
}

func TestMachineListsShareNoMemory(t *testing.T) {
	k := newMachineMaker(39)
	for range 250 {
		m := k.machine()
		// Lists of the argument that share memory share none in the answer.
		if len(m.Sparks) > 0 {
			m.Names = m.Sparks
			m.Threads = append(m.Threads, m.Threads[0])
			m.Say = append(m.Say, impl.Msg{Cell: impl.Cell{Kids: m.Sparks}})
		}
		wantApart(t, impl.MachineNew(m.Table))
		wantApart(t, impl.Show(m, 0))
		for i := range m.Threads {
			for _, steps := range []int{-1, 0, 1, 2, 3, 5, 8, 13, 40} {
				wantApart(t, impl.Run(m, i, steps))
			}
		}
	}
	// Of a long run of a program with all kinds of frames.
	m := impl.Show(impl.MachineNew(tableOf(t, "f = \\a b . if a < 9 then case a : b : [] of [] -> b | h : t -> let c = h + 1 in par c in 0 + (f c t * 2) else 3; main = f 1 [];")), 1)
	for steps := range 120 {
		wantApart(t, impl.Run(m, 0, steps))
		kept := impl.Run(m, 0, steps)
		spoilMachine(impl.Run(m, 0, steps))
		wantMachine(t, impl.Run(m, 0, steps), kept)
	}
}

func TestMachineTextsShareNoMemory(t *testing.T) {
	room := []byte("+out")
	m := machineOf(t, "main = 1 + 2;", enters(0))
	m.Table.Codes[0].Text = textOf(room[:1])
	m.Threads[0].Out = textOf(room[1:])
	made, shown, ran, left := impl.MachineNew(m.Table), impl.Show(m, 0), impl.Run(m, 0, 4), impl.Run(m, 0, -1)
	for i := range room {
		room[i] = '#'
	}
	for _, n := range []impl.Machine{made, shown, ran, left} {
		if n.Table.Codes[0].Text != "+" || len(n.Threads) > 0 && n.Threads[0].Out != "out" {
			t.Errorf("%v", n)
		}
	}
}

// Promise 12 for this chapter: long lists, and wrong machines of any kind.
func TestMachinesAnswerAtAnyArguments(t *testing.T) {
	const many = 200000
	m := fullMachine(t)
	m.Heap[5] = cell(impl.CFun, 1, 1, slices.Repeat([]int{2, 4}, many)...)
	for i := range many {
		m.Names = append(m.Names, i%14)
	}
	m.Threads[0] = with(enters(5), slices.Repeat([]impl.Frame{showFrame()}, many)...)
	m.Threads[1] = with(enters(5), giveFrame(1, 1))
	m.Threads[2] = with(enters(2), frame(impl.FIf, 1, 0, slices.Repeat([]int{2}, many)...))
	m.Threads[3].Out = strings.Repeat("much", many)
	wantRightMachine(t, true, m)
	if next := impl.Step(m, 0); len(next.Threads[0].Stack) != many-1 || next.Threads[0].Out != "fun" {
		t.Error("a long Stack")
	}
	if next := impl.Step(m, 1); len(next.Say) != 3 || len(next.Say[2].Cell.Kids) != 2*many || next.Say[2].Cell.Kids[0] != 1 || next.Say[2].Cell.Kids[1] != 0 {
		t.Error("many Kids in many Names")
	}
	if next := impl.Run(m, 2, 1); next.Threads[2].Do != impl.DoEval || len(next.Threads[2].Kids) != many {
		t.Error("many in scope")
	}
	if shown := impl.Show(m, 3); len(shown.Threads) != 6 || shown.Threads[3].Out != m.Threads[3].Out {
		t.Error("a long Out")
	}
	for _, wrong := range []impl.Machine{{}, {Heap: make([]impl.Cell, many)}, {Threads: make([]impl.Thread, many)}, {Sparks: make([]int, many), Names: make([]int, many), Say: make([]impl.Msg, many)}, {Table: m.Table}, {Table: impl.Table{Codes: make([]impl.Code, many), Tops: make([]int, many)}}} {
		wantRightMachine(t, false, wrong)
		for _, n := range []int{math.MinInt, 0, many, math.MaxInt} {
			wantMachine(t, impl.Step(wrong, n), wrong)
			wantMachine(t, impl.Run(wrong, 0, n), wrong)
			if len(wrong.Heap) == 0 {
				wantMachine(t, impl.Show(wrong, n), wrong)
			}
		}
	}
	// The least and the greatest number in every field at once.
	for _, n := range oddNumbers() {
		list := []int{n, n}
		odd := impl.Machine{Table: m.Table, Heap: []impl.Cell{cell(n, n, n, list...), cell(n, n, n)}, Sparks: list, Names: list}
		odd.Threads = []impl.Thread{{Do: n, At: n, Kids: list, Stack: []impl.Frame{frame(n, n, n, list...)}}}
		odd.Say = []impl.Msg{{Kind: n, From: n, To: n, Id: n, Want: n, Cell: cell(n, n, n, list...)}}
		wantRightMachine(t, plainMachineOk(odd), odd)
		for _, i := range []int{0, n} {
			wantMachine(t, impl.Step(odd, i), plainStep(odd, i))
			impl.Run(odd, i, n)
			impl.Show(odd, i)
		}
		impl.ScopeOf(impl.Table{Codes: []impl.Code{code(n, n, "", list...)}, Tops: list}, n)
		impl.MachineNew(impl.Table{Codes: []impl.Code{code(n, n, "", list...)}, Tops: list})
		impl.Solo(impl.Table{Codes: []impl.Code{code(n, n, "", list...)}, Tops: list}, n, n)
	}
}

// Nothing is kept from one call to another, nor shared by calls at one time.
func TestMachinesAtOneTime(t *testing.T) {
	k := newMachineMaker(40)
	var list []impl.Machine
	for range 30 {
		list = append(list, k.machine())
	}
	var wait sync.WaitGroup
	for range 8 {
		wait.Go(func() {
			for _, m := range list {
				for i := range m.Threads {
					if !sameMachine(impl.Step(m, i), plainStep(m, i)) {
						t.Errorf("%s, %d", machineText(m), i)
					}
				}
			}
		})
	}
	wait.Wait()
}
