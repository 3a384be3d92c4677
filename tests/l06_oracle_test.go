package tests

import (
	"math"
	"slices"
	"strconv"
	"strings"

	"loop.example/g00303/impl"
)

// plainScopeOf goes through all ExVars within a code of a right table, each with
// how many names are brought on the way to it.
func plainScopeOf(t impl.Table, code int) int {
	most := 0
	var walk func(at int, brought int)
	walk = func(at int, brought int) {
		c := t.Codes[at]
		if c.Kind == impl.ExVar {
			most = max(most, c.N+1-brought)
		}
		for i, kid := range c.Kids {
			names := 0
			switch {
			case c.Kind == impl.ExLam:
				names = c.N
			case c.Kind == impl.ExLet:
				names = 1
			case c.Kind == impl.ExCase && i == 2:
				names = 2
			}
			walk(kid, brought+names)
		}
	}
	walk(code, 0)
	return most
}

// shape says what a right frame, or what a thread does, has in a field: a place,
// a code, a number of least to most, or (all false) nothing.
type shape struct {
	place, code bool
	any         bool
	least, most int
}

func (s shape) holds(m impl.Machine, n int) bool {
	switch {
	case s.place:
		return n >= 0 && n < len(m.Heap)
	case s.code:
		return n >= 0 && n < len(m.Table.Codes)
	case s.any:
		return true
	}
	return n >= s.least && n <= s.most
}

// part is a thread without its Stack and its Out, or a frame.
type part struct {
	at, n shape
	// Of which kind the code At is (-1 for any, where it is one).
	kind int
	// How many kids there are; -1 for what is in scope of the code At.
	kids int
}

var threadParts = map[int]part{
	impl.DoEval:  {at: shape{code: true}, kind: -1, kids: -1},
	impl.DoEnter: {at: shape{place: true}},
	impl.DoNext:  {},
	impl.IsDone:  {},
	impl.IsStuck: {},
}

var frameParts = map[int]part{
	impl.FUpd:   {at: shape{place: true}},
	impl.FArg:   {kids: 1},
	impl.FIf:    {at: shape{code: true}, kind: impl.ExIf, kids: -1},
	impl.FCase:  {at: shape{code: true}, kind: impl.ExCase, kids: -1},
	impl.FOp:    {at: shape{code: true}, kind: impl.ExOp, kids: -1},
	impl.FRight: {at: shape{code: true}, kind: impl.ExOp, n: shape{any: true}},
	impl.FShow:  {},
	impl.FTail:  {at: shape{place: true}},
	impl.FClose: {},
	impl.FGive:  {n: shape{most: 30}, at: shape{most: math.MaxInt}},
}

func (p part) holds(m impl.Machine, at int, n int, kids []int) bool {
	if !p.at.holds(m, at) || !p.n.holds(m, n) || !allPlaces(m, kids) {
		return false
	}
	if p.at.code && p.kind >= 0 && m.Table.Codes[at].Kind != p.kind {
		return false
	}
	if p.kids < 0 {
		return len(kids) >= plainScopeOf(m.Table, at)
	}
	return len(kids) == p.kids
}

func allPlaces(m impl.Machine, list []int) bool {
	return !slices.ContainsFunc(list, func(at int) bool { return at < 0 || at >= len(m.Heap) })
}

func plainMachineOk(m impl.Machine) bool {
	if !plainTableOk(m.Table) || !plainHeapOk(m.Heap, len(m.Table.Codes)) || len(m.Heap) < len(m.Table.Tops) {
		return false
	}
	for _, c := range m.Heap {
		// What a function lacks counts as in scope of its code.
		if (c.Kind == impl.CThunk || c.Kind == impl.CFun) && len(c.Kids)+c.N < plainScopeOf(m.Table, c.At) {
			return false
		}
	}
	for _, th := range m.Threads {
		does, found := threadParts[th.Do]
		if !found || !does.holds(m, th.At, 0, th.Kids) {
			return false
		}
		for _, f := range th.Stack {
			waits, found := frameParts[f.Kind]
			if !found || !waits.holds(m, f.At, f.N, f.Kids) {
				return false
			}
		}
	}
	return len(m.Threads) <= 60 && len(m.Sparks) <= 50 && allPlaces(m, m.Sparks) && allPlaces(m, m.Names)
}

// plainStep tells what Step has to, whatever it is given.
func plainStep(m impl.Machine, i int) impl.Machine {
	if i < 0 || i >= len(m.Threads) || m.Threads[i].Do > impl.DoNext || len(m.Heap) > 2990 || !plainMachineOk(m) {
		return copyMachine(m)
	}
	return plainStepOfRight(m, i)
}

// plainStepOfRight is given a right machine with a thread that has not ended.
func plainStepOfRight(m impl.Machine, i int) impl.Machine {
	p := plainStepper{Machine: copyMachine(m), i: i}
	switch th := p.Threads[i]; th.Do {
	case impl.DoEval:
		p.eval(p.Table.Codes[th.At], th.At, th.Kids)
	case impl.DoEnter:
		p.enter(plainFollow(p.Heap, th.At))
	default:
		p.next()
	}
	return copyMachine(p.Machine)
}

// plainStepper copies whatever it takes from anywhere.
type plainStepper struct {
	impl.Machine
	i int
}

func (p *plainStepper) set(do int, at int, kids ...int) {
	p.Threads[p.i].Do, p.Threads[p.i].At, p.Threads[p.i].Kids = do, at, slices.Clone(kids)
}

func (p *plainStepper) fresh(c impl.Cell) int {
	c.Kids = slices.Clone(c.Kids)
	p.Heap = append(p.Heap, c)
	return len(p.Heap) - 1
}

func (p *plainStepper) push(f impl.Frame) {
	f.Kids = slices.Clone(f.Kids)
	p.Threads[p.i].Stack = append(p.Threads[p.i].Stack, f)
}

func (p *plainStepper) out(text string) { p.Threads[p.i].Out += text }

func (p *plainStepper) place(code int, scope []int) int {
	switch c := p.Table.Codes[code]; c.Kind {
	case impl.ExVar:
		return scope[c.N]
	case impl.ExTop:
		return c.N
	}
	return p.fresh(thunk(code, scope...))
}

func (p *plainStepper) eval(c impl.Code, at int, scope []int) {
	switch c.Kind {
	case impl.ExNum:
		p.set(impl.DoEnter, p.fresh(intCell(c.N)))
	case impl.ExNil:
		p.set(impl.DoEnter, p.fresh(cell(impl.CNil, 0, 0)))
	case impl.ExLam:
		p.set(impl.DoEnter, p.fresh(cell(impl.CFun, c.N, c.Kids[0], scope...)))
	case impl.ExVar:
		p.set(impl.DoEnter, scope[c.N])
	case impl.ExTop:
		p.set(impl.DoEnter, c.N)
	case impl.ExApp:
		p.push(impl.Frame{Kind: impl.FArg, Kids: []int{p.place(c.Kids[1], scope)}})
		p.set(impl.DoEval, c.Kids[0], scope...)
	case impl.ExLet:
		more := append(slices.Clone(scope), len(p.Heap))
		p.fresh(thunk(c.Kids[0], more...))
		p.set(impl.DoEval, c.Kids[1], more...)
	case impl.ExCons:
		first := p.place(c.Kids[0], scope)
		second := p.place(c.Kids[1], scope)
		p.set(impl.DoEnter, p.fresh(pairOf(first, second)))
	case impl.ExPar:
		if place := p.place(c.Kids[0], scope); len(p.Sparks) < 50 {
			p.Sparks = append(p.Sparks, place)
		}
		p.set(impl.DoEval, c.Kids[1], scope...)
	default:
		kind := map[int]int{impl.ExIf: impl.FIf, impl.ExCase: impl.FCase, impl.ExOp: impl.FOp}[c.Kind]
		p.push(impl.Frame{Kind: kind, At: at, Kids: scope})
		p.set(impl.DoEval, c.Kids[0], scope...)
	}
}

func (p *plainStepper) enter(place int) {
	if place < 0 {
		p.set(impl.IsStuck, 0)
		return
	}
	c := p.Heap[place]
	switch {
	case c.Kind == impl.CThunk:
		p.Heap[place] = cell(impl.CHole, 0, 0)
		p.push(impl.Frame{Kind: impl.FUpd, At: place})
		p.set(impl.DoEval, c.At, c.Kids...)
	case c.Kind == impl.CFar && c.N >= 0:
		p.Say = append(p.Say, impl.Msg{Kind: impl.MsgFetch, To: c.N, Id: c.At, Want: p.name(place)})
		p.Heap[place] = cell(impl.CFar, -1, 0)
	case c.Kind <= impl.CFun:
		p.give(c, place)
	}
}

func (p *plainStepper) name(place int) int {
	number := slices.Index(p.Names, place)
	if number < 0 {
		number = len(p.Names)
		p.Names = append(p.Names, place)
	}
	return number
}

// drop takes the last frame; there is one of kind -1 where there is none.
func (p *plainStepper) drop() impl.Frame {
	list := p.Threads[p.i].Stack
	if len(list) == 0 {
		return impl.Frame{Kind: -1}
	}
	p.Threads[p.i].Stack = list[:len(list)-1]
	return list[len(list)-1]
}

func (p *plainStepper) give(c impl.Cell, place int) {
	f := p.drop()
	var code impl.Code
	if part := frameParts[f.Kind]; part.at.code {
		code = p.Table.Codes[f.At]
	}
	switch [2]int{f.Kind, c.Kind} {
	case [2]int{impl.FArg, impl.CFun}:
		more := append(slices.Clone(c.Kids), f.Kids[0])
		if c.N == 1 {
			p.set(impl.DoEval, c.At, more...)
		} else {
			p.set(impl.DoEnter, p.fresh(cell(impl.CFun, c.N-1, c.At, more...)))
		}
	case [2]int{impl.FIf, impl.CInt}:
		p.set(impl.DoEval, code.Kids[map[bool]int{true: 2, false: 1}[c.N == 0]], f.Kids...)
	case [2]int{impl.FCase, impl.CNil}:
		p.set(impl.DoEval, code.Kids[1], f.Kids...)
	case [2]int{impl.FCase, impl.CCons}:
		p.set(impl.DoEval, code.Kids[2], slices.Concat(f.Kids, c.Kids)...)
	case [2]int{impl.FOp, impl.CInt}:
		p.push(impl.Frame{Kind: impl.FRight, At: f.At, N: c.N})
		p.set(impl.DoEval, code.Kids[1], f.Kids...)
	case [2]int{impl.FRight, impl.CInt}:
		p.set(impl.DoEnter, p.fresh(intCell(plainOperation(code.Text, f.N, c.N))))
	default:
		p.giveAny(f, c, place)
	}
}

// giveAny is of frames that take a value of any kind, and of those that take
// none of this kind.
func (p *plainStepper) giveAny(f impl.Frame, c impl.Cell, place int) {
	switch f.Kind {
	case -1:
		p.set(impl.IsDone, 0)
	case impl.FUpd:
		p.Heap[f.At] = ind(place)
		p.set(impl.DoEnter, place)
		if f.At == place {
			p.set(impl.IsStuck, 0)
		}
	case impl.FShow:
		p.show(c)
	case impl.FGive:
		var numbers []int
		for _, kid := range c.Kids {
			numbers = append(numbers, p.name(kid))
		}
		p.Say = append(p.Say, impl.Msg{Kind: impl.MsgGive, To: f.N, Id: f.At, Cell: cell(c.Kind, c.N, c.At, numbers...)})
		p.set(impl.IsDone, 0)
	default:
		p.set(impl.IsStuck, 0)
	}
}

func (p *plainStepper) show(c impl.Cell) {
	if c.Kind == impl.CCons {
		p.out("(")
		p.push(impl.Frame{Kind: impl.FTail, At: c.Kids[1]})
		p.push(impl.Frame{Kind: impl.FShow})
		p.set(impl.DoEnter, c.Kids[0])
		return
	}
	p.out(map[int]string{impl.CInt: strconv.Itoa(c.N), impl.CNil: "[]", impl.CFun: "fun"}[c.Kind])
	p.set(impl.DoNext, 0)
}

func (p *plainStepper) next() {
	switch f := p.drop(); f.Kind {
	case -1:
		p.set(impl.IsDone, 0)
	case impl.FTail:
		p.out(":")
		p.push(impl.Frame{Kind: impl.FClose})
		p.push(impl.Frame{Kind: impl.FShow})
		p.set(impl.DoEnter, f.At)
	case impl.FClose:
		p.out(")")
	default:
		p.set(impl.IsStuck, 0)
	}
}

// copyMachine shares no memory with m, has no spare room, and nil for each list
// that is empty.
func copyMachine(m impl.Machine) impl.Machine {
	n := impl.Machine{
		Table:  copyTable(m.Table),
		Heap:   copyHeap(m.Heap),
		Sparks: append([]int(nil), m.Sparks...),
		Names:  append([]int(nil), m.Names...),
	}
	for _, th := range m.Threads {
		th.Kids = append([]int(nil), th.Kids...)
		th.Out = strings.Clone(th.Out)
		var list []impl.Frame
		for _, f := range th.Stack {
			f.Kids = append([]int(nil), f.Kids...)
			list = append(list, f)
		}
		th.Stack = list
		n.Threads = append(n.Threads, th)
	}
	for _, msg := range m.Say {
		msg.Cell.Kids = append([]int(nil), msg.Cell.Kids...)
		n.Say = append(n.Say, msg)
	}
	return n
}

// machineMaker makes machines that are right, of a program that was made as
// well; what their cells, threads and frames have in scope is what their codes
// want, or more.
type machineMaker struct {
	*sortMaker
	wants []int
}

func newMachineMaker(seed uint64) *machineMaker {
	return &machineMaker{sortMaker: newSortMaker(seed)}
}

func (k *machineMaker) machine() impl.Machine { return k.machineBy(plainTable(k.program())) }

// machineBy makes one of a table that is right.
func (k *machineMaker) machineBy(table impl.Table) impl.Machine {
	m := impl.Machine{Table: table}
	k.wants = nil
	for at := range m.Table.Codes {
		k.wants = append(k.wants, plainScopeOf(m.Table, at))
	}
	m.Heap = make([]impl.Cell, len(m.Table.Tops)+k.IntN(25))
	for at := range m.Heap {
		m.Heap[at] = k.cell(m)
		if at < len(m.Table.Tops) && k.IntN(2) == 0 {
			m.Heap[at] = thunk(m.Table.Tops[at])
		}
	}
	for range 1 + k.IntN(4) {
		m.Threads = append(m.Threads, k.thread(m))
	}
	m.Sparks, m.Names = k.some(m, k.IntN(4)), k.some(m, k.IntN(4))
	if k.IntN(8) == 0 {
		m.Sparks = k.some(m, 48+k.IntN(3))
	}
	for range k.IntN(3) {
		m.Say = append(m.Say, impl.Msg{Kind: k.IntN(4), From: k.IntN(3), To: k.IntN(40), Id: k.IntN(9), Want: k.IntN(9), Cell: k.cell(m)})
	}
	return m
}

func (k *machineMaker) some(m impl.Machine, count int) []int {
	var list []int
	for range count {
		list = append(list, k.IntN(len(m.Heap)))
	}
	return list
}

// scope has at least so many places as are told, mostly just these.
func (k *machineMaker) scope(m impl.Machine, least int) []int {
	return k.some(m, max(least, 0)+max(0, k.IntN(6)-3))
}

func (k *machineMaker) code(m impl.Machine) int { return k.IntN(len(m.Table.Codes)) }

func (k *machineMaker) cell(m impl.Machine) impl.Cell {
	at := k.code(m)
	switch kind := k.IntN(10); kind {
	case impl.CInt:
		return intCell(k.IntN(3) - 1)
	case impl.CCons:
		return cell(kind, 0, 0, k.some(m, 2)...)
	case impl.CFun:
		n := 1 + k.IntN(6)
		return cell(kind, n, at, k.scope(m, k.wants[at]-n)...)
	case impl.CInd:
		return ind(k.some(m, 1)...)
	case impl.CFar:
		return cell(kind, k.IntN(31), k.IntN(1000000))
	case impl.CNil, impl.CHole:
		return cell(kind, 0, 0)
	case 8:
		return cell(impl.CFar, -1, 0)
	}
	return thunk(at, k.scope(m, k.wants[at])...)
}

func (k *machineMaker) thread(m impl.Machine) impl.Thread {
	th := impl.Thread{Out: []string{"", "", "(1:", "fun"}[k.IntN(4)]}
	for range k.IntN(6) {
		th.Stack = append(th.Stack, k.frame(m))
	}
	switch at := k.code(m); k.IntN(9) {
	case 0:
		th.Do = impl.IsDone + k.IntN(2)
	case 1:
		th.Do = impl.DoNext
	case 2, 3, 4:
		th.Do, th.At, th.Kids = impl.DoEval, at, k.scope(m, k.wants[at])
	default:
		th.Do, th.At = impl.DoEnter, k.IntN(len(m.Heap))
	}
	return th
}

func (k *machineMaker) frame(m impl.Machine) impl.Frame {
	f := impl.Frame{Kind: k.IntN(10)}
	at := k.code(m)
	kind := m.Table.Codes[at].Kind
	switch f.Kind {
	case impl.FUpd, impl.FTail:
		f.At = k.IntN(len(m.Heap))
	case impl.FArg:
		f.Kids = k.some(m, 1)
	case impl.FIf, impl.FCase, impl.FOp, impl.FRight:
		// Of the kind that this code is, where it can wait at all.
		if f.Kind == impl.FRight && kind == impl.ExOp {
			return impl.Frame{Kind: impl.FRight, At: at, N: k.IntN(5) - 2}
		}
		waits, found := map[int]int{impl.ExIf: impl.FIf, impl.ExCase: impl.FCase, impl.ExOp: impl.FOp}[kind]
		if !found {
			return impl.Frame{Kind: impl.FShow}
		}
		return impl.Frame{Kind: waits, At: at, Kids: k.scope(m, k.wants[at])}
	case impl.FGive:
		f.N, f.At = k.IntN(31), k.IntN(1000)
	}
	return f
}
