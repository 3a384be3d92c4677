package tests

import (
	"math/rand/v2"
	"slices"
	"strconv"

	"loop.example/g00303/impl"
)

// plainThing is an expression with what stands for the names in its scope.
type plainThing struct {
	exp   impl.Exp
	scope []*plainThing
}

func (a *plainThing) kid(i int, more ...*plainThing) *plainThing {
	return &plainThing{a.exp.Kids[i], slices.Concat(a.scope, more)}
}

// plainFrame waits for a value: what is a word of the list in plainValue.
type plainFrame struct {
	what  string
	thing *plainThing
	n     int
}

// plainMachine tells what a program means by a list of what waits, step by
// step, so that nothing of it is like a function that calls itself.
type plainMachine struct {
	bodies []impl.Exp
	fuel   int
	frames []plainFrame
	out    string
	code   int
}

// plainMean tells what Mean has to, if the definition numbered top were main,
// of a program and fuel that are right.
func plainMean(p impl.Program, top int, fuel int) (string, int) {
	m := plainMachine{bodies: p.Bodies, fuel: fuel, code: -1}
	m.wait("show", nil, 0)
	next := &plainThing{exp: p.Bodies[top]}
	for m.code < 0 {
		next = m.step(next)
	}
	if m.code != impl.MeanOk {
		return "", m.code
	}
	return m.out, m.code
}

func (m *plainMachine) wait(what string, thing *plainThing, n int) {
	m.frames = append(m.frames, plainFrame{what, thing, n})
}

// step begins to reckon a thing, and tells what is to be begun next.
func (m *plainMachine) step(a *plainThing) *plainThing {
	if m.fuel == 0 {
		m.code = impl.MeanFuel
		return nil
	}
	m.fuel--
	switch a.exp.Kind {
	case impl.ExVar:
		return a.scope[a.exp.N]
	case impl.ExTop:
		return &plainThing{exp: m.bodies[a.exp.N]}
	case impl.ExApp:
		m.wait("arg", a.kid(1), 0)
		return a.kid(0)
	case impl.ExLet:
		named := &plainThing{exp: a.exp.Kids[0]}
		named.scope = slices.Concat(a.scope, []*plainThing{named})
		return a.kid(1, named)
	case impl.ExPar:
		return a.kid(1)
	case impl.ExIf:
		m.wait("if", a, 0)
		return a.kid(0)
	case impl.ExCase:
		m.wait("case", a, 0)
		return a.kid(0)
	case impl.ExOp:
		m.wait("left", a, 0)
		return a.kid(0)
	}
	return m.value(a)
}

// value gives a number, [], a pair or a function to what waits for it.
func (m *plainMachine) value(a *plainThing) *plainThing {
	frame := m.frames[len(m.frames)-1]
	m.frames = m.frames[:len(m.frames)-1]
	kind := a.exp.Kind
	switch {
	case frame.what == "show":
		return m.show(a)
	case frame.what == "arg" && kind == impl.ExLam:
		// One name less is lacking; with none the kid itself is next.
		whole := &plainThing{a.exp, slices.Concat(a.scope, []*plainThing{frame.thing})}
		if whole.exp.N--; whole.exp.N > 0 {
			return m.value(whole)
		}
		return whole.kid(0)
	case frame.what == "if" && kind == impl.ExNum:
		return frame.thing.kid(map[bool]int{true: 2, false: 1}[a.exp.N == 0])
	case frame.what == "case" && kind == impl.ExNil:
		return frame.thing.kid(1)
	case frame.what == "case" && kind == impl.ExCons:
		return frame.thing.kid(2, a.kid(0), a.kid(1))
	case frame.what == "left" && kind == impl.ExNum:
		m.wait("right", frame.thing, a.exp.N)
		return frame.thing.kid(1)
	case frame.what == "right" && kind == impl.ExNum:
		return m.value(&plainThing{exp: num(plainOperation(frame.thing.exp.Text, frame.n, a.exp.N))})
	}
	m.code = impl.MeanStuck
	return nil
}

func plainOperation(sign string, a int, b int) int {
	return map[string]int{
		"+": a + b, "-": a - b, "*": a * b,
		"==": map[bool]int{true: 1}[a == b],
		"<":  map[bool]int{true: 1}[a < b],
	}[sign]
}

func (m *plainMachine) show(a *plainThing) *plainThing {
	switch a.exp.Kind {
	case impl.ExCons:
		m.out += "("
		m.wait("tail", a.kid(1), 0)
		m.wait("show", nil, 0)
		return a.kid(0)
	case impl.ExNum:
		m.out += strconv.Itoa(a.exp.N)
	case impl.ExNil:
		m.out += "[]"
	case impl.ExLam:
		m.out += "fun"
	}
	for len(m.frames) > 0 {
		frame := m.frames[len(m.frames)-1]
		m.frames = m.frames[:len(m.frames)-1]
		if frame.what == "tail" {
			m.out += ":"
			m.wait("close", nil, 0)
			m.wait("show", nil, 0)
			return frame.thing
		}
		m.out += ")"
	}
	m.code = impl.MeanOk
	return nil
}

// What sortMaker makes is of one of these sorts, mostly.
const (
	sortNumber = iota
	sortList
	sortFun
	sortCount
)

// sortMaker makes programs of which many mean something: what it makes is
// nearly always of the sort that is wanted where it stands.
type sortMaker struct {
	*rand.Rand
	tops []int
}

func newSortMaker(seed uint64) *sortMaker {
	return &sortMaker{Rand: rand.New(rand.NewPCG(seed, 3))}
}

func (m *sortMaker) program() impl.Program {
	m.tops = nil
	for range 1 + m.IntN(4) {
		m.tops = append(m.tops, m.IntN(sortCount))
	}
	var p impl.Program
	main := m.IntN(len(m.tops))
	for i, sort := range m.tops {
		name := "d" + strconv.Itoa(i)
		if i == main {
			name = "main"
		}
		p.Names = append(p.Names, name)
		p.Bodies = append(p.Bodies, m.exp(sort, nil, 1+m.IntN(6)))
	}
	return p
}

func (m *sortMaker) exp(sort int, scope []int, deep int) impl.Exp {
	if m.IntN(60) == 0 {
		sort = m.IntN(sortCount)
	}
	if deep <= 0 || m.IntN(9) == 0 {
		return m.leaf(sort, scope)
	}
	deep--
	switch m.IntN(9) {
	case 0:
		return m.gift(sort, scope, deep)
	case 1:
		bound := m.IntN(sortCount)
		inner := slices.Concat(scope, []int{bound})
		return exp(impl.ExLet, m.exp(bound, inner, deep), m.exp(sort, inner, deep))
	case 2:
		return exp(impl.ExIf, m.exp(sortNumber, scope, deep), m.exp(sort, scope, deep), m.exp(sort, scope, deep))
	case 3:
		inner := slices.Concat(scope, []int{sortNumber, sortList})
		return exp(impl.ExCase, m.exp(sortList, scope, deep), m.exp(sort, scope, deep), m.exp(sort, inner, deep))
	case 4:
		return exp(impl.ExPar, m.anyName(scope), m.exp(sort, scope, deep))
	}
	return m.own(sort, scope, deep)
}

// own makes what only this sort has.
func (m *sortMaker) own(sort int, scope []int, deep int) impl.Exp {
	switch sort {
	case sortNumber:
		if m.IntN(3) == 0 {
			return exp(impl.ExApp, m.exp(sortFun, scope, deep), m.exp(sortNumber, scope, deep))
		}
		sign := []string{"+", "-", "*", "==", "<"}[m.IntN(5)]
		return opExp(sign, m.exp(sortNumber, scope, deep), m.exp(sortNumber, scope, deep))
	case sortList:
		return exp(impl.ExCons, m.exp(sortNumber, scope, deep), m.exp(sortList, scope, deep))
	}
	return expN(impl.ExLam, 1, m.exp(sortNumber, slices.Concat(scope, []int{sortNumber}), deep))
}

// gift makes a function of some names and gives it a thing for each; now and
// then one too many or too few.
func (m *sortMaker) gift(sort int, scope []int, deep int) impl.Exp {
	names := 1 + m.IntN(6)
	inner := slices.Clone(scope)
	for range names {
		inner = append(inner, m.IntN(sortCount))
	}
	e := expN(impl.ExLam, names, m.exp(sort, inner, deep))
	gifts := inner[len(scope):]
	switch m.IntN(12) {
	case 0:
		gifts = append(gifts, sortNumber)
	case 1:
		gifts = gifts[1:]
	}
	for _, g := range gifts {
		e = exp(impl.ExApp, e, m.exp(g, scope, min(deep, 1)))
	}
	return e
}

func (m *sortMaker) leaf(sort int, scope []int) impl.Exp {
	var list []impl.Exp
	for place, s := range scope {
		if s == sort {
			list = append(list, expN(impl.ExVar, place))
		}
	}
	for top, s := range m.tops {
		if s == sort && m.IntN(4) == 0 {
			list = append(list, expN(impl.ExTop, top))
		}
	}
	switch sort {
	case sortNumber:
		list = append(list, num(m.IntN(3)), num(m.IntN(1000000000)))
	case sortList:
		list = append(list, exp(impl.ExNil), exp(impl.ExCons, num(m.IntN(9)), exp(impl.ExNil)))
	case sortFun:
		list = append(list, expN(impl.ExLam, 1, expN(impl.ExVar, len(scope))), expN(impl.ExLam, 1, num(m.IntN(9))))
	}
	return list[m.IntN(len(list))]
}

func (m *sortMaker) anyName(scope []int) impl.Exp {
	if n := m.IntN(len(scope) + len(m.tops)); n < len(scope) {
		return expN(impl.ExVar, n)
	}
	return expN(impl.ExTop, m.IntN(len(m.tops)))
}
