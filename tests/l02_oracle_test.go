package tests

import (
	"math/rand/v2"
	"slices"
	"strconv"
	"strings"

	"loop.example/g00303/impl"
)

func exp(kind int, kids ...impl.Exp) impl.Exp { return impl.Exp{Kind: kind, Kids: kids} }

func expN(kind int, n int, kids ...impl.Exp) impl.Exp {
	return impl.Exp{Kind: kind, N: n, Kids: kids}
}

func num(n int) impl.Exp { return expN(impl.ExNum, n) }

func opExp(sign string, kids ...impl.Exp) impl.Exp {
	return impl.Exp{Kind: impl.ExOp, Text: sign, Kids: kids}
}

// grammar is chapter 2's, with every number of names of a lambda written out.
// What stands left of a row is no word; "name" and "number" stand for any.
var grammar = [][]string{
	{"PROGRAM", "DEF"}, {"PROGRAM", "PROGRAM", "DEF"},
	{"DEF", "name", "=", "EXP", ";"},
	{"EXP", "\\", "NAMES", ".", "EXP"},
	{"EXP", "let", "name", "=", "EXP", "in", "EXP"},
	{"EXP", "if", "EXP", "then", "EXP", "else", "EXP"},
	{"EXP", "case", "EXP", "of", "[]", "->", "EXP", "|", "name", ":", "name", "->", "EXP"},
	{"EXP", "par", "name", "in", "EXP"},
	{"EXP", "CONS"},
	{"NAMES", "name"}, {"NAMES", "name", "name"}, {"NAMES", "name", "name", "name"},
	{"NAMES", "name", "name", "name", "name"},
	{"NAMES", "name", "name", "name", "name", "name"},
	{"NAMES", "name", "name", "name", "name", "name", "name"},
	{"CONS", "TEST"}, {"CONS", "TEST", ":", "EXP"},
	{"TEST", "SUM"}, {"TEST", "SUM", "==", "SUM"}, {"TEST", "SUM", "<", "SUM"},
	{"SUM", "PRODUCT"}, {"SUM", "SUM", "+", "PRODUCT"}, {"SUM", "SUM", "-", "PRODUCT"},
	{"PRODUCT", "GIVEN"}, {"PRODUCT", "PRODUCT", "*", "GIVEN"},
	{"GIVEN", "ATOM"}, {"GIVEN", "GIVEN", "ATOM"},
	{"ATOM", "number"}, {"ATOM", "name"}, {"ATOM", "[]"}, {"ATOM", "(", "EXP", ")"},
}

type grammarItem struct{ row, dot, from int }

// grammarLine tells, of words that stand each on a line of its own, the line
// of the first one that does not fit the grammar (of the last one where more
// are lacking, 1 for no word), 0 where they are a program. It keeps all ways to
// read the words at once, so that nothing of it is like the reader's.
func grammarLine(words []string) int {
	sets := [][]grammarItem{closed(nil, []grammarItem{{0, 1, 0}, {1, 1, 0}})}
	for at, w := range words {
		var next []grammarItem
		for _, item := range sets[at] {
			if row := grammar[item.row]; item.dot < len(row) && row[item.dot] == wordClass(w) {
				next = append(next, grammarItem{item.row, item.dot + 1, item.from})
			}
		}
		if len(next) == 0 {
			return at + 1
		}
		sets = append(sets, closed(sets, next))
	}
	for _, item := range sets[len(words)] {
		if item.from == 0 && grammar[item.row][0] == "PROGRAM" && item.dot == len(grammar[item.row]) {
			return 0
		}
	}
	return max(1, len(words))
}

func wordClass(w string) string {
	switch {
	case impl.NameOk(w):
		return "name"
	case w[0] >= '0' && w[0] <= '9':
		return "number"
	}
	return w
}

// closed adds what has to begin, and what goes on behind what has ended.
func closed(sets [][]grammarItem, set []grammarItem) []grammarItem {
	known := map[grammarItem]bool{}
	add := func(item grammarItem) {
		if !known[item] {
			known[item] = true
			set = append(set, item)
		}
	}
	begun := set
	set = nil
	for _, item := range begun {
		add(item)
	}
	for i := 0; i < len(set); i++ {
		item := set[i]
		row := grammar[item.row]
		if item.dot == len(row) {
			for _, up := range sets[item.from] {
				if r := grammar[up.row]; up.dot < len(r) && r[up.dot] == row[0] {
					add(grammarItem{up.row, up.dot + 1, up.from})
				}
			}
			continue
		}
		for r := range grammar {
			if grammar[r][0] == row[item.dot] {
				add(grammarItem{r, 1, len(sets)})
			}
		}
	}
	return set
}

// maker makes programs, always the same ones from the same seed, as words and
// as what is to be read of them.
type maker struct {
	*rand.Rand
	tops  []string
	names []string
}

func newMaker(seed uint64) *maker {
	return &maker{Rand: rand.New(rand.NewPCG(seed, 2)), names: []string{"a", "b", "c", "main", "x1", "abcdefgh"}}
}

func (m *maker) one(list []string) string { return list[m.IntN(len(list))] }

// program has few names, so that many of them hide others.
func (m *maker) program() ([]string, impl.Program) {
	m.tops = nil
	for _, i := range m.Perm(len(m.names))[:1+m.IntN(4)] {
		m.tops = append(m.tops, m.names[i])
	}
	var words []string
	var p impl.Program
	for _, name := range m.tops {
		w, e := m.exp(nil, 0, 2+m.IntN(4))
		words = append(append(append(words, name, "="), w...), ";")
		p.Names = append(p.Names, name)
		p.Bodies = append(p.Bodies, e)
	}
	return words, p
}

// exp makes an expression of a level: 0 any one, 1 without a colon, 2 nor a
// comparison, 3 nor a sum, 4 nor a product, 5 nor a gift. What is looser than
// its level stands in signs ( ) .
func (m *maker) exp(scope []string, level int, deep int) ([]string, impl.Exp) {
	if deep == 0 {
		return m.leaf(scope)
	}
	var words []string
	var e impl.Exp
	made := m.IntN(7)
	if made == 0 {
		words, e = m.keyword(scope, deep-1)
	} else {
		words, e = m.infix(scope, made-1, deep-1)
	}
	if made == 0 && level > 0 || made > 0 && made-1 < level || m.IntN(8) == 0 {
		words = slices.Concat([]string{"("}, words, []string{")"})
	}
	return words, e
}

func (m *maker) leaf(scope []string) ([]string, impl.Exp) {
	switch m.IntN(4) {
	case 0:
		return []string{"[]"}, exp(impl.ExNil)
	case 1:
		n := m.IntN(1000000000) >> m.IntN(30)
		return []string{strconv.Itoa(n)}, num(n)
	}
	return m.named(scope)
}

func (m *maker) named(scope []string) ([]string, impl.Exp) {
	name := m.one(append(slices.Clone(scope), m.tops...))
	place := -1
	for i := range scope {
		if scope[i] == name {
			place = i
		}
	}
	if place >= 0 {
		return []string{name}, expN(impl.ExVar, place)
	}
	return []string{name}, expN(impl.ExTop, slices.Index(m.tops, name))
}

func (m *maker) keyword(scope []string, deep int) ([]string, impl.Exp) {
	a, b := m.one(m.names), m.one(m.names)
	switch m.IntN(5) {
	case 0:
		var list []string
		for range 1 + m.IntN(6) {
			list = append(list, m.one(m.names))
		}
		w, e := m.exp(slices.Concat(scope, list), 0, deep)
		return slices.Concat([]string{"\\"}, list, []string{"."}, w), expN(impl.ExLam, len(list), e)
	case 1:
		w1, e1 := m.exp(slices.Concat(scope, []string{a}), 0, deep)
		w2, e2 := m.exp(slices.Concat(scope, []string{a}), 0, deep)
		return slices.Concat([]string{"let", a, "="}, w1, []string{"in"}, w2), exp(impl.ExLet, e1, e2)
	case 2:
		w1, e1 := m.exp(scope, 0, deep)
		w2, e2 := m.exp(scope, 0, deep)
		w3, e3 := m.exp(scope, 0, deep)
		return slices.Concat([]string{"if"}, w1, []string{"then"}, w2, []string{"else"}, w3), exp(impl.ExIf, e1, e2, e3)
	case 3:
		w1, e1 := m.exp(scope, 0, deep)
		w2, e2 := m.exp(scope, 0, deep)
		w3, e3 := m.exp(slices.Concat(scope, []string{a, b}), 0, deep)
		return slices.Concat([]string{"case"}, w1, []string{"of", "[]", "->"}, w2, []string{"|", a, ":", b, "->"}, w3), exp(impl.ExCase, e1, e2, e3)
	}
	w1, e1 := m.named(scope)
	w2, e2 := m.exp(scope, 0, deep)
	return slices.Concat([]string{"par"}, w1, []string{"in"}, w2), exp(impl.ExPar, e1, e2)
}

func (m *maker) infix(scope []string, level int, deep int) ([]string, impl.Exp) {
	between := func(left int, sign string, right int, make func(a, b impl.Exp) impl.Exp) ([]string, impl.Exp) {
		w1, e1 := m.exp(scope, left, deep)
		w2, e2 := m.exp(scope, right, deep)
		if sign == "" {
			return slices.Concat(w1, w2), make(e1, e2)
		}
		return slices.Concat(w1, []string{sign}, w2), make(e1, e2)
	}
	op := func(left int, sign string, right int) ([]string, impl.Exp) {
		return between(left, sign, right, func(a, b impl.Exp) impl.Exp { return opExp(sign, a, b) })
	}
	switch level {
	case 0:
		return between(1, ":", 0, func(a, b impl.Exp) impl.Exp { return exp(impl.ExCons, a, b) })
	case 1:
		return op(2, m.one([]string{"==", "<"}), 2)
	case 2:
		return op(2, m.one([]string{"+", "-"}), 3)
	case 3:
		return op(3, "*", 4)
	case 4:
		return between(4, "", 5, func(a, b impl.Exp) impl.Exp { return exp(impl.ExApp, a, b) })
	}
	return m.leaf(scope)
}

// plainShow tells what ShowExp does of an expression that is right.
func plainShow(e impl.Exp) string {
	n := strconv.Itoa(e.N)
	form := map[int]string{
		impl.ExNum: n, impl.ExVar: "v" + n, impl.ExTop: "t" + n, impl.ExNil: "[]",
		impl.ExLam: "(\\" + n + " . %)", impl.ExApp: "(% %)", impl.ExLet: "(let % in %)",
		impl.ExIf: "(if % then % else %)", impl.ExCons: "(% : %)", impl.ExCase: "(case % of % | %)",
		impl.ExOp: "(% " + e.Text + " %)", impl.ExPar: "(par % in %)",
	}[e.Kind]
	for _, kid := range e.Kids {
		form = strings.Replace(form, "%", plainShow(kid), 1)
	}
	return form
}

func plainSize(e impl.Exp) int {
	n := 1
	for _, kid := range e.Kids {
		n += plainSize(kid)
	}
	return n
}

// copyExp shares no memory with e.
func copyExp(e impl.Exp) impl.Exp {
	e.Text = strings.Clone(e.Text)
	var kids []impl.Exp
	for _, kid := range e.Kids {
		kids = append(kids, copyExp(kid))
	}
	e.Kids = kids
	return e
}

func copyProgram(p impl.Program) impl.Program {
	q := impl.Program{Names: slices.Clone(p.Names)}
	for _, e := range p.Bodies {
		q.Bodies = append(q.Bodies, copyExp(e))
	}
	return q
}

// allExps tells where each expression of e is, itself first.
func allExps(e *impl.Exp) []*impl.Exp {
	all := []*impl.Exp{e}
	for i := range e.Kids {
		all = append(all, allExps(&e.Kids[i])...)
	}
	return all
}
