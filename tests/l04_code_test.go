package tests

import (
	"math"
	"reflect"
	"slices"
	"strconv"
	"strings"
	"sync"
	"testing"

	"loop.example/g00303/impl"
)

func wantPut(t *testing.T, text string, want string) {
	t.Helper()
	table := impl.TableOf(wantProgram(t, text))
	if got := impl.PutTable(table); got != want {
		t.Errorf("%q puts %q; want %q", text, got, want)
	}
	wantRight(t, table)
}

func wantRight(t *testing.T, table impl.Table) {
	t.Helper()
	if !impl.TableOk(table) || impl.PutTable(table) != plainPut(table) {
		t.Errorf("%s is right, and puts %.300q", brief(table), impl.PutTable(table))
	}
	for _, i := range []int{0, len(table.Codes) - 1} {
		if _, ok := impl.ExpAt(table, i); !ok {
			t.Errorf("%s has an expression %d", brief(table), i)
		}
	}
}

func wantNoTable(t *testing.T, table impl.Table) {
	t.Helper()
	if impl.TableOk(table) || impl.PutTable(table) != "" {
		t.Errorf("%s is not right, and puts %.300q", brief(table), impl.PutTable(table))
	}
	for _, i := range []int{-1, 0, 1, len(table.Codes) - 1, len(table.Codes)} {
		wantNoExp(t, table, i)
	}
}

func wantNoExp(t *testing.T, table impl.Table, i int) {
	t.Helper()
	if e, ok := impl.ExpAt(table, i); ok || !reflect.DeepEqual(e, impl.Exp{}) {
		t.Errorf("ExpAt(%s, %d) = %v, %t", brief(table), i, e, ok)
	}
}

func wantZeroTable(t *testing.T, p impl.Program) {
	t.Helper()
	if table := impl.TableOf(p); len(table.Codes) != 0 || len(table.Tops) != 0 {
		t.Errorf("TableOf(%s) = %s", brief(p), brief(table))
	}
}

func code(kind int, n int, text string, kids ...int) impl.Code {
	return impl.Code{Kind: kind, N: n, Text: text, Kids: kids}
}

func TestTableEachKind(t *testing.T) {
	wantPut(t, "f = 7;", "0 7 -\ntop 0\n")
	wantPut(t, "f = 999999999;", "0 999999999 -\ntop 0\n")
	wantPut(t, "f = f;", "2 0 -\ntop 0\n")
	wantPut(t, "f = [];", "7 0 -\ntop 0\n")
	wantPut(t, "f = \\x . x;", "3 1 - 1\n1 0 -\ntop 0\n")
	wantPut(t, "f = \\a b c d e f . f;", "3 6 - 1\n1 5 -\ntop 0\n")
	wantPut(t, "f = f 1;", "4 0 - 1 2\n2 0 -\n0 1 -\ntop 0\n")
	wantPut(t, "f = let x = 1 in x;", "5 0 - 1 2\n0 1 -\n1 0 -\ntop 0\n")
	wantPut(t, "f = if 1 then 2 else 3;", "6 0 - 1 2 3\n0 1 -\n0 2 -\n0 3 -\ntop 0\n")
	wantPut(t, "f = 1 : [];", "8 0 - 1 2\n0 1 -\n7 0 -\ntop 0\n")
	wantPut(t, "f = case [] of [] -> 1 | h : t -> t;", "9 0 - 1 2 3\n7 0 -\n0 1 -\n1 1 -\ntop 0\n")
	wantPut(t, "f = par f in 1;", "11 0 - 1 2\n2 0 -\n0 1 -\ntop 0\n")
	// The sign - and no text are told alike.
	for _, sign := range []string{"==", "<", "+", "-", "*"} {
		wantPut(t, "f = 1 "+sign+" 2;", "10 0 "+sign+" 1 2\n0 1 -\n0 2 -\ntop 0\n")
	}
}

func TestTableWithinOneAnother(t *testing.T) {
	// All within a kid is ahead of the next kid.
	wantPut(t, "f = (1 - 2) * (3 - 4);", "10 0 * 1 4\n10 0 - 2 3\n0 1 -\n0 2 -\n10 0 - 5 6\n0 3 -\n0 4 -\ntop 0\n")
	wantPut(t, "f = if \\x . x then f 1 2 else [] : 3;", "6 0 - 1 3 8\n3 1 - 2\n1 0 -\n4 0 - 4 7\n4 0 - 5 6\n2 0 -\n0 1 -\n0 2 -\n8 0 - 9 10\n7 0 -\n0 3 -\ntop 0\n")
	wantPut(t, "f = 1 : 2 : 3;", "8 0 - 1 2\n0 1 -\n8 0 - 3 4\n0 2 -\n0 3 -\ntop 0\n")
	wantPut(t, "f = 1 + 2 + 3;", "10 0 + 1 4\n10 0 + 2 3\n0 1 -\n0 2 -\n0 3 -\ntop 0\n")
	wantPut(t, "f = case 1 : 2 of [] -> let x = x in x | h : t -> par t in h;",
		"9 0 - 1 4 7\n8 0 - 2 3\n0 1 -\n0 2 -\n5 0 - 5 6\n1 0 -\n1 0 -\n11 0 - 8 9\n1 1 -\n1 0 -\ntop 0\n")
}

func TestTableOfManyDefinitions(t *testing.T) {
	wantPut(t, "a = 5; b = \\x . x; c = b a;", "0 5 -\n3 1 - 2\n1 0 -\n4 0 - 4 5\n2 1 -\n2 0 -\ntop 0 1 3\n")
	wantPut(t, "f = \\x . x + 1; main = f 2;", "3 1 - 1\n10 0 + 2 3\n1 0 -\n0 1 -\n4 0 - 5 6\n2 0 -\n0 2 -\ntop 0 4\n")
	wantPut(t, "a = c; b = a; c = b;", "2 2 -\n2 0 -\n2 1 -\ntop 0 1 2\n")
	table := impl.TableOf(wantProgram(t, manyDefinitions(30)))
	if len(table.Codes) != 30 || len(table.Tops) != 30 || table.Tops[29] != 29 || table.Codes[29].N != 29 {
		t.Error("30 definitions", table)
	}
	wantRight(t, table)
}

func TestTableFields(t *testing.T) {
	p := wantProgram(t, "f = \\x y . x - 1; g = f [] : 20;")
	want := impl.Table{
		Codes: []impl.Code{
			code(impl.ExLam, 2, "", 1), code(impl.ExOp, 0, "-", 2, 3), code(impl.ExVar, 0, ""), code(impl.ExNum, 1, ""),
			code(impl.ExCons, 0, "", 5, 8), code(impl.ExApp, 0, "", 6, 7), code(impl.ExTop, 0, ""), code(impl.ExNil, 0, ""), code(impl.ExNum, 20, ""),
		},
		Tops: []int{0, 4},
	}
	if got := impl.TableOf(p); !reflect.DeepEqual(copyTable(got), copyTable(want)) {
		t.Errorf("%v; want %v", got, want)
	}
	for i, shown := range []string{"(\\2 . (v0 - 1))", "(v0 - 1)", "v0", "1", "((t0 []) : 20)", "(t0 [])", "t0", "[]", "20"} {
		if e, ok := impl.ExpAt(want, i); !ok || impl.ShowExp(e) != shown {
			t.Errorf("%d: %v, %t; want %s", i, e, ok, shown)
		}
	}
}

// Two bodies that are the same have codes of their own each, whether they stand
// in the same memory or not; and so have two kids.
func TestTableOfWhatStandsTwice(t *testing.T) {
	wantPut(t, "a = 1 + 2; b = 1 + 2;", "10 0 + 1 2\n0 1 -\n0 2 -\n10 0 + 4 5\n0 1 -\n0 2 -\ntop 0 3\n")
	wantPut(t, "a = [] : []; b = []; c = [];", "8 0 - 1 2\n7 0 -\n7 0 -\n7 0 -\n7 0 -\ntop 0 3 4\n")
	body := expN(impl.ExLam, 1, opExp("*", expN(impl.ExVar, 0), num(2)))
	bodies := slices.Repeat([]impl.Exp{body}, 30)
	table := impl.TableOf(mainAnd(bodies...))
	for i, top := range table.Tops {
		if top != 4*i || !slices.Equal(table.Codes[top].Kids, []int{4*i + 1}) || !slices.Equal(table.Codes[top+1].Kids, []int{4*i + 2, 4*i + 3}) {
			t.Fatalf("body %d: %v", i, table)
		}
	}
	if len(table.Tops) != 30 || len(table.Codes) != 120 {
		t.Error(table)
	}
	wantRight(t, table)
	for deep := range 12 {
		p := mainAnd(sharedExp(deep, num(3)), sharedExp(deep, num(3)))
		table := impl.TableOf(p)
		if len(table.Codes) != 2*(1<<(deep+1)-1) || !reflect.DeepEqual(copyTable(table), copyTable(plainTable(p))) {
			t.Fatalf("%d deep: %d codes", deep, len(table.Codes))
		}
		wantRight(t, table)
	}
}

// The document names no limit on how many expressions a program has.
func TestTableOfVeryManyExpressions(t *testing.T) {
	const deep = 23
	table := impl.TableOf(mainAnd(num(5), sharedExp(deep, num(3)), num(6), num(7)))
	if count := 1<<(deep+1) + 2; len(table.Codes) != count || !slices.Equal(table.Tops, []int{0, 1, count - 2, count - 1}) {
		t.Fatal(len(table.Codes), "codes, tops", table.Tops)
	}
	wantHalves(t, table, 1, deep)
	for _, i := range []int{0, len(table.Codes) - 2, len(table.Codes) - 1} {
		if c := table.Codes[i]; c.Kind != impl.ExNum || len(c.Kids) != 0 {
			t.Error(i, c)
		}
	}
}

// wantHalves asks for the codes of a sharedExp of threes, from number at on.
func wantHalves(t *testing.T, table impl.Table, at int, deep int) {
	t.Helper()
	c := table.Codes[at]
	if deep == 0 {
		if c.Kind != impl.ExNum || c.N != 3 || len(c.Kids) != 0 {
			t.Fatal(at, c)
		}
		return
	}
	if len(c.Kids) != 2 || c.Kids[0] != at+1 || c.Kids[1] != at+1<<deep {
		t.Fatal(at, c)
	}
	wantHalves(t, table, c.Kids[0], deep-1)
	wantHalves(t, table, c.Kids[1], deep-1)
}

// wantEachBack asks for promise 4, of all that is within the bodies too.
func wantEachBack(t *testing.T, p impl.Program) {
	t.Helper()
	table := impl.TableOf(p)
	if !reflect.DeepEqual(copyTable(table), copyTable(plainTable(p))) {
		t.Fatalf("TableOf(%v) = %v; want %v", p, table, plainTable(p))
	}
	if !impl.TableOk(table) || impl.PutTable(table) != plainPut(table) || len(table.Codes) != impl.Size(p) {
		t.Fatalf("TableOf(%v) = %v puts %q", p, table, impl.PutTable(table))
	}
	number := 0
	for i := range p.Bodies {
		if e, ok := impl.ExpAt(table, table.Tops[i]); !ok || !impl.SameExp(e, p.Bodies[i]) {
			t.Fatalf("body %d of %v comes back as %v, %t", i, p, e, ok)
		}
		for _, within := range allExps(&p.Bodies[i]) {
			if e, ok := impl.ExpAt(table, number); !ok || !reflect.DeepEqual(copyExp(e), copyExp(*within)) {
				t.Fatalf("expression %d of %v comes back as %v, %t; want %v", number, p, e, ok, *within)
			}
			number++
		}
	}
	for _, i := range []int{math.MinInt, -1, number, number + 1, math.MaxInt} {
		wantNoExp(t, table, i)
	}
}

// Promise 4.
func TestEachBodyComesBack(t *testing.T) {
	m := newMaker(11)
	for range 350 {
		_, p := m.program()
		wantEachBack(t, p)
	}
	s := newSortMaker(12)
	for range 300 {
		wantEachBack(t, s.program())
	}
	for kind, count := range kidsOfKind {
		for which := range count {
			// As deep as its kind can be.
			deep := impl.MaxDeep
			if kind == impl.ExCase && which == 2 {
				deep = 45
			}
			if kind == impl.ExPar && which == 0 {
				deep = 0
			}
			wantEachBack(t, oneBody(chain(kind, which, deep)))
		}
	}
}

func TestBodiesComeBackOfWhatIsWide(t *testing.T) {
	e := num(1)
	for range 15 {
		e = expN(impl.ExLam, 6, opExp("+", e, num(1)))
	}
	wantEachBack(t, mainAnd(e, expN(impl.ExTop, 2), num(0)))
}

func TestExpAtEitherEnd(t *testing.T) {
	table := impl.TableOf(wantProgram(t, "f = \\x . x + 1; main = f 2;"))
	for i, want := range []string{"(\\1 . (v0 + 1))", "(v0 + 1)", "v0", "1", "(t0 2)", "t0", "2"} {
		if e, ok := impl.ExpAt(table, i); !ok || impl.ShowExp(e) != want {
			t.Errorf("%d: %v, %t; want %s", i, e, ok, want)
		}
	}
	for _, i := range []int{math.MinInt, -7, -2, -1, 7, 8, 14, 1 << 32, math.MaxInt} {
		wantNoExp(t, table, i)
	}
	one := impl.TableOf(oneBody(num(5)))
	if e, ok := impl.ExpAt(one, 0); !ok || !impl.SameExp(e, num(5)) {
		t.Error(e, ok)
	}
	wantNoExp(t, one, -1)
	wantNoExp(t, one, 1)
}

func TestTableOfNoProgram(t *testing.T) {
	for _, p := range wrongPrograms() {
		wantZeroTable(t, p)
	}
	wantNoTable(t, impl.Table{})
	wantNoTable(t, impl.Table{Codes: []impl.Code{}, Tops: []int{}})
	wantNoTable(t, impl.Table{Codes: []impl.Code{{}}})
	wantNoTable(t, impl.Table{Tops: []int{0}})
	wantRight(t, impl.Table{Codes: []impl.Code{{}}, Tops: []int{0}})
	wantRight(t, impl.Table{Codes: []impl.Code{{Kids: []int{}, Text: ""}}, Tops: []int{0}})
}

// What the table of a program would be that is not right is no table either.
func TestTableOkOfNoProgramsTable(t *testing.T) {
	done := 0
	for _, p := range wrongPrograms() {
		if len(p.Names) != len(p.Bodies) || impl.Size(p) > 1000 || endless(p) {
			continue
		}
		table := plainTable(p)
		if plainTableOk(table) {
			// Only its names are wrong.
			wantRight(t, table)
			continue
		}
		done++
		wantNoTable(t, table)
	}
	if done < 20 {
		t.Error("only", done, "tables")
	}
}

func endless(p impl.Program) bool {
	for _, e := range p.Bodies {
		for range impl.MaxDeep + 2 {
			if len(e.Kids) > 0 {
				e = e.Kids[0]
			}
		}
		if len(e.Kids) > 0 {
			return true
		}
	}
	return false
}

func TestTableOkHowManyAndHowDeep(t *testing.T) {
	for _, count := range []int{1, 2, 29, 30, 31, 32, 1000} {
		var table impl.Table
		for i := range count {
			table.Codes = append(table.Codes, code(impl.ExTop, count-1-i, ""))
			table.Tops = append(table.Tops, i)
		}
		if count <= 30 {
			wantRight(t, table)
			table.Codes[0].N = count
		}
		wantNoTable(t, table)
	}
	for kind, count := range kidsOfKind {
		for which := range count {
			if kind == impl.ExPar && which == 0 || kind == impl.ExCase && which == 2 {
				continue
			}
			for _, deep := range []int{0, 1, 59, 60, 61, 62, 1000} {
				table := plainTable(oneBody(chain(kind, which, deep)))
				if deep <= impl.MaxDeep {
					wantRight(t, table)
				} else {
					wantNoTable(t, table)
				}
			}
		}
	}
	for names := 84; names < 96; names++ {
		e := expN(impl.ExVar, names-1)
		for left := names; left > 0; left -= min(6, left) {
			e = expN(impl.ExLam, min(6, left), e)
		}
		if table := plainTable(oneBody(e)); names <= 90 {
			wantRight(t, table)
		} else {
			wantNoTable(t, table)
		}
	}
}

// twoBodies has the codes 0 a pair, 1 a sum, 2 and 3 its numbers, 4 a number;
// 5 a gift, 6 and 7 its numbers.
func twoBodies() impl.Table {
	return impl.TableOf(mainAnd(exp(impl.ExCons, opExp("+", num(1), num(2)), num(3)), exp(impl.ExApp, num(4), num(5))))
}

func TestTableOkOfMisplacedKids(t *testing.T) {
	wantRight(t, twoBodies())
	for _, c := range []struct {
		why  string
		code int
		kids []int
	}{
		{"kids ahead of what they are kids of", 1, []int{0, 2}},
		{"itself", 1, []int{1, 2}},
		{"itself", 0, []int{0, 4}},
		{"a kid twice", 0, []int{1, 1}},
		{"a kid twice", 0, []int{4, 4}},
		{"a kid twice", 1, []int{2, 2}},
		{"a kid of two", 0, []int{1, 3}},
		{"a number left out", 0, []int{2, 4}},
		{"a number left out", 1, []int{3, 4}},
		{"a number left out", 5, []int{7, 8}},
		{"kids turned around", 0, []int{4, 1}},
		{"kids turned around", 1, []int{3, 2}},
		{"behind the next top", 0, []int{1, 5}},
		{"behind the next top", 1, []int{2, 6}},
		{"behind the next top", 0, []int{6, 7}},
		{"of the body ahead", 5, []int{1, 4}},
		{"of the body ahead", 5, []int{2, 3}},
		{"below 0", 5, []int{-1, 7}},
		{"below 0", 5, []int{6, math.MinInt}},
		{"beyond the codes", 5, []int{6, 8}},
		{"beyond the codes", 5, []int{math.MaxInt, 7}},
		{"one less", 5, []int{6}},
		{"one more", 5, []int{6, 7, 7}},
		{"one more", 4, []int{5}},
		{"none", 1, nil},
	} {
		table := twoBodies()
		table.Codes[c.code].Kids = c.kids
		if impl.TableOk(table) {
			t.Error(c.why)
		}
		wantNoTable(t, table)
	}
	// A kid that lies behind the next body's top.
	wantNoTable(t, impl.Table{Codes: []impl.Code{code(impl.ExLam, 1, "", 2), code(impl.ExNum, 1, ""), code(impl.ExNum, 1, "")}, Tops: []int{0, 1}})
	// Each kid in its place, but all of them ahead.
	wantNoTable(t, impl.Table{Codes: []impl.Code{code(impl.ExNum, 1, ""), code(impl.ExNum, 2, ""), code(impl.ExCons, 0, "", 0, 1)}, Tops: []int{2}})
	// Kids in a ring.
	wantNoTable(t, impl.Table{Codes: []impl.Code{code(impl.ExLam, 1, "", 1), code(impl.ExLam, 1, "", 0)}, Tops: []int{0}})
	wantNoTable(t, impl.Table{Codes: []impl.Code{code(impl.ExLam, 1, "", 0)}, Tops: []int{0}})
}

func TestTableOkOfMisplacedTops(t *testing.T) {
	for _, tops := range [][]int{nil, {}, {0}, {5}, {5, 0}, {0, 0}, {5, 5}, {0, 4}, {0, 6}, {0, 1}, {1, 5}, {-1, 5}, {0, -5}, {0, 8}, {0, math.MaxInt}, {math.MinInt, 5}, {0, 5, 5}, {0, 5, 7}, {0, 5, 8}, {0, 0, 5}} {
		table := twoBodies()
		table.Tops = tops
		wantNoTable(t, table)
	}
	// A body that is a part of another one, in the right order, is none.
	wantNoTable(t, impl.Table{Codes: []impl.Code{code(impl.ExLam, 1, "", 1), code(impl.ExNum, 1, "")}, Tops: []int{0, 1}})
	wantNoTable(t, impl.Table{Codes: []impl.Code{code(impl.ExLam, 1, "", 1), code(impl.ExNum, 1, "")}, Tops: []int{1}})
}

// All lists of Kids and of Tops, of numbers around the codes.
func TestTableOkOfAllSmallLists(t *testing.T) {
	lists := [][]int{nil}
	for at := 0; at < len(lists); at++ {
		if len(lists[at]) < 3 {
			for n := -1; n <= 5; n++ {
				lists = append(lists, append(slices.Clone(lists[at]), n))
			}
		}
	}
	right := 0
	for _, kids := range lists {
		for at := range 3 {
			table := impl.Table{Codes: []impl.Code{code(impl.ExCons, 0, "", 1, 2), code(impl.ExNum, 1, ""), code(impl.ExLam, 1, "", 3), code(impl.ExVar, 0, ""), code(impl.ExNil, 0, "")}}
			table.Codes[at].Kids = kids
			for _, table.Tops = range lists {
				want := plainTableOk(table)
				if impl.TableOk(table) != want {
					t.Fatalf("%v: %t", table, !want)
				}
				if want {
					right++
				}
			}
		}
	}
	// Each of the three codes had its own Kids once, and Tops was 0 and 4 then.
	if right != 3 {
		t.Error(right, "right tables")
	}
}

// A table in which one field alone is wrong is none.
func TestTableOkOfOneWrongField(t *testing.T) {
	m := newMaker(13)
	var list []impl.Program
	for range 25 {
		_, p := m.program()
		list = append(list, p)
	}
	s := newSortMaker(14)
	for range 25 {
		list = append(list, s.program())
	}
	list = append(list,
		wantProgram(t, "f = \\x y . case x of [] -> let z = y in par z in z y | h : t -> if h < 2 then t : x else f;"),
		wantProgram(t, "a = b; b = c; c = 1;"),
		wantProgram(t, "a = 1;"),
	)
	right, wrong := 0, 0
	for _, p := range list {
		if impl.Size(p) > 120 {
			continue
		}
		for _, table := range changedTables(plainTable(p)) {
			if plainTableOk(table) {
				right++
				if !impl.TableOk(table) || impl.PutTable(table) != plainPut(table) {
					t.Fatalf("%v is right", table)
				}
				continue
			}
			wrong++
			if e, ok := impl.ExpAt(table, len(table.Codes)/2); impl.TableOk(table) || impl.PutTable(table) != "" || ok || !reflect.DeepEqual(e, impl.Exp{}) {
				t.Fatalf("%v is not right", table)
			}
		}
	}
	if right < 1000 || wrong < 10000 {
		t.Error("only", right, "right and", wrong, "wrong tables")
	}
}

// Tables made of codes at random, as good as all of which are wrong.
func TestTableOkOfAnyCodes(t *testing.T) {
	m := newMaker(15)
	right := 0
	for range 60000 {
		var table impl.Table
		count := m.IntN(5)
		for i := range count {
			kind := m.IntN(14) - 1
			c := impl.Code{Kind: kind, N: m.IntN(3) - m.IntN(2)}
			if kind == impl.ExOp || m.IntN(20) == 0 {
				c.Text = m.one([]string{"", "+", "-", "<", "?"})
			}
			if kind >= 0 && kind < len(kidsOfKind) {
				for k := range kidsOfKind[kind] {
					c.Kids = append(c.Kids, i+1+k+m.IntN(3)/2)
				}
			}
			table.Codes = append(table.Codes, c)
		}
		for i := range m.IntN(4) {
			table.Tops = append(table.Tops, i+m.IntN(3)/2)
		}
		want := plainTableOk(table)
		if impl.TableOk(table) != want {
			t.Fatalf("%v: %t", table, !want)
		}
		if want {
			right++
		}
	}
	if right < 200 {
		t.Error("only", right, "right tables")
	}
}

// Promise 12 for this chapter: great tables, shared and endless expressions.
func TestTablesAnswerAtAnyArguments(t *testing.T) {
	for kind := -1; kind <= len(kidsOfKind); kind++ {
		table := impl.Table{Tops: []int{0}}
		for i := range 100000 {
			table.Codes = append(table.Codes, code(kind, 1, "", i+1, i-1))
		}
		wantNoTable(t, table)
	}
	long := impl.Table{Codes: make([]impl.Code, 100000), Tops: make([]int, 100000)}
	for i := range long.Tops {
		long.Tops[i] = i
	}
	wantNoTable(t, long)
	long.Tops = long.Tops[:30]
	wantNoTable(t, long)
	wantNoTable(t, impl.Table{Codes: []impl.Code{code(impl.ExOp, 0, strings.Repeat("+", 1000000), 1, 2), {}, {}}, Tops: []int{0}})
	for kind := range kidsOfKind {
		for count := 1; count < 4; count++ {
			wantZeroTable(t, oneBody(endlessExp(kind, count)))
		}
	}
	// More expressions than there is memory for.
	for _, deep := range []int{30, 59, 60} {
		p := oneBody(sharedExp(deep, num(1)))
		if !impl.ProgramOk(p) {
			t.Fatal(deep)
		}
		wantZeroTable(t, p)
		wantZeroTable(t, mainAnd(slices.Repeat([]impl.Exp{sharedExp(deep, num(1))}, 30)...))
		wantZeroTable(t, mainAnd(num(1), sharedExp(deep, num(1))))
	}
	// So many that their number goes around 64 bits and comes to 1.
	around := slices.Repeat([]impl.Exp{sharedExp(60, num(1))}, 8)
	p := mainAnd(append(around, slices.Repeat([]impl.Exp{num(1)}, 9)...)...)
	if impl.Size(p) != 1 || !impl.ProgramOk(p) {
		t.Fatal(impl.Size(p))
	}
	wantZeroTable(t, p)
	if table := impl.TableOf(oneBody(sharedExp(18, num(1)))); len(table.Codes) != 1<<19-1 || !impl.TableOk(table) {
		t.Error(len(table.Codes), "codes")
	}
}

// roomy has spare room behind each of its lists, in which something stands.
func roomy(t impl.Table) impl.Table {
	u := impl.Table{Codes: append(copyTable(t).Codes, code(-7, -7, "spare", -7)), Tops: append(slices.Clone(t.Tops), -7)}
	for i := range u.Codes {
		kids := u.Codes[i].Kids
		u.Codes[i].Kids = append(slices.Clone(kids), -7, -8)[:len(kids)]
	}
	return u
}

func tableSpares(t impl.Table) []int {
	var spares []int
	for _, c := range t.Codes {
		spares = append(spares, c.Kids[len(c.Kids):cap(c.Kids)]...)
	}
	return spares
}

// Promise 12 for this chapter: nothing is written into an argument, nor into
// the room behind it, and answers share no memory with one.
func TestTablesLeaveArgumentsAlone(t *testing.T) {
	m := newMaker(16)
	for range 200 {
		_, made := m.program()
		room := impl.Program{Names: append(slices.Clone(made.Names), "spare"), Bodies: append(slices.Clone(made.Bodies), expN(impl.ExLam, 9, num(4)))}
		for i := range made.Bodies {
			for _, e := range allExps(&room.Bodies[i]) {
				e.Kids = append(slices.Clone(e.Kids), expN(impl.ExLam, 8))[:len(e.Kids)]
			}
		}
		kept, spares := copyProgram(room), sparesOf(room)
		one := impl.TableOf(impl.Program{Names: room.Names[:len(made.Names)], Bodies: room.Bodies[:len(made.Bodies)]})
		spoilTable(&one)
		if !reflect.DeepEqual(copyProgram(room), kept) || !reflect.DeepEqual(sparesOf(room), spares) {
			t.Fatalf("%v became %v", kept, room)
		}
		big := roomy(plainTable(made))
		keptTable, tableRoom := copyTable(big), tableSpares(big)
		table := impl.Table{Codes: big.Codes[:len(big.Codes)-1], Tops: big.Tops[:len(big.Tops)-1]}
		if !impl.TableOk(table) || impl.PutTable(table) != plainPut(table) {
			t.Fatalf("%v is right", table)
		}
		answers := make([]impl.Exp, len(table.Codes))
		for i := range table.Codes {
			answers[i], _ = impl.ExpAt(table, i)
		}
		spoil(&impl.Program{Bodies: answers})
		impl.ExpAt(table, -1)
		if !reflect.DeepEqual(copyTable(big), keptTable) || !slices.Equal(tableSpares(big), tableRoom) {
			t.Fatalf("%v became %v", keptTable, big)
		}
	}
}

// spoilTable writes over all that a table has, the spare room too.
func spoilTable(t *impl.Table) {
	for i := range t.Codes {
		kids := t.Codes[i].Kids
		for k := range kids[:cap(kids)] {
			kids[:cap(kids)][k] = -9
		}
	}
	t.Tops = t.Tops[:cap(t.Tops)]
	for i := range t.Tops {
		t.Tops[i] = -9
	}
	t.Codes = t.Codes[:cap(t.Codes)]
	for i := range t.Codes {
		t.Codes[i] = code(-9, -9, "spoilt")
	}
}

func TestTableListsShareNoMemory(t *testing.T) {
	m := newMaker(17)
	for range 200 {
		_, p := m.program()
		one, two := impl.TableOf(p), impl.TableOf(p)
		spoilTable(&two)
		seen := map[*int]bool{}
		lists := [][]int{one.Tops}
		for _, c := range one.Codes {
			lists = append(lists, c.Kids)
		}
		for _, list := range lists {
			list = list[:cap(list)]
			for i := range list {
				if seen[&list[i]] {
					t.Fatal("one number in two lists")
				}
				seen[&list[i]] = true
			}
		}
		if !reflect.DeepEqual(copyTable(one), copyTable(plainTable(p))) {
			t.Fatalf("two answers share memory: %v", one)
		}
		wantExpsApart(t, one)
	}
}

func wantExpsApart(t *testing.T, table impl.Table) {
	t.Helper()
	e, _ := impl.ExpAt(table, 0)
	again, _ := impl.ExpAt(table, 0)
	kept := copyExp(e)
	seen := map[*impl.Exp]bool{}
	for _, within := range allExps(&e) {
		for i := range within.Kids[:cap(within.Kids)] {
			kid := &within.Kids[:cap(within.Kids)][i]
			if seen[kid] {
				t.Fatal("one expression in two lists")
			}
			seen[kid] = true
		}
	}
	spoil(&impl.Program{Bodies: []impl.Exp{again}})
	if !reflect.DeepEqual(copyExp(e), kept) {
		t.Fatalf("two answers share memory: %v became %v", kept, e)
	}
}

func TestTableTextsShareNoMemory(t *testing.T) {
	room := []byte("==?")
	p := oneBody(opExp(textOf(room[:2]), num(1), opExp(textOf(room[:2]), num(2), num(3))))
	table := impl.TableOf(p)
	own := impl.Table{Codes: slices.Clone(table.Codes), Tops: []int{0}}
	own.Codes[0].Text = textOf(room[:2])
	own.Codes[2].Text = textOf(room[:2])
	e, ok := impl.ExpAt(own, 0)
	put := impl.PutTable(own)
	for i := range room {
		room[i] = '#'
	}
	if !ok || impl.ShowExp(e) != "(1 == (2 == 3))" || put != "10 0 == 1 2\n0 1 -\n10 0 == 3 4\n0 2 -\n0 3 -\ntop 0\n" || impl.PutTable(table) != put {
		t.Errorf("%v %t %q %v", e, ok, put, table)
	}
}

// Nothing is kept from one call to another, nor shared by calls at one time.
func TestTablesAtOneTime(t *testing.T) {
	m := newMaker(18)
	var list []impl.Program
	for range 30 {
		_, p := m.program()
		list = append(list, p)
	}
	var wait sync.WaitGroup
	for range 8 {
		wait.Go(func() {
			for i, p := range list {
				impl.TableOf(impl.Program{Names: []string{strconv.Itoa(i)}})
				table := impl.TableOf(p)
				e, ok := impl.ExpAt(table, table.Tops[len(table.Tops)-1])
				if impl.PutTable(table) != plainPut(plainTable(p)) || !ok || !impl.SameExp(e, p.Bodies[len(p.Bodies)-1]) {
					t.Errorf("%v: %v, %v", p, table, e)
				}
			}
		})
	}
	wait.Wait()
}
