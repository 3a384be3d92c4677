package tests

import (
	"math"
	"reflect"
	"slices"
	"strconv"
	"strings"
	"sync"
	"testing"
	"unsafe"

	"loop.example/g00303/impl"
)

func wantLine(t *testing.T, text string, want int) {
	t.Helper()
	p, line := impl.Parse(text)
	if line != want || len(p.Names) != 0 || len(p.Bodies) != 0 {
		t.Errorf("Parse(%.80q) = %v, %d; want nothing, %d", text, p, line, want)
	}
}

func wantProgram(t *testing.T, text string) impl.Program {
	t.Helper()
	p, line := impl.Parse(text)
	if line != 0 || !impl.ProgramOk(p) {
		t.Fatalf("Parse(%.80q) = %v, %d", text, p, line)
	}
	return p
}

// wantShow takes one definition, named f, of body.
func wantShow(t *testing.T, body string, want string) {
	t.Helper()
	p, line := impl.Parse("f = " + body + ";")
	if line != 0 || len(p.Bodies) != 1 {
		t.Errorf("%q: line %d", body, line)
		return
	}
	if got := impl.ShowExp(p.Bodies[0]); got != want {
		t.Errorf("%q is %q; want %q", body, got, want)
	}
}

func TestKindsOfExpressions(t *testing.T) {
	got := []int{impl.ExNum, impl.ExVar, impl.ExTop, impl.ExLam, impl.ExApp, impl.ExLet, impl.ExIf, impl.ExNil, impl.ExCons, impl.ExCase, impl.ExOp, impl.ExPar}
	for i, kind := range got {
		if kind != i {
			t.Errorf("kind %d is %d", i, kind)
		}
	}
	if impl.MaxDeep != 60 {
		t.Error("MaxDeep", impl.MaxDeep)
	}
}

func TestParseEachKind(t *testing.T) {
	wantShow(t, "0", "0")
	wantShow(t, "999999999", "999999999")
	wantShow(t, "007", "7")
	wantShow(t, "f", "t0")
	wantShow(t, "[]", "[]")
	wantShow(t, "\\x . x", "(\\1 . v0)")
	wantShow(t, "\\x y . y x", "(\\2 . (v1 v0))")
	wantShow(t, "f 1", "(t0 1)")
	wantShow(t, "let x = x in x", "(let v0 in v0)")
	wantShow(t, "if 1 then 2 else 3", "(if 1 then 2 else 3)")
	wantShow(t, "1 : []", "(1 : [])")
	wantShow(t, "case [] of [] -> 1 | h : t -> h t", "(case [] of 1 | (v0 v1))")
	for _, sign := range []string{"==", "<", "+", "-", "*"} {
		wantShow(t, "1 "+sign+" 2", "(1 "+sign+" 2)")
	}
	wantShow(t, "par f in 1", "(par t0 in 1)")
	wantShow(t, "\\x . par x in f", "(\\1 . (par v0 in t0))")
	wantShow(t, "(((1)))", "1")
}

func TestParseOrderOfSigns(t *testing.T) {
	wantShow(t, "1 : 2 : 3 : []", "(1 : (2 : (3 : [])))")
	wantShow(t, "(1 : 2) : 3", "((1 : 2) : 3)")
	wantShow(t, "1 - 2 + 3 - 4", "(((1 - 2) + 3) - 4)")
	wantShow(t, "1 - (2 + 3)", "(1 - (2 + 3))")
	wantShow(t, "1 * 2 * 3", "((1 * 2) * 3)")
	wantShow(t, "1 + 2 * 3", "(1 + (2 * 3))")
	wantShow(t, "1 * 2 + 3 * 4", "((1 * 2) + (3 * 4))")
	wantShow(t, "(1 + 2) * 3", "((1 + 2) * 3)")
	wantShow(t, "1 + 2 == 3 - 4", "((1 + 2) == (3 - 4))")
	wantShow(t, "1 < 2 : 3 == 4 : 5", "((1 < 2) : ((3 == 4) : 5))")
	wantShow(t, "(1 < 2) == (3 < 4)", "((1 < 2) == (3 < 4))")
	wantShow(t, "f 1 2 3", "(((t0 1) 2) 3)")
	wantShow(t, "f (f 1) [] * f 2", "(((t0 (t0 1)) []) * (t0 2))")
	wantShow(t, "1 2 [] f (f)", "((((1 2) []) t0) t0)")
	wantShow(t, "1 : \\x . x : 2", "(1 : (\\1 . (v0 : 2)))")
	wantShow(t, "1 : if 1 then 2 else 3 : 4", "(1 : (if 1 then 2 else (3 : 4)))")
	wantShow(t, "\\x . 1 + 2", "(\\1 . (1 + 2))")
	wantShow(t, "let x = 1 : 2 in x + 1 : x", "(let (1 : 2) in ((v0 + 1) : v0))")
	wantShow(t, "case case 1 of [] -> 2 | a : b -> 3 of [] -> case 4 of [] -> 5 | a : b -> 6 | a : b -> 7",
		"(case (case 1 of 2 | 3) of (case 4 of 5 | 6) | 7)")
	wantShow(t, "case 1 : 2 of [] -> 3 : 4 | a : b -> a : b", "(case (1 : 2) of (3 : 4) | (v0 : v1))")
	wantShow(t, "if if 1 then 2 else 3 then if 4 then 5 else 6 else if 7 then 8 else 9",
		"(if (if 1 then 2 else 3) then (if 4 then 5 else 6) else (if 7 then 8 else 9))")
	wantShow(t, "(\\x . x) \n 1", "((\\1 . v0) 1)")
	wantShow(t, "par f in 1 : par f in 2", "(par t0 in (1 : (par t0 in 2)))")
	for _, body := range []string{
		"1 < 2 < 3", "1 == 2 == 3", "1 < 2 == 3", "1 + \\x . x", "f \\x . x", "f let x = 1 in x", "1 * if 1 then 2 else 3",
		"1 < case 1 of [] -> 2 | a : b -> 3", "- 1", "1 -", "+", "* 1", "1 * - 2", ": 1", "1 :", "f . f", "1 = 2", "()", "(1", "1)", "1 | 2", "1 -> 2", "\\ 1 . 2", "\\x 1", "\\x", "\\x . ",
	} {
		wantLine(t, "f = "+body+";", 1)
	}
}

func TestParseNamesThatHideOthers(t *testing.T) {
	wantShow(t, "\\x x . x", "(\\2 . v1)")
	wantShow(t, "\\x y x z . x y z", "(\\4 . ((v2 v1) v3))")
	wantShow(t, "\\x . \\x . x", "(\\1 . (\\1 . v1))")
	wantShow(t, "\\x . (\\x . x) x", "(\\1 . ((\\1 . v1) v0))")
	wantShow(t, "\\x . let x = x in x", "(\\1 . (let v1 in v1))")
	wantShow(t, "\\x . (let x = 1 in x) : x", "(\\1 . ((let 1 in v1) : v0))")
	wantShow(t, "\\x . let y = x in let x = y in x y", "(\\1 . (let v0 in (let v1 in (v2 v1))))")
	wantShow(t, "\\x . case x of [] -> x | x : x -> x", "(\\1 . (case v0 of v0 | v2))")
	wantShow(t, "\\x . case x of [] -> x | x : y -> x y", "(\\1 . (case v0 of v0 | (v1 v2)))")
	wantShow(t, "\\x . (case x of [] -> x | x : y -> x) : x", "(\\1 . ((case v0 of v0 | v1) : v0))")
	wantShow(t, "\\x . case case x of [] -> x | x : x -> x of [] -> x | y : z -> x", "(\\1 . (case (case v0 of v0 | v2) of v0 | v0))")
	wantShow(t, "\\x . if x then (\\x . x) else x", "(\\1 . (if v0 then (\\1 . v1) else v0))")
	wantShow(t, "\\x . par x in \\x . par x in x", "(\\1 . (par v0 in (\\1 . (par v1 in v1))))")
}

func TestParseDefinitions(t *testing.T) {
	p := wantProgram(t, "f = \\f . f g;g = \\x . let g = f in g x f;h = (\\h . h) h;")
	want := []string{"(\\1 . (v0 t1))", "(\\1 . (let t0 in ((v1 v0) t0)))", "((\\1 . v0) t2)"}
	for i := range want {
		if got := impl.ShowExp(p.Bodies[i]); got != want[i] {
			t.Errorf("body %d: %q; want %q", i, got, want[i])
		}
	}
	if !reflect.DeepEqual(p.Names, []string{"f", "g", "h"}) {
		t.Error(p.Names)
	}
	p = wantProgram(t, "a = \\b . c;\nb = a;\nc = b;")
	if got := impl.ShowExp(p.Bodies[0]) + impl.ShowExp(p.Bodies[1]) + impl.ShowExp(p.Bodies[2]); got != "(\\1 . t2)t0t1" {
		t.Error(got)
	}
	// A case's names stand in its last kid alone, a lambda's in its kid alone.
	wantProgram(t, "h = 1; f = case h of [] -> h | h : t -> t;")
	for _, text := range []string{
		"f = q;", "f = g; h = 1;", "f = case t of [] -> 1 | h : t -> 2;", "f = case 1 of [] -> h | h : t -> 2;", "f = (\\x . x) x;", "f = (let x = 1 in 1) x;",
		"f = \\x . x; g = x;", "f = par q in 1;", "f = \\x . par q in x;", "f = (case 1 of [] -> 1 | h : t -> 2) : t;", "\n\nf\n=\nq\n;",
	} {
		wantLine(t, text, 1)
	}
}

func manyDefinitions(count int) string {
	var text strings.Builder
	for i := range count {
		text.WriteString("d" + strconv.Itoa(i) + " = " + strconv.Itoa(i) + ";\n")
	}
	return text.String()
}

func TestParseHowManyDefinitions(t *testing.T) {
	for _, count := range []int{1, 2, 29, 30} {
		p := wantProgram(t, manyDefinitions(count))
		if len(p.Names) != count || len(p.Bodies) != count || impl.Size(p) != count {
			t.Errorf("%d definitions: %v", count, p)
		}
		if last := p.Bodies[count-1]; !impl.SameExp(last, num(count-1)) || p.Names[count-1] != "d"+strconv.Itoa(count-1) {
			t.Errorf("%d definitions: the last one is %v", count, last)
		}
	}
	wantLine(t, manyDefinitions(31), 1)
	wantLine(t, manyDefinitions(60), 1)
	wantLine(t, manyDefinitions(31)+"x", 32)
}

func TestParseHowManyNamesOfALambda(t *testing.T) {
	names := "a\nb\nc\nd\ne\nf\ng"
	for n := 1; n <= 6; n++ {
		p := wantProgram(t, "f = \\"+names[:2*n]+". a;")
		if p.Bodies[0].N != n || p.Bodies[0].Kids[0].N != 0 {
			t.Errorf("%d names: %v", n, p)
		}
	}
	wantLine(t, "f = \\"+names+". a;", 7)
	wantLine(t, "f =\n\\\n. 1;", 3)
	wantShow(t, "\\a b c d e g . g", "(\\6 . v5)")
	wantShow(t, "\\a b c d e g . \\a b c d e g . a g", "(\\6 . (\\6 . (v6 v11)))")
}

// deepBodies tell for each kind a text of an expression that is deep deep.
func deepBodies(deep int) []string {
	wrap := func(ahead, behind string) string {
		return strings.Repeat(ahead, deep) + "1" + strings.Repeat(behind, deep)
	}
	return []string{
		wrap("\\x.", ""), wrap("let x=1 in ", ""), wrap("let x=", " in 1"), wrap("if 1 then 2 else ", ""), wrap("if ", " then 1 else 2"), wrap("if 1 then ", " else 2"),
		wrap("1:", ""), wrap("case ", " of []->1|h:t->2"), wrap("case 1 of []->", "|h:t->2"),
		wrap("par f in ", ""), wrap("", "+1"), wrap("", "-1"), wrap("", "*1"), wrap("1==(", ")"), wrap("(", ")<1"), wrap("", " 1"), wrap("f(", ")"), wrap("(", "):1"),
	}
}

func TestParseHowDeep(t *testing.T) {
	for deep := range 3 {
		for _, body := range deepBodies(impl.MaxDeep - deep) {
			p := wantProgram(t, "f="+body+";")
			if got := impl.ShowExp(p.Bodies[0]); got != plainShow(p.Bodies[0]) {
				t.Errorf("%.80q shows %.80q", body, got)
			}
		}
	}
	for more := 1; more < 3; more++ {
		for _, body := range deepBodies(impl.MaxDeep + more) {
			wantLine(t, "f=\n"+body+";", 1)
			wantLine(t, "g=1;f=\n"+body+"; ", 1)
			// What does not fit behind it is named first.
			wantLine(t, "f=\n"+body+";\n;", 3)
		}
	}
	// The signs ( ) make nothing deeper.
	wantShow(t, strings.Repeat("(", 900)+"1"+strings.Repeat(")", 900), "1")
	wantLine(t, "f = "+strings.Repeat("(", 1900), 1)
	wantLine(t, "f = "+strings.Repeat("\\x.", 600)+"1;", 1)
}

func TestParseHowManyNamesInScope(t *testing.T) {
	lambdas := strings.Repeat("\\a b c d e f.", 14)
	wantProgram(t, "f="+lambdas+"\\a b c d e f.f;")
	wantProgram(t, "f="+lambdas+"\\a b c d e. let x=1 in x;")
	wantProgram(t, "f="+lambdas+"\\a b c d. case 1 of [] -> \\x y. y | h:t -> t;")
	wantProgram(t, "f=("+lambdas+"\\a b c d e f.f) (\\x . x);")
	wantLine(t, "f="+lambdas+"\\a b c d e f.\\a.f;", 1)
	wantLine(t, "f="+lambdas+"\\a b c d e f.let x=1 in 1;", 1)
	wantLine(t, "f="+lambdas+"\\a b c d e. case 1 of [] -> 2 | h:t -> 3;", 1)
	wantLine(t, "f="+lambdas+"\\a b c d. case 1 of [] -> \\x y z. 1 | h:t -> t;", 1)
	wantLine(t, "f="+lambdas+"\\a b c d. case 1 of [] -> 1 | h:t -> \\x . 1;", 1)
	cases := strings.Repeat("case 1 of []->1|h:t->", 45)
	wantProgram(t, "f="+cases+"t;")
	wantLine(t, "f="+cases+"let x=1 in 1;", 1)
	// One definition's scope is none of the next one's.
	wantProgram(t, "f="+lambdas+"1;g="+lambdas+"1;")
}

func TestParseNameThatStandsAhead(t *testing.T) {
	wantLine(t, "f = 1;\nf = 2;", 2)
	wantLine(t, "f = 1; f\n=\n2;", 2)
	wantLine(t, "f = 1;\ng = 1;\nh = 1; g\n\n= 1;\nf\n=\n1;", 5)
	wantLine(t, "f = q;\nf = 1;", 2)
	wantLine(t, "f = 1;\nf = q;", 2)
	wantLine(t, "f = "+strings.Repeat("\\x.", 61)+"1;\nf = 1;", 2)
	wantLine(t, manyDefinitions(31)+"\nd3 = 1;", 33)
	// A word that does not fit is named first, wherever it stands.
	wantLine(t, "f = 1;\nf 2;", 2)
	wantLine(t, "f = 1;\nf = 2;\ng = ;", 3)
	wantLine(t, "f = 1;\nf = 2;\n\nf", 4)
	wantLine(t, "f = 1;\nf = 2;\n\n?", 4)
	wantProgram(t, "f = let f = 1 in let f = 2 in f;")
}

func TestParseLines(t *testing.T) {
	wantLine(t, "", 1)
	wantLine(t, " \n\n ", 1)
	wantLine(t, "f", 1)
	wantLine(t, "\n\nf\n\n", 3)
	wantLine(t, "\n\nf =\n\n", 3)
	wantLine(t, "f =\n1", 2)
	wantLine(t, "f = 1;\ng\n", 2)
	wantLine(t, "f = 1;\n\n;", 3)
	wantLine(t, "f = 1;\n= 1;", 2)
	wantLine(t, "f = 1;\nlet = 1;", 2)
	wantLine(t, "f = 1;\n1 = 1;", 2)
	wantLine(t, "f = (1\n;", 2)
	wantLine(t, "f = q;\ng = 1 1 1 :\n;", 3)
	wantLine(t, "f = 1 1\n+ + 1;\n;;", 2)
	wantLine(t, "f\n==\n1;", 2)
	wantLine(t, "f = let 1\n= 1 in 1;", 1)
	wantLine(t, "f = case 1 of [\n] -> 1;", 1)
	// What Lex refuses is named first.
	wantLine(t, "f =\n;\n\n!", 4)
	wantLine(t, "f = 1;\nf = 1;\nabcdefghi = 1;", 3)
	wantLine(t, "f = 1;\ng = 1234567890;", 2)
	wantLine(t, "\n\nf = 1;"+strings.Repeat(" ", impl.MaxText), 1)
	wantProgram(t, "f = 1;"+strings.Repeat("\n", impl.MaxText-6))
}

// wordLines has each word on a line of its own.
func wordLines(words []string) string { return strings.Join(words, "\n") }

// Promise 2: what is made to be read is read as it was made, and right.
func TestReadProgramsAreRight(t *testing.T) {
	m := newMaker(1)
	done := 0
	for range 6000 {
		words, want := m.program()
		for _, between := range []string{" ", "\n", "  \n "} {
			text := strings.Join(words, between)
			if len(text) > impl.MaxText {
				continue
			}
			done++
			p, line := impl.Parse(text)
			if line != 0 || !reflect.DeepEqual(copyProgram(p), copyProgram(want)) {
				t.Fatalf("Parse(%q) = %v, %d; want %v", text, p, line, want)
			}
			if !impl.ProgramOk(p) {
				t.Fatalf("Parse(%q) = %v is not right", text, p)
			}
			size := 0
			for i, e := range p.Bodies {
				size += plainSize(e)
				if impl.ShowExp(e) != plainShow(e) || !impl.SameExp(e, want.Bodies[i]) {
					t.Fatalf("%q shows %q", text, impl.ShowExp(e))
				}
			}
			if impl.Size(p) != size {
				t.Fatalf("%q: Size %d; want %d", text, impl.Size(p), size)
			}
		}
	}
	if done < 6000 {
		t.Error("only", done, "texts")
	}
}

// repeatedNameLine tells, of words that are a program, the line of the word =
// of the first definition whose name stands ahead, 0 for none.
func repeatedNameLine(words []string) int {
	var names []string
	for i, w := range words {
		if i > 0 && words[i-1] != ";" {
			continue
		}
		if slices.Contains(names, w) {
			return i + 2
		}
		names = append(names, w)
	}
	return 0
}

func wantLineOfGrammar(t *testing.T, words []string) {
	t.Helper()
	text := wordLines(words)
	if len(text) > impl.MaxText {
		return
	}
	p, line := impl.Parse(text)
	want := grammarLine(words)
	if want == 0 {
		want = repeatedNameLine(words)
	}
	switch {
	case want == 0 && line == 0:
		if !impl.ProgramOk(p) {
			t.Fatalf("Parse(%q) = %v is not right", text, p)
		}
	case want == 0 && line == 1 && reflect.DeepEqual(p, impl.Program{}):
	case want != line || !reflect.DeepEqual(p, impl.Program{}):
		t.Fatalf("Parse(%q) = %v, %d; want line %d", text, p, line, want)
	}
}

// Each word of a right program left out, doubled, changed, turned around.
func TestParseLinesOfTheGrammar(t *testing.T) {
	all := slices.Concat([]string{"a", "b", "main", "0", "12"}, languageWords, languageSigns)
	m := newMaker(2)
	for range 120 {
		words, _ := m.program()
		if len(words) > 70 {
			continue
		}
		for i := range words {
			wantLineOfGrammar(t, words[:i])
			wantLineOfGrammar(t, slices.Concat(words[:i], words[i+1:]))
			wantLineOfGrammar(t, slices.Concat(words[:i], words[i:i+1], words[i:]))
			wantLineOfGrammar(t, slices.Concat(words[:i], []string{m.one(all)}, words[i:]))
			wantLineOfGrammar(t, slices.Concat(words[:i], []string{m.one(all)}, words[i+1:]))
		}
		wantLineOfGrammar(t, words)
		wantLineOfGrammar(t, append(slices.Clone(words), words...))
	}
}

func TestParseLinesOfShortTexts(t *testing.T) {
	all := slices.Concat([]string{"a", "7"}, languageWords, languageSigns)
	ahead := [][]string{
		{}, {"a"}, {"a", "="}, {"a", "=", "1"}, {"a", "=", "("}, {"a", "=", "\\"}, {"a", "=", "\\", "a"}, {"a", "=", "let"}, {"a", "=", "let", "a", "=", "1"}, {"a", "=", "if", "1"},
		{"a", "=", "case"}, {"a", "=", "case", "1", "of"}, {"a", "=", "case", "1", "of", "[]", "->", "1", "|"}, {"a", "=", "par"}, {"a", "=", "par", "a"}, {"a", "=", "1", "<", "2"}, {"a", "=", "1", "+"}, {"a", "=", "1", ";"},
	}
	for _, begin := range ahead {
		for _, one := range all {
			for _, two := range all {
				for _, three := range []string{"a", "1", ";", ":", "in", ")", "then"} {
					wantLineOfGrammar(t, slices.Concat(begin, []string{one, two, three}))
				}
			}
		}
	}
}

// A name behind one of these words is one that is named, not one that names.
var wordsAheadOfNamed = []string{"par", "in", "if", "then", "else", "of", "->", "(", "+", "-", "*", "<", "=="}

func TestParseNamesWithoutPlace(t *testing.T) {
	m := newMaker(3)
	done := 0
	for range 1000 {
		words, _ := m.program()
		for i := 1; i < len(words); i++ {
			changed := slices.Clone(words)
			changed[i] = "nowhere"
			text := wordLines(changed)
			if impl.NameOk(words[i]) && slices.Contains(wordsAheadOfNamed, words[i-1]) && len(text) <= impl.MaxText {
				done++
				wantLine(t, text, 1)
			}
		}
	}
	if done < 1000 {
		t.Error("only", done, "names were changed")
	}
}

// chain has deep expressions around a number, each the kid that is numbered
// which of the one around it.
func chain(kind int, which int, deep int) impl.Exp {
	e := num(1)
	for range deep {
		out := impl.Exp{Kind: kind, Kids: []impl.Exp{num(1), num(1), num(1)}[:kidsOfKind[kind]]}
		if kind == impl.ExLam {
			out.N = 1
		}
		if kind == impl.ExOp {
			out.Text = "+"
		}
		if kind == impl.ExPar {
			out.Kids[0] = expN(impl.ExTop, 0)
		}
		out.Kids[which] = e
		e = out
	}
	return e
}

var kidsOfKind = []int{0, 0, 0, 1, 2, 2, 3, 0, 2, 3, 2, 2}

func oneBody(e impl.Exp) impl.Program {
	return impl.Program{Names: []string{"f"}, Bodies: []impl.Exp{e}}
}

func TestShowExpEachKind(t *testing.T) {
	wrong := []impl.Exp{{Kind: 12}, {Kind: -1}, {Kind: math.MaxInt}, {Kind: math.MinInt}}
	for kind, count := range kidsOfKind {
		for kids := range 5 {
			e := impl.Exp{Kind: kind, N: 3, Text: "?", Kids: []impl.Exp{num(1), expN(impl.ExVar, 2), expN(impl.ExTop, -3), exp(impl.ExNil)}[:kids]}
			want := ""
			if kids == count {
				want = plainShow(e)
			} else {
				wrong = append(wrong, e)
			}
			if got := impl.ShowExp(e); got != want {
				t.Errorf("kind %d with %d kids: %q; want %q", kind, kids, got, want)
			}
		}
	}
	for _, e := range wrong {
		around := exp(impl.ExIf, num(1), e, exp(impl.ExCons, e, num(2)))
		if got := impl.ShowExp(e) + impl.ShowExp(around); got != "(if 1 then  else ( : 2))" {
			t.Errorf("%v: %q", e, got)
		}
	}
}

func TestShowExpTellsWhateverNumberAndText(t *testing.T) {
	for _, n := range []int{0, -1, math.MinInt, math.MaxInt, 1000000000} {
		e := exp(impl.ExApp, num(n), exp(impl.ExApp, expN(impl.ExVar, n), exp(impl.ExApp, expN(impl.ExTop, n), expN(impl.ExLam, n, expN(impl.ExNil, n)))))
		d := strconv.Itoa(n)
		if got := impl.ShowExp(e); got != "("+d+" (v"+d+" (t"+d+" (\\"+d+" . []))))" {
			t.Error(got)
		}
	}
	if got := impl.ShowExp(opExp("", num(1), opExp("\x00é", num(2), num(3)))); got != "(1  (2 \x00é 3))" {
		t.Errorf("%q", got)
	}
	if impl.ShowExp(impl.Exp{}) != "0" {
		t.Error("zero value")
	}
}

func TestShowExpHowDeep(t *testing.T) {
	for kind, count := range kidsOfKind {
		for which := range count {
			for _, deep := range []int{59, 60} {
				e := chain(kind, which, deep)
				if impl.ShowExp(e) != plainShow(e) {
					t.Errorf("kind %d, kid %d, %d deep: %q", kind, which, deep, impl.ShowExp(e))
				}
			}
			for _, deep := range []int{61, 62, 200, 100000} {
				e := chain(kind, which, deep)
				got := impl.ShowExp(e)
				cut := &e
				for range impl.MaxDeep {
					cut = &cut.Kids[which]
				}
				want := *cut
				want.Kids = slices.Clone(cut.Kids)
				for i := range want.Kids {
					want.Kids[i] = opExp("", num(0), num(0))
				}
				*cut = want
				if want := strings.ReplaceAll(plainShow(e), "(0  0)", ""); got != want {
					t.Errorf("kind %d, kid %d, %d deep: %q; want %q", kind, which, deep, got, want)
				}
			}
		}
	}
}

// Promise 2, its second half.
func TestSameShowsTheSame(t *testing.T) {
	m := newMaker(4)
	var list []impl.Exp
	for range 150 {
		_, p := m.program()
		list = append(list, p.Bodies...)
	}
	for i, a := range list {
		if !impl.SameExp(a, a) || !impl.SameExp(a, copyExp(a)) || !impl.SameExp(copyExp(a), a) {
			t.Fatalf("%v is not the same", a)
		}
		for _, b := range list[i:] {
			same := reflect.DeepEqual(copyExp(a), copyExp(b))
			if impl.SameExp(a, b) != same || impl.SameExp(b, a) != same {
				t.Fatalf("SameExp(%v, %v) is not %t", a, b, same)
			}
			if same != (impl.ShowExp(a) == impl.ShowExp(b)) {
				t.Fatalf("%v and %v: %q and %q", a, b, impl.ShowExp(a), impl.ShowExp(b))
			}
		}
	}
}

func TestSameExpAsksForAllThatThereIs(t *testing.T) {
	m := newMaker(5)
	changes := []func(e *impl.Exp){
		func(e *impl.Exp) { e.Kind++ },
		func(e *impl.Exp) { e.N-- },
		func(e *impl.Exp) { e.Text += " " },
		func(e *impl.Exp) { e.Kids = append(slices.Clone(e.Kids), impl.Exp{}) },
	}
	for range 100 {
		_, p := m.program()
		for i := range allExps(&p.Bodies[0]) {
			for n, change := range changes {
				other := copyExp(p.Bodies[0])
				change(allExps(&other)[i])
				if impl.SameExp(p.Bodies[0], other) || impl.SameExp(other, p.Bodies[0]) {
					t.Fatalf("%v and %v: change %d is not seen", p.Bodies[0], other, n)
				}
			}
		}
	}
	if !impl.SameExp(impl.Exp{}, impl.Exp{Kids: []impl.Exp{}}) || !impl.SameExp(impl.Exp{Kind: -4, Text: "x"}, impl.Exp{Kind: -4, Text: "x"}) {
		t.Error("an empty list and nil are the same")
	}
	a, b := chain(impl.ExCons, 1, 3000), chain(impl.ExCons, 1, 3000)
	if !impl.SameExp(a, b) || impl.SameExp(a, chain(impl.ExCons, 1, 3001)) {
		t.Error("deep ones")
	}
}

func TestSize(t *testing.T) {
	if impl.Size(impl.Program{}) != 0 || impl.Size(impl.Program{Names: []string{"a", "b"}}) != 0 {
		t.Error("nothing")
	}
	cases := []struct {
		bodies []impl.Exp
		want   int
	}{
		{[]impl.Exp{{}}, 1},
		{[]impl.Exp{{Kind: 99}, {Kind: -1}}, 2},
		{[]impl.Exp{{Kind: 99, Kids: []impl.Exp{{}, {}, {}, {}}}}, 5},
		{[]impl.Exp{chain(impl.ExIf, 1, 10), num(1)}, 32},
		{[]impl.Exp{chain(impl.ExLam, 0, impl.MaxDeep), chain(impl.ExLam, 0, impl.MaxDeep+1)}, 123},
		{[]impl.Exp{chain(impl.ExCons, 0, 100000)}, 200001},
	}
	for _, c := range cases {
		if got := impl.Size(impl.Program{Bodies: c.bodies}); got != c.want {
			t.Errorf("Size %d; want %d", got, c.want)
		}
	}
}

func TestProgramOkNames(t *testing.T) {
	many := func(names, bodies int) impl.Program {
		var p impl.Program
		for i := range names {
			p.Names = append(p.Names, "d"+strconv.Itoa(i))
		}
		p.Bodies = make([]impl.Exp, bodies)
		return p
	}
	for names := range 33 {
		for bodies := range 33 {
			if got := impl.ProgramOk(many(names, bodies)); got != (names == bodies && names >= 1 && names <= 30) {
				t.Errorf("%d names, %d bodies: %t", names, bodies, got)
			}
		}
	}
	for _, name := range append([]string{"", "1", "A", "abcdefghi", "a b", "a\n", "é", "\xff"}, languageWords...) {
		p := many(3, 3)
		p.Names[2] = name
		if impl.ProgramOk(p) {
			t.Errorf("name %q", name)
		}
	}
	for i := range 30 {
		p := many(30, 30)
		p.Names[i] = p.Names[(i+7)%30]
		if impl.ProgramOk(p) {
			t.Errorf("name %d twice", i)
		}
	}
	if impl.ProgramOk(impl.Program{}) || !impl.ProgramOk(oneBody(impl.Exp{})) {
		t.Error("zero values")
	}
}

// Each kind with each number of kids, some numbers and some texts, where two
// names are in scope and there are three definitions.
func TestProgramOkEachKind(t *testing.T) {
	check := func(e impl.Exp) bool {
		return impl.ProgramOk(impl.Program{Names: []string{"f", "g", "h"}, Bodies: []impl.Exp{num(0), expN(impl.ExLam, 2, e), num(0)}})
	}
	numbers := map[int][2]int{impl.ExNum: {0, 999999999}, impl.ExVar: {0, 1}, impl.ExTop: {0, 2}, impl.ExLam: {1, 6}}
	for kind := -2; kind < 15; kind++ {
		for kids := range 5 {
			for _, n := range []int{math.MinInt, -1, 0, 1, 2, 3, 6, 7, 999999999, 1000000000, math.MaxInt} {
				for _, text := range []string{"", "x", "=", "==", "<", "+", "-", "*", "<=", " +", "let", "\x00"} {
					list := []impl.Exp{expN(impl.ExVar, 1), num(7), exp(impl.ExNil), num(1)}[:kids]
					known := kind >= 0 && kind < len(kidsOfKind)
					limits := numbers[kind]
					want := known && kids == kidsOfKind[kind] && limits[0] <= n && n <= limits[1]
					if kind == impl.ExOp {
						want = want && slices.Contains([]string{"==", "<", "+", "-", "*"}, text)
					} else {
						want = want && text == ""
					}
					if got := check(impl.Exp{Kind: kind, N: n, Text: text, Kids: list}); got != want {
						t.Errorf("kind %d, N %d, Text %q, %d kids: %t", kind, n, text, kids, got)
					}
				}
			}
		}
	}
}

func TestProgramOkWhatSparks(t *testing.T) {
	m := newMaker(6)
	list := []impl.Exp{num(0), exp(impl.ExNil), expN(impl.ExLam, 1, num(0)), expN(impl.ExTop, 0), expN(impl.ExVar, 0), {Kind: 12}, {Kind: -1}}
	for range 50 {
		_, p := m.program()
		list = append(list, p.Bodies[0])
	}
	for _, e := range list {
		got := impl.ProgramOk(oneBody(expN(impl.ExLam, 1, exp(impl.ExPar, e, num(1)))))
		right := e.Kind == impl.ExVar && e.N == 0 || e.Kind == impl.ExTop && e.N == 0
		if got != right {
			t.Errorf("par %v: %t", e, got)
		}
	}
}

func TestProgramOkScopes(t *testing.T) {
	v := func(n int) impl.Exp { return expN(impl.ExVar, n) }
	for _, c := range []struct {
		make  func(n int) impl.Exp
		names int
	}{
		{func(n int) impl.Exp { return v(n) }, 0},
		{func(n int) impl.Exp { return expN(impl.ExLam, 1, v(n)) }, 1},
		{func(n int) impl.Exp { return expN(impl.ExLam, 6, v(n)) }, 6},
		{func(n int) impl.Exp { return expN(impl.ExLam, 2, expN(impl.ExLam, 3, v(n))) }, 5},
		{func(n int) impl.Exp { return exp(impl.ExLet, v(n), num(1)) }, 1},
		{func(n int) impl.Exp { return exp(impl.ExLet, num(1), v(n)) }, 1},
		{func(n int) impl.Exp { return exp(impl.ExCase, v(n), num(1), num(1)) }, 0},
		{func(n int) impl.Exp { return exp(impl.ExCase, num(1), v(n), num(1)) }, 0},
		{func(n int) impl.Exp { return exp(impl.ExCase, num(1), num(1), v(n)) }, 2},
		{func(n int) impl.Exp { return exp(impl.ExApp, expN(impl.ExLam, 2, num(1)), v(n)) }, 0},
		{func(n int) impl.Exp { return exp(impl.ExApp, exp(impl.ExLet, num(1), num(1)), v(n)) }, 0},
		{func(n int) impl.Exp { return exp(impl.ExIf, num(1), exp(impl.ExCons, num(1), v(n)), num(1)) }, 0},
		{func(n int) impl.Exp { return expN(impl.ExLam, 1, exp(impl.ExPar, v(n), num(1))) }, 1},
		{func(n int) impl.Exp { return expN(impl.ExLam, 1, exp(impl.ExPar, v(0), v(n))) }, 1},
		{func(n int) impl.Exp { return expN(impl.ExLam, 3, opExp("*", num(1), v(n))) }, 3},
	} {
		for n := -1; n < 9; n++ {
			if e := c.make(n); impl.ProgramOk(oneBody(e)) != (0 <= n && n < c.names) {
				t.Errorf("%s", plainShow(e))
			}
		}
	}
	tops := func(n int) bool {
		return impl.ProgramOk(impl.Program{Names: []string{"f", "g"}, Bodies: []impl.Exp{expN(impl.ExLam, 3, expN(impl.ExTop, n)), num(1)}})
	}
	if tops(-1) || !tops(0) || !tops(1) || tops(2) {
		t.Error("definitions")
	}
}

func TestProgramOkHowDeepAndHowWide(t *testing.T) {
	for kind, count := range kidsOfKind {
		for which := range count {
			// A case's last kid has too many names before it is too deep.
			if kind == impl.ExPar && which == 0 || kind == impl.ExCase && which == 2 {
				continue
			}
			for _, deep := range []int{0, 1, 59, 60, 61, 62, 1000, 100000} {
				if got := impl.ProgramOk(oneBody(chain(kind, which, deep))); got != (deep <= 60) {
					t.Errorf("kind %d, kid %d, %d deep: %t", kind, which, deep, got)
				}
			}
		}
	}
	// The deepest kid counts, whichever it is.
	for which := range 3 {
		kids := []impl.Exp{num(1), num(1), num(1)}
		kids[which] = chain(impl.ExCons, 1, 60)
		if impl.ProgramOk(oneBody(exp(impl.ExIf, kids...))) {
			t.Errorf("kid %d", which)
		}
	}
	if impl.ProgramOk(impl.Program{Names: []string{"f", "g"}, Bodies: []impl.Exp{chain(impl.ExLam, 0, 60), chain(impl.ExLam, 0, 61)}}) {
		t.Error("the second body")
	}
	for _, c := range []struct {
		inner impl.Exp
		most  int
	}{{num(1), 0}, {expN(impl.ExLam, 6, num(1)), 6}, {exp(impl.ExLet, num(1), num(1)), 1}, {exp(impl.ExCase, num(1), num(1), num(1)), 2}} {
		for names := 80; names < 100; names++ {
			e := c.inner
			for left := names; left > 0; left -= min(6, left) {
				e = expN(impl.ExLam, min(6, left), e)
			}
			if got := impl.ProgramOk(oneBody(e)); got != (names+c.most <= 90) {
				t.Errorf("%d names and %d more: %t", names, c.most, got)
			}
		}
	}
}

// sharedExp has the same memory for each kid, so that going through it kid by
// kid would take 2 to the deep steps.
func sharedExp(deep int, leaf impl.Exp) impl.Exp {
	e := leaf
	for range deep {
		kids := []impl.Exp{e, e}
		e = impl.Exp{Kind: impl.ExCons, Kids: kids}
	}
	return e
}

// endlessExp stands within itself.
func endlessExp(kind int, count int) impl.Exp {
	kids := make([]impl.Exp, count)
	e := impl.Exp{Kind: kind, Kids: kids}
	for i := range kids {
		kids[i] = e
	}
	return e
}

// Promise 12 for this chapter: any arguments, shared and endless ones too.
func TestProgramsAnswerAtSharedMemory(t *testing.T) {
	a, b := sharedExp(60, num(1)), sharedExp(60, num(1))
	if !impl.ProgramOk(oneBody(a)) || impl.ProgramOk(oneBody(sharedExp(61, num(1)))) || impl.ProgramOk(oneBody(sharedExp(60, num(-1)))) {
		t.Error("ProgramOk of shared kids")
	}
	if !impl.SameExp(a, b) || impl.SameExp(a, sharedExp(60, num(2))) || impl.SameExp(sharedExp(61, num(1)), a) {
		t.Error("SameExp of shared kids")
	}
	if got := impl.Size(oneBody(sharedExp(50, num(1)))); got != 1<<51-1 {
		t.Error("Size of shared kids", got)
	}
	twice := sharedExp(3, expN(impl.ExVar, 0))
	if impl.ProgramOk(impl.Program{Names: []string{"f", "g"}, Bodies: []impl.Exp{expN(impl.ExLam, 1, twice), twice}}) {
		t.Error("kids in two scopes")
	}
	deep := chain(impl.ExCons, 0, 59)
	if impl.ProgramOk(oneBody(exp(impl.ExCons, deep, exp(impl.ExCons, num(1), deep)))) {
		t.Error("kids in two depths")
	}
	for kind := range kidsOfKind {
		for count := range 4 {
			e := endlessExp(kind, count)
			if count > 0 && (impl.ProgramOk(oneBody(e)) || impl.SameExp(e, num(1)) || !impl.SameExp(e, endlessExp(kind, count))) {
				t.Errorf("endless kind %d, %d kids", kind, count)
			}
			if impl.Size(oneBody(e)) < 1+count {
				t.Errorf("endless kind %d, %d kids: Size %d", kind, count, impl.Size(oneBody(e)))
			}
			if count != kidsOfKind[kind] && impl.ShowExp(e) != "" {
				t.Errorf("endless kind %d, %d kids: %q", kind, count, impl.ShowExp(e))
			}
		}
	}
	if got := impl.ShowExp(endlessExp(impl.ExLam, 1)); got != strings.Repeat("(\\0 . ", 61)+strings.Repeat(")", 61) {
		t.Errorf("%q", got)
	}
}

func TestProgramsAnswerAtAnyArguments(t *testing.T) {
	texts := append(textsOver("f=1;\\. \n", 5), oddTexts(20000)...)
	for _, s := range texts {
		p, line := impl.Parse(s)
		if line < 0 || line == 0 && !impl.ProgramOk(p) || line > 0 && !reflect.DeepEqual(p, impl.Program{}) {
			t.Fatalf("Parse(%q) = %v, %d", s, p, line)
		}
		if lexLine := secondOf(impl.Lex(s)); lexLine != 0 && line != lexLine {
			t.Fatalf("Parse(%q): line %d; Lex tells %d", s, line, lexLine)
		}
	}
}

func secondOf(_ []impl.Token, line int) int { return line }

// Promise 12 for this chapter: nothing is written into an argument, nor into
// the room behind it, and answers share no memory with one.
func TestProgramsLeaveArgumentsAlone(t *testing.T) {
	m := newMaker(7)
	for range 300 {
		words, made := m.program()
		room := impl.Program{Names: append(slices.Clone(made.Names), "spare"), Bodies: append(slices.Clone(made.Bodies), expN(impl.ExLam, 9, num(4)))}
		kept := copyProgram(room)
		p := impl.Program{Names: room.Names[:len(made.Names)], Bodies: room.Bodies[:len(made.Bodies)]}
		impl.ProgramOk(p)
		impl.Size(p)
		for _, e := range p.Bodies {
			impl.ShowExp(e)
			impl.SameExp(e, p.Bodies[0])
		}
		if !reflect.DeepEqual(copyProgram(room), kept) {
			t.Fatalf("%v became %v", kept, room)
		}
		text := strings.Join(words, " ")
		one, line := impl.Parse(text)
		two, _ := impl.Parse(text)
		if line != 0 {
			continue
		}
		spoil(&one)
		if !reflect.DeepEqual(copyProgram(two), copyProgram(made)) {
			t.Fatalf("two answers for %q share memory", text)
		}
	}
}

// spoil writes over all that a program has, the spare room of its lists too.
func spoil(p *impl.Program) {
	for i := range p.Bodies {
		for _, e := range allExps(&p.Bodies[i]) {
			*e = impl.Exp{Kind: -9, Kids: append(e.Kids, impl.Exp{Kind: -9})}
		}
	}
	p.Names = append(p.Names, "spoilt")
	for i := range p.Names {
		p.Names[i] = "spoilt"
	}
	p.Bodies = append(p.Bodies, impl.Exp{Kind: -9})
}

func TestParseListsShareNoMemory(t *testing.T) {
	m := newMaker(8)
	for range 300 {
		words, made := m.program()
		p, line := impl.Parse(strings.Join(words, " "))
		if line != 0 {
			continue
		}
		seen := map[*impl.Exp]bool{}
		for i := range p.Bodies {
			for _, e := range allExps(&p.Bodies[i]) {
				if seen[e] {
					t.Fatal("one expression in two places")
				}
				seen[e] = true
				_ = append(e.Kids, impl.Exp{Kind: -9})
			}
		}
		_ = append(p.Names, "spoilt")
		if !reflect.DeepEqual(copyProgram(p), copyProgram(made)) {
			t.Fatalf("the room behind a list is another one's: %v", p)
		}
	}
}

// textOf shares the bytes, so that writing there is to be seen.
func textOf(b []byte) string { return unsafe.String(&b[0], len(b)) }

func TestParseTextsShareNoMemory(t *testing.T) {
	room := []byte("abc = \\x . 1 == x; de = abc 2; ?")
	s := textOf(room[:len(room)-1])
	p, line := impl.Parse(s)
	if line != 0 {
		t.Fatal(line)
	}
	shown := impl.ShowExp(impl.Exp{Kind: impl.ExOp, Text: textOf(room[13:15]), Kids: []impl.Exp{num(1), num(2)}})
	for i := range room {
		room[i] = '#'
	}
	if !reflect.DeepEqual(p.Names, []string{"abc", "de"}) || impl.ShowExp(p.Bodies[0]) != "(\\1 . (1 == v0))" || shown != "(1 == 2)" {
		t.Errorf("%v %q", p, shown)
	}
}

func TestProgramsKeepNothing(t *testing.T) {
	m := newMaker(9)
	var wait sync.WaitGroup
	for range 8 {
		words, made := m.program()
		text := strings.Join(words, " ")
		if len(text) > impl.MaxText {
			continue
		}
		wait.Go(func() {
			for range 50 {
				impl.Parse("f = (;")
				p, line := impl.Parse(text)
				if line != 0 || !impl.ProgramOk(p) || !reflect.DeepEqual(copyProgram(p), copyProgram(made)) {
					t.Errorf("Parse(%q) = %v, %d", text, p, line)
				}
			}
		})
	}
	wait.Wait()
}
