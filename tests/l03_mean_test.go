package tests

import (
	"math"
	"reflect"
	"slices"
	"strconv"
	"strings"
	"sync"
	"testing"

	"loop.example/g00303/impl"
)

const someFuel = 5000

func wantMean(t *testing.T, text string, fuel int, want string, wantCode int) {
	t.Helper()
	s, code := impl.Mean(wantProgram(t, text), fuel)
	if s != want || code != wantCode {
		t.Errorf("%q with %d means %.80q, %d; want %.80q, %d", text, fuel, s, code, want, wantCode)
	}
}

// wantPrint takes what main is, and other definitions behind it.
func wantPrint(t *testing.T, body string, want string) {
	t.Helper()
	wantMean(t, "main = "+body+";", someFuel, want, impl.MeanOk)
}

func wantStuck(t *testing.T, body string) {
	t.Helper()
	wantMean(t, "main = "+body+";", someFuel, "", impl.MeanStuck)
}

func wantEndless(t *testing.T, body string) {
	t.Helper()
	for _, fuel := range []int{0, 1, 7, someFuel, impl.MaxFuel} {
		wantMean(t, "main = "+body+";", fuel, "", impl.MeanFuel)
	}
}

// wantFuel asks for just enough fuel, and for each that is less.
func wantFuel(t *testing.T, body string, need int, want string, wantCode int) {
	t.Helper()
	for fuel := range need {
		wantMean(t, "main = "+body+";", fuel, "", impl.MeanFuel)
	}
	for _, fuel := range []int{need, need + 1, need + 2, someFuel, impl.MaxFuel} {
		wantMean(t, "main = "+body+";", fuel, want, wantCode)
	}
}

func TestMeanCodes(t *testing.T) {
	if impl.MeanOk != 0 || impl.MeanFuel != 1 || impl.MeanStuck != 2 || impl.MeanNone != 3 || impl.MaxFuel != 100000 {
		t.Error("constants")
	}
}

func TestMeanPrints(t *testing.T) {
	wantPrint(t, "0", "0")
	wantPrint(t, "007", "7")
	wantPrint(t, "999999999", "999999999")
	wantPrint(t, "0 - 1", "-1")
	wantPrint(t, "[]", "[]")
	wantPrint(t, "1 : 2", "(1:2)")
	wantPrint(t, "[] : []", "([]:[])")
	wantPrint(t, "1 : 2 : 3 : []", "(1:(2:(3:[])))")
	wantPrint(t, "((1 : []) : 2 : []) : (3 : 4) : []", "(((1:[]):(2:[])):((3:4):[]))")
	wantPrint(t, "(\\x . x) : (0 - 7) : (\\x y . y) 1", "(fun:(-7:fun))")
	wantPrint(t, "\\x . main", "fun")
	wantPrint(t, "\\a b c d e f . a", "fun")
	wantPrint(t, "(\\a b c d e f . a) 1 2 3 4 5", "fun")
	wantPrint(t, "(\\a b c d e f . a : f : c : []) 1 2 3 4 5 6", "(1:(6:(3:[])))")
	wantPrint(t, "a : b; a = 1; b = a : a", "(1:(1:1))")
}

func TestMeanOfEachSign(t *testing.T) {
	wantPrint(t, "7 + 5", "12")
	wantPrint(t, "7 - 5", "2")
	wantPrint(t, "5 - 7", "-2")
	wantPrint(t, "7 * 5", "35")
	wantPrint(t, "(0 - 7) * 5", "-35")
	wantPrint(t, "7 == 5", "0")
	wantPrint(t, "5 == 5", "1")
	wantPrint(t, "7 < 5", "0")
	wantPrint(t, "5 < 5", "0")
	wantPrint(t, "5 < 7", "1")
	wantPrint(t, "0 - 7 < 0 - 5", "1")
	wantPrint(t, "0 < 0 - 1", "0")
	wantPrint(t, "10 - 3 - 2 + 1 * 4", "9")
}

func TestMeanAround64Bits(t *testing.T) {
	least := "(536870912 * 536870912 * 32)"
	most := "(" + least + " - 1)"
	wantPrint(t, least, "-9223372036854775808")
	wantPrint(t, most, "9223372036854775807")
	wantPrint(t, most+" + 1", "-9223372036854775808")
	wantPrint(t, "0 - "+least, "-9223372036854775808")
	wantPrint(t, most+" * "+most, "1")
	wantPrint(t, most+" * 2", "-2")
	wantPrint(t, least+" * 2", "0")
	wantPrint(t, least+" + "+least, "0")
	wantPrint(t, least+" < "+most, "1")
	wantPrint(t, most+" < "+least, "0")
	wantPrint(t, most+" + 1 == "+least, "1")
	wantPrint(t, least+" - "+most, "1")
	cube := 999999999
	cube *= cube * cube
	wantPrint(t, "999999999 * 999999999 * 999999999", strconv.Itoa(cube))
	// Nothing is cut to fewer bits.
	wantPrint(t, "65536 * 65536", "4294967296")
	wantPrint(t, "65536 * 65536 == 0", "0")
	wantPrint(t, "if 65536 * 65536 then 1 else 2", "1")
	wantPrint(t, "if 65536 * 65536 * 65536 * 65536 then 1 else 2", "2")
}

func TestMeanOfFunctions(t *testing.T) {
	wantPrint(t, "(\\x . x) 5", "5")
	wantPrint(t, "(\\x y . y - x) 1 5", "4")
	wantPrint(t, "(\\x . \\y . y - x) 1 5", "4")
	wantPrint(t, "(\\x . \\y z . x : y : z) 1 2 3", "(1:(2:3))")
	wantPrint(t, "(\\f . f 1 : f 2) ((\\x y . x - y) 10)", "(9:8)")
	// What is in scope where a function stands goes with it, not what is in
	// scope where it is given something.
	wantPrint(t, "let x = 1 in let f = \\y . x in let x = 2 in f x : x", "(1:2)")
	wantPrint(t, "(\\x . (\\f x . f x) (\\y . x : y) 7) 3", "(3:7)")
	wantPrint(t, "(\\x y . (\\x . x : y) y : x) 1 2", "((2:2):1)")
	// A function that has some names can be given the others more than once.
	wantPrint(t, "(\\g . g 2 : g 3 : g) ((\\a b . a : b) 1)", "((1:2):((1:3):fun))")
	wantPrint(t, "(\\g . let h = g 2 in h 4 : g 3 5 : h 6) ((\\a b c . a : b : c) 1)", "((1:(2:4)):((1:(3:5)):(1:(2:6))))")
	wantPrint(t, "twice twice (\\x . x * 2) 1; twice = \\f x . f (f x)", "16")
	wantPrint(t, "\\x . (1 2)", "fun")
	wantPrint(t, "fac 10; fac = \\n . if n == 0 then 1 else n * fac (n - 1)", "3628800")
	wantPrint(t, "len (up 1 5); up = \\a b . if b < a then [] else a : up (a + 1) b; len = \\l . case l of [] -> 0 | h : t -> 1 + len t", "5")
	// A definition has nothing in scope of what asks for it.
	wantPrint(t, "(\\x . x : f 2) 1; f = \\y . y", "(1:2)")
	wantPrint(t, "(\\x y z . f z y x) 1 2 3; f = \\a . g; g = \\b c . b : c", "(2:1)")
}

func TestMeanOfChoices(t *testing.T) {
	wantPrint(t, "if 0 then 1 else 2", "2")
	wantPrint(t, "if 1 then 1 else 2", "1")
	wantPrint(t, "if 0 - 1 then 1 else 2", "1")
	wantPrint(t, "if 5 - 5 then 1 else 2", "2")
	wantPrint(t, "if 7 then [] else 2", "[]")
	wantPrint(t, "case [] of [] -> 1 | h : t -> 2", "1")
	wantPrint(t, "case 8 : 9 of [] -> 1 | h : t -> t - h", "1")
	wantPrint(t, "case 8 : 9 of [] -> 1 | x : x -> x", "9")
	wantPrint(t, "case 1 : 2 : 3 of [] -> 1 | h : t -> case t of [] -> 2 | i : j -> h : i : j : t", "(1:(2:(3:(2:3))))")
	wantPrint(t, "(\\x . case x : x of [] -> x | h : t -> h : t : x) 4", "(4:(4:4))")
	// Head and tail have what was in scope where the pair stood.
	wantPrint(t, "(\\x . \\l . let x = 7 in case l of [] -> 0 | h : t -> h : t : x) 1 ((\\y . y + 1 : y) 4)", "(5:(4:7))")
}

func TestMeanOfLet(t *testing.T) {
	wantPrint(t, "let x = 5 in x", "5")
	wantPrint(t, "let x = 1 in let x = 2 in x", "2")
	wantPrint(t, "let x = 1 in (let x = 2 in x) : x", "(2:1)")
	wantPrint(t, "let x = 1 in let y = x : x in let x = 3 in y : x", "((1:1):3)")
	// A name is in scope of what stands for it.
	wantPrint(t, "let x = 1 : x in case x of [] -> 0 | h : t -> case t of [] -> 0 | i : u -> h + i", "2")
	wantPrint(t, "let f = \\n . if n == 0 then 0 else n + f (n - 1) in f 4", "10")
	wantPrint(t, "let x = 1 in let x = (\\y . 2) x in x", "2")
	wantPrint(t, "let x = 2 : (let y = 1 : y in case y of [] -> x | h : t -> h) in x", "(2:1)")
	wantEndless(t, "let x = x in x")
	wantEndless(t, "let x = 1 in let x = x in x")
	wantEndless(t, "let x = x + 1 in x")
	wantEndless(t, "let x = (x : x) in x")
	wantEndless(t, "let x = let y = x in y in x")
	wantEndless(t, "(\\z . let x = x z in x) 1")
}

func TestMeanOfPar(t *testing.T) {
	wantPrint(t, "par main in 1", "1")
	wantPrint(t, "let x = x in par x in 2", "2")
	wantPrint(t, "(\\x . par x in par x in x) 3", "3")
	wantPrint(t, "par bad in par bad in 4; bad = 1 2", "4")
	wantEndless(t, "par one in main; one = 1")
}

func TestMeanOfWhatIsNotReckoned(t *testing.T) {
	wantPrint(t, "(\\x . 1) main", "1")
	wantPrint(t, "(\\x . 1) (1 2)", "1")
	wantPrint(t, "(\\x y . x) 1 (case 1 of [] -> 1 | h : t -> 1)", "1")
	wantPrint(t, "let x = main in 1", "1")
	wantPrint(t, "let x = [] + [] in 1", "1")
	wantPrint(t, "if 1 then 2 else main", "2")
	wantPrint(t, "if 0 then 1 2 else 3", "3")
	wantPrint(t, "case [] of [] -> 1 | h : t -> main", "1")
	wantPrint(t, "case main : 1 2 of [] -> 1 2 | h : t -> 3", "3")
	wantPrint(t, "case main : 4 of [] -> 1 2 | h : t -> t", "4")
	wantPrint(t, "case 5 : main of [] -> 1 2 | h : t -> h", "5")
	wantPrint(t, "(\\x y . fun); fun = main main", "fun")
	wantPrint(t, "(\\x y . y) main", "fun")
}

func TestMeanOfWhatIsStuck(t *testing.T) {
	wantStuck(t, "1 2")
	wantStuck(t, "[] 2")
	wantStuck(t, "(1 : 2) 3")
	wantStuck(t, "(\\x . x) 1 2")
	wantStuck(t, "(\\x y . x) 1 2 3")
	wantStuck(t, "case 1 of [] -> 2 | h : t -> 3")
	wantStuck(t, "case 0 of [] -> 2 | h : t -> 3")
	wantStuck(t, "case \\x . x of [] -> 2 | h : t -> 3")
	wantStuck(t, "if [] then 1 else 2")
	wantStuck(t, "if 1 : 2 then 1 else 2")
	wantStuck(t, "if \\x . x then 1 else 2")
	for _, sign := range []string{"+", "-", "*", "==", "<"} {
		for _, what := range []string{"[]", "(1 : 2)", "(\\x . x)", "((\\x y . x) 1)", "(1 2)"} {
			wantStuck(t, what+sign+" 1")
			wantStuck(t, "1 "+sign+what)
			wantStuck(t, what+sign+what)
		}
	}
	wantStuck(t, "1 : 2 3")
	wantStuck(t, "1 : (2 3) : []")
	wantStuck(t, "(2 3) : 1")
	wantStuck(t, "(1 : 2 : (3 4) : []) : 1")
	wantStuck(t, "let x = 1 2 in x")
	wantStuck(t, "(\\x . x) (1 2)")
	wantStuck(t, "par one in one one; one = 1")
	wantStuck(t, "if 1 2 then 3 else 4")
	wantStuck(t, "case 1 2 of [] -> 3 | h : t -> 4")
	wantStuck(t, "(1 2) 3")
	wantStuck(t, "bad; bad = 1 2")
}

// Which of two ends there is hangs on which comes first.
func TestMeanEndsAtTheFirstEnd(t *testing.T) {
	for _, sign := range []string{"+", "-", "*", "==", "<"} {
		wantStuck(t, "[] "+sign+" main")
		wantStuck(t, "(1 2) "+sign+" main")
		wantEndless(t, "main "+sign+" []")
		wantEndless(t, "main "+sign+" (1 2)")
		wantEndless(t, "1 "+sign+" main")
	}
	wantStuck(t, "(1 2) : main")
	wantEndless(t, "main : (1 2)")
	wantEndless(t, "1 : main")
	wantStuck(t, "1 2 main")
	wantStuck(t, "1 main")
	wantEndless(t, "main (1 2)")
	wantEndless(t, "if main then 1 2 else 1 2")
	wantEndless(t, "case main of [] -> 1 2 | h : t -> 1 2")
	wantEndless(t, "if 1 then main else 1 2")
	wantEndless(t, "case [] of [] -> main | h : t -> 1 2")
	wantEndless(t, "case [] : [] of [] -> 1 2 | h : t -> main")
	wantStuck(t, "if 0 then main else 1 2")
	// The last fuel goes ahead of what is stuck, and not behind it.
	wantFuel(t, "1 2", 2, "", impl.MeanStuck)
	wantFuel(t, "[] + 1", 2, "", impl.MeanStuck)
	wantFuel(t, "1 + []", 3, "", impl.MeanStuck)
	wantFuel(t, "case 1 of [] -> 2 | h : t -> 3", 2, "", impl.MeanStuck)
	wantFuel(t, "if [] then 2 else 3", 2, "", impl.MeanStuck)
	wantFuel(t, "1 : 2 3", 4, "", impl.MeanStuck)
	wantFuel(t, "(2 3) : 1", 3, "", impl.MeanStuck)
	wantFuel(t, "(\\x . x) 1 2", 5, "", impl.MeanStuck)
}

func TestMeanFuel(t *testing.T) {
	for _, c := range []struct {
		body string
		need int
		want string
	}{
		{"1", 1, "1"},
		{"[]", 1, "[]"},
		{"\\x . x", 1, "fun"},
		{"1 + 2", 3, "3"},
		{"1 + 2 * 3", 5, "7"},
		{"1 : 2", 3, "(1:2)"},
		{"1 : 2 : 3 : []", 7, "(1:(2:(3:[])))"},
		{"(1 : 2) : 3", 5, "((1:2):3)"},
		{"one; one = 1", 2, "1"},
		{"one + one; one = 1", 5, "2"},
		{"(\\x . 1) 2", 3, "1"},
		{"(\\x . x) 2", 4, "2"},
		{"(\\x . x) ((\\y . y) 2)", 7, "2"},
		{"(\\x y . x) 1", 2, "fun"},
		{"(\\x y . x) 1 2", 5, "1"},
		{"(\\a b c d e f . 7) 1 2 3 4 5 6", 8, "7"},
		{"let x = 1 in 2", 2, "2"},
		{"let x = 1 in x", 3, "1"},
		{"let x = 1 in let y = x in y", 5, "1"},
		{"if 1 then 2 else 3 4", 3, "2"},
		{"if 0 then 2 3 else 4", 3, "4"},
		{"case [] of [] -> 1 | h : t -> 2 3", 3, "1"},
		{"case 1 : 2 of [] -> 1 2 | h : t -> 2", 3, "2"},
		{"case 1 : 2 of [] -> 1 2 | h : t -> h", 4, "1"},
		{"case 1 : 2 of [] -> 1 2 | h : t -> t", 4, "2"},
		{"par main in 1", 2, "1"},
		{"let x = 1 in par x in x", 4, "1"},
		// A name is reckoned over again each time it is asked for.
		{"let x = 1 + 1 in x", 5, "2"},
		{"let x = 1 + 1 in x + x", 10, "4"},
		{"let x = 1 + 1 in x + x + x", 15, "6"},
		{"(\\x . x : x) (1 + 1)", 11, "(2:2)"},
		{"(\\x . x x) (\\y . 3)", 6, "3"},
		{"two + two; two = 1 + 1", 9, "4"},
		{"case (1 + 1) : [] of [] -> 0 | h : t -> h * h", 11, "4"},
		{"let x = 1 : x in case x of [] -> 0 | h : t -> case t of [] -> 0 | i : u -> i", 10, "1"},
	} {
		wantFuel(t, c.body, c.need, c.want, impl.MeanOk)
	}
}

func TestMeanHowMuchFuel(t *testing.T) {
	text := "main = 1 + 2;"
	for _, fuel := range []int{-1, -2, impl.MaxFuel + 1, impl.MaxFuel + 2, math.MinInt, math.MaxInt, math.MaxInt32, 1 << 32, 1<<32 + 5} {
		wantMean(t, text, fuel, "", impl.MeanNone)
		wantMean(t, "main = 1 2;", fuel, "", impl.MeanNone)
		wantMean(t, "main = main;", fuel, "", impl.MeanNone)
		if got := impl.MeanAll(wantProgram(t, "a = 1; b = 1 2; main = main;"), fuel); !slices.Equal(got, []int{3, 3, 3}) {
			t.Errorf("MeanAll with %d: %v", fuel, got)
		}
	}
	wantMean(t, text, 0, "", impl.MeanFuel)
	wantMean(t, text, impl.MaxFuel, "3", impl.MeanOk)
}

// spender makes a program that takes 99993 of the fuel, and 1 more for each of
// some pars: d numbered k takes 2 to the (k + 2), less 3, and is 2 to the k.
func spender(pars int) string {
	var text strings.Builder
	text.WriteString("main = " + strings.Repeat("par d0 in ", pars) + "d14 + d13 + d8 + d7 + d5 + d3; d0 = 1;")
	for k := range 14 {
		d := "d" + strconv.Itoa(k)
		text.WriteString("d" + strconv.Itoa(k+1) + " = " + d + " + " + d + ";")
	}
	return text.String()
}

func TestMeanJustMaxFuel(t *testing.T) {
	wantMean(t, spender(0), 99992, "", impl.MeanFuel)
	wantMean(t, spender(0), 99993, "25000", impl.MeanOk)
	wantMean(t, spender(7), impl.MaxFuel-1, "", impl.MeanFuel)
	wantMean(t, spender(7), impl.MaxFuel, "25000", impl.MeanOk)
	wantMean(t, spender(7), impl.MaxFuel+1, "", impl.MeanNone)
	wantMean(t, spender(8), impl.MaxFuel, "", impl.MeanFuel)
	// Each definition has all of the fuel.
	want := make([]int, 16)
	if got := impl.MeanAll(wantProgram(t, spender(7)), impl.MaxFuel); !slices.Equal(got, want) {
		t.Error(got)
	}
	want[0] = impl.MeanFuel
	if got := impl.MeanAll(wantProgram(t, spender(8)), impl.MaxFuel); !slices.Equal(got, want) {
		t.Error(got)
	}
}

func TestMeanHalfPrinted(t *testing.T) {
	text := "up = \\a b . if b < a then [] else a : up (a + 1) b; main = up 1 3;"
	p := wantProgram(t, text)
	ended := false
	for fuel := range 300 {
		s, code := impl.Mean(p, fuel)
		switch {
		case code == impl.MeanOk && s == "(1:(2:(3:[])))":
			ended = true
		case code != impl.MeanFuel || s != "" || ended:
			t.Fatalf("fuel %d: %q, %d", fuel, s, code)
		}
	}
	if !ended {
		t.Error("it never ends")
	}
}

func TestMeanOfMuch(t *testing.T) {
	// As deep, and as long, as fuel allows.
	for _, body := range []string{
		"main", "main + 1", "1 + main", "main 1", "main : 1", "1 : main", "(1 : main) : 2", "if main then 1 else 2", "case main of [] -> 1 | h : t -> 2",
		"(\\x . main) 1", "let x = main in x", "par main in main", "f 1; f = \\x . f (x + 1)", "f 1; f = \\x . x + f (x + 1)", "f 1; f = \\x . x : f (x + 1)", "f [] ; f = \\x . f (1 : x)",
		"(\\x . x x) (\\x . x x)", "(\\f . (\\x . f (x x)) (\\x . f (x x))) (\\f n . f (n + 1)) 0", "let l = 1 : l in l", "let l = l : 1 in l", "f main 1; f = \\x y . f (f x) y",
	} {
		wantEndless(t, body)
	}
}

// wantPlain holds a program's meaning, and all its definitions', against the
// plain machine.
func wantPlain(t *testing.T, p impl.Program, fuel int) int {
	t.Helper()
	codes := impl.MeanAll(p, fuel)
	if len(codes) != len(p.Names) {
		t.Fatalf("MeanAll(%v, %d) = %v", p, fuel, codes)
	}
	for top := range codes {
		_, want := plainMean(p, top, fuel)
		if codes[top] != want {
			t.Fatalf("MeanAll(%v, %d) = %v; want %d at %d", p, fuel, codes, want, top)
		}
	}
	text, code := impl.Mean(p, fuel)
	want, wantCode := "", impl.MeanNone
	if main := slices.Index(p.Names, "main"); main >= 0 {
		want, wantCode = plainMean(p, main, fuel)
	}
	if text != want || code != wantCode {
		t.Fatalf("Mean(%v, %d) = %.80q, %d; want %.80q, %d", p, fuel, text, code, want, wantCode)
	}
	return code
}

func TestMeanIsThatOfThePlainMachine(t *testing.T) {
	m := newSortMaker(1)
	counts := map[int]int{}
	for range 3000 {
		p := m.program()
		for _, fuel := range []int{0, 1, 2, 3, 5, 8, 13, 21, 34, 55, 89, 144} {
			wantPlain(t, p, fuel)
		}
		counts[wantPlain(t, p, 700)]++
	}
	if counts[impl.MeanOk] < 1000 || counts[impl.MeanFuel] < 100 || counts[impl.MeanStuck] < 100 {
		t.Error("too few of some kind:", counts)
	}
	any := newMaker(9)
	for range 2000 {
		_, p := any.program()
		wantPlain(t, p, 10)
		counts[wantPlain(t, p, 150)]++
	}
	if counts[impl.MeanNone] < 500 {
		t.Error("too few without main:", counts)
	}
}

// Promise 3: what a program means with some fuel it means with more; and so
// does what is stuck.
func TestMoreFuelMeansTheSame(t *testing.T) {
	m := newSortMaker(2)
	done := 0
	for range 800 {
		p := m.program()
		text, code := "", impl.MeanFuel
		for fuel := range 150 {
			moreText, more := impl.Mean(p, fuel)
			if code != impl.MeanFuel && (moreText != text || more != code) {
				t.Fatalf("%v means %q, %d; with %d %q, %d", p, text, code, fuel, moreText, more)
			}
			text, code = moreText, more
		}
		if code == impl.MeanFuel {
			continue
		}
		done++
		for _, fuel := range []int{150, 999, 12345, impl.MaxFuel - 1, impl.MaxFuel} {
			if moreText, more := impl.Mean(p, fuel); moreText != text || more != code {
				t.Fatalf("%v means %q, %d; with %d %q, %d", p, text, code, fuel, moreText, more)
			}
		}
	}
	if done < 500 {
		t.Error("only", done, "programs end")
	}
}

func wantNone(t *testing.T, p impl.Program, fuel int) {
	t.Helper()
	if text, code := impl.Mean(p, fuel); text != "" || code != impl.MeanNone {
		t.Errorf("Mean(%v, %d) = %q, %d", p, fuel, text, code)
	}
	codes := impl.MeanAll(p, fuel)
	for _, code := range codes {
		if code != impl.MeanNone {
			t.Errorf("MeanAll(%v, %d) = %v", p, fuel, codes)
		}
	}
	if len(codes) != len(p.Names) {
		t.Errorf("MeanAll(%v, %d) = %v", p, fuel, codes)
	}
}

func mainAnd(bodies ...impl.Exp) impl.Program {
	p := impl.Program{Bodies: bodies}
	for i := range bodies {
		p.Names = append(p.Names, "d"+strconv.Itoa(i))
	}
	p.Names[0] = "main"
	return p
}

// wrongPrograms are not ProgramOk, each for one reason.
func wrongPrograms() []impl.Program {
	return []impl.Program{
		{},
		{Names: []string{}, Bodies: []impl.Exp{}},
		{Names: []string{"main"}},
		{Names: []string{"main", "a"}, Bodies: []impl.Exp{num(1)}},
		{Bodies: []impl.Exp{num(1)}},
		{Names: []string{"main"}, Bodies: []impl.Exp{num(1), num(2)}},
		{Names: []string{"main", "main"}, Bodies: []impl.Exp{num(1), num(1)}},
		{Names: []string{"main", "a", "a"}, Bodies: []impl.Exp{num(1), num(1), num(1)}},
		{Names: []string{"main", "let"}, Bodies: []impl.Exp{num(1), num(1)}},
		{Names: []string{"main", ""}, Bodies: []impl.Exp{num(1), num(1)}},
		{Names: []string{"main", "abcdefghi"}, Bodies: []impl.Exp{num(1), num(1)}},
		mainAnd(num(-1)),
		mainAnd(num(1000000000)),
		mainAnd(num(1), num(-1)),
		mainAnd(impl.Exp{Kind: 12}),
		mainAnd(impl.Exp{Kind: -1}),
		mainAnd(impl.Exp{Kind: math.MinInt}),
		mainAnd(num(1), impl.Exp{Kind: math.MaxInt}),
		mainAnd(expN(impl.ExVar, 0)),
		mainAnd(expN(impl.ExVar, -1)),
		mainAnd(expN(impl.ExTop, 1)),
		mainAnd(expN(impl.ExTop, -1)),
		mainAnd(expN(impl.ExLam, 1, expN(impl.ExVar, 1))),
		mainAnd(expN(impl.ExLam, 0, num(1))),
		mainAnd(expN(impl.ExLam, 7, num(1))),
		mainAnd(expN(impl.ExLam, 1)),
		mainAnd(exp(impl.ExApp, num(1))),
		mainAnd(exp(impl.ExIf, num(1), num(1))),
		mainAnd(exp(impl.ExCase, num(1), num(1))),
		mainAnd(exp(impl.ExCons)),
		mainAnd(opExp("/", num(1), num(1))),
		mainAnd(opExp("", num(1), num(1))),
		mainAnd(exp(impl.ExPar, num(1), num(1))),
		mainAnd(exp(impl.ExIf, num(1), num(1), expN(impl.ExVar, 0))),
		mainAnd(exp(impl.ExLet, num(1), expN(impl.ExVar, 1))),
		mainAnd(chain(impl.ExLet, 1, impl.MaxDeep+1)),
		mainAnd(chain(impl.ExCons, 0, 100000)),
		mainAnd(make([]impl.Exp, 31)...),
		mainAnd(endlessExp(impl.ExPar, 2)),
		mainAnd(endlessExp(impl.ExApp, 2)),
	}
}

func TestMeanOfNoProgram(t *testing.T) {
	for _, p := range wrongPrograms() {
		for _, fuel := range []int{-1, 0, 1, someFuel, impl.MaxFuel, impl.MaxFuel + 1} {
			wantNone(t, p, fuel)
		}
	}
	long := impl.Program{Names: make([]string, 100000), Bodies: make([]impl.Exp, 100000)}
	if got := impl.MeanAll(long, 9); len(got) != 100000 || slices.Min(got) != impl.MeanNone || slices.Max(got) != impl.MeanNone {
		t.Error("many names")
	}
	if text, code := impl.Mean(mainAnd(make([]impl.Exp, 30)...), 1); text != "0" || code != impl.MeanOk {
		t.Error("30 definitions", text, code)
	}
}

func TestMeanWithoutMain(t *testing.T) {
	for _, text := range []string{"x = 1;", "man = 1; mainx = 2; main1 = 3;", "x = let main = 1 in main;", "x = \\main . main;"} {
		for _, fuel := range []int{0, 1, someFuel, impl.MaxFuel} {
			wantMean(t, text, fuel, "", impl.MeanNone)
		}
	}
}

func TestMeanAll(t *testing.T) {
	for _, c := range []struct {
		text string
		fuel int
		want []int
	}{
		{"main = 1;", 1, []int{0}},
		{"main = 1;", 0, []int{1}},
		{"x = 1;", 1, []int{0}},
		{"a = 1; b = a a; c = c; d = \\x . x;", 50, []int{0, 2, 1, 0}},
		{"a = 1; b = a a; c = c; main = 1 2; d = \\x . x;", 50, []int{0, 2, 1, 2, 0}},
		{"a = 1; b = a; c = b; d = c;", 3, []int{0, 0, 0, 1}},
		{"a = 1; b = a; c = b; d = c;", 0, []int{1, 1, 1, 1}},
		{"d = c; c = b; b = a; a = 1 1;", 3, []int{1, 1, 2, 2}},
		{"a = main; main = 1 : 2;", 4, []int{0, 0}},
		{"a = main; main = 1 : 2;", 3, []int{1, 0}},
		{"a = let main = 1 in main; b = \\main . main;", 9, []int{0, 0}},
	} {
		if got := impl.MeanAll(wantProgram(t, c.text), c.fuel); !slices.Equal(got, c.want) {
			t.Errorf("MeanAll(%q, %d) = %v; want %v", c.text, c.fuel, got, c.want)
		}
	}
}

// Of each definition that Mean tells, if it has the name main, and main its.
func TestMeanAllIsMeanOfEach(t *testing.T) {
	m := newSortMaker(3)
	for range 1000 {
		p := m.program()
		for _, fuel := range []int{-1, 0, 4, 20, 300, impl.MaxFuel + 1} {
			codes := impl.MeanAll(p, fuel)
			for top := range p.Names {
				q := copyProgram(p)
				main := slices.Index(q.Names, "main")
				q.Names[main], q.Names[top] = q.Names[top], q.Names[main]
				if _, code := impl.Mean(q, fuel); code != codes[top] {
					t.Fatalf("MeanAll(%v, %d) = %v; want %d at %d", p, fuel, codes, code, top)
				}
			}
		}
	}
}

// Promise 12 for this chapter: kids that share memory, and any argument.
func TestMeanAnswersAtSharedMemory(t *testing.T) {
	shared := expN(impl.ExTop, 1)
	for range 58 {
		kids := []impl.Exp{shared, shared}
		shared = impl.Exp{Kind: impl.ExOp, Text: "+", Kids: kids}
	}
	p := mainAnd(shared, num(1))
	for _, fuel := range []int{0, 5, 58, 60, impl.MaxFuel} {
		if text, code := impl.Mean(p, fuel); text != "" || code != impl.MeanFuel {
			t.Errorf("%q, %d", text, code)
		}
	}
	if text, code := impl.Mean(mainAnd(sharedExp(3, num(1))), someFuel); text != "(((1:1):(1:1)):((1:1):(1:1)))" || code != impl.MeanOk {
		t.Errorf("%q, %d", text, code)
	}
	// The same memory with two scopes stands for two things.
	twice := expN(impl.ExLam, 2, exp(impl.ExCons, expN(impl.ExVar, 1), expN(impl.ExVar, 0)))
	e := exp(impl.ExCons, exp(impl.ExApp, exp(impl.ExApp, twice, num(1)), num(2)), exp(impl.ExApp, exp(impl.ExApp, twice, num(3)), num(4)))
	if text, code := impl.Mean(mainAnd(e), someFuel); text != "((2:1):(4:3))" || code != impl.MeanOk {
		t.Errorf("%q, %d", text, code)
	}
}

func TestMeanAnswersAtAnyProgram(t *testing.T) {
	m := newSortMaker(4)
	for range 3000 {
		p := m.program()
		all := allExps(&p.Bodies[m.IntN(len(p.Bodies))])
		e := all[m.IntN(len(all))]
		switch m.IntN(5) {
		case 0:
			e.Kind = m.IntN(14) - 1
		case 1:
			e.N += m.IntN(3) - 1
		case 2:
			e.Text += []string{"+", "x", "\x00"}[m.IntN(3)]
		case 3:
			e.Kids = append(slices.Clone(e.Kids), num(1))
		case 4:
			*e = *all[m.IntN(len(all))]
		}
		for _, fuel := range []int{0, 30, 200} {
			if impl.ProgramOk(p) {
				wantPlain(t, p, fuel)
			} else {
				wantNone(t, p, fuel)
			}
		}
	}
}

// Promise 12 for this chapter: nothing is written into an argument, nor into
// the room behind it, and answers share no memory.
func TestMeanLeavesArgumentsAlone(t *testing.T) {
	m := newSortMaker(5)
	for range 500 {
		made := m.program()
		room := impl.Program{Names: append(slices.Clone(made.Names), "spare"), Bodies: append(slices.Clone(made.Bodies), expN(impl.ExLam, 9, num(4)))}
		for i := range made.Bodies {
			for _, e := range allExps(&room.Bodies[i]) {
				e.Kids = append(slices.Clone(e.Kids), expN(impl.ExLam, 8))[:len(e.Kids)]
			}
		}
		kept, spares := copyProgram(room), sparesOf(room)
		p := impl.Program{Names: room.Names[:len(made.Names)], Bodies: room.Bodies[:len(made.Bodies)]}
		text, code := impl.Mean(p, 300)
		codes := impl.MeanAll(p, 300)
		if !reflect.DeepEqual(copyProgram(room), kept) || !reflect.DeepEqual(sparesOf(room), spares) {
			t.Fatalf("%v became %v", kept, room)
		}
		again := impl.MeanAll(p, 300)
		clear(codes[:cap(codes)])
		if fresh := impl.MeanAll(p, 300); !slices.Equal(again, fresh) {
			t.Fatalf("%v and %v", again, fresh)
		}
		if moreText, more := impl.Mean(p, 300); moreText != text || more != code {
			t.Fatalf("%q, %d and %q, %d", text, code, moreText, more)
		}
	}
}

// sparesOf copies what stands in the room behind all kids.
func sparesOf(p impl.Program) []impl.Exp {
	var spares []impl.Exp
	for i := range p.Bodies {
		for _, e := range allExps(&p.Bodies[i]) {
			for _, spare := range e.Kids[len(e.Kids):cap(e.Kids)] {
				spares = append(spares, copyExp(spare))
			}
		}
	}
	return spares
}

// Nothing is kept from one call to another, nor shared by calls at one time.
func TestMeanAtOneTime(t *testing.T) {
	m := newSortMaker(6)
	var list []impl.Program
	for range 40 {
		list = append(list, m.program())
	}
	var wait sync.WaitGroup
	for range 8 {
		wait.Go(func() {
			for _, p := range list {
				for _, fuel := range []int{7, 90} {
					want, wantCode := plainMean(p, slices.Index(p.Names, "main"), fuel)
					if text, code := impl.Mean(p, fuel); text != want || code != wantCode {
						t.Errorf("Mean(%v, %d) = %q, %d; want %q, %d", p, fuel, text, code, want, wantCode)
					}
				}
			}
		})
	}
	wait.Wait()
}
