package tests

import (
	"math"
	"reflect"
	"regexp"
	"strconv"
	"strings"
	"sync"
	"testing"
	"unsafe"

	"loop.example/g00303/impl"
)

var languageWords = []string{"let", "in", "if", "then", "else", "case", "of", "par"}

var languageSigns = []string{"\\", ".", "=", ";", ":", "[]", "->", "|", "==", "<", "+", "-", "*", "(", ")"}

func name(text string, line int) impl.Token {
	return impl.Token{Kind: impl.TokName, Text: text, Line: line}
}

func number(n int, line int) impl.Token {
	return impl.Token{Kind: impl.TokNumber, N: n, Line: line}
}

func sign(text string, line int) impl.Token {
	return impl.Token{Kind: impl.TokSign, Text: text, Line: line}
}

func sameTokens(a, b []impl.Token) bool {
	return len(a) == 0 && len(b) == 0 || reflect.DeepEqual(a, b)
}

func wantWords(t *testing.T, text string, want ...impl.Token) {
	t.Helper()
	list, line := impl.Lex(text)
	if line != 0 || !sameTokens(list, want) {
		t.Errorf("Lex(%.60q) = %v, %d; want %v, 0", text, list, line, want)
	}
}

func wantNoWords(t *testing.T, text string, want int) {
	t.Helper()
	list, line := impl.Lex(text)
	if line != want || len(list) != 0 {
		t.Errorf("Lex(%.60q) = %v, %d; want nothing, %d", text, list, line, want)
	}
}

// textsOver tells all texts of at most most bytes out of letters.
func textsOver(letters string, most int) []string {
	all := []string{""}
	last := all
	for range most {
		var next []string
		for _, s := range last {
			for i := range len(letters) {
				next = append(next, s+letters[i:i+1])
			}
		}
		all = append(all, next...)
		last = next
	}
	return all
}

// oddTexts tells texts of any bytes, always the same ones.
func oddTexts(count int) []string {
	const usual = "let in par 0129 az []->==<+-*().\\;:|\n"
	state := uint64(88172645463325252)
	next := func(n int) int {
		state ^= state << 13
		state ^= state >> 7
		state ^= state << 17
		return int(state % uint64(n))
	}
	var all []string
	for range count {
		b := make([]byte, next(40))
		for i := range b {
			if next(30) == 0 {
				b[i] = byte(next(256))
			} else {
				b[i] = usual[next(len(usual))]
			}
		}
		all = append(all, string(b))
	}
	return all
}

func TestIsWord(t *testing.T) {
	for _, s := range languageWords {
		if !impl.IsWord(s) {
			t.Errorf("IsWord(%q) is false", s)
		}
	}
	for _, s := range []string{"", "l", "le", "lets", "i", "inn", "iff", "pa", "part", "Let", "IN", " in", "in ", "cas", "cases", "off", "o", "=", "[]", "let\x00"} {
		if impl.IsWord(s) {
			t.Errorf("IsWord(%q) is true", s)
		}
	}
}

func TestNameOk(t *testing.T) {
	for _, s := range []string{"a", "z", "a0", "z9", "x1y2", "abcdefgh", "a1234567", "lets", "le", "let1", "inn", "main"} {
		if !impl.NameOk(s) {
			t.Errorf("NameOk(%q) is false", s)
		}
	}
	bad := []string{"", "1", "1a", "abcdefghi", "a12345678", "A", "aB", "a_b", "a b", " a", "a ", "a\n", "a'", "`", "a{", "a/", "a:", "é", "aé", "\x00", "a\xff", strings.Repeat("a", 3000)}
	for _, s := range append(bad, languageWords...) {
		if impl.NameOk(s) {
			t.Errorf("NameOk(%q) is true", s)
		}
	}
}

func TestLexOrdinary(t *testing.T) {
	wantWords(t, "main = f 1;\nf = \\x y . par x in x*2 + y;\n",
		name("main", 1), sign("=", 1), name("f", 1), number(1, 1), sign(";", 1),
		name("f", 2), sign("=", 2), sign("\\", 2), name("x", 2), name("y", 2), sign(".", 2),
		sign("par", 2), name("x", 2), sign("in", 2), name("x", 2), sign("*", 2), number(2, 2),
		sign("+", 2), name("y", 2), sign(";", 2))
	wantWords(t, "case l of [] -> 0 | h:t -> (h<1)",
		sign("case", 1), name("l", 1), sign("of", 1), sign("[]", 1), sign("->", 1), number(0, 1),
		sign("|", 1), name("h", 1), sign(":", 1), name("t", 1), sign("->", 1),
		sign("(", 1), name("h", 1), sign("<", 1), number(1, 1), sign(")", 1))
	wantWords(t, "")
	wantWords(t, "   ")
	wantWords(t, "\n\n \n")
}

func TestLexEachWordAlone(t *testing.T) {
	for _, s := range append(append([]string{}, languageWords...), languageSigns...) {
		wantWords(t, s, sign(s, 1))
		wantWords(t, " \n "+s+"\n", sign(s, 2))
	}
}

func TestLexLongestEachTime(t *testing.T) {
	wantWords(t, "===", sign("==", 1), sign("=", 1))
	wantWords(t, "====", sign("==", 1), sign("==", 1))
	wantWords(t, "= =", sign("=", 1), sign("=", 1))
	wantWords(t, "=\n=", sign("=", 1), sign("=", 2))
	wantWords(t, "-->-", sign("-", 1), sign("->", 1), sign("-", 1))
	wantWords(t, "=->", sign("=", 1), sign("->", 1))
	wantWords(t, "[][]", sign("[]", 1), sign("[]", 1))
	wantWords(t, "letin let in", name("letin", 1), sign("let", 1), sign("in", 1))
	wantWords(t, "if1 iff i", name("if1", 1), name("iff", 1), name("i", 1))
	wantWords(t, "then0 els", name("then0", 1), name("els", 1))
}

func TestLexLettersAndDigits(t *testing.T) {
	wantWords(t, "12ab34", number(12, 1), name("ab34", 1))
	wantWords(t, "1let", number(1, 1), sign("let", 1))
	wantWords(t, "a1 b", name("a1", 1), name("b", 1))
	wantWords(t, "-5", sign("-", 1), number(5, 1))
	wantWords(t, "x-1", name("x", 1), sign("-", 1), number(1, 1))
}

func TestLexNameLength(t *testing.T) {
	wantWords(t, "abcdefgh", name("abcdefgh", 1))
	wantWords(t, "a1234567", name("a1234567", 1))
	wantWords(t, "abcdefgh i", name("abcdefgh", 1), name("i", 1))
	wantNoWords(t, "abcdefghi", 1)
	wantNoWords(t, "a12345678", 1)
	wantNoWords(t, "x\nelsethenof", 2)
}

func TestLexNumberLength(t *testing.T) {
	wantWords(t, "999999999", number(999999999, 1))
	wantWords(t, "0", number(0, 1))
	wantWords(t, "007", number(7, 1))
	wantWords(t, "000000000", number(0, 1))
	wantWords(t, "123456789 0", number(123456789, 1), number(0, 1))
	wantWords(t, "123456789a", number(123456789, 1), name("a", 1))
	wantNoWords(t, "1234567890", 1)
	wantNoWords(t, "0000000000", 1)
	wantNoWords(t, "0000000001", 1)
	wantNoWords(t, "1\n\n99999999999999999999999999", 3)
}

func TestLexTextLength(t *testing.T) {
	wantWords(t, strings.Repeat(" ", impl.MaxText))
	wantNoWords(t, strings.Repeat(" ", impl.MaxText+1), 1)
	wantNoWords(t, strings.Repeat("\n", impl.MaxText+1), 1)
	wantNoWords(t, "x\n!"+strings.Repeat(" ", impl.MaxText), 1)
	list, line := impl.Lex(strings.Repeat("x;", impl.MaxText/2))
	if line != 0 || len(list) != impl.MaxText {
		t.Errorf("%d words, line %d", len(list), line)
	}
	wantNoWords(t, strings.Repeat("x;", impl.MaxText/2)+"x", 1)
	wantNoWords(t, strings.Repeat("\n", impl.MaxText-1)+"!", impl.MaxText)
}

func TestLexLines(t *testing.T) {
	wantWords(t, "a\nb\n\nc d\n", name("a", 1), name("b", 2), name("c", 4), name("d", 4))
	wantWords(t, "\n\na", name("a", 3))
	wantNoWords(t, "a\n\n b @ !", 3)
	wantNoWords(t, "a ! \n @", 1)
	wantNoWords(t, "a\r\nb", 1)
}

func TestLexEachByteAlone(t *testing.T) {
	for c := range 256 {
		s := string([]byte{byte(c)})
		switch {
		case c == ' ' || c == '\n':
			wantWords(t, s)
		case 'a' <= c && c <= 'z':
			wantWords(t, s, name(s, 1))
		case '0' <= c && c <= '9':
			wantWords(t, s, number(c-'0', 1))
		case strings.Contains("\\.=;:|<+-*()", s):
			wantWords(t, s, sign(s, 1))
		default:
			wantNoWords(t, s, 1)
			wantNoWords(t, "x\nx "+s, 2)
		}
	}
	for _, s := range []string{"[ ]", "[x]", "]", "][", ">", ">-", "- >x", "é", "\t", "a_b", "aB", "!="} {
		wantNoWords(t, s, 1)
	}
}

var oneWord = regexp.MustCompile(`^(?:[a-z][a-z0-9]*|[0-9]+|\[\]|->|==|[\\.=;:|<+\-*()])`)

// plainLex tells what Lex does by patterns.
func plainLex(s string) ([]impl.Token, int) {
	var list []impl.Token
	line := 1
	for s != "" {
		if s[0] == ' ' || s[0] == '\n' {
			line += strings.Count(s[:1], "\n")
			s = s[1:]
			continue
		}
		w := oneWord.FindString(s)
		n, err := strconv.Atoi(w)
		switch {
		case w == "", len(w) > 9, len(w) == 9 && err != nil:
			return nil, line
		case err == nil:
			list = append(list, number(n, line))
		case w[0] >= 'a' && w[0] <= 'z' && !strings.Contains(" let in if then else case of par ", " "+w+" "):
			list = append(list, name(w, line))
		default:
			list = append(list, sign(w, line))
		}
		s = s[len(w):]
	}
	return list, 0
}

func TestLexAgainstPatterns(t *testing.T) {
	texts := append(textsOver("in0=->[] \n!", 5), oddTexts(20000)...)
	for _, s := range texts {
		list, line := impl.Lex(s)
		wantList, want := plainLex(s)
		if line != want || !sameTokens(list, wantList) {
			t.Fatalf("Lex(%q) = %v, %d; want %v, %d", s, list, line, wantList, want)
		}
	}
}

func TestDecText(t *testing.T) {
	want := map[int]string{
		0: "0", 7: "7", -7: "-7", 10: "10", -12: "-12", 999999999: "999999999", 1000000000: "1000000000",
		math.MaxInt: "9223372036854775807", math.MinInt: "-9223372036854775808",
	}
	for n, text := range want {
		if impl.DecText(n) != text {
			t.Errorf("DecText(%d) = %q", n, impl.DecText(n))
		}
	}
}

func TestReadDec(t *testing.T) {
	good := map[string]int{"0": 0, "1": 1, "10": 10, "120": 120, "100000000": 100000000, "999999999": 999999999}
	for s, n := range good {
		if impl.ReadDec(s) != n {
			t.Errorf("ReadDec(%q) = %d", s, impl.ReadDec(s))
		}
	}
	bad := []string{
		"", "00", "01", "007", "000000001", "0000000000", "-", "+", "-0", "-1", "-01", "+1", "+0", " 1", "1 ", "1 2", " ", "\n", "1\n",
		"1000000000", "0999999999", "9223372036854775807", "9223372036854775808", "18446744073709551617",
		strings.Repeat("1", 5000), "a", "1a", "0x1", "1e3", "1_0", "1.0", "１", "1\x00", "/", ":", "\xff",
	}
	for _, s := range bad {
		if impl.ReadDec(s) != -1 {
			t.Errorf("ReadDec(%q) = %d", s, impl.ReadDec(s))
		}
	}
}

func TestWordsBetweenBlanks(t *testing.T) {
	cases := []struct {
		text string
		want []string
	}{
		{"", []string{""}},
		{" ", []string{"", ""}},
		{"  ", []string{"", "", ""}},
		{"a", []string{"a"}},
		{"run 1 2", []string{"run", "1", "2"}},
		{" a b ", []string{"", "a", "b", ""}},
		{"a  b", []string{"a", "", "b"}},
		{"a\nb\tc d", []string{"a\nb\tc", "d"}},
		{"\x00 \xff", []string{"\x00", "\xff"}},
		{"\u00a0 \u2003", []string{"\u00a0", "\u2003"}},
	}
	for _, c := range cases {
		if got := impl.Words(c.text); !reflect.DeepEqual(got, c.want) {
			t.Errorf("Words(%q) = %q; want %q", c.text, got, c.want)
		}
	}
	for _, s := range append(oddTexts(2000), strings.Repeat("a ", 10000)) {
		got := impl.Words(s)
		if len(got) != strings.Count(s, " ")+1 || strings.Join(got, " ") != s {
			t.Errorf("Words(%.60q) = %.60q", s, got)
		}
	}
}

// Promise 1, its first half.
func TestNumberComesBackFromItsText(t *testing.T) {
	numbers := []int{0, 1, 9, 10, 11, 99, 100, 101, 12345678, 99999999, 100000000, 123456789, 987654321, 999999998, 999999999}
	for n := 0; n <= 999999999; n += 99991 {
		numbers = append(numbers, n)
	}
	for _, n := range numbers {
		text := impl.DecText(n)
		if impl.ReadDec(text) != n {
			t.Errorf("ReadDec(%q) = %d", text, impl.ReadDec(text))
		}
		wantWords(t, text, number(n, 1))
	}
	for _, n := range []int{-1, -9, -999999999, 1000000000, 1000000001, 4294967296, math.MaxInt, math.MinInt} {
		text := impl.DecText(n)
		if back, err := strconv.Atoi(text); err != nil || back != n {
			t.Errorf("DecText(%d) = %q", n, text)
		}
		if impl.ReadDec(text) != -1 {
			t.Errorf("ReadDec(%q) = %d", text, impl.ReadDec(text))
		}
	}
}

// Promise 1, its second half.
func TestBlanksBehindChangeNoWord(t *testing.T) {
	texts := append(oddTexts(3000), "", "a", "let", "-", "=", "[", "x\n!", "abcdefghi", "123456789", "1234567890", "a\n")
	for _, s := range texts {
		list, line := impl.Lex(s)
		for _, blanks := range []int{1, 2, 17, impl.MaxText - len(s)} {
			more, moreLine := impl.Lex(s + strings.Repeat(" ", blanks))
			if moreLine != line || !sameTokens(list, more) {
				t.Fatalf("%d blanks behind %q: %v, %d; without %v, %d", blanks, s, more, moreLine, list, line)
			}
		}
		wantNoWords(t, s+strings.Repeat(" ", impl.MaxText-len(s)+1), 1)
	}
}

// Promise 12 for this chapter: any arguments.
func TestWordsAnswerAtAnyArguments(t *testing.T) {
	texts := append(textsOver("\x00\xff a0[=\n", 3), oddTexts(2000)...)
	texts = append(texts, strings.Repeat("[", 100000), strings.Repeat("9", 100000), strings.Repeat("a", 100000), strings.Repeat(" ", 100000))
	for _, s := range texts {
		list, line := impl.Lex(s)
		again, lineAgain := impl.Lex(s)
		if line != lineAgain || !sameTokens(list, again) || line < 0 || line > 0 && len(list) != 0 {
			t.Errorf("Lex(%.60q) = %v, %d", s, list, line)
		}
		for _, w := range list {
			if w.Kind == impl.TokName && !impl.NameOk(w.Text) {
				t.Errorf("Lex(%.60q): name %q", s, w.Text)
			}
		}
		if impl.IsWord(s) && impl.NameOk(s) {
			t.Errorf("%.60q is a word and a name", s)
		}
		if n := impl.ReadDec(s); n < -1 || n > 999999999 || n >= 0 && impl.DecText(n) != s {
			t.Errorf("ReadDec(%.60q) = %d", s, n)
		}
		if len(impl.Words(s)) == 0 {
			t.Errorf("Words(%.60q) has no part", s)
		}
	}
}

// Promise 12 for this chapter: nothing is written into an argument or into the
// room behind it, and no answer shares memory with one.
func TestWordsLeaveArgumentsAlone(t *testing.T) {
	const text = "let x1 = [] -> 12 ; par "
	room := []byte(text + "spare room")
	s := unsafe.String(&room[0], len(text))
	list, _ := impl.Lex(s)
	parts := impl.Words(s)
	impl.IsWord(s)
	impl.NameOk(s)
	impl.ReadDec(s)
	if string(room) != text+"spare room" {
		t.Fatalf("written into: %q", room)
	}
	for i := range room {
		room[i] = '!'
	}
	if want, _ := impl.Lex(text); !sameTokens(list, want) {
		t.Errorf("words share memory with their text: %v", list)
	}
	if !reflect.DeepEqual(parts, impl.Words(text)) {
		t.Errorf("parts share memory with their text: %q", parts)
	}
}

// Nothing is kept from one call to another, whoever else calls.
func TestWordsKeepNothing(t *testing.T) {
	const text = "let a = 1 in a"
	want, _ := impl.Lex(text)
	list, _ := impl.Lex(text)
	clear(list)
	parts := impl.Words(text)
	clear(parts)
	var all sync.WaitGroup
	for range 8 {
		all.Go(func() {
			for range 200 {
				if got, line := impl.Lex(text); line != 0 || !sameTokens(got, want) {
					t.Errorf("Lex(%q) = %v, %d", text, got, line)
				}
			}
		})
	}
	all.Wait()
	if strings.Join(impl.Words(text), " ") != text {
		t.Errorf("Words(%q) = %q", text, impl.Words(text))
	}
}
