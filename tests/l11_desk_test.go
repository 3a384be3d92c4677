package tests

import (
	"fmt"
	"maps"
	"slices"
	"strings"
	"sync"
	"testing"

	"loop.example/g00303/impl"
)

// fetching is a program of which the work that can be shared wants something that
// is not shared.
const fetching = "main = let x = 2 + 3 in let y = x * 2 in par y in y : x;"

// commandWords has each command with how many numbers it has.
var commandWords = map[string]int{
	"show": 0, "net": 0, "nodes": 1, "mean": 1, "solo": 1, "send": 1, "tick": 1, "deliver": 1, "drop": 1, "twice": 1, "cut": 1, "clear": 1, "calm": 1, "fish": 2, "run": 3,
}

func wantDesk(t *testing.T, text string, want string) {
	t.Helper()
	if got := plainDesk(text); got != want {
		t.Fatalf("the oracle tells %.2000q of %.2000q; want %.2000q", got, text, want)
	}
	if got := impl.Desk(text); got != want {
		t.Fatalf("Desk(%.2000q) = %.2000q; want %.2000q", text, got, want)
	}
}

// wantSession asks for the answers to a program and to commands: a line, a colon
// and its answer each.
func wantSession(t *testing.T, program string, list ...string) {
	t.Helper()
	text, want := program+"\n--\n", "ok\n"
	for _, item := range list {
		line, answer, _ := strings.Cut(item, ": ")
		text += line + "\n"
		want += answer + "\n"
	}
	wantDesk(t, text, want)
}

// wantPlainDesk asks for what the oracle tells.
func wantPlainDesk(t *testing.T, text string) string {
	t.Helper()
	want := plainDesk(text)
	wantDesk(t, text, want)
	return want
}

func TestMaxScript(t *testing.T) {
	if impl.MaxScript != 8000 {
		t.Error(impl.MaxScript)
	}
}

// What is shown of a cluster and its net behind each event: node 2 fishes for
// work of node 0 over a net that loses, doubles, turns around and cuts.
func TestDeskWrittenOut(t *testing.T) {
	wantSession(t, lending,
		"mean 100: (5:3)", "solo 100: (5:3)", "show: 2 1 1 0 0 0;net 0;", "net: -",
		"nodes 3: ok", "show: 2 1 1 0 0 0;2 0 0 0 0 0;2 0 0 0 0 0;net 0;", "net: -", "calm 0: -",
		"run 0 0 4: ok", "show: 5 1 1 1 0 0;2 0 0 0 0 0;2 0 0 0 0 0;net 0;",
		"fish 2 0: ok", "net: -", "send 2: ok", "net: fish 2 > 0;", "show: 5 1 1 1 0 0;2 0 0 0 0 0;2 0 0 0 0 1;net 1;",
		"send 2: ok", "net: fish 2 > 0;", "tick 2: ok", "net: fish 2 > 0;fish 2 > 0;", "drop 1: ok", "net: fish 2 > 0;",
		"twice 0: ok", "net: fish 2 > 0;fish 2 > 0;", "deliver 0: ok", "net: fish 2 > 0;ack 0 > 2 1;", "deliver 0: ok", "net: ack 0 > 2 1;ack 0 > 2 1;",
		"run 0 0 50: ok", "send 0: ok", "show: 5 1 1 0 1 1;2 0 0 0 0 0;2 0 0 0 0 1;net 3;", "net: ack 0 > 2 1;ack 0 > 2 1;work 0 > 2 0 t 0 5 0;",
		"cut 2: ok", "net: ack 0 > 2 1;ack 0 > 2 1;?;", "deliver 1: ok", "net: ack 0 > 2 1;?;", "deliver 1: ok", "net: ack 0 > 2 1;", "deliver 0: ok", "net: -",
		"tick 2: ok", "net: -", "tick 0: ok", "net: work 0 > 2 0 t 0 5 0;", "deliver 0: ok", "net: ack 2 > 0 1;",
		"run 2 0 2: ok", "show: 5 1 1 0 1 1;2 0 0 0 0 0;4 1 1 0 0 0;net 1;", "clear 0: ok", "show: 4 1 1 0 1 1;2 0 0 0 0 0;4 1 1 0 0 0;net 1;",
		"run 2 0 50: ok", "clear 2: ok", "show: 4 1 1 0 1 1;2 0 0 0 0 0;2 1 0 0 0 0;net 1;", "send 2: ok", "net: ack 2 > 0 1;give 2 > 0 0 i 5 0;",
		"deliver 1: ok", "net: ack 2 > 0 1;ack 0 > 2 2;", "deliver 0: ok", "calm 0: -", "run 0 0 100: ok", "calm 0: (5:3)",
		"show: 5 1 0 0 1 0;2 0 0 0 0 0;2 1 0 0 0 1;net 1;", "calm 200: (5:3)", "net: ack 0 > 2 2;", "what: what", "nodes 1: ok", "show: 2 1 1 0 0 0;net 0;",
	)
}

// The net with a message of each kind, an acknowledgement and what is no pack.
func TestDeskNet(t *testing.T) {
	wantSession(t, fetching,
		"nodes 2: ok", "net: -", "run 0 0 4: ok", "fish 1 0: ok", "send 1: ok", "twice 0: ok", "deliver 0: ok", "send 0: ok", "net: fish 1 > 0;ack 0 > 1 1;work 0 > 1 0 t 0 5 1 0;",
		"twice 2: ok", "deliver 2: ok", "run 1 0 20: ok", "send 1: ok", "net: fish 1 > 0;ack 0 > 1 1;work 0 > 1 0 t 0 5 1 0;ack 1 > 0 1;fetch 1 > 0 1 0;",
		"twice 4: ok", "deliver 4: ok", "run 0 1 20: ok", "send 0: ok",
		"net: fish 1 > 0;ack 0 > 1 1;work 0 > 1 0 t 0 5 1 0;ack 1 > 0 1;fetch 1 > 0 1 0;ack 0 > 1 2;give 0 > 1 0 i 5 0;",
		"cut 3: ok", "net: fish 1 > 0;ack 0 > 1 1;work 0 > 1 0 t 0 5 1 0;?;fetch 1 > 0 1 0;ack 0 > 1 2;give 0 > 1 0 i 5 0;",
		"show: 6 2 1 0 2 2;3 1 1 0 1 2;net 7;",
		"cut 0: ok", "cut 6: ok", "net: ?;ack 0 > 1 1;work 0 > 1 0 t 0 5 1 0;?;fetch 1 > 0 1 0;ack 0 > 1 2;?;",
		"calm 50: (10:5)",
	)
	// One without any byte left is still one that is none.
	length := len(packBytes(dataOf(fishMsg(1, 0), 1, 1)))
	for _, cuts := range []int{1, 2, length - 1, length, length + 1} {
		text := lending + "\n--\nnodes 2\nfish 1 0\nsend 1\nfish 0 1\nsend 0\n" + strings.Repeat("cut 1\n", cuts) + "net\ndeliver 1\nnet\n"
		wantDesk(t, text, strings.Repeat("ok\n", 6+cuts)+"fish 1 > 0;?;\nok\nfish 1 > 0;\n")
	}
	// As many as the net has room for.
	text := lending + "\n--\nnodes 2\n" + strings.Repeat("fish 1 0\n", 20) + "send 1\n" + strings.Repeat("tick 1\n", 20) + "net\nshow\ntwice 299\ntwice 300\nshow\n"
	wantDesk(t, text, strings.Repeat("ok\n", 43)+strings.Repeat("fish 1 > 0;", 300)+"\n2 1 1 0 0 0;2 0 0 0 0 20;net 300;\nok\nok\n2 1 1 0 0 0;2 0 0 0 0 20;net 300;\n")
}

// Each cell that a message may have is told, a function and a pair too.
func TestDeskNetOfCells(t *testing.T) {
	for program, want := range map[string]string{
		"main = let y = 1 : [] in par y in y;":                     "give 1 > 0 0 c 0 0 0 1;",
		"main = let y = [] in par y in y;":                         "give 1 > 0 0 n 0 0;",
		"main = let y = \\a b . a in par y in y;":                  "give 1 > 0 0 f 2 2 0;",
		"main = let y = 0 - 7 in par y in y;":                      "give 1 > 0 0 i -7 0;",
		"f = \\x . x; main = let y = f in par y in y : y;":         "give 1 > 0 0 f 1 1;",
		"main = let z = 5 in let y = \\a . z in par y in y : [];":  "give 1 > 0 0 f 1 4 0 1;",
		"main = let y = (let z = 1 + 1 in z : z) in par y in y;":   "give 1 > 0 0 c 0 0 0 0;",
		"l = 1 : l; main = let y = l in par y in y;":               "give 1 > 0 0 c 0 0 0 1;",
		"main = let y = 999999999 * 999999999 in par y in y : [];": "give 1 > 0 0 i 999999998000000001 0;",
	} {
		text := program + "\n--\nnodes 2\nrun 0 0 4\nfish 1 0\nsend 1\ndeliver 0\nsend 0\ndeliver 1\nrun 1 0 30\ndeliver 0\ndeliver 0\nsend 1\nnet\n"
		told := wantPlainDesk(t, text)
		lines := strings.Split(told, "\n")
		if got := lines[len(lines)-2]; got != want {
			t.Errorf("%s: %q is told; want %q", program, got, want)
		}
	}
}

// The answer to the program, and then none to whatever line where it is not ok.
func TestDeskPrograms(t *testing.T) {
	deep := deepBodies(61)[0]
	for program, want := range map[string]string{
		"":                               "line 1",
		"\n":                             "line 1",
		"\n\n\n":                         "line 1",
		" \n":                            "line 1",
		"x = ;\n":                        "line 1",
		"main = 1\n":                     "line 1",
		"\n\nmain\n\n= 1\n\n\n":          "line 5",
		"main = 1;\nx = $;\n":            "line 2",
		"main = 1;\n\n\nx = 2 3 4 );\n":  "line 4",
		"x = 1;\nmain = 2;\nx = 3;\n":    "line 3",
		"x = 1;\nmain = y;\n":            "line 1",
		"x = 1;\nmain = " + deep + ";\n": "line 1",
		manyDefinitions(31) + "\n":       "line 1",
		"main = 1;\r\n":                  "line 1",
		"main = 1;\n--\r\n":              "line 2",
		"main = 1;\n-- \n":               "line 2",
		"main = 1;\n --\n":               "line 2",
		"main = 1;\n---\n":               "line 2",
		"main = 1;\n-\n":                 "line 2",
		"main = 1;\n\n\n-- x\n":          "line 4",
		"main = 1; --\n":                 "line 1",
		"main = 1;\nMAIN = 2;\n":         "line 2",
		"x = 1;\n":                       "none",
		"mai = 1; main1 = 2; m = 3;\namain = 4;\n": "none",
		manyDefinitions(30) + "\n":                 "none",
		"main = 1;\n":                              "ok",
		"main = 1 2;\n":                            "ok",
		"main = main;\n":                           "ok",
		"\n\nx = 1;\n\nmain\n=\nx\n;\n\n":          "ok",
		"x = 1; main = 2; y = 3;\n":                "ok",
		"main = 1 --2;\n":                          "line 1",
		"main = 1 -\n2;\n":                         "ok",
	} {
		wantDesk(t, program, want+"\n")
		wantDesk(t, program+"--\n", want+"\n")
		if want == "ok" {
			wantDesk(t, program+"--\nshow\n\n--\n", "ok\n"+strings.ReplaceAll(impl.ClusterText(newCluster(t, program, 1)), "\n", ";")+"\nwhat\nwhat\n")
			continue
		}
		lines := []string{"show", "", "nodes 1", "nodes 0", "mean 5", "solo 5", "net", "what", "calm 1", "run 0 0 1", "main = 1;", "--", " ", "none", "ok", "\xff\x00"}
		wantDesk(t, program+"--\n"+strings.Join(lines, "\n")+"\n", want+"\n"+strings.Repeat("none\n", len(lines)))
	}
}

// A program is a text of at most MaxText bytes, its newlines too.
func TestDeskHowLongPrograms(t *testing.T) {
	for _, length := range []int{1998, 1999, 2000, 2001, 2002, 5000} {
		want := "ok\n"
		if length > 2000 {
			want = "line 1\n"
		}
		wantDesk(t, "main = 1;"+strings.Repeat(" ", length-10)+"\n", want)
		wantDesk(t, strings.Repeat(" ", length-10)+"main = 1;\n--\n", want)
		wantDesk(t, strings.Repeat("\n", 100)+strings.Repeat(" ", length-110)+"main = 1;\n--\n", want)
		wantDesk(t, strings.Repeat(" ", length-12)+"main = 2;\n\n\n--\n", want)
	}
}

func TestDeskHowLong(t *testing.T) {
	for _, length := range []int{7998, 7999, 8000, 8001, 8002, 16000, 1000000} {
		for head, want := range map[string]string{"main = 1;\n--\n": "ok\nwhat\n", "x = 1;\n--\n": "none\nnone\n", "--\n": "line 1\nnone\n", "": "line 1\n"} {
			for _, fill := range []string{"x", " ", "\x00", "\xff", "-"} {
				text := head + strings.Repeat(fill, length-len(head)-1) + "\n"
				if length > 8000 {
					want = "long\n"
				}
				wantDesk(t, text, want)
				wantDesk(t, text[:length-1], "long\n")
			}
		}
	}
}

func TestDeskHowManyLines(t *testing.T) {
	for _, count := range []int{3, 4, 198, 199, 200, 201, 202, 400, 7000} {
		long := count > 200
		told := func(text string, want string) {
			t.Helper()
			if long {
				want = "long\n"
			}
			wantDesk(t, text, want)
		}
		told("main = 1;\n"+strings.Repeat("\n", count-1), "ok\n")
		told(strings.Repeat("\n", count-1)+"main = 1;\n", "ok\n")
		told(strings.Repeat("\n", count-1)+"main = ;\n", fmt.Sprintf("line %d\n", count))
		told("main = 1;\n--\n"+strings.Repeat("\n", count-2), "ok\n"+strings.Repeat("what\n", count-2))
		told("main = 1;\n--\n"+strings.Repeat("--\n", count-2), "ok\n"+strings.Repeat("what\n", count-2))
		told("x = 1;\n--\n"+strings.Repeat("\n", count-2), "none\n"+strings.Repeat("none\n", count-2))
		told(strings.Repeat("\n", count-2)+"main = 1;\n--\n", "ok\n")
		told("main = 1;\n--\n"+strings.Repeat("send 0\n", count-2), "ok\n"+strings.Repeat("ok\n", count-2))
		// Both as many as there may be, and one byte or line more.
		if count <= 400 {
			text := "main = 1;\n--\n" + strings.Repeat("\n", count-3)
			told(text+strings.Repeat("x", 7999-len(text))+"\n", "ok\n"+strings.Repeat("what\n", count-2))
			wantDesk(t, text+strings.Repeat("x", 8000-len(text))+"\n", "long\n")
		}
		// What stands behind the last newline is no line of a script.
		wantDesk(t, "main = 1;\n"+strings.Repeat("\n", count-1)+"x", "long\n")
	}
	for _, text := range []string{"main = 1;", "x", " ", "-", "--", "main = 1;\n--", "main = 1;\n--\nshow", "main = 1;\n--\nshow\n ", "\nx", "\n\r", "\n\x00", "main = 1;\r", "\xe2\x80\xa8", "\x85", "\v", "\f"} {
		wantDesk(t, text, "long\n")
	}
	wantDesk(t, "", "line 1\n")
	wantDesk(t, "\n", "line 1\n")
}

// The first line that is only -- ends the program; others behind it are commands.
func TestDeskEndOfTheProgram(t *testing.T) {
	wantDesk(t, "main = 1;\n", "ok\n")
	wantDesk(t, "main = 1;\n--\n", "ok\n")
	wantDesk(t, "main = 1;\n--\n--\n", "ok\nwhat\n")
	wantDesk(t, "main = 1;\n--\nmean 5\n--\nmean 5\n", "ok\n1\nwhat\n1\n")
	wantDesk(t, "main = 1;\n--\n-- \n --\n---\n-\n", "ok\nwhat\nwhat\nwhat\nwhat\n")
	wantDesk(t, "main = 1;\n--\nmain = 2;\n--\nmean 5\n", "ok\nwhat\nwhat\n1\n")
	wantDesk(t, "--\n", "line 1\n")
	wantDesk(t, "--\n--\n", "line 1\nnone\n")
	wantDesk(t, "--\nmain = 1;\n--\nmean 5\n", "line 1\nnone\nnone\nnone\n")
	wantDesk(t, "-- \nmain = 1;\n--\nmean 5\n", "line 1\nnone\n")
	wantDesk(t, "main = 1;\nmean 5\nshow\n", "line 2\n")
	wantDesk(t, "main = 1;\nmean 5\n--\nshow\n", "line 2\nnone\n")
	wantDesk(t, "main = 1;\r\n--\r\nmean 5\r\n", "line 1\n")
}

// setUp has something for each event to do, and followUp shows most of what was
// done.
const (
	setUp    = lending + "\n--\nnodes 2\nrun 0 0 4\nfish 1 0\nsend 1\nfish 1 0\ntwice 0\n"
	followUp = "show\nnet\nsend 0\nsend 1\nnet\nclear 0\nshow\ncalm 1\nshow\ncalm 9\nshow\n"
)

// wantNothingDone asks for the answer to a line that changes nothing.
func wantNothingDone(t *testing.T, line string, answer string) {
	t.Helper()
	told, with := wantPlainDesk(t, setUp), wantPlainDesk(t, setUp+followUp)
	wantDesk(t, setUp+line+"\n"+followUp, told+answer+"\n"+with[len(told):])
}

// wantDone asks for the answer to a line that changes something.
func wantDone(t *testing.T, line string, answer string) {
	t.Helper()
	told, with := wantPlainDesk(t, setUp), wantPlainDesk(t, setUp+followUp)
	after := wantPlainDesk(t, setUp+line+"\n"+followUp)
	if !strings.HasPrefix(after, told+answer+"\n") || after[len(told)+len(answer)+1:] == with[len(told):] {
		t.Errorf("%s: %q", line, after[len(told):])
	}
}

func TestDeskEachCommand(t *testing.T) {
	for _, line := range []string{
		"nodes 1", "nodes 2", "nodes 3", "nodes 6", "run 0 0 3", "run 0 0 100000", "send 1", "tick 1", "deliver 0", "deliver 1", "drop 0", "drop 1", "twice 0", "twice 1",
		"cut 0", "cut 1", "fish 0 1", "fish 1 0",
	} {
		wantDone(t, line, "ok")
	}
	wantDone(t, "calm 2", "(5:3)")
	wantNothingDone(t, "calm 0", "-")
	wantNothingDone(t, "mean 20", "(5:3)")
	wantNothingDone(t, "solo 100", "(5:3)")
	wantNothingDone(t, "show", "5 1 1 1 0 0;2 0 0 0 0 1;net 2;")
	wantNothingDone(t, "net", "fish 1 > 0;fish 1 > 0;")
	// A clearing is to be seen behind what leaves something to clear.
	wantSession(t, lending, "run 0 0 100: ok", "show: 11 1 0 1 0 0;net 0;", "clear 0: ok", "show: 4 1 0 1 0 0;net 0;")
}

// Nodes, threads and packs that there are not, and other numbers of steps.
func TestDeskNumbersBeyond(t *testing.T) {
	for _, line := range []string{
		"run 2 0 5", "run 0 1 5", "run 1 0 5", "run 6 0 5", "run 0 0 0", "run 0 0 100001", "run 0 0 999999999", "run 999999999 0 5", "run 0 999999999 5", "run 0 60 5",
		"send 0", "send 2", "send 6", "send 31", "send 999999999", "tick 0", "tick 2", "tick 7", "tick 999999999",
		"deliver 2", "deliver 3", "deliver 300", "deliver 999999999", "drop 2", "drop 299", "drop 999999999", "twice 2", "twice 999999999", "cut 2", "cut 999999999",
		"clear 2", "clear 7", "clear 999999999", "fish 2 0", "fish 0 2", "fish 0 0", "fish 1 1", "fish 1 2", "fish 999999999 0", "fish 0 999999999",
	} {
		wantNothingDone(t, line, "ok")
	}
	for _, line := range []string{"nodes 0", "nodes 7", "nodes 8", "nodes 31", "nodes 999999999"} {
		wantNothingDone(t, line, "what")
	}
	wantNothingDone(t, "mean 100001", "none")
	wantNothingDone(t, "mean 999999999", "none")
	wantNothingDone(t, "solo 100001", "-")
	wantNothingDone(t, "solo 999999999", "-")
	wantNothingDone(t, "calm 201", "-")
	wantNothingDone(t, "calm 999999999", "-")
}

// Each command with each number of numbers, and with one that ReadDec does not
// tell in each place.
func TestDeskOtherLines(t *testing.T) {
	others := []string{"", "00", "01", "007", "-0", "-1", "+1", "1.0", "1234567890", "1000000000", "9999999999999999999999", "x", "a", "1a", "0x1", "１", "1\t", "1\r", "\x00", "\xff", "one", "1;", "1_0"}
	for _, word := range slices.Sorted(maps.Keys(commandWords)) {
		count := commandWords[word]
		for more := range 6 {
			if more != count {
				wantNothingDone(t, word+strings.Repeat(" 0", more), "what")
				wantNothingDone(t, word+strings.Repeat(" 1", more), "what")
			}
		}
		for _, other := range others {
			wantNothingDone(t, word+" "+other, "what")
			for place := range count {
				words := slices.Repeat([]string{"0"}, count)
				words[place] = other
				wantNothingDone(t, word+" "+strings.Join(words, " "), "what")
			}
			wantNothingDone(t, word+strings.Repeat(" 0", count)+" "+other, "what")
		}
		right := word + strings.Repeat(" 1", count)
		for _, line := range []string{
			right + " ", " " + right, word + " " + strings.Repeat(" 1", count), right + "  ", right + "\r", right + "\t", "\t" + right, strings.ToUpper(right),
			strings.ToUpper(right[:1]) + right[1:], right + ";", "-" + right, word + "s" + strings.Repeat(" 1", count), right[1:], word + "\t1", word + "\u00a01", right + "\x00", right + " --",
		} {
			wantNothingDone(t, line, "what")
		}
	}
	for _, line := range []string{"", " ", "  ", "--", "-- ", "what", "ok", "none", "long", "?", "-", "0", "1 2", "stop", "quit", "main", "main = 1;", "step 0", "event 0 0", "let", "#", "\x00", "\xff\xfe", "netshow", "show net", "show;net", "\r"} {
		wantNothingDone(t, line, "what")
	}
	// The greatest number that there is, and nought.
	wantSession(t, "main = 1;", "send 999999999: ok", "send 1000000000: what", "send 0: ok", "send 00: what", "send -0: what")
}

// A new cluster has nothing of that before; one that there is not leaves that.
func TestDeskNodes(t *testing.T) {
	node, first := "2 0 0 0 0 0;", "2 1 1 0 0 0;"
	for nodes := range 9 {
		text := setUp + fmt.Sprintf("nodes %d\nshow\nnet\ncalm 0\n", nodes)
		want := wantPlainDesk(t, setUp) + "what\n5 1 1 1 0 0;2 0 0 0 0 1;net 2;\nfish 1 > 0;fish 1 > 0;\n-\n"
		if nodes >= 1 && nodes <= 6 {
			want = wantPlainDesk(t, setUp) + "ok\n" + first + strings.Repeat(node, nodes-1) + "net 0;\n-\n-\n"
		}
		wantDesk(t, text, want)
	}
	// The first one is of one node.
	wantSession(t, lending, "show: "+first+"net 0;", "fish 1 0: ok", "send 1: ok", "net: -", "nodes 2: ok", "fish 1 0: ok", "send 1: ok", "net: fish 1 > 0;", "nodes 0: what", "net: fish 1 > 0;", "nodes 2: ok", "net: -")
	wantSession(t, lending, "calm 5: (5:3)", "nodes 1: ok", "calm 0: -", "calm 5: (5:3)", "nodes 7: what", "calm 0: (5:3)", "nodes 6: ok", "calm 0: -")
}

func TestDeskMean(t *testing.T) {
	wantSession(t, "main = 7;", "mean 0: fuel", "mean 1: 7", "mean 2: 7", "mean 100000: 7", "mean 100001: none", "mean 999999999: none", "mean 1: 7")
	wantSession(t, "x = 3; main = 1 : x; y = 4;", "mean 3: fuel", "mean 4: (1:3)", "mean 5: (1:3)", "mean 100000: (1:3)", "mean 100001: none")
	wantSession(t, "main = 1 2;", "mean 0: fuel", "mean 1: fuel", "mean 2: stuck", "mean 3: stuck", "mean 100000: stuck", "mean 100001: none")
	wantSession(t, "main = main;", "mean 0: fuel", "mean 1: fuel", "mean 100000: fuel", "mean 100001: none")
	wantSession(t, "main = 1 : 2 3;", "mean 2: fuel", "mean 3: fuel", "mean 4: stuck")
	wantSession(t, "main = []; x = 1;", "mean 1: []")
	wantSession(t, "x = 1; main = \\a b . x;", "mean 1: fun")
	wantSession(t, "main = 0 - 5;", "mean 3: -5")
	// What is done to a cluster is nothing to it.
	wantSession(t, lending, "mean 50: (5:3)", "nodes 2: ok", "mean 50: (5:3)", "run 0 0 3: ok", "mean 50: (5:3)", "calm 9: (5:3)", "mean 50: (5:3)", "mean 1: fuel")
	// Just the most fuel there is.
	wantSession(t, spender(7), "mean 99999: fuel", "mean 100000: 25000", "mean 100001: none")
	wantSession(t, spender(8), "mean 99999: fuel", "mean 100000: fuel", "mean 100001: none")
}

func TestDeskSolo(t *testing.T) {
	for _, text := range []string{"main = 7;", "x = 5; y = 6; main = y : x : [];", lending, fetching, "f = \\n . if n then n + f (n - 1) else 0; main = f 30; g = 8;"} {
		p := wantProgram(t, text)
		want, _ := impl.Mean(p, impl.MaxFuel)
		least := 0
		for told := false; !told; least++ {
			_, told = impl.Solo(impl.TableOf(p), slices.Index(p.Names, "main"), least)
		}
		least--
		wantSession(t, text, "solo 0: -", fmt.Sprintf("solo %d: -", least-1), fmt.Sprintf("solo %d: %s", least, want), fmt.Sprintf("solo %d: %s", least+1, want),
			"solo 99999: "+want, "solo 100000: "+want, "solo 100001: -", "solo 999999999: -", "run 0 0 3: ok", "solo 1: -", "solo 100000: "+want, "show: "+strings.ReplaceAll(impl.ClusterText(impl.ClusterDo(newCluster(t, text, 1), runEvent(0, 0, 3))), "\n", ";"))
	}
	wantSession(t, "main = 1 2;", "solo 0: -", "solo 5: -", "solo 100000: -", "solo 100001: -")
	wantSession(t, "main = 1 : 2 3;", "solo 5: -", "solo 100000: -")
	wantSession(t, "main = main;", "solo 5: -", "solo 100000: -")
	wantSession(t, "x = 1; main = \\a . a;", "solo 100: fun")
	wantSession(t, "x = 1; main = []; y = 2;", "solo 100: []")
}

func TestDeskCalm(t *testing.T) {
	wantSession(t, "main = 7;", "calm 0: -", "calm 201: -", "calm 1: 7", "calm 0: 7", "calm 200: 7", "calm 201: 7", "calm 999999999: 7")
	wantSession(t, "main = 1 : 2 3;", "calm 0: -", "calm 1: -", "calm 200: -", "calm 201: -")
	wantSession(t, "main = main;", "calm 200: -", "calm 201: -", "show: 1 1 1 0 0 0;net 0;")
	// Round by round, and as many at once.
	told := []string{"nodes 2"}
	for range 4 {
		told = append(told, "run 0 0 100", "fish 1 0", "send 1", "deliver 0", "deliver 0", "deliver 0", "send 0", "deliver 0", "deliver 0", "run 1 0 100")
	}
	shorter := strings.Replace(pingPong, "1 40", "1 12", 1)
	begin := shorter + "\n--\n" + strings.Join(told, "\n") + "\n"
	c := newCluster(t, shorter, 2)
	p := wantProgram(t, shorter)
	for _, line := range told {
		plainAnswer(p, &c, line)
	}
	rounds := 0
	for d := c; rounds <= 200; rounds++ {
		if _, ok := impl.Printed(d); ok {
			break
		}
		d = impl.Calm(d, 1)
	}
	want, _ := impl.Mean(p, impl.MaxFuel)
	if rounds < 5 || rounds > 200 {
		t.Fatal("printed behind", rounds, "rounds")
	}
	ahead := wantPlainDesk(t, begin)
	wantDesk(t, begin+fmt.Sprintf("calm %d\ncalm 1\n", rounds-1), ahead+"-\n"+want+"\n")
	wantDesk(t, begin+fmt.Sprintf("calm %d\n", rounds), ahead+want+"\n")
	wantDesk(t, begin+"calm 200\n", ahead+want+"\n")
	wantDesk(t, begin+"calm 201\ncalm 0\nshow\n", ahead+"-\n-\n"+strings.ReplaceAll(impl.ClusterText(c), "\n", ";")+"\n")
	if rounds < 100 {
		wantDesk(t, begin+strings.Repeat("calm 1\n", rounds+1), ahead+strings.Repeat("-\n", rounds-1)+strings.Repeat(want+"\n", 2))
	}
}

// Scripts of any commands, against what the other chapters' functions tell.
func TestDeskOfManyScripts(t *testing.T) {
	k := newScriptMaker(91)
	known := scriptPrograms(t)
	var all strings.Builder
	for range 250 {
		all.WriteString(wantPlainDesk(t, k.script(t, k.source(t, known), 1+k.IntN(170))))
	}
	told := all.String()
	for part, least := range map[string]int{
		"fetch ": 15, "give ": 15, "fish ": 100, "work ": 100, "ack ": 300, "?;": 50, "what\n": 300, "fuel\n": 50, "stuck\n": 5, "none\n": 10, "-\n": 200, "(": 100, ";net ": 300, "ok\n": 3000,
	} {
		if count := strings.Count(told, part); count < least {
			t.Errorf("%q is told %d times only", part, count)
		}
	}
}

// commandEnds has the places in a script behind its line -- and each command.
func commandEnds(text string) []int {
	at := strings.Index("\n"+text, "\n--\n") + len("--\n")
	ends := []int{at}
	for i := at; i < len(text); i++ {
		if text[i] == '\n' {
			ends = append(ends, i+1)
		}
	}
	return ends
}

// wantBeginnings asks for promise 11: what is told of each beginning of a script
// begins what is told of it, with an answer a line.
func wantBeginnings(t *testing.T, text string) {
	t.Helper()
	told := impl.Desk(text)
	ends := commandEnds(text)
	lines := strings.SplitAfter(told, "\n")
	if len(lines) != len(ends)+1 || lines[len(ends)] != "" {
		t.Fatalf("%d answers to %d commands: Desk(%q) = %q", len(lines)-1, len(ends)-1, text, told)
	}
	for i, end := range ends {
		if got, want := impl.Desk(text[:end]), strings.Join(lines[:i+1], ""); got != want {
			t.Fatalf("Desk(%q) = %q; of all of %q it is %q", text[:end], got, text, want)
		}
	}
}

// Promise 11.
func TestDeskOfBeginnings(t *testing.T) {
	k := newScriptMaker(92)
	known := scriptPrograms(t)
	for range 60 {
		wantBeginnings(t, k.script(t, k.source(t, known), 1+k.IntN(60)))
	}
	wantBeginnings(t, setUp+followUp)
	for _, program := range []string{"main = 1;\n", "main = 1 2;\n", "main = main;\n", "x = 1;\n", "x = ;\n", "", "\n\nmain = y;\n"} {
		text := program + "--\nshow\nmean 9\n\n--\nnodes 7\nnodes 2\nfish 1 0\nsend 1\nnet\nwhat\nsolo 9\ncalm 3\ncalm 300\n--\nshow\n"
		wantBeginnings(t, text)
		wantPlainDesk(t, text)
		// All the lines and bytes that a script has room for.
		wantBeginnings(t, text+strings.Repeat("\n", 200-strings.Count(text, "\n")))
		wantBeginnings(t, text+strings.Repeat("x", 7999-len(text))+"\n")
	}
	for _, line := range []string{"run 0 0 3", "send 1", "tick 1", "twice 0", "fish 1 0", "calm 1", "mean 30", "solo 30", "show", "net", "nodes 2", "what"} {
		wantBeginnings(t, setUp+strings.Repeat(line+"\n", 200-strings.Count(setUp, "\n")))
	}
}

// It answers the same when it is called again, behind other calls.
func TestDeskKeepsNothing(t *testing.T) {
	k := newScriptMaker(93)
	known := scriptPrograms(t)
	var texts, wants []string
	for range 30 {
		text := k.script(t, k.source(t, known), 1+k.IntN(40))
		texts = append(texts, text, text[:len(text)-1], strings.ReplaceAll(text, "main", "niam"), strings.Replace(text, "--\n", "", 1))
	}
	texts = append(texts, setUp+followUp, setUp, "", "\n", "--\n")
	for _, text := range texts {
		wants = append(wants, wantPlainDesk(t, text))
	}
	for range 500 {
		i := k.IntN(len(texts))
		wantDesk(t, texts[i], wants[i])
	}
	var wait sync.WaitGroup
	for start := range 8 {
		wait.Go(func() {
			for i := range texts {
				at := (i + start*17) % len(texts)
				if got := impl.Desk(texts[at]); got != wants[at] {
					t.Errorf("Desk(%q) = %q; want %q", texts[at], got, wants[at])
				}
			}
		})
	}
	wait.Wait()
}

// Promise 12 for this chapter: texts of any bytes.
func TestDeskAnswersAtAnyArguments(t *testing.T) {
	k := newScriptMaker(94)
	known := scriptPrograms(t)
	odd := oddTexts(2000)
	texts := append(textsOver("\x00\xff a0-\n", 4), odd...)
	for i, text := range odd {
		texts = append(texts, text+"\n", "main = 1;\n--\n"+text+"\n"+odd[i/2]+"\n")
	}
	for range 400 {
		b := []byte(k.script(t, k.source(t, known), 1+k.IntN(20)))
		for range 1 + k.IntN(4) {
			at := k.IntN(len(b))
			switch k.IntN(4) {
			case 0:
				b[at] = byte(k.IntN(256))
			case 1:
				b[at] = " \n-0;="[k.IntN(6)]
			case 2:
				b = slices.Delete(b, at, min(len(b), at+1+k.IntN(3)))
				b = append(b, '\n')
			case 3:
				b = slices.Insert(b, at, b[at:min(len(b), at+k.IntN(20))]...)
			}
		}
		texts = append(texts, string(b))
	}
	texts = append(texts, strings.Repeat("\n", 100000), strings.Repeat("--\n", 100000), strings.Repeat("x", 100000), strings.Repeat("\n--\n", 50), "main = "+strings.Repeat("(", 1900)+"\n",
		"main = 1;\n--\n"+strings.Repeat(" ", 7900)+"\n", "main = 1;\n--\nrun"+strings.Repeat(" 0", 3900)+"\n", "main = 1;\n--\nsend "+strings.Repeat("9", 7900)+"\n")
	lines := 0
	for _, text := range texts {
		told := wantPlainDesk(t, text)
		if !strings.HasSuffix(told, "\n") {
			t.Errorf("Desk(%q) = %q", text, told)
		}
		if strings.HasPrefix(told, "line") {
			lines++
		}
	}
	if lines < 1000 || lines > len(texts)-500 {
		t.Error(lines, "of", len(texts), "programs can't be read")
	}
}

// Promise 12 for this chapter: nothing is written into the text or into the room
// behind it, and the answer shares no memory with it.
func TestDeskLeavesItsArgumentAlone(t *testing.T) {
	for _, text := range []string{setUp + followUp, "main = 1;\n--\nmean 5\nsolo 9\nshow\nnet\n--\nwhat\n", "x = ;\n--\nshow\n", "x = 1;\n--\nshow\n", "main = 1;", "\n"} {
		room := []byte(text + "spare room")
		want := wantPlainDesk(t, text)
		got := impl.Desk(textOf(room[:len(text)]))
		if string(room) != text+"spare room" {
			t.Fatalf("written into: %q", room)
		}
		for i := range room {
			room[i] = '#'
		}
		if got != want {
			t.Errorf("the answer is the argument's: %q", got)
		}
	}
}
