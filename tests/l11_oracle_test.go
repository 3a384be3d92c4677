package tests

import (
	"fmt"
	"regexp"
	"slices"
	"strconv"
	"strings"
	"testing"

	"loop.example/g00303/impl"
)

// commandForm is of every command: its word, and up to three numbers.
var commandForm = regexp.MustCompile(strings.ReplaceAll(
	`\A(?:(show|net)|(nodes|mean|solo|send|tick|deliver|drop|twice|cut|clear|calm) #|(fish) # #|(run) # # #)\z`,
	"#", `(0|[1-9][0-9]{0,8})`))

var eventWords = map[string]int{
	"run": impl.EvRun, "send": impl.EvSend, "tick": impl.EvTick, "deliver": impl.EvDeliver, "drop": impl.EvDrop,
	"twice": impl.EvTwice, "cut": impl.EvCut, "clear": impl.EvClear, "fish": impl.EvFish,
}

// plainDesk tells what Desk has to, by what the functions of the other chapters
// tell.
func plainDesk(text string) string {
	if len(text) > 8000 || strings.Count(text, "\n") > 200 || !strings.HasSuffix("\n"+text, "\n") {
		return "long\n"
	}
	program, commands := text, ""
	if at := strings.Index("\n"+text, "\n--\n"); at >= 0 {
		program, commands = text[:at], text[at+len("--\n"):]
	}
	p, line := impl.Parse(program)
	c, ok := impl.ClusterNew(p, 1)
	told := "ok\n"
	switch {
	case line > 0:
		told = fmt.Sprintf("line %d\n", line)
	case !ok:
		told = "none\n"
	}
	for s := range strings.Lines(commands) {
		answer := "none"
		if ok {
			answer = plainAnswer(p, &c, s[:len(s)-1])
		}
		told += answer + "\n"
	}
	return told
}

// plainAnswer tells what is answered to a line, and lets the cluster become what
// it is behind it.
func plainAnswer(p impl.Program, c *impl.Cluster, line string) string {
	var words []string
	for _, part := range commandForm.FindStringSubmatch(line) {
		if part != "" {
			words = append(words, part)
		}
	}
	if len(words) == 0 {
		return "what"
	}
	var numbers [3]int
	for i, word := range words[2:] {
		numbers[i], _ = strconv.Atoi(word)
	}
	text, told := "", true
	switch word, n := words[1], numbers[0]; word {
	case "nodes":
		after, ok := impl.ClusterNew(p, n)
		if !ok {
			return "what"
		}
		*c, text = after, "ok"
	case "mean":
		means, code := impl.Mean(p, n)
		text = []string{impl.MeanOk: means, impl.MeanFuel: "fuel", impl.MeanStuck: "stuck", impl.MeanNone: "none"}[code]
	case "solo":
		text, told = impl.Solo(impl.TableOf(p), slices.Index(p.Names, "main"), n)
	case "calm":
		*c = impl.Calm(*c, n)
		text, told = impl.Printed(*c)
	case "show":
		text = strings.ReplaceAll(impl.ClusterText(*c), "\n", ";")
	case "net":
		text = plainNet(*c)
		told = len(c.Net) > 0
	default:
		*c = impl.ClusterDo(*c, impl.Event{Kind: eventWords[word], At: n, N: numbers[1], Much: numbers[2]})
		text = "ok"
	}
	if !told {
		return "-"
	}
	return text
}

func plainNet(c impl.Cluster) string {
	text := ""
	for _, bytes := range c.Net {
		pack, ok := impl.GetPack(bytes)
		msg, _ := impl.GetMsg(pack.Body)
		switch {
		case !ok:
			text += "?;"
		case pack.Kind == impl.PackAck:
			text += fmt.Sprintf("ack %d > %d %d;", pack.From, pack.To, pack.Seq)
		default:
			text += impl.MsgText(msg) + ";"
		}
	}
	return text
}

// sourceOf tells a text of which Parse tells the program again, whose definitions
// have names that are not like v and a number.
func sourceOf(p impl.Program) string {
	var text strings.Builder
	for i, name := range p.Names {
		fmt.Fprintf(&text, "%s = %s;\n", name, sourceExp(p, p.Bodies[i], 0))
	}
	return text.String()
}

// sourceExp tells an expression with so many names in scope.
func sourceExp(p impl.Program, e impl.Exp, scope int) string {
	kid := func(i int, more int) string { return sourceExp(p, e.Kids[i], scope+more) }
	switch e.Kind {
	case impl.ExNum:
		return strconv.Itoa(e.N)
	case impl.ExVar:
		return fmt.Sprint("v", e.N)
	case impl.ExTop:
		return p.Names[e.N]
	case impl.ExLam:
		text := "(\\"
		for i := range e.N {
			text += fmt.Sprint(" v", scope+i)
		}
		return text + " . " + kid(0, e.N) + ")"
	case impl.ExApp:
		return fmt.Sprintf("(%s %s)", kid(0, 0), kid(1, 0))
	case impl.ExLet:
		return fmt.Sprintf("(let v%d = %s in %s)", scope, kid(0, 1), kid(1, 1))
	case impl.ExIf:
		return fmt.Sprintf("(if %s then %s else %s)", kid(0, 0), kid(1, 0), kid(2, 0))
	case impl.ExNil:
		return "[]"
	case impl.ExCons:
		return fmt.Sprintf("(%s : %s)", kid(0, 0), kid(1, 0))
	case impl.ExCase:
		return fmt.Sprintf("(case %s of [] -> %s | v%d : v%d -> %s)", kid(0, 0), kid(1, 0), scope, scope+1, kid(2, 2))
	case impl.ExPar:
		return fmt.Sprintf("(par %s in %s)", kid(0, 0), kid(1, 0))
	}
	return fmt.Sprintf("(%s %s %s)", kid(0, 0), e.Text, kid(1, 0))
}

// scriptMaker makes scripts.
type scriptMaker struct {
	*clusterMaker
	storm *storm
	lines []string
}

func newScriptMaker(seed uint64) *scriptMaker {
	return &scriptMaker{clusterMaker: newClusterMaker(seed)}
}

// scriptPrograms has programs that mean something, and some that do not.
func scriptPrograms(t *testing.T) []impl.Program {
	t.Helper()
	list := stormPrograms(t)
	for _, text := range []string{
		fetching,
		"main = let y = 1 2 in par y in 3 : y;",
		"main = case let y = 5 + 6 in par y in y of [] -> 1 | h : t -> 2;",
		"l = \\n . let y = n * n in par y in y : l (n + 1); main = l 0;",
		"main = let y = \\a b . a in par y in y 1 : y;",
	} {
		list = append(list, wantProgram(t, text))
	}
	return list
}

// source makes a program's text, mostly one with a meaning.
func (k *scriptMaker) source(t *testing.T, known []impl.Program) string {
	t.Helper()
	for {
		p := known[k.IntN(len(known))]
		if k.IntN(3) == 0 {
			p = k.program()
		}
		text := sourceOf(p)
		if len(text) > impl.MaxText {
			continue
		}
		if again, line := impl.Parse(text); line != 0 || !slices.EqualFunc(again.Bodies, p.Bodies, impl.SameExp) {
			t.Fatalf("%s is not what is told by %s", brief(p), text)
		}
		return text
	}
}

// script makes one with so many commands.
func (k *scriptMaker) script(t *testing.T, source string, count int) string {
	t.Helper()
	p := wantProgram(t, source)
	k.storm = newStorm(t, k.clusterMaker, p, 1)
	k.lines = nil
	if k.IntN(6) > 0 {
		k.begin(t, p)
	}
	for len(k.lines) < count {
		k.command(t, p)
	}
	return source + "--\n" + strings.Join(k.lines[:count], "\n") + "\n"
}

// command makes a command, or some that belong together.
func (k *scriptMaker) command(t *testing.T, p impl.Program) {
	t.Helper()
	switch k.IntN(60) {
	case 0:
		k.say("nodes", k.oneOf(0, 7, 8, 999999999))
	case 1:
		k.say("mean", k.oneOf(0, 1, 7, 30, 500, 2000, 99999, 100000, 100001))
	case 2:
		k.say("solo", k.oneOf(0, 1, 7, 30, 500, 2000, 99999, 100000, 100001))
	case 3:
		rounds := k.oneOf(0, 0, 1, 1, 2, 5, 200, 201, 999)
		k.say("calm", rounds)
		k.storm.Cluster = impl.Calm(k.storm.Cluster, rounds)
	case 4, 5:
		k.say("show")
	case 6, 7:
		k.say("net")
	case 8:
		k.lines = append(k.lines, k.noCommand())
	case 9:
		k.begin(t, p)
	default:
		k.do(k.storm.next())
		if k.IntN(2) == 0 {
			k.say([]string{"show", "net"}[k.IntN(2)])
		}
	}
}

// begin says a new cluster, whose first node lends work to others mostly.
func (k *scriptMaker) begin(t *testing.T, p impl.Program) {
	t.Helper()
	nodes := k.oneOf(1, 2, 2, 2, 3, 3, 4, 6)
	k.say("nodes", nodes)
	k.storm = newStorm(t, k.clusterMaker, p, nodes)
	k.lend()
}

func (k *scriptMaker) oneOf(list ...int) int { return list[k.IntN(len(list))] }

func (k *scriptMaker) say(word string, numbers ...int) {
	for _, n := range numbers {
		word += " " + strconv.Itoa(n)
	}
	k.lines = append(k.lines, word)
}

// do says an event, and lets the storm's cluster have it.
func (k *scriptMaker) do(e impl.Event) {
	k.storm.Cluster = impl.ClusterDo(k.storm.Cluster, e)
	for word, kind := range eventWords {
		numbers := []int{e.At, e.N, e.Much}
		switch {
		case kind != e.Kind:
			continue
		case kind == impl.EvFish:
			numbers = numbers[:2]
		case kind != impl.EvRun:
			numbers = numbers[:1]
		}
		k.say(word, numbers...)
	}
}

// lend lets the first node come to a spark, for which the others fish.
func (k *scriptMaker) lend() {
	for steps := 0; steps < 30 && len(k.storm.Peers[0].Machine.Sparks) == 0; steps++ {
		k.do(runEvent(0, 0, 3))
	}
	for id := 1; id < len(k.storm.Peers); id++ {
		k.do(fishEvent(id, 0))
		k.do(event(impl.EvSend, id))
		k.do(event(impl.EvDeliver, max(1, len(k.storm.Net))-1))
	}
	k.do(event(impl.EvSend, 0))
	k.say("net")
}

// noCommand makes a line that is none, but may be near to one.
func (k *scriptMaker) noCommand() string {
	word := []string{"nodes", "mean", "solo", "run", "send", "tick", "deliver", "drop", "twice", "cut", "clear", "fish", "calm", "show", "net"}[k.IntN(15)]
	switch k.IntN(8) {
	case 0:
		return word + " "
	case 1:
		return " " + word
	case 2:
		return word + " x"
	case 3:
		return word + " 0 0 0 0"
	case 4:
		return word + " 00"
	case 5:
		return word + " -1 0"
	case 6:
		return []string{"", "--", "what", " ", "\t", "run", "ok", "main = 1;", "stop 0", "Show", "\xff\x00"}[k.IntN(11)]
	}
	return word + " 1234567890"
}
