package tests

import (
	"fmt"
	"regexp"
	"runtime"
	"slices"
	"strconv"
	"strings"
	"testing"
	"time"

	"loop.example/kilnyard/impl"
)

// sessionForms are what commands look like.
var sessionForms = func() map[string]*regexp.Regexp {
	forms := map[string]*regexp.Regexp{}
	for word, behind := range map[string]string{
		"file": " NAME", "drop": " NAME", "clear": "", "ask": " NAME", "pack": "", "tick": "", "bring": " N", "double": " N", "lose": " N",
		"bend": " N N N", "fall": " N N", "rise": " N", "calm": " N", "answers": "", "show": "",
	} {
		behind = strings.ReplaceAll(behind, "NAME", `([^ ]+)`)
		forms[word] = regexp.MustCompile(`^` + word + strings.ReplaceAll(behind, "N", `(0|[1-9][0-9]{0,3})`) + `$`)
	}
	return forms
}()

// sessionEvents are the commands of which nothing is told but how many are in flight.
var sessionEvents = map[string]int{"tick": 1, "bring": 2, "double": 3, "lose": 4, "bend": 5, "fall": 6, "rise": 7}

// cutByRules cuts a text into commands, each its line, and the lines of its file with the last one, if it has one.
func cutByRules(text string) [][]string {
	lines := strings.Split(text, "\n")
	if lines[len(lines)-1] == "" {
		lines = lines[:len(lines)-1]
	}
	var commands [][]string
	for len(lines) > 0 {
		size := 1
		if sessionForms["file"].MatchString(lines[0]) {
			if at := slices.Index(lines[1:], "."); at >= 0 {
				size = at + 2
			} else {
				size = len(lines)
			}
		}
		commands = append(commands, lines[:size])
		lines = lines[size:]
	}
	return commands
}

// sessionReader does commands one by one, each event of them on the world as it is shown.
type sessionReader struct{ w impl.YardWorld }

func readSession() *sessionReader { return &sessionReader{impl.YardNewWorld(2, "k")} }

// sessionByRules is a second reading of chapter 31.
func sessionByRules(text string) string {
	commands := cutByRules(text)
	if len(text) > 20000 || len(commands) > 400 {
		return "too long\n"
	}
	r := readSession()
	out := ""
	for _, command := range commands {
		out += r.does(command) + "\n"
	}
	return out
}

func (r *sessionReader) does(command []string) string {
	for word, form := range sessionForms {
		if found := form.FindStringSubmatch(command[0]); found != nil {
			return r.done(word, found[1:], command[1:])
		}
	}
	return "bad"
}

func (r *sessionReader) done(word string, args, lines []string) string {
	var n [3]int
	name := ""
	for at, arg := range args {
		if word == "file" || word == "drop" || word == "ask" {
			name = arg
		} else {
			n[at], _ = strconv.Atoi(arg)
		}
	}
	if kind := sessionEvents[word]; kind > 0 {
		r.w = impl.YardDo(r.w, impl.YardEvent{Kind: kind, A: n[0], B: n[1], C: n[2]})
		return fmt.Sprint(len(r.w.Flight))
	}
	switch word {
	case "file":
		if len(lines) == 0 || lines[len(lines)-1] != "." {
			return "bad"
		}
		text := ""
		for _, line := range lines[:len(lines)-1] {
			text += line + "\n"
		}
		return r.edits(impl.YardEntry{Kind: 2, File: impl.MillFile{Name: name, Text: text}})
	case "drop":
		return r.edits(impl.YardEntry{Kind: 3, File: impl.MillFile{Name: name}})
	case "clear":
		return r.edits(impl.YardEntry{Kind: 5})
	case "ask":
		code := impl.YardBossAsk(r.w.Boss, name).Code
		r.w = impl.YardDo(r.w, impl.YardEvent{Kind: 8, Name: name})
		return fmt.Sprint("code ", code)
	case "pack":
		code := impl.YardBossPack(r.w.Boss).Code
		r.w = impl.YardDo(r.w, impl.YardEvent{Kind: 10})
		return fmt.Sprint("code ", code)
	case "calm":
		if n[0] > 200 {
			return "no"
		}
		r.w = impl.YardCalm(r.w, n[0])
		return fmt.Sprint(len(r.w.Flight))
	case "answers":
		return r.answers()
	}
	return r.shows()
}

func (r *sessionReader) edits(e impl.YardEntry) string {
	code := impl.YardBossEdit(r.w.Boss, e).Code
	r.w = impl.YardDo(r.w, impl.YardEvent{Kind: 9, Entry: e})
	return fmt.Sprint("code ", code)
}

func (r *sessionReader) answers() string {
	all := []string{}
	for _, one := range r.w.Answers {
		if one.Never {
			all = append(all, one.Name+" never")
		} else {
			all = append(all, fmt.Sprintf("%s %d %s", one.Name, one.Reply.Code, clayQuoted(one.Reply.Text)))
		}
	}
	r.w.Answers = nil
	if len(all) == 0 {
		return "-"
	}
	return strings.Join(all, ", ")
}

func (r *sessionReader) shows() string {
	b := r.w.Boss
	out := "down"
	if b.Up {
		out = fmt.Sprintf("%d.%d files %d kept %d runs %d log %d+%d", b.Epoch, b.Edit, len(b.Place.Files), len(b.Shelf.Kept), len(b.Runs), len(b.Log.Safe), len(b.Log.Loose))
	}
	if impl.YardRight(r.w) {
		out += " right"
	} else {
		out += " wrong"
	}
	if r.w.Forged != "" {
		out += " forged"
	}
	return out
}

// wantSession asks for the answers to a text, and for those of the second reading.
func wantSession(t *testing.T, text, want string) {
	t.Helper()
	if got := impl.YardSession(text); got != want {
		t.Errorf("%.300q: %.300q, want %.300q", text, got, want)
	}
	if rules := sessionByRules(text); rules != want {
		t.Errorf("%.300q: by the rules %.300q, want %.300q", text, rules, want)
	}
}

// wantTalk asks for the answer to each command, in turn a command and its answer; and with every number of them for the same (promise 49), with a newline behind the last one and without it.
func wantTalk(t *testing.T, talk ...string) {
	t.Helper()
	text, want := "", ""
	for at := 0; at < len(talk); at += 2 {
		text += talk[at] + "\n"
		want += talk[at+1] + "\n"
		for _, one := range []string{text, strings.TrimSuffix(text, "\n")} {
			if got := impl.YardSession(one); got != want && one != "" {
				t.Fatalf("behind %.200q: %.300q, want %.300q", talk[at], got, want)
			}
		}
	}
	if rules := sessionByRules(text); rules != want {
		t.Errorf("by the rules %.600q, want %.600q", rules, want)
	}
}

// aFile is the command that sets a file.
func aFile(name string, lines ...string) string {
	return "file " + name + "\n" + strings.Join(append(lines, "."), "\n")
}

// filesToldOf are the commands that set the files of a place, each line of which has a newline then.
func filesToldOf(p impl.MillPlace) []string {
	var all []string
	for _, file := range p.Files {
		all = append(all, aFile(file.Name, strings.Split(strings.TrimSuffix(file.Text, "\n"), "\n")...))
	}
	return all
}

// talkIn are the commands that make a house, each with its answer, and more.
func talkIn(p impl.MillPlace, more ...string) []string {
	var talk []string
	for _, command := range filesToldOf(p) {
		talk = append(talk, command, "code 0")
	}
	return append(talk, more...)
}

// linesOf are commands, each with a newline.
func linesOf(commands ...string) string { return strings.Join(commands, "\n") + "\n" }

func TestYardSessionConstants(t *testing.T) {
	if impl.YardMaxSession != 20000 || impl.YardMaxLines != 400 {
		t.Error(impl.YardMaxSession, impl.YardMaxLines)
	}
}

// The example of the document.
func TestYardSessionExample(t *testing.T) {
	wantTalk(t,
		aFile("main.clay", `def obj(f) = {name: f, tool: "t/up", arg: f, outs: [f + ".o"]};`, `emit obj("a");`, `emit obj("b");`, `emit {name: "all", tool: "t/both", outs: ["all"]};`), "code 0",
		aFile("t/up", `fn main() -> text { write arg() + ".o", read(arg()) + "!"; return ""; }`), "code 0",
		aFile("t/both", `fn main() -> text { write "all", read("a.o") + read("b.o"); return ""; }`), "code 0",
		aFile("a", "A"), "code 0",
		aFile("b", "B"), "code 0",
		"ask all", "code 0",
		"calm 20", "0",
		"answers", `all 0 "A\0a!B\0a!"`,
		"show", "1.5 files 5 kept 3 runs 3 log 9+0 right",
		"fall 0 0", "0",
		"rise 0", "0",
		"ask all", "code 0",
		"calm 2", "0",
		"answers", `all 0 "A\0a!B\0a!"`,
		aFile("b", "C"), "code 0",
		"ask all", "code 0",
		"calm 20", "0",
		"answers", `all 0 "A\0a!C\0a!"`,
		"show", "2.1 files 5 kept 5 runs 3 log 13+0 right",
	)
}

func TestYardSessionLines(t *testing.T) {
	const begun = "1.0 files 0 kept 0 runs 0 log 0+1 right\n"
	for text, want := range map[string]string{
		"":                   "",
		"\n":                 "bad\n",
		"\n\n":               "bad\nbad\n",
		"show":               begun,
		"show\n":             begun,
		"show\n\n":           begun + "bad\n",
		"\nshow":             "bad\n" + begun,
		"show\n\nshow":       begun + "bad\n" + begun,
		" ":                  "bad\n",
		" \n":                "bad\n",
		"\x00":               "bad\n",
		"\xff\n\x80":         "bad\nbad\n",
		"show\r\n":           "bad\n",
		"show\x00":           "bad\n",
		"\ufeffshow":         "bad\n",
		"show\tshow":         "bad\n",
		"answers\nshow":      "-\n" + begun,
		"tick":               "2\n",
		"tick\ntick\ntick\n": "2\n4\n6\n",
	} {
		wantSession(t, text, want)
	}
}

// A line that is not just as a command is: with a word too few or too many, or with more blanks, in other letters.
func TestYardSessionWords(t *testing.T) {
	commands := strings.Split("file a,drop a,clear,ask a,pack,tick,bring 0,double 0,lose 0,bend 0 0 0,fall 1 0,rise 1,calm 0,answers,show", ",")
	for _, command := range commands {
		words := strings.Split(command, " ")
		lines := []string{
			" " + command, command + " ", command + "  ", strings.ToUpper(command), strings.ToUpper(command[:1]) + command[1:], command[1:], "x" + command, words[0] + "x" + strings.TrimPrefix(command, words[0]),
			command + " a", command + " 0", command + " " + command, command + "\r", command + "\x00 0", command + "\t0", "\t" + command, command + ";",
		}
		if len(words) > 1 {
			lines = append(lines, words[0], words[0]+" ", words[0]+"  ", strings.Join(words[:len(words)-1], " "), strings.Replace(command, " ", "  ", 1), strings.Replace(command, " ", "\t", 1), strings.Join(words[1:], " "), strings.Join(words, ""))
		}
		for _, line := range lines {
			// A name may have any bytes but blanks.
			if strings.Contains("file drop ask", words[0]) && (line == command+"\r" || line == command+"\t0" || line == command+";") {
				continue
			}
			wantSession(t, line, "bad\n")
			wantSession(t, "tick\n"+line+"\ntick\n", "2\nbad\n4\n")
		}
	}
	wantTalk(t, "zap", "bad", "help", "bad", ".", "bad", "code 0", "bad", "0", "bad", "-", "bad", "files a", "bad", "too long", "bad", "learn a", "bad", "yard", "bad")
}

// What is done by a word that stands alone is not done by a line that is bad.
func TestYardSessionBadDoesNothing(t *testing.T) {
	wantTalk(t,
		aFile("a", "A"), "code 0", "ask a", "code 0", "tick", "2",
		"answers ", "bad", "tick 1", "bad", "bring 00", "bad", "lose", "bad", "lose 0 0", "bad", "calm 20 0", "bad", "fall 0", "bad", "fall 0 0 0", "bad", "rise", "bad", "clear a", "bad", "drop a a", "bad", "pack a", "bad",
		"show", "1.1 files 1 kept 0 runs 0 log 2+0 right", "tick", "4", "answers", `a 0 "A\0a"`,
	)
}

func TestYardSessionNumbers(t *testing.T) {
	for _, n := range []string{"00", "01", "000", "0000", "00000", "0001", "10000", "12345", "99999", "-0", "-1", "+1", "1.", "1e1", "0x1", "1_0", "a", "1a", "a1", "\u0661", "", " ", "1 ", "\x00", "99999999999999999999", ".", "#"} {
		for _, form := range []string{"bring N", "double N", "lose N", "bend N 0 0", "bend 0 N 0", "bend 0 0 N", "fall N 0", "fall 0 N", "rise N", "calm N"} {
			wantSession(t, strings.Replace(form, "N", n, 1), "bad\n")
		}
	}
	for _, n := range []string{"0", "1", "9", "10", "200", "999", "1000", "9999"} {
		for _, form := range []string{"bring N", "double N", "lose N", "bend N 0 0", "bend 0 N 0", "bend 0 0 N", "bend N N N", "rise N"} {
			wantSession(t, strings.ReplaceAll(form, "N", n), "0\n")
		}
	}
	wantTalk(t, "calm 0", "0", "show", "1.0 files 0 kept 0 runs 0 log 0+1 right", "tick", "2", "calm 0", "2", "calm 201", "no", "calm 999", "no", "calm 9999", "no", "calm 10000", "bad", "lose 1", "1", "calm 200", "0", "calm 1", "0")
}

// Each number of calm rounds comes to as many rounds: a lease of a worker that fell runs out just when it has to.
func TestYardSessionCalm(t *testing.T) {
	p := houseWith([]string{"a get a.o>src > a.o"})
	for _, rounds := range []int{0, 1, 2, 6, 7, 8, 9, 10, 11, 12, 20, 199, 200} {
		answers := "-"
		// Offered in round 2, until 8; offered to the other one in round 9, and again in 11; told in 13.
		if rounds >= 11 {
			answers = `a.o 0 "S\0a!"`
		}
		talk := talkIn(p, "ask a.o", "code 0", "calm 2", "0", "fall 1 0", "0", fmt.Sprint("calm ", rounds), "0", "answers", answers)
		wantTalk(t, talk...)
	}
}

// What stands in a file is seen when it is asked for.
func TestYardSessionFile(t *testing.T) {
	for _, lines := range [][]string{
		{}, {""}, {"", ""}, {"A"}, {"A", "B"}, {"A", "", "B"}, {" "}, {". "}, {" ."}, {".."}, {".\r"}, {".x"}, {"show", "tick", "file b", "answers"}, {"file b", "x"}, {"\"quoted\"", "\\0a", "a\\"},
		{"\x00\x01\x1f", "\x7f\x80\xff", "é", "\t\r"}, slices.Repeat([]string{"x"}, 1500), {strings.Repeat("x", 2999)}, {strings.Repeat("\xff", 2999)},
	} {
		text := ""
		for _, line := range lines {
			text += line + "\n"
		}
		wantTalk(t, aFile("a", lines...), "code 0", "ask a", "code 0", "tick", "2", "answers", "a 0 "+clayQuoted(text), "show", "1.1 files 1 kept 0 runs 0 log 2+0 right")
	}
	// It is set anew.
	wantTalk(t, aFile("a", "A"), "code 0", aFile("b"), "code 0", aFile("a", "B"), "code 0", "ask a", "code 0", "tick", "2", "answers", `a 0 "B\0a"`, "show", "1.3 files 2 kept 0 runs 0 log 4+0 right")
	// A text of more than MillMaxText bytes; lines that look like the end, where there is no file.
	wantTalk(t, aFile("a", strings.Repeat("x", 3000)), "code 2", aFile("a", slices.Repeat([]string{""}, 3001)...), "code 2", aFile("a", slices.Repeat([]string{""}, 3000)...), "code 0", ".", "bad", ". ", "bad")
	// With no name there are no lines, nor with two.
	wantTalk(t, "file", "bad", "A", "bad", ".", "bad", "file ", "bad", "A", "bad", ".", "bad", "file a b", "bad", "A", "bad", ".", "bad", " file a", "bad", ".", "bad", "file a ", "bad", ".", "bad", "File a", "bad", ".", "bad", "show", "1.0 files 0 kept 0 runs 0 log 0+1 right")
}

// A file's command without its end takes all that is left.
func TestYardSessionOpenFile(t *testing.T) {
	for _, text := range []string{"file a", "file a\n", "file a\n\n", "file a\nA", "file a\nA\n", "file a\n. ", "file a\n.x\n", "file a\nshow\ntick\n", "file a\nfile b\nB\n", "file \x7f\nA\n", "file a\n" + strings.Repeat("tick\n", 3900)} {
		wantSession(t, text, "bad\n")
		wantSession(t, linesOf("tick", aFile("b", "B"), "show")+text, "2\ncode 0\n1.1 files 1 kept 0 runs 0 log 1+1 right\nbad\n")
	}
	for _, text := range []string{"file a\n.", "file a\n.\n"} {
		wantSession(t, text, "code 0\n")
	}
	wantSession(t, "file a\nfile b\n.\nshow", "code 0\n1.1 files 1 kept 0 runs 0 log 0+2 right\n")
}

// Names of files: 1 to 60 bytes, each 33 to 126; what is none is a word all the same.
func TestYardSessionNames(t *testing.T) {
	long := strings.Repeat("n", 60)
	for _, name := range []string{"a", "~", "!", ".", "\"", "\\", "0", "a/b", "file", "show", long} {
		wantTalk(t, aFile(name, "A"), "code 0", "ask "+name, "code 0", "tick", "2", "answers", name+` 0 "A\0a"`, "drop "+name, "code 0", "drop "+name, "code 3", "ask "+name, "code 0", "tick", "4", "answers", name+` 4 ""`)
	}
	for _, name := range []string{"\x7f", "\x00", "\x1f", "\t", "é", "\xff", "a\x80", "a\r", long + "n", "\u00a0", strings.Repeat("n", 5000)} {
		wantTalk(t, aFile(name, "A"), "code 2", "ask "+name, "code 2", "drop "+name, "code 2", "tick", "2", "answers", "-", "show", "1.0 files 0 kept 0 runs 0 log 1+0 right")
	}
}

// Every code that a change, an ask or a pack has.
func TestYardSessionCodes(t *testing.T) {
	// All is done.
	wantTalk(t, aFile("a"), "code 0", "drop a", "code 0", "clear", "code 0", "ask a", "code 0", "tick", "2", "pack", "code 0", "show", "1.2 files 0 kept 0 runs 0 log 1+0 right")
	// A boss that is down does nothing.
	wantTalk(t, aFile("a"), "code 0", "tick", "2", "fall 0 0", "2", aFile("b"), "code 2", "drop a", "code 2", "clear", "code 2", "ask a", "code 2", "pack", "code 2", aFile("\x7f"), "code 2",
		"show", "down right", "rise 0", "2", "drop a", "code 0", "show", "2.1 files 0 kept 0 runs 0 log 2+2 right")
	// What is not there, a pack with something Loose, what is asked for at once.
	talk := []string{"drop a", "code 3", "pack", "code 3", "tick", "2", "pack", "code 0", "drop a", "code 3", "pack", "code 0"}
	for n := range 10 {
		talk = append(talk, fmt.Sprint("ask r", n), "code 0")
	}
	talk = append(talk, "ask r10", "code 3", "ask r3", "code 0", "ask \x7f", "code 2", "tick", "4", "ask r10", "code 0", "answers", `r0 4 "", r1 4 "", r2 4 "", r3 4 "", r4 4 "", r5 4 "", r6 4 "", r7 4 "", r8 4 "", r9 4 ""`)
	wantTalk(t, talk...)
	// A full place.
	talk = nil
	for n := range 40 {
		talk = append(talk, aFile(fmt.Sprint("f", n)), "code 0")
	}
	wantTalk(t, append(talk, aFile("f40"), "code 3", aFile("f39", "new"), "code 0", "drop f0", "code 0", aFile("f40"), "code 0", aFile("f0"), "code 3", "show", "1.43 files 40 kept 0 runs 0 log 0+44 right")...)
}

// sessionMany is a package with so many targets, each with its number as arg, and one that all of them go into.
func sessionMany(many int) string {
	text := `def t(i) = let n = "t" + text(i) in {name: n, tool: "t", arg: n, ins: ["src"], outs: [n]};` + "\n"
	for n := range many {
		text += fmt.Sprintf("emit t(%d);", n)
	}
	return text + fmt.Sprintf("\n"+`emit {name: "all", tool: "join", ins: ["t" + text(i) for i in range(%d)], outs: ["all"]};`, many)
}

const (
	sessionTool = `fn main() -> text { write arg(), arg() + "!"; return ""; }`
	sessionJoin = `fn main() -> text { write "all", read("t0"); return ""; }`
)

// A log that is full keeps nothing more; a shelf that is full neither, but what was made is there.
func TestYardSessionFull(t *testing.T) {
	commands := []string{aFile("main.clay", sessionMany(59)), aFile("t", sessionTool), aFile("join", sessionJoin)}
	for n := range 17 {
		if n > 1 {
			commands = append(commands, "clear")
		}
		commands = append(commands, aFile("src", fmt.Sprint(n)), "ask all", "calm 200", "answers", "show")
	}
	commands = append(commands, aFile("x"), "drop src", "clear", "tick", "pack", "show", aFile("x"), "show")
	got := impl.YardSession(linesOf(commands...))
	for _, want := range []string{
		"\n0\nall 0 \"t0!\"\n1.4 files 4 kept 60 runs 60 log 65+0 right\n",
		"\n0\nall 0 \"t0!\"\n1.5 files 4 kept 100 runs 60 log 106+0 right\n",
		"\n0\nall 0 \"t0!\"\n1.19 files 4 kept 60 runs 60 log 974+0 right\ncode 0\ncode 0\ncode 0\n0\nall 0 \"t0!\"\n1.20 files 4 kept 24 runs 60 log 1000+0 right\n",
		"+0 right\ncode 3\ncode 3\ncode 3\n2\ncode 0\n1.20 files 4 kept 24 runs 60 log 29+0 right\ncode 0\n1.21 files 5 kept 24 runs 0 log 29+1 right\n",
	} {
		if !strings.Contains(got, want) {
			t.Errorf("%q is not told by %.3000q", want, got)
		}
	}
}

// Each event is done as it is done on a world, and tells how many parcels are in flight then.
func TestYardSessionEvents(t *testing.T) {
	p := houseWith([]string{"a get a.o>src > a.o"})
	talk := func(more ...string) {
		t.Helper()
		wantTalk(t, talkIn(p, append([]string{"ask a.o", "code 0"}, more...)...)...)
	}
	// Two that are here, an offer, a turn at a look, an offer, a turn at the end.
	talk("tick", "2", "bring 0", "1", "bring 0", "0", "bring 0", "0", "tick", "3", "bring 0", "2", "tick", "5", "bring 3", "4", "tick", "7", "lose 0", "6", "lose 6", "6", "lose 5", "5",
		"show", "1.9 files 9 kept 0 runs 1 log 10+0 right", "calm 3", "0", "answers", `a.o 0 "S\0a!"`)
	// One that is lost, of which no other is in the place: the first offer goes to worker 2.
	talk("tick", "2", "lose 0", "1", "bring 0", "0", "tick", "3", "fall 2 0", "3", "bring 0", "2", "calm 3", "0", "rise 2", "0", "calm 12", "0", "answers", `a.o 0 "S\0a!"`)
	// One that comes twice, and one that comes never.
	talk("tick", "2", "double 1", "3", "double 3", "3", "double 9999", "3", "bring 2", "2", "lose 0", "1", "lose 0", "0", "lose 0", "0", "tick", "3", "double 0", "4", "bring 3", "3", "bring 0", "2", "calm 5", "0", "answers", `a.o 0 "S\0a!"`)
	// One that is bent is not read; bent back it is.
	talk("calm 1", "0", "tick", "3", "bend 0 20 1", "3", "bring 0", "2", "calm 5", "0", "answers", "-", "calm 9", "0", "answers", `a.o 0 "S\0a!"`)
	talk("calm 1", "0", "tick", "3", "bend 0 20 1", "3", "bend 0 20 257", "3", "bend 0 9999 5", "3", "bend 9999 0 5", "3", "bend 0 0 256", "3", "bend 3 0 1", "3", "bring 0", "2", "calm 4", "0", "answers", `a.o 0 "S\0a!"`)
	// Workers that are down, or not there; a boss that falls keeps what is Safe, and the first of what is Loose.
	talk("fall 1 0", "0", "tick", "1", "fall 2 0", "1", "tick", "1", "fall 3 0", "1", "rise 3", "1", "rise 9999", "1", "fall 9999 0", "1", "tick", "1", "rise 1", "1", "tick", "2", "rise 2", "2", "tick", "4")
	talk("fall 0 4", "0", "show", "down right", "rise 0", "0", "show", "2.0 files 3 kept 0 runs 0 log 4+1 right", "rise 0", "0", "calm 20", "0", "answers", "-")
	talk("fall 0 9999", "0", "tick", "2", "show", "down right", "rise 0", "2", "show", "2.0 files 9 kept 0 runs 0 log 10+1 right")
	talk("fall 0 0", "0", "show", "down right", "rise 0", "0", "show", "1.0 files 0 kept 0 runs 0 log 0+1 right")
}

// As many parcels as there can be.
func TestYardSessionFlight(t *testing.T) {
	talk := []string{"tick", "2"}
	for n := range 298 {
		talk = append(talk, "double 0", fmt.Sprint(n+3))
	}
	text := ""
	want := ""
	for at := 0; at < len(talk); at += 2 {
		text, want = text+talk[at]+"\n", want+talk[at+1]+"\n"
	}
	wantSession(t, text+"double 0\ntick\nlose 299\ntick\ncalm 1", want+"300\n300\n299\n300\n0\n")
}

func TestYardSessionAnswers(t *testing.T) {
	// None, one, several in their order; told once.
	wantTalk(t, "answers", "-", "answers", "-", aFile("a", "A"), "code 0", "ask a", "code 0", "answers", "-", "tick", "2", "answers", `a 0 "A\0a"`, "answers", "-",
		"ask b", "code 0", "ask a", "code 0", "tick", "4", "ask a", "code 0", "tick", "6", "answers", `b 4 "", a 0 "A\0a", a 0 "A\0a"`, "answers", "-")
	// Texts with all bytes.
	all := ""
	for b := range 256 {
		if b != '\n' {
			all += string([]byte{byte(b)})
		}
	}
	wantTalk(t, aFile("a", all, `"\0a"`), "code 0", "ask a", "code 0", "tick", "2", "answers",
		`a 0 "\00\01\02\03\04\05\06\07\08\09\0b\0c\0d\0e\0f\10\11\12\13\14\15\16\17\18\19\1a\1b\1c\1d\1e\1f !\22#$%&'()*+,-./0123456789:;<=>?@ABCDEFGHIJKLMNOPQRSTUVWXYZ[\5c]^_`+"`"+`abcdefghijklmnopqrstuvwxyz{|}~\7f`+hexFrom(128)+`\0a\22\5c0a\22\0a"`)
	// Names that never come, ends that are not well, outs.
	p := houseWith([]string{"a get a.o>b.o > a.o", "b get b.o>a.o > b.o", "e ends e.o>1 > e.o", "n get n.o>gone > n.o", "s set s.o>said > s.o"})
	wantTalk(t, talkIn(p, "ask a.o", "code 0", "ask s.o", "code 0", "ask e.o", "code 0", "ask n.o", "code 0", "ask gone", "code 0", "ask b.o", "code 0", "calm 30", "0", "answers", `gone 4 "", e.o 5 "", a.o never, s.o 0 "said", n.o 5 "", b.o never`, "answers", "-")...)
}

// hexFrom is how the bytes from one on are written.
func hexFrom(least int) string {
	text := ""
	for b := least; b < 256; b++ {
		text += fmt.Sprintf("\\%02x", b)
	}
	return text
}

// A world remembers 60 answers; those above are not told, and when they were told there is room again.
func TestYardSessionManyAnswers(t *testing.T) {
	commands := []string{}
	for range 7 {
		for n := range 10 {
			commands = append(commands, fmt.Sprint("ask ", n))
		}
		commands = append(commands, "calm 1")
	}
	text := linesOf(append(commands, "show", "answers", "ask a", "tick", "answers")...)
	want := strings.Repeat(strings.Repeat("code 0\n", 10)+"0\n", 7) + "1.0 files 0 kept 0 runs 0 log 1+0 right\n"
	for n := range 60 {
		want += fmt.Sprintf("%d 4 \"\", ", n%10)
	}
	wantSession(t, text, strings.TrimSuffix(want, ", ")+"\ncode 0\n2\na 4 \"\"\n")
}

// after is the world that commands have led to.
func after(commands ...string) impl.YardWorld {
	r := readSession()
	for _, command := range cutByRules(linesOf(commands...)) {
		r.does(command)
	}
	return r.w
}

// bendsTo are the commands by which a parcel becomes another message, of which the form has the same size.
func bendsTo(t *testing.T, w impl.YardWorld, at int, m impl.YardMessage) []string {
	t.Helper()
	from, to := w.Flight[at].Bytes, yardPackByRules(m, "k")
	if len(from) != len(to) {
		t.Fatalf("%q cannot become %q", from, to)
	}
	var bends []string
	for i := range from {
		if from[i] != to[i] {
			bends = append(bends, fmt.Sprintf("bend %d %d %d", at, i, from[i]^to[i]))
		}
	}
	return bends
}

// toldAs asks for the last answer to commands.
func toldAs(t *testing.T, want string, commands ...string) {
	t.Helper()
	text := linesOf(commands...)
	got := strings.Split(strings.TrimSuffix(impl.YardSession(text), "\n"), "\n")
	rules := strings.Split(strings.TrimSuffix(sessionByRules(text), "\n"), "\n")
	if got[len(got)-1] != want || !slices.Equal(got, rules) {
		t.Errorf("%.300q: %.300q, by the rules %.300q, want %.300q", text, got, rules, want)
	}
}

// All that a world can be shown as: up or down, right or wrong, and with something forged or not.
func TestYardSessionShow(t *testing.T) {
	toldAs(t, "1.0 files 0 kept 0 runs 0 log 0+1 right", "show")
	toldAs(t, "down right", "fall 0 0", "show")
	// A worker's Here becomes that of the other one: it is forged, and all is right.
	begun := []string{"tick"}
	here := append(begun, bendsTo(t, after(begun...), 0, impl.YardMessage{Kind: 3, From: 2})...)
	toldAs(t, "1.0 files 0 kept 0 runs 0 log 1+0 right", append(slices.Clone(here), "show")...)
	here = append(here, "bring 0")
	toldAs(t, "1.0 files 0 kept 0 runs 0 log 1+0 right forged", append(slices.Clone(here), "show")...)
	toldAs(t, "down right forged", append(slices.Clone(here), "fall 0 0", "show")...)
	toldAs(t, "2.0 files 0 kept 0 runs 0 log 1+1 right forged", append(slices.Clone(here), "fall 0 0", "rise 0", "show")...)
	// A worker's end of a run is changed: what was asked for is answered otherwise than it is meant.
	lied := append(filesToldOf(houseWith([]string{"a set a.o>well > a.o"})), "ask a.o", "calm 2", "tick")
	w := after(lied...)
	turn, reads := impl.YardOpen(w.Flight[1].Bytes, "k")
	if !reads || !turn.Turn.Over {
		t.Fatal(flightShown(w))
	}
	turn.Turn.Files = []impl.MillFile{{Name: "a.o", Text: "ill!"}}
	lied = append(append(lied, bendsTo(t, w, 1, turn)...), "bring 1", "tick")
	toldAs(t, `1.9 files 9 kept 1 runs 1 log 11+0 wrong forged`, append(slices.Clone(lied), "show")...)
	toldAs(t, `1.9 files 9 kept 1 runs 1 log 11+0 wrong forged`, append(slices.Clone(lied), "show", "ask src", "tick", "show")...)
	toldAs(t, `a.o 0 "ill!"`, append(slices.Clone(lied), "answers")...)
	toldAs(t, `1.9 files 9 kept 1 runs 1 log 11+0 right forged`, append(slices.Clone(lied), "answers", "show")...)
	toldAs(t, "down wrong forged", append(slices.Clone(lied), "fall 0 0", "show")...)
	// Behind answers that were right there comes one that is wrong.
	toldAs(t, `1.9 files 9 kept 1 runs 1 log 11+0 wrong forged`, append(slices.Clone(lied), "answers", "ask src", "tick", "show", "ask a.o", "tick", "show")...)
	// A lie on the shelf is not believed behind a fall.
	toldAs(t, `a.o 0 "well"`, append(slices.Clone(lied), "answers", "fall 0 0", "rise 0", "ask a.o", "calm 20", "answers")...)
}

// What is told of an answer is told of the place as it was then.
func TestYardSessionShowsPlaces(t *testing.T) {
	talk := talkIn(houseWith([]string{"a get a.o>src > a.o", "m get m.o>a.o > m.o"}))
	for n := range 5 {
		talk = append(talk, aFile("src", fmt.Sprint("text ", n)), "code 0", "ask m.o", "code 0", "calm 20", "0", "show", fmt.Sprintf("1.%d files 9 kept %d runs 2 log %d+0 right", n+10, 2*n+2, 3*n+13))
	}
	wantTalk(t, append(talk, "drop src", "code 0", "show", "1.15 files 8 kept 10 runs 0 log 25+1 right", "answers", `m.o 0 "text 0\0a!!", m.o 0 "text 1\0a!!", m.o 0 "text 2\0a!!", m.o 0 "text 3\0a!!", m.o 0 "text 4\0a!!"`)...)
}

// Bytes and commands as many as there may be, and one more.
func TestYardSessionTooLong(t *testing.T) {
	bad := func(many int) string { return strings.Repeat("bad\n", many) }
	line := strings.Repeat("x", 19999)
	wantSession(t, line+"x", "bad\n")
	wantSession(t, line+"\n", "bad\n")
	wantSession(t, line+"x\n", "too long\n")
	wantSession(t, line+"xx", "too long\n")
	wantSession(t, "show\n"+line, "too long\n")
	wantSession(t, strings.Repeat("\n", 400), bad(400))
	wantSession(t, strings.Repeat("\n", 401), "too long\n")
	wantSession(t, strings.Repeat("x\n", 399)+"x", bad(400))
	wantSession(t, strings.Repeat("x\n", 400)+"x", "too long\n")
	wantSession(t, strings.Repeat("tick\n", 401), "too long\n")
	wantSession(t, strings.Repeat("\n", 20000), "too long\n")
	wantSession(t, strings.Repeat("\n", 20001), "too long\n")
	wantSession(t, strings.Repeat("\x00", 30000), "too long\n")
	// The lines of a file are no commands.
	file := linesOf(aFile("f", slices.Repeat([]string{"tick"}, 600)...))
	done := file + strings.Repeat("x\n", 399)
	wantSession(t, done, "code 0\n"+bad(399))
	wantSession(t, done+"x", "too long\n")
	wantSession(t, strings.Repeat("x\n", 399)+file, bad(399)+"code 0\n")
	wantSession(t, strings.Repeat("x\n", 400)+file, "too long\n")
	files := strings.Repeat(linesOf(aFile("f", "tick", "x")), 199)
	wantSession(t, files+strings.Repeat("\n", 201), strings.Repeat("code 0\n", 199)+bad(201))
	wantSession(t, files+strings.Repeat("\n", 202), "too long\n")
	// The last one is a file without its end.
	open := "file f\n" + strings.Repeat("tick\n", 1000)
	wantSession(t, strings.Repeat("x\n", 399)+open, bad(400))
	wantSession(t, strings.Repeat("x\n", 400)+open, "too long\n")
	wantSession(t, strings.Repeat("x\n", 399)+"file f", bad(400))
	wantSession(t, strings.Repeat("x\n", 400)+"file f\n", "too long\n")
	full := "file f\n" + strings.Repeat("\n", 20000-len("file f\n.\n")) + ".\n"
	wantSession(t, full, "code 2\n")
	wantSession(t, full+"\n", "too long\n")
}

// sessionAuthor draws sessions.
type sessionAuthor struct{ houseAuthor }

func (a sessionAuthor) number() string {
	if a.below(10) == 0 {
		return a.pick("7", "12", "299", "9999", "05", "-1", "x", "", "00", "12345")
	}
	return a.pick("0", "0", "0", "1", "1", "2", "3", "4")
}

// command is a drawn one; most of them let something go on.
func (a sessionAuthor) command() string {
	switch a.below(24) {
	case 0, 1, 2:
		return "ask " + a.pick("o1", "o2", "o3", "o4", "o5", "o6", "l/o7", "l/o8", "f1", "gone", "\x7f")
	case 3:
		return aFile(a.pick("f1", "f1", "f2", "l/f", "l/g", "z", "t2", "main.clay", "\xff"), a.pick("1", "2", "", "x\ny", "\x00\xff", " .", a.program()))
	case 4:
		return a.pick("clear", "drop f1", "drop l/g", "drop t4", "drop gone", "drop \x00")
	case 5:
		return "pack"
	case 6, 7, 8:
		return "bring " + a.number()
	case 9:
		return a.pick("double ", "lose ") + a.number()
	case 10:
		return "bend " + a.pick("0", "1", "2") + " " + a.pick("0", "9", "20", a.number()) + " " + a.pick("1", "256", "511", a.number())
	case 11:
		return "fall " + a.number() + " " + a.number()
	case 12, 13:
		return "rise " + a.pick("0", "1", "2", a.number())
	case 14, 15, 16:
		return "calm " + a.pick("1", "2", "5", "30", "200", "201", a.number())
	case 17:
		return "answers"
	case 18:
		return "show"
	case 19:
		return a.spoilt()
	}
	return "tick"
}

// spoilt is a line that may be a command no longer.
func (a sessionAuthor) spoilt() string {
	line := a.pick("show", "tick", "bring 0", "ask f1", "bend 0 0 0", "calm 3", "answers", "file f1", "drop f1")
	at := a.below(len(line) + 1)
	switch a.below(4) {
	case 0:
		return line[:at] + a.pick(" ", "  ", "0", "x", "\t", "\x00", "\r") + line[at:]
	case 1:
		return line[:at]
	case 2:
		return line + " " + a.number()
	}
	return a.pick("", ".", " ", "zap", line+" ")
}

// session is a drawn one, cut into what is a command each, but for the spoilt ones, which may take others as their lines.
func (a sessionAuthor) session() []string {
	commands := filesToldOf(a.house())
	for range 20 + a.below(100) {
		commands = append(commands, a.command())
	}
	if a.below(4) == 0 {
		commands = append(commands, "file f1\nopen")
	}
	return commands
}

// Promise 49 for drawn sessions: each is answered as it is by the second reading, and where it is cut behind a command, this has its answers.
func TestYardSessionsDrawn(t *testing.T) {
	for group := range 8 {
		t.Run(fmt.Sprint(group), func(t *testing.T) {
			t.Parallel()
			dice := clayDice(3101 + group)
			a := sessionAuthor{houseAuthor{&dice}}
			counts := map[string]int{}
			for range 20 {
				text := linesOf(a.session()...)
				got := impl.YardSession(text)
				if rules := sessionByRules(text); got != rules {
					t.Fatalf("%q: %q, by the rules %q", text, got, rules)
				}
				countSession(counts, text, got)
				wantCuts(t, a, text, got)
				if t.Failed() {
					return
				}
			}
			for _, what := range []string{
				"code 0", "code 2", "code 3", "bad", "no", "never", "right", "down", "0", "1", "2", "3", "answer 0", "answer 4", "answer 5", "-",
			} {
				if counts[what] == 0 {
					t.Errorf("%q: never, of %v", what, counts)
				}
			}
			if counts["wrong"] > 0 || counts["forged"] > 0 || counts["too long"] > 0 {
				t.Error(counts)
			}
		})
	}
}

var sessionAnswer = regexp.MustCompile(`(?:^|, )[!-~]+ ([045]) "`)

// countSession counts what was told.
func countSession(counts map[string]int, text, got string) {
	commands := cutByRules(text)
	for at, line := range strings.Split(strings.TrimSuffix(got, "\n"), "\n") {
		counts[line]++
		switch commands[at][0] {
		case "answers":
			for _, found := range sessionAnswer.FindAllStringSubmatch(line, -1) {
				counts["answer "+found[1]]++
			}
			counts["never"] += strings.Count(line, " never")
		case "show":
			for _, word := range strings.Fields(line) {
				counts[word]++
			}
		}
	}
}

// wantCuts asks for the answers to the first commands of a session that is not too long.
func wantCuts(t *testing.T, a sessionAuthor, text, got string) {
	t.Helper()
	commands := cutByRules(text)
	answers := strings.SplitAfter(got, "\n")
	for range 6 {
		first := a.below(len(commands) + 1)
		if first == len(commands) && strings.HasSuffix(got, "bad\n") {
			// The last one may have no end.
			continue
		}
		begins := ""
		for _, command := range commands[:first] {
			begins += linesOf(command...)
		}
		want := strings.Join(answers[:first], "")
		for _, behind := range []string{"", "show\n", "file x\n", strings.Repeat("\n", 400-first)} {
			if part := impl.YardSession(begins + behind); !strings.HasPrefix(part, want) && part != "too long\n" || behind == "" && part != want {
				t.Errorf("%q behind %q: %q, want %q", behind, begins, part, want)
			}
		}
	}
}

// slowTool looks at names that are not there, and then tells what it was given.
const slowTool = `fn main() -> text { let n = 0; if has("p") { n = n + 1; } if has("q") { n = n + 2; } let s = ""; if has("i") { s = read("i"); } write "m.o", arg() + dec(n) + s; return ""; }`

// A run that is under way when its house is changed is made anew, by what is so then.
func TestYardSessionRunsUnderWay(t *testing.T) {
	before := runtime.NumGoroutine()
	emit := func(parts string) string { return aFile("main.clay", `emit {name: "m", `+parts+`};`) }
	begun := emit(`tool: "up", arg: "x", ins: ["i"], outs: ["m.o"]`)
	for change, want := range map[string]string{
		aFile("z", "Z"): `m.o 0 "x0I\0a"`,
		begun:           `m.o 0 "x0I\0a"`,
		emit(`tool: "up", arg: "y", ins: ["i"], outs: ["m.o"]`):                 `m.o 0 "y0I\0a"`,
		emit(`tool: "up", arg: "x", ins: ["i"], outs: ["m.o", "n.o"]`):          `m.o 5 ""`,
		emit(`tool: "up", arg: "x", ins: ["i", "up"], outs: ["m.o"]`):           `m.o 0 "x0I\0a"`,
		emit(`tool: "up", arg: "x", outs: ["m.o"]`):                             `m.o 0 "x0I\0a"`,
		emit(`tool: "other", arg: "x", ins: ["i"], outs: ["m.o"]`):              `m.o 0 "xother"`,
		aFile("up", strings.Replace(slowTool, "arg() +", "arg() + arg() +", 1)): `m.o 0 "xx0I\0a"`,
		aFile("up", strings.Replace(slowTool, `has("q")`, `has("z")`, 1)):       `m.o 0 "x0I\0a"`,
		aFile("i", "J"): `m.o 0 "x0J\0a"`,
		aFile("p", "P"): `m.o 0 "x1I\0a"`,
		aFile("q", "Q"): `m.o 0 "x2I\0a"`,
		"drop i":        `m.o 5 ""`,
		"drop up":       `m.o 5 ""`,
	} {
		for rounds := range 9 {
			calm := fmt.Sprint("calm ", rounds)
			text := linesOf(begun, aFile("up", slowTool), aFile("other", `fn main() -> text { let n = has("p"); write "m.o", arg() + "other"; return ""; }`), aFile("i", "I"), "ask m.o", calm, change, "ask m.o", calm, "tick", begun, change, "ask m.o", "calm 30", "answers", "show")
			got := impl.YardSession(text)
			if rules := sessionByRules(text); got != rules {
				t.Fatalf("%q: %q, by the rules %q", text, got, rules)
			}
			if lines := strings.Split(got, "\n"); !strings.HasSuffix(lines[len(lines)-3], want) {
				t.Fatalf("%q: %q, want %q", text, got, want)
			}
		}
	}
	wantNoneLeft(t, before)
}

// More runs are left under way than a house has, and each of them is taken up again.
func TestYardSessionManyRunsUnderWay(t *testing.T) {
	before := runtime.NumGoroutine()
	commands := []string{aFile("up", strings.ReplaceAll(slowTool, `"m.o"`, `arg()`))}
	for _, rounds := range []int{2, 20} {
		for n := range 33 {
			commands = append(commands, aFile("main.clay", `def obj(f) = {name: f, tool: "up", arg: f, outs: [f]};`, fmt.Sprintf(`emit obj("a%d"); emit obj("b%d");`, n, n)), fmt.Sprint("ask a", n), fmt.Sprint("ask b", n), fmt.Sprint("calm ", rounds), "answers")
		}
	}
	text := linesOf(append(commands, "show")...)
	got := impl.YardSession(text)
	if rules := sessionByRules(text); got != rules || strings.Count(got, ` 0 "`) != 2*33 {
		t.Errorf("%q, by the rules %q", got, rules)
	}
	wantNoneLeft(t, before)
}

// A run that waits for what one on the shelf has read is made by workers, where the shelf is cleared: this one is there no longer.
func TestYardSessionClearWhileWaiting(t *testing.T) {
	p := houseWith([]string{"a get a.o>src > a.o", "m get m.o>a.o > m.o"})
	talk := talkIn(p, "ask m.o", "code 0", "calm 20", "0", "answers", `m.o 0 "S\0a!!"`, aFile("src", "T"), "code 0", "ask m.o", "code 0")
	wantTalk(t, append(slices.Clone(talk), "tick", "3", "tick", "5", "tick", "7")...)
	wantTalk(t, append(slices.Clone(talk), "tick", "3", "clear", "code 0", "tick", "6", "tick", "8", "calm 20", "0", "answers", `m.o 0 "T\0a!!"`)...)
}

// Texts of any bytes have an answer to each of their commands.
func TestYardSessionAnyBytes(t *testing.T) {
	dice := clayDice(3151)
	pieces := strings.Split("file|drop|clear|ask|pack|tick|bring|double|lose|bend|fall|rise|calm|answers|show|.| | | | |\n|\n|\n|\n|\n|\n|a|b|0|1|200|\x00|\xff|\r|ask a\n|file a\n|tick\n|show\n|\n.\n", "|")
	for range 3000 {
		text := ""
		for range dice.below(40) {
			text += dice.pick(pieces...)
			if dice.below(20) == 0 {
				text += string([]byte{byte(dice.below(256))})
			}
		}
		want := sessionByRules(text)
		if got := impl.YardSession(text); got != want || strings.Count(got, "\n") != len(cutByRules(text)) {
			t.Fatalf("%q: %q, by the rules %q", text, got, want)
		}
	}
}

// A session whose text is told by bytes, and one drawn by a number with the text behind it.
func FuzzYardSession(f *testing.F) {
	f.Add(0, "show\ntick\nfile a\nA\n.\nask a\ncalm 3\nanswers\nshow\n")
	f.Add(1, "bend 0 0 1\nbring 0\nfall 0 0\nrise 0\ncalm 200\nshow")
	f.Fuzz(func(t *testing.T, seed int, text string) {
		dice := clayDice(seed)
		drawn := linesOf(sessionAuthor{houseAuthor{&dice}}.session()...)
		for _, one := range []string{text, drawn + text} {
			if got, want := impl.YardSession(one), sessionByRules(one); got != want {
				t.Errorf("%q: %q, by the rules %q", one, got, want)
			}
		}
	})
}

// filledUp is a session of so many bytes or commands as there may be: some commands, others again and again, and the last ones.
func filledUp(first, again, last []string) string {
	all, text := slices.Clone(first), ""
	for len(all) <= 2*impl.YardMaxLines {
		next := linesOf(slices.Concat(all, again, last)...)
		if len(next) > impl.YardMaxSession || len(cutByRules(next)) > impl.YardMaxLines {
			break
		}
		all, text = append(all, again...), next
	}
	return text
}

// dearHouse is a house of 60 targets, each with many looks at a long text, or with many steps between them.
func dearHouse(tool string) []string {
	return []string{
		aFile("main.clay", strings.ReplaceAll(sessionMany(59), `, ins: ["src"]`, "")), aFile("t", tool), aFile("join", sessionJoin),
		aFile("src", strings.Repeat("\xff", 2999)), aFile("half", strings.Repeat("h", 1400)),
	}
}

// Sessions that are as dear as they can be come to their end while a test waits.
func TestYardSessionsDear(t *testing.T) {
	looks := `fn main() -> text { let i = 0; while i < 98 { let s = read("src"); i = i + 1; } write arg(), read("src"); return read("src"); }`
	steps := `fn main() -> text { let s = read("half"); let i = 0; let n = 0; while i < 1100 { n = ` + strings.Repeat("len(s + s) + ", 8) + `n; i = i + 1; } i = 0; while i < 90 { if has("none" + dec(i)) { say "x"; } i = i + 1; } write arg(), dec(n); return ""; }`
	calm := slices.Repeat([]string{"calm 200"}, 31)
	built := append(append(dearHouse(looks), "ask all"), slices.Repeat([]string{"calm 200"}, 65)...)
	for what, text := range map[string]string{
		"nothing to be done":         filledUp(nil, []string{"calm 200"}, []string{"show"}),
		"many looks":                 filledUp(append(dearHouse(looks), "ask all"), []string{"calm 200"}, []string{"answers", "show"}),
		"many looks again and again": filledUp(append(dearHouse(looks), "ask all"), append(slices.Clone(calm), "clear", aFile("x"), "ask all"), []string{"answers", "show"}),
		"many steps":                 filledUp(append(dearHouse(steps), "ask all"), []string{"calm 200"}, []string{"answers", "show"}),
		"falls":                      filledUp(built, []string{"fall 0 0", "rise 0", "ask all", "calm 2", "show"}, []string{"answers", "show"}),
		"packs":                      filledUp(built, []string{"calm 1", "pack"}, []string{"answers", "show"}),
		"answers in many places":     filledUp(built, []string{aFile("x"), "ask all", "calm 2", "show"}, []string{"answers", "show"}),
		"changes":                    filledUp(append(dearHouse(looks), "ask all"), []string{aFile("x"), "calm 6"}, []string{"answers", "show"}),
		"doubles":                    filledUp(append(dearHouse(looks), "ask all", "calm 120", "tick", "calm 0"), []string{"double 0"}, []string{"calm 200", "answers", "show"}),
		"bends":                      filledUp(append(dearHouse(looks), "ask all", "calm 120", "tick"), []string{"bend 0 100 1"}, []string{"calm 200", "show"}),
	} {
		t.Run(what, func(t *testing.T) {
			t.Parallel()
			began := time.Now()
			got := impl.YardSession(text)
			if took := time.Since(began); took > 2*time.Minute {
				t.Errorf("took %v", took)
			}
			lines := strings.Split(strings.TrimSuffix(got, "\n"), "\n")
			if len(lines) != len(cutByRules(text)) || !strings.HasSuffix(lines[len(lines)-1], " right") || slices.Contains(lines, "bad") || slices.Contains(lines, "code 2") {
				t.Errorf("%.1500q", got)
			}
			if many := len(lines); many < impl.YardMaxLines-40 {
				t.Errorf("%d commands", many)
			}
		})
	}
}

// A text is not changed, and what is told is new memory.
func TestYardSessionOwnMemory(t *testing.T) {
	for _, text := range []string{"", "x", "show", linesOf(aFile("a", "A"), "ask a", "tick", "answers"), linesOf("ask "+strings.Repeat("n", 60), "calm 1", "answers", "calm 201"), strings.Repeat("x", 20001), strings.Repeat("\n", 401)} {
		text = strings.Clone(text)
		before := strings.Clone(text)
		got := impl.YardSession(text)
		wantNewMemory(t, got, text, impl.YardSession(text))
		if text != before {
			t.Errorf("%.100q became %.100q", before, text)
		}
	}
}

// Nothing is kept from one session to the next, nor is there anything that two of them share, and no goroutine is left.
func TestYardSessionsKeepNothing(t *testing.T) {
	before := runtime.NumGoroutine()
	var all []func() string
	for n := range 8 {
		p := houseWith([]string{fmt.Sprintf("a get a.o>f%d > a.o", n), "m get m.o>a.o > m.o", "b get b.o>c.o > b.o", "c get c.o>b.o > c.o"}, fmt.Sprint("f", n), fmt.Sprint("text ", n))
		// It ends with runs that are under way, and with parcels in flight.
		text := linesOf(append(filesToldOf(p), "ask m.o", "ask b.o", "calm 20", "answers", aFile("f"+fmt.Sprint(n), "new"), "ask m.o", "ask b.o", "calm 4", "tick", "show")...)
		want := sessionByRules(text)
		if !strings.Contains(want, fmt.Sprintf(`m.o 0 "text %d\0a!!", b.o never`, n)) {
			t.Errorf("%.900q", want)
		}
		all = append(all, func() string {
			if got := impl.YardSession(text); got != want {
				return got
			}
			return ""
		})
	}
	wantAtOnce(t, all)
	wantNoneLeft(t, before)
}

// wantNoneLeft asks for no more goroutines than there were before.
func wantNoneLeft(t *testing.T, before int) {
	t.Helper()
	// One that is at its very end may be counted for a moment.
	for tries := 0; runtime.NumGoroutine() > before; tries++ {
		if tries == 200 {
			t.Fatalf("%d are under way, before %d", runtime.NumGoroutine(), before)
		}
		time.Sleep(5 * time.Millisecond)
	}
}
