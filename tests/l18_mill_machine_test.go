package tests

import (
	"cmp"
	"fmt"
	"reflect"
	"slices"
	"strconv"
	"strings"
	"testing"
	"unsafe"

	"loop.example/kilnyard/impl"
)

// millMachineCopied shares no list with the machine.
func millMachineCopied(m impl.MillMachine) impl.MillMachine {
	m.Codes = slices.Clone(m.Codes)
	for i := range m.Codes {
		m.Codes[i] = millCopied(m.Codes[i])
	}
	m.Args, m.Outs, m.Files, m.Said = slices.Clone(m.Args), slices.Clone(m.Outs), slices.Clone(m.Files), slices.Clone(m.Said)
	m.Frames = slices.Clone(m.Frames)
	for i, f := range m.Frames {
		m.Frames[i].Slots, m.Frames[i].Stack = slices.Clone(f.Slots), slices.Clone(f.Stack)
	}
	return m
}

func isSameMillFrame(a, b impl.MillFrame) bool {
	return a.Code == b.Code && a.Fn == b.Fn && a.At == b.At && slices.Equal(a.Slots, b.Slots) && slices.Equal(a.Stack, b.Stack)
}

func isSameMillMachine(a, b impl.MillMachine) bool {
	return slices.EqualFunc(a.Codes, b.Codes, isSameMillCode) && slices.Equal(a.Args, b.Args) && slices.Equal(a.Outs, b.Outs) &&
		slices.EqualFunc(a.Frames, b.Frames, isSameMillFrame) && a.Steps == b.Steps && a.Looks == b.Looks &&
		a.Kind == b.Kind && a.Name == b.Name && a.Hold == b.Hold && a.Over == b.Over && a.End == b.End && a.Text == b.Text &&
		slices.Equal(a.Files, b.Files) && slices.Equal(a.Said, b.Said)
}

// millValuesTold are values, each as its type and what it is; `-` for nothing.
func millValuesTold(values []impl.MillValue) string {
	var all []string
	for _, v := range values {
		switch {
		case v == (impl.MillValue{}):
			all = append(all, "-")
		case v.Type == impl.MillTypeText:
			all = append(all, "text:"+v.Text)
		case v.Type > 0 && v.Type < len(millTypeTexts):
			all = append(all, millTypeTexts[v.Type]+":"+strconv.FormatInt(v.N, 10))
		default:
			all = append(all, fmt.Sprint(v))
		}
	}
	return strings.Join(all, " ")
}

// millMachineTold is a machine in short: its steps, each frame as `program.function@place [slots] (stack)`, and its look; or its end.
func millMachineTold(m impl.MillMachine) string {
	if m.Over {
		return fmt.Sprintf("%d: over %d %s", m.Steps, m.End, m.Text)
	}
	told := strconv.Itoa(m.Steps) + ":"
	for _, f := range m.Frames {
		told += fmt.Sprintf(" %d.%d@%d [%s] (%s)", f.Code, f.Fn, f.At, millValuesTold(f.Slots), millValuesTold(f.Stack))
	}
	if m.Kind != 0 {
		told += fmt.Sprintf(" waits %d %s %s", m.Kind, m.Name, m.Hold)
	}
	return strings.TrimSpace(told)
}

// millMachineShown is a machine for those who look for what went wrong.
func millMachineShown(m impl.MillMachine) string {
	return fmt.Sprintf("%.500q of %.900q", millMachineTold(m), fmt.Sprintf("%+v", m))
}

// areMillTexts says whether no text is too long.
func areMillTexts(texts ...string) bool {
	return !slices.ContainsFunc(texts, func(text string) bool { return len(text) > 3000 })
}

// millMachineWrongs are the sentences of the chapter's last part that a machine breaks, each by a word.
func millMachineWrongs(m impl.MillMachine) []string {
	var wrongs []string
	ask := func(what string, holds bool) {
		if !holds && !slices.Contains(wrongs, what) {
			wrongs = append(wrongs, what)
		}
	}
	ask("files", len(m.Files) <= 20)
	for i, file := range m.Files {
		ask("order", i == 0 || m.Files[i-1].Name < file.Name)
		ask("file", isMillFileName(file.Name) && areMillTexts(file.Text))
	}
	ask("said", len(m.Said) <= 50 && areMillTexts(m.Said...))
	ask("steps", m.Steps >= 0 && m.Steps <= 4000)
	if m.Over {
		ask("end", m.End >= 0 && m.End <= 5)
		ask("text", areMillTexts(m.Text))
		ask("lost", m.End == 0 || len(m.Files) == 0)
		left := m
		left.Steps, left.Over, left.End, left.Text, left.Files, left.Said = 0, false, 0, "", nil, nil
		ask("left", isSameMillMachine(left, impl.MillMachine{}))
		return wrongs
	}
	ask("codes", len(m.Codes) >= 1 && len(m.Codes) <= 40)
	for _, c := range m.Codes {
		ask("valid", millChecked(c) == [3]int{})
	}
	ask("args", len(m.Args) == len(m.Codes) && areMillTexts(m.Args...))
	ask("outs", impl.MillValidJob(impl.MillJob{Outs: m.Outs}))
	for _, file := range m.Files {
		ask("out", slices.Contains(m.Outs, file.Name))
	}
	ask("looks", m.Looks >= 0 && m.Looks <= 100)
	ask("end", m.End == 0)
	ask("text", m.Text == "")
	ask("frames", len(m.Frames) >= 1 && len(m.Frames) <= 40)
	if m.Kind >= 1 && m.Kind <= 4 {
		ask("name", m.Kind == 3 && isMillListed(m.Name) || m.Kind != 3 && isMillFileName(m.Name))
		ask("hold", areMillTexts(m.Hold) && (m.Kind == 4 || m.Hold == ""))
		ask("looks", m.Looks >= 1)
	} else {
		ask("kind", m.Kind == 0 && m.Name == "" && m.Hold == "")
	}
	if len(wrongs) == 0 {
		millFrameWrongs(m, ask)
	}
	return wrongs
}

// millFrameWrongs asks for the sentences about frames, in a machine that breaks no other.
func millFrameWrongs(m impl.MillMachine, ask func(what string, holds bool)) {
	last := len(m.Frames) - 1
	ask("code", m.Frames[0].Code == 0 && m.Frames[last].Code == len(m.Codes)-1)
	for i, f := range m.Frames {
		up := i == 0 || f.Code > m.Frames[i-1].Code
		ask("code", i == 0 || f.Code == m.Frames[i-1].Code || f.Code == m.Frames[i-1].Code+1)
		if f.Code < 0 || f.Code >= len(m.Codes) {
			continue
		}
		fns := m.Codes[f.Code].Fns
		if f.Fn < 0 || f.Fn >= len(fns) {
			ask("fn", false)
			continue
		}
		ask("main", !up || fns[f.Fn].Name == "main")
		shapes := impl.MillShapes(m.Codes[f.Code], f.Fn)
		if f.At < 0 || f.At >= len(shapes) || shapes[f.At].State != 1 {
			ask("at", false)
			continue
		}
		shape := shapes[f.At]
		ask("slots", len(f.Slots) == len(shape.Slots))
		for slot, v := range f.Slots {
			ask("slot", v == (impl.MillValue{}) || isRightMillValue(v))
			ask("kinds", slot >= len(shape.Slots) || shape.Slots[slot] == 0 || shape.Slots[slot] == v.Type)
		}
		behind := func(op, a int) bool {
			return f.At >= 1 && shapes[f.At-1].State == 1 && fns[f.Fn].Ins[f.At-1] == impl.MillIns{Op: op, A: a}
		}
		lies := shape.Stack
		lack := 0
		switch {
		case i == last && m.Kind != 0:
			ask("look", behind(impl.MillInsBuilt, []int{0, impl.MillBuiltRead, impl.MillBuiltHas, impl.MillBuiltList, impl.MillBuiltTool}[m.Kind]))
			lack = 1
		case i < last && m.Frames[i+1].Code > f.Code:
			ask("tool", behind(impl.MillInsBuilt, impl.MillBuiltTool))
			lack = 1
		case i < last:
			next := m.Frames[i+1].Fn
			ask("call", behind(impl.MillInsCall, next))
			if next >= 0 && next < len(fns) && fns[next].Result != 0 {
				lack = 1
			}
		}
		lies = lies[:max(0, len(lies)-lack)]
		var kinds []int
		for _, v := range f.Stack {
			ask("value", isRightMillValue(v))
			kinds = append(kinds, v.Type)
		}
		ask("stack", slices.Equal(kinds, lies))
	}
}

// millEndByRules is a machine whose run ends.
func millEndByRules(m impl.MillMachine, end int, text string) impl.MillMachine {
	over := impl.MillMachine{Over: true, End: end, Text: text, Steps: m.Steps, Said: m.Said}
	if end == 0 {
		over.Files = m.Files
	}
	return over
}

// millCallByRules is a machine that calls a function of its last program; in is the name of the one that calls.
func millCallByRules(m impl.MillMachine, in string, number int, params []impl.MillValue) impl.MillMachine {
	if len(m.Frames)+1 > 40 {
		return millEndByRules(m, 2, "deep in "+in)
	}
	if m.Steps+1 > 4000 {
		return millEndByRules(m, 3, "")
	}
	m.Steps++
	program := len(m.Codes) - 1
	slots := append(slices.Clone(params), make([]impl.MillValue, m.Codes[program].Fns[number].Slots-len(params))...)
	m.Frames = append(m.Frames, impl.MillFrame{Code: program, Fn: number, Slots: slots})
	return m
}

// millReturnByRules is a machine whose last frame is gone.
func millReturnByRules(m impl.MillMachine, result []impl.MillValue) impl.MillMachine {
	last := len(m.Frames) - 1
	code := m.Frames[last].Code
	m.Frames = m.Frames[:last]
	if last == 0 {
		for _, out := range m.Outs {
			if !slices.ContainsFunc(m.Files, func(file impl.MillFile) bool { return file.Name == out }) {
				return millEndByRules(m, 2, "lacks "+out)
			}
		}
		return millEndByRules(m, 0, result[0].Text)
	}
	if !slices.ContainsFunc(m.Frames, func(f impl.MillFrame) bool { return f.Code == code }) {
		m.Codes, m.Args = m.Codes[:code], m.Args[:code]
	}
	below := &m.Frames[last-1]
	below.Stack = append(below.Stack, result...)
	return m
}

// millWriteByRules is a machine with a text under a name.
func millWriteByRules(m impl.MillMachine, in, name, text string) impl.MillMachine {
	if !isMillFileName(name) {
		return millEndByRules(m, 2, "name in "+in)
	}
	if !slices.Contains(m.Outs, name) {
		return millEndByRules(m, 2, "output in "+in)
	}
	m.Files = slices.DeleteFunc(m.Files, func(file impl.MillFile) bool { return file.Name == name })
	m.Files = append(m.Files, impl.MillFile{Name: name, Text: text})
	slices.SortFunc(m.Files, func(a, b impl.MillFile) int { return strings.Compare(a.Name, b.Name) })
	return m
}

// millLookByRules is a machine that waits.
func millLookByRules(m impl.MillMachine, in string, kind int, taken []impl.MillValue) impl.MillMachine {
	name := taken[0].Text
	if kind == 3 && !isMillListed(name) || kind != 3 && !isMillFileName(name) {
		return millEndByRules(m, 2, "name in "+in)
	}
	if m.Looks+1 > 100 {
		return millEndByRules(m, 3, "")
	}
	m.Looks++
	m.Kind, m.Name = kind, name
	if kind == 4 {
		m.Hold = taken[1].Text
	}
	return m
}

// millStepByRules does an instruction word by word as the document says it.
func millStepByRules(m impl.MillMachine) impl.MillMachine {
	if len(millMachineWrongs(m)) > 0 {
		return impl.MillMachine{}
	}
	if m.Over || m.Kind != 0 {
		return m
	}
	m = millMachineCopied(m)
	f := &m.Frames[len(m.Frames)-1]
	fns := m.Codes[f.Code].Fns
	in := fns[f.Fn].Name
	ins := fns[f.Fn].Ins[f.At]
	f.At++
	take := func(many int) []impl.MillValue {
		taken := slices.Clone(f.Stack[len(f.Stack)-many:])
		f.Stack = f.Stack[:len(f.Stack)-many]
		return taken
	}
	put := func(v impl.MillValue) { f.Stack = append(f.Stack, v) }
	switch millInsWords[ins.Op] {
	case "push":
		put(impl.MillValue{Type: ins.A, N: ins.N, Text: ins.Text})
	case "load":
		put(f.Slots[ins.A])
	case "store":
		f.Slots[ins.A] = take(1)[0]
	case "drop":
		take(1)
	case "jump":
		f.At = ins.A
	case "unless":
		if take(1)[0] == millBoolValue(false) {
			f.At = ins.A
		}
	case "step":
		if m.Steps+1 > 4000 {
			return millEndByRules(m, 3, "")
		}
		m.Steps++
	case "fail":
		return millEndByRules(m, 1, take(1)[0].Text)
	case "say":
		text := take(1)[0].Text
		if len(m.Said)+1 > 50 {
			return millEndByRules(m, 2, "said in "+in)
		}
		m.Said = append(m.Said, text)
	case "write":
		taken := take(2)
		return millWriteByRules(m, in, taken[0].Text, taken[1].Text)
	case "call":
		taken := take(len(fns[ins.A].Params))
		return millCallByRules(m, in, ins.A, taken)
	case "return":
		return millReturnByRules(m, take(ins.A))
	default:
		what, kids := millAsked(ins)
		taken := take(kids)
		if kind := slices.Index(strings.Fields("? read has list tool"), what); kind > 0 {
			return millLookByRules(m, in, kind, taken)
		}
		if what == "arg" {
			put(millTextValue(m.Args[f.Code]))
			return m
		}
		v, word := millDoByRules(what, taken)
		if word != "" {
			return millEndByRules(m, 2, word+" in "+in)
		}
		put(v)
	}
	return m
}

// millAnswerByRules answers a look as the document says it.
func millAnswerByRules(m impl.MillMachine, y impl.MillReply) impl.MillMachine {
	if len(millMachineWrongs(m)) > 0 || !impl.MillValidReply(y) {
		return impl.MillMachine{}
	}
	if m.Over || m.Kind == 0 {
		return m
	}
	m = millMachineCopied(m)
	kind, name, hold := m.Kind, m.Name, m.Hold
	m.Kind, m.Name, m.Hold = 0, "", ""
	f := &m.Frames[len(m.Frames)-1]
	in := m.Codes[f.Code].Fns[f.Fn].Name
	if (kind == 1 || kind == 4) && y.Code != 0 {
		return millEndByRules(m, y.Code, name)
	}
	switch kind {
	case 1, 3:
		f.Stack = append(f.Stack, millTextValue(y.Text))
	case 2:
		f.Stack = append(f.Stack, millBoolValue(y.Code == 0 || y.Code == 5))
	case 4:
		tree, fault := impl.MillParse(y.Text)
		if fault.Code != 0 || impl.MillCheck(tree).Code != 0 {
			return millEndByRules(m, 2, "tool in "+in)
		}
		c := impl.MillCompile(tree)
		m.Codes, m.Args = append(m.Codes, c), append(m.Args, hold)
		return millCallByRules(m, in, slices.IndexFunc(c.Fns, func(fn impl.MillFn) bool { return fn.Name == "main" }), nil)
	}
	return m
}

// millTurnByRules is what a valid machine shows.
func millTurnByRules(m impl.MillMachine) impl.MillTurn {
	if m.Over {
		return impl.MillTurn{Over: true, Code: m.End, Text: m.Text, Steps: m.Steps, Files: m.Files, Said: m.Said}
	}
	kind := m.Kind
	if kind == 4 {
		kind = 1
	}
	return impl.MillTurn{Kind: kind, Name: m.Name, Steps: m.Steps, Said: m.Said}
}

// wantMillMachine asks whether a machine is what it is to be; of is what it was made of, if it is to be told.
func wantMillMachine(t *testing.T, what string, got, want impl.MillMachine, of ...impl.MillMachine) {
	t.Helper()
	if !isSameMillMachine(got, want) {
		for _, m := range of {
			what += " of " + millMachineShown(m)
		}
		t.Errorf("%s: got %s, want %s", what, millMachineShown(got), millMachineShown(want))
	}
}

// wantMillNothing asks all of the chapter of a machine that is not valid.
func wantMillNothing(t *testing.T, m impl.MillMachine) {
	t.Helper()
	kept := millMachineCopied(m)
	if impl.MillValidMachine(m) {
		t.Errorf("valid: %s", millMachineShown(m))
	}
	for _, y := range []impl.MillReply{{}, {Text: "x"}, {Text: inMain(millGive)}, {Code: 4}, {Code: 5}, {Code: 1}} {
		wantMillMachine(t, "answered", impl.MillAnswer(m, y), impl.MillMachine{})
	}
	wantMillMachine(t, "a step", impl.MillStep(m), impl.MillMachine{})
	for _, most := range []int{-1 << 63, -1, 0, 1, 7, 100000, 1<<63 - 1} {
		wantMillMachine(t, "gone on", impl.MillGo(m, most), impl.MillMachine{})
	}
	if got := impl.MillShown(m); !isSameMillTurn(got, impl.MillTurn{}) {
		t.Errorf("%s shows %s", millMachineShown(m), millTurnShown(got))
	}
	if !isSameMillMachine(m, kept) {
		t.Errorf("changed: %s", millMachineShown(m))
	}
}

// millWrongReplies are not valid.
func millWrongReplies() []impl.MillReply {
	return []impl.MillReply{{Code: 1}, {Code: 2}, {Code: 3}, {Code: 6}, {Code: 9}, {Code: -1}, {Code: 4, Text: "x"}, {Code: 5, Text: "x"}, {Text: strings.Repeat("x", 3001)}}
}

// wantMillStep asks for one step of a machine that is valid, and gives it: the rules have the same, it is valid, and changed if it could be (promise 24).
func wantMillStep(t *testing.T, m impl.MillMachine) impl.MillMachine {
	t.Helper()
	kept := millMachineCopied(m)
	next := impl.MillStep(m)
	wantMillMachine(t, "a step", next, millStepByRules(m), m)
	if !impl.MillValidMachine(next) {
		t.Errorf("behind %s it is not valid: %s", millMachineShown(m), millMachineShown(next))
	}
	stands := m.Over || m.Kind != 0
	if !stands {
		f := m.Frames[len(m.Frames)-1]
		stands = m.Codes[f.Code].Fns[f.Fn].Ins[f.At] == impl.MillIns{Op: impl.MillInsJump, A: f.At}
	}
	if isSameMillMachine(next, m) != stands {
		t.Errorf("stands %v: %s, and behind a step %s", stands, millMachineShown(m), millMachineShown(next))
	}
	if !isSameMillMachine(m, kept) {
		t.Errorf("a step changes %s to %s", millMachineShown(kept), millMachineShown(m))
	}
	return next
}

// wantMillAnswer asks for the answer to a look of a machine that is valid, and gives it.
func wantMillAnswer(t *testing.T, m impl.MillMachine, y impl.MillReply) impl.MillMachine {
	t.Helper()
	kept := millMachineCopied(m)
	next := impl.MillAnswer(m, y)
	wantMillMachine(t, fmt.Sprintf("%.300q", fmt.Sprint(y)), next, millAnswerByRules(m, y), m)
	if impl.MillValidReply(y) && !impl.MillValidMachine(next) {
		t.Errorf("%.300q of %s is not valid", fmt.Sprint(y), millMachineShown(m))
	}
	if !isSameMillMachine(m, kept) {
		t.Errorf("an answer changes %s to %s", millMachineShown(kept), millMachineShown(m))
	}
	return next
}

// wantMillRight asks of a machine whether it is valid, and what is said of one where it stands.
func wantMillRight(t *testing.T, m impl.MillMachine) {
	t.Helper()
	if wrongs := millMachineWrongs(m); len(wrongs) > 0 || !impl.MillValidMachine(m) {
		t.Fatalf("%v: %s", wrongs, millMachineShown(m))
	}
	wantMillStep(t, m)
	for _, most := range []int{-1 << 63, -2, -1, 0} {
		wantMillMachine(t, "gone on by none", impl.MillGo(m, most), m)
	}
	if got, want := impl.MillShown(m), millTurnByRules(m); !isSameMillTurn(got, want) {
		t.Errorf("%s shows %s, want %s", millMachineShown(m), millTurnShown(got), millTurnShown(want))
	}
	for _, y := range []impl.MillReply{{}, {Text: "x"}, {Text: strings.Repeat("x", 3000)}, {Text: inMain(millGive)}, {Text: `fn main() { }`}, {Code: 4}, {Code: 5}} {
		got := wantMillAnswer(t, m, y)
		if m.Over || m.Kind == 0 {
			wantMillMachine(t, "answered without a look", got, m)
		} else if isSameMillMachine(got, m) {
			t.Errorf("%.300q changes nothing: %s", fmt.Sprint(y), millMachineShown(m))
		}
	}
	for _, y := range millWrongReplies() {
		wantMillMachine(t, "a wrong reply", impl.MillAnswer(m, y), impl.MillMachine{})
	}
	if m.Over || m.Kind != 0 {
		wantMillMachine(t, "a step where it stands", impl.MillStep(m), m)
		wantMillMachine(t, "gone on where it stands", impl.MillGo(m, 1000), m)
	}
}

// millGone is a machine that has gone on to a look or its end; ins is at most how many instructions that took.
func millGone(t *testing.T, m impl.MillMachine, at int) (gone impl.MillMachine, ins int) {
	t.Helper()
	for m.Kind == 0 && !m.Over {
		m = impl.MillGo(m, at)
		ins += at
		if ins > 30*4000*12001+at || len(m.Frames) == 0 && !m.Over {
			t.Fatalf("%d instructions, and %s", ins, millMachineShown(m))
		}
	}
	return m, ins
}

// wantMillMachineMeant asks promise 25 of a program: turns are how the run stands behind none of the replies, behind one, and so on, until none is left or it is over.
func wantMillMachineMeant(t *testing.T, tree impl.MillTree, j impl.MillJob, replies []impl.MillReply, turns []impl.MillTurn) {
	t.Helper()
	m := impl.MillStart(impl.MillCompile(tree), j)
	for n, want := range turns {
		if n > 0 {
			m = impl.MillAnswer(m, replies[n-1])
		}
		m, _ = millGone(t, m, 100000)
		if got := impl.MillShown(m); !isSameMillTurn(got, want) {
			t.Errorf("%.1500q with %.200q and %.500q: the machine shows %s, want %s", impl.MillPrint(tree), fmt.Sprint(j), fmt.Sprint(replies[:n]), millTurnShown(got), millTurnShown(want))
			return
		}
	}
}

// wantMillHeart goes on with the machine of a program step by step, at most so many, and asks of each one promise 24, and at each look and at the end promise 25: what it shows is what Mean tells with the replies so far.
func wantMillHeart(t *testing.T, tree impl.MillTree, j impl.MillJob, replies []impl.MillReply, most int) impl.MillMachine {
	t.Helper()
	c := impl.MillCompile(tree)
	m := impl.MillStart(c, j)
	want := impl.MillMachine{Codes: []impl.MillCode{c}, Args: []string{j.Arg}, Outs: j.Outs}
	wantMillMachine(t, "begun", m, millCallByRules(want, "", slices.IndexFunc(c.Fns, func(fn impl.MillFn) bool { return fn.Name == "main" }), nil))
	used := 0
	for range most {
		if t.Failed() {
			return m
		}
		if m.Kind == 0 && !m.Over {
			m = wantMillStep(t, m)
			continue
		}
		mean := impl.MillMean(tree, j, replies[:used])
		if got := impl.MillShown(m); !isSameMillTurn(got, mean) || !isSameMillTurn(got, millTurnByRules(m)) {
			t.Errorf("%.1500q with %.200q and %.500q: the machine shows %s, meant is %s", impl.MillPrint(tree), fmt.Sprint(j), fmt.Sprint(replies[:used]), millTurnShown(got), millTurnShown(mean))
		}
		if m.Over || used == len(replies) {
			return m
		}
		m = wantMillAnswer(t, m, replies[used])
		used++
	}
	return m
}

// millBegun is the machine of a program at its beginning.
func millBegun(t *testing.T, src string, j impl.MillJob) impl.MillMachine {
	t.Helper()
	b := millOf(t, src)
	if fault := impl.MillCheck(b.tree()); fault.Code != 0 {
		t.Fatalf("%.900q: %+v", src, fault)
	}
	return impl.MillStart(impl.MillCompile(b.tree()), j)
}

func TestMillMachineConstants(t *testing.T) {
	if impl.MillMaxGo != 100000 {
		t.Errorf("%d", impl.MillMaxGo)
	}
}

func TestMillStart(t *testing.T) {
	codes := append(millSomeCodes(t), impl.MillCompile(millOf(t, millDown(3, "")).tree()), impl.MillCompile(millOf(t, `fn f(a u8) { let b = a; } `+inMain(`let a = 1; let b = "x"; return b;`)+` fn g() { }`).tree()))
	jobs := []impl.MillJob{{}, {Arg: "x"}, {Arg: strings.Repeat("x", 3000), Outs: []string{"a"}}, {Arg: "\x00\xff", Outs: strings.Fields("a b c d e f g h i j k l m n o p q r s t")}}
	for _, c := range codes {
		main := slices.IndexFunc(c.Fns, func(fn impl.MillFn) bool { return fn.Name == "main" })
		for _, j := range jobs {
			m := impl.MillStart(c, j)
			frame := impl.MillFrame{Fn: main, Slots: make([]impl.MillValue, c.Fns[main].Slots)}
			wantMillMachine(t, "begun", m, impl.MillMachine{Codes: []impl.MillCode{c}, Args: []string{j.Arg}, Outs: j.Outs, Frames: []impl.MillFrame{frame}, Steps: 1})
			wantMillRight(t, m)
		}
		for _, j := range []impl.MillJob{{Arg: strings.Repeat("x", 3001)}, {Outs: []string{""}}, {Outs: []string{"a", "a"}}, {Outs: []string{"b", "a"}}, {Outs: []string{"a b"}}, {Outs: []string{strings.Repeat("x", 61)}}, {Outs: strings.Fields("a b c d e f g h i j k l m n o p q r s t u")}} {
			wantMillMachine(t, "a wrong job", impl.MillStart(c, j), impl.MillMachine{})
		}
	}
	wrong := []impl.MillCode{
		{},
		impl.MillCompile(millOf(t, inMain(`return 1;`)).tree()),
		millCoded(t, "f -> ? 0: return 0"),
		millCoded(t, "main -> ? 0: return 0"),
		millCoded(t, "main text -> text 1: load 0; return 1"),
		millCoded(t, "main -> text 0: push u8 1; return 1"),
		millCoded(t, "main -> text 0: push text"),
		millCoded(t, "main -> text 1: load 0; return 1"),
		millCoded(t, "main -> text 0: push text; return 1\nf -> ? 0: drop; return 0"),
		millCoded(t, "main -> text 0: push text; return 1\nmain -> text 0: push text; return 1"),
		millCoded(t, "main -> text 201: push text; return 1"),
	}
	for _, c := range wrong {
		if c := millChecked(c); c == [3]int{} {
			t.Errorf("%v is valid", c)
		}
		for _, j := range jobs {
			wantMillMachine(t, "a wrong code", impl.MillStart(c, j), impl.MillMachine{})
		}
	}
	// A code may be valid without a form.
	long := millSized(t, 200001)
	if m := impl.MillStart(long, impl.MillJob{}); len(m.Frames) != 1 || !impl.MillValidMachine(m) {
		t.Errorf("%s", millMachineShown(m))
	}
}

// millTrace is a code, and what its machine is told as, at the beginning and behind each step.
type millTrace struct {
	code string
	told []string
}

// wantMillTraces asks for each step, here and by the rules.
func wantMillTraces(t *testing.T, j impl.MillJob, traces ...millTrace) {
	t.Helper()
	for _, trace := range traces {
		c := millCoded(t, trace.code)
		if got := millChecked(c); got != [3]int{} {
			t.Errorf("%s: %d", trace.code, got)
			continue
		}
		m := impl.MillStart(c, j)
		for i, told := range trace.told {
			if i > 0 {
				m = wantMillStep(t, m)
			}
			if got := millMachineTold(m); got != told {
				t.Errorf("%s: behind %d steps %q, want %q", trace.code, i, got, told)
				break
			}
		}
	}
}

// Each instruction, with the place, the stack, the slots and the steps behind it.
func TestMillStepInstructions(t *testing.T) {
	wantMillTraces(t, impl.MillJob{Arg: "A", Outs: []string{"o"}},
		millTrace{"main -> text 0: push text x; fail", []string{"1: 0.0@0 [] ()", "1: 0.0@1 [] (text:x)", "1: over 1 x", "1: over 1 x"}},
		millTrace{"main -> text 0: push u8 200; push i8 -3; push bool 1; push u64 -1; push text; fail", []string{
			"1: 0.0@0 [] ()", "1: 0.0@1 [] (u8:200)", "1: 0.0@2 [] (u8:200 i8:-3)", "1: 0.0@3 [] (u8:200 i8:-3 bool:1)", "1: 0.0@4 [] (u8:200 i8:-3 bool:1 u64:-1)", "1: 0.0@5 [] (u8:200 i8:-3 bool:1 u64:-1 text:)", "1: over 1 "}},
		millTrace{"main -> text 3: push text x; store 1; load 1; push u8 1; store 0; push i8 2; store 1; load 0; drop; load 1; drop; fail", []string{
			"1: 0.0@0 [- - -] ()", "1: 0.0@1 [- - -] (text:x)", "1: 0.0@2 [- text:x -] ()", "1: 0.0@3 [- text:x -] (text:x)", "1: 0.0@4 [- text:x -] (text:x u8:1)", "1: 0.0@5 [u8:1 text:x -] (text:x)",
			"1: 0.0@6 [u8:1 text:x -] (text:x i8:2)", "1: 0.0@7 [u8:1 i8:2 -] (text:x)", "1: 0.0@8 [u8:1 i8:2 -] (text:x u8:1)", "1: 0.0@9 [u8:1 i8:2 -] (text:x)", "1: 0.0@10 [u8:1 i8:2 -] (text:x i8:2)", "1: 0.0@11 [u8:1 i8:2 -] (text:x)", "1: over 1 x"}},
		millTrace{"main -> text 0: push i8 -128; un -; push u8 5; un ~; push bool 0; un !; push text; fail", []string{
			"1: 0.0@0 [] ()", "1: 0.0@1 [] (i8:-128)", "1: 0.0@2 [] (i8:-128)", "1: 0.0@3 [] (i8:-128 u8:5)", "1: 0.0@4 [] (i8:-128 u8:250)", "1: 0.0@5 [] (i8:-128 u8:250 bool:0)", "1: 0.0@6 [] (i8:-128 u8:250 bool:1)"}},
		// Of two that are taken the upper one is the second.
		millTrace{"main -> text 0: push i64 7; push i64 2; bin -; push i64 0; bin /; drop; push text; fail", []string{
			"1: 0.0@0 [] ()", "1: 0.0@1 [] (i64:7)", "1: 0.0@2 [] (i64:7 i64:2)", "1: 0.0@3 [] (i64:5)", "1: 0.0@4 [] (i64:5 i64:0)", "1: over 2 divide in main"}},
		millTrace{"main -> text 0: push text a; push text b; bin +; fail", []string{"1: 0.0@0 [] ()", "1: 0.0@1 [] (text:a)", "1: 0.0@2 [] (text:a text:b)", "1: 0.0@3 [] (text:ab)", "1: over 1 ab"}},
		millTrace{"main -> text 0: push i64 -1; conv u16; conv i8; drop; push text; fail", []string{"1: 0.0@0 [] ()", "1: 0.0@1 [] (i64:-1)", "1: 0.0@2 [] (u16:65535)", "1: 0.0@3 [] (i8:-1)", "1: 0.0@4 [] ()"}},
		millTrace{"main -> text 0: push text abc; push i64 1; push i64 2; built cut; built len; drop; built arg; fail", []string{
			"1: 0.0@0 [] ()", "1: 0.0@1 [] (text:abc)", "1: 0.0@2 [] (text:abc i64:1)", "1: 0.0@3 [] (text:abc i64:1 i64:2)", "1: 0.0@4 [] (text:b)", "1: 0.0@5 [] (i64:1)", "1: 0.0@6 [] ()", "1: 0.0@7 [] (text:A)", "1: over 1 A"}},
		millTrace{"main -> text 0: push text abc; push i64 3; built at; drop; push text; fail", []string{"1: 0.0@0 [] ()", "1: 0.0@1 [] (text:abc)", "1: 0.0@2 [] (text:abc i64:3)", "1: over 2 range in main"}},
		millTrace{"main -> text 0: jump 2; fail; push text x; jump 1", []string{"1: 0.0@0 [] ()", "1: 0.0@2 [] ()", "1: 0.0@3 [] (text:x)", "1: 0.0@1 [] (text:x)", "1: over 1 x"}},
		millTrace{"main -> text 0: jump 0", []string{"1: 0.0@0 [] ()", "1: 0.0@0 [] ()", "1: 0.0@0 [] ()"}},
		millTrace{"main -> text 0: push bool 1; unless 0; push bool 0; unless 5; step; push text x; fail", []string{
			"1: 0.0@0 [] ()", "1: 0.0@1 [] (bool:1)", "1: 0.0@2 [] ()", "1: 0.0@3 [] (bool:0)", "1: 0.0@5 [] ()", "1: 0.0@6 [] (text:x)", "1: over 1 x"}},
		millTrace{"main -> text 0: step; step; push text x; fail", []string{"1: 0.0@0 [] ()", "2: 0.0@1 [] ()", "3: 0.0@2 [] ()", "3: 0.0@3 [] (text:x)", "3: over 1 x"}},
		millTrace{"main -> text 0: push text o; push text x; write; push text s; say; push text r; return 1", []string{
			"1: 0.0@0 [] ()", "1: 0.0@1 [] (text:o)", "1: 0.0@2 [] (text:o text:x)", "1: 0.0@3 [] ()", "1: 0.0@4 [] (text:s)", "1: 0.0@5 [] ()", "1: 0.0@6 [] (text:r)", "1: over 0 r"}},
		millTrace{"main -> text 0: push text r; return 1", []string{"1: 0.0@0 [] ()", "1: 0.0@1 [] (text:r)", "1: over 2 lacks o"}},
		// The result of the first main is the upper one.
		millTrace{"main -> text 0: push text o; push text x; write; push u8 1; push text q; push text r; return 1", []string{
			"1: 0.0@0 [] ()", "1: 0.0@1 [] (text:o)", "1: 0.0@2 [] (text:o text:x)", "1: 0.0@3 [] ()", "1: 0.0@4 [] (u8:1)", "1: 0.0@5 [] (u8:1 text:q)", "1: 0.0@6 [] (u8:1 text:q text:r)", "1: over 0 r"}},
		millTrace{"main -> text 0: push text; push text x; write; push text; fail", []string{"1: 0.0@0 [] ()", "1: 0.0@1 [] (text:)", "1: 0.0@2 [] (text: text:x)", "1: over 2 name in main"}},
		millTrace{"main -> text 0: push text x; push text o; write; push text; fail", []string{"1: 0.0@0 [] ()", "1: 0.0@1 [] (text:x)", "1: 0.0@2 [] (text:x text:o)", "1: over 2 output in main"}},
	)
	wantMillTraces(t, impl.MillJob{Arg: "A"},
		millTrace{"main -> text 0: push text n; built read; fail", []string{"1: 0.0@0 [] ()", "1: 0.0@1 [] (text:n)", "1: 0.0@2 [] () waits 1 n", "1: 0.0@2 [] () waits 1 n"}},
		millTrace{"main -> text 0: push text n; built has; drop; push text; fail", []string{"1: 0.0@0 [] ()", "1: 0.0@1 [] (text:n)", "1: 0.0@2 [] () waits 2 n"}},
		millTrace{"main -> text 0: push text n; built list; fail", []string{"1: 0.0@0 [] ()", "1: 0.0@1 [] (text:n)", "1: 0.0@2 [] () waits 3 n"}},
		millTrace{"main -> text 0: push text; built list; fail", []string{"1: 0.0@0 [] ()", "1: 0.0@1 [] (text:)", "1: 0.0@2 [] () waits 3"}},
		millTrace{"main -> text 0: push text n; push text h; built tool; fail", []string{"1: 0.0@0 [] ()", "1: 0.0@1 [] (text:n)", "1: 0.0@2 [] (text:n text:h)", "1: 0.0@3 [] () waits 4 n h"}},
		millTrace{"main -> text 0: push text; built read; fail", []string{"1: 0.0@0 [] ()", "1: 0.0@1 [] (text:)", "1: over 2 name in main"}},
		// What is below of what a look takes stays.
		millTrace{"main -> text 1: push u8 1; store 0; push u8 2; push text n; push text h; built tool; fail", []string{
			"1: 0.0@0 [-] ()", "1: 0.0@1 [-] (u8:1)", "1: 0.0@2 [u8:1] ()", "1: 0.0@3 [u8:1] (u8:2)", "1: 0.0@4 [u8:1] (u8:2 text:n)", "1: 0.0@5 [u8:1] (u8:2 text:n text:h)", "1: 0.0@6 [u8:1] (u8:2) waits 4 n h"}},
	)
}

func TestMillStepCalls(t *testing.T) {
	wantMillTraces(t, impl.MillJob{},
		// A frame that is new has its parameters, in their order, and then nothing.
		millTrace{"main -> text 0: push i8 9; push u8 1; push text b; push bool 1; call 1; fail\nf u8 text bool -> text 5: load 1; return 1", []string{
			"1: 0.0@0 [] ()", "1: 0.0@1 [] (i8:9)", "1: 0.0@2 [] (i8:9 u8:1)", "1: 0.0@3 [] (i8:9 u8:1 text:b)", "1: 0.0@4 [] (i8:9 u8:1 text:b bool:1)",
			"2: 0.0@5 [] (i8:9) 0.1@0 [u8:1 text:b bool:1 - -] ()", "2: 0.0@5 [] (i8:9) 0.1@1 [u8:1 text:b bool:1 - -] (text:b)", "2: 0.0@5 [] (i8:9 text:b)", "2: over 1 b"}},
		// Without a result nothing is put; what is left on the stack of the frame that is gone is gone.
		millTrace{"f -> ? 0: push u8 1; push u8 2; return 0\nmain -> text 0: push i8 9; call 0; push text x; fail", []string{
			"1: 0.1@0 [] ()", "1: 0.1@1 [] (i8:9)", "2: 0.1@2 [] (i8:9) 0.0@0 [] ()", "2: 0.1@2 [] (i8:9) 0.0@1 [] (u8:1)", "2: 0.1@2 [] (i8:9) 0.0@2 [] (u8:1 u8:2)", "2: 0.1@2 [] (i8:9)", "2: 0.1@3 [] (i8:9 text:x)", "2: over 1 x"}},
		// A result above what is left.
		millTrace{"f -> bool 0: push u8 1; push bool 0; return 1\nmain -> text 0: call 0; drop; push text x; fail", []string{
			"1: 0.1@0 [] ()", "2: 0.1@1 [] () 0.0@0 [] ()", "2: 0.1@1 [] () 0.0@1 [] (u8:1)", "2: 0.1@1 [] () 0.0@2 [] (u8:1 bool:0)", "2: 0.1@1 [] (bool:0)"}},
		// A function that calls itself, and main that is called.
		millTrace{"f u8 -> ? 1: push bool 0; unless 4; load 0; call 0; return 0\nmain -> text 0: push u8 1; call 0; call 1; return 1", []string{
			"1: 0.1@0 [] ()", "1: 0.1@1 [] (u8:1)", "2: 0.1@2 [] () 0.0@0 [u8:1] ()", "2: 0.1@2 [] () 0.0@1 [u8:1] (bool:0)", "2: 0.1@2 [] () 0.0@4 [u8:1] ()", "2: 0.1@2 [] ()", "3: 0.1@3 [] () 0.1@0 [] ()", "3: 0.1@3 [] () 0.1@1 [] (u8:1)", "4: 0.1@3 [] () 0.1@2 [] () 0.0@0 [u8:1] ()"}},
		// Words are of the function whose frame it is.
		millTrace{"f -> ? 0: push u8 1; push u8 0; bin /; drop; return 0\nmain -> text 0: call 0; push text x; fail", []string{
			"1: 0.1@0 [] ()", "2: 0.1@1 [] () 0.0@0 [] ()", "2: 0.1@1 [] () 0.0@1 [] (u8:1)", "2: 0.1@1 [] () 0.0@2 [] (u8:1 u8:0)", "2: over 2 divide in f"}},
		millTrace{"f -> ? 0: push text q; fail\nmain -> text 0: call 0; push text x; fail", []string{"1: 0.1@0 [] ()", "2: 0.1@1 [] () 0.0@0 [] ()", "2: 0.1@1 [] () 0.0@1 [] (text:q)", "2: over 1 q"}},
	)
	// deep: ahead of the step, in the function that calls; with 39 frames there is room for one more.
	c := millCoded(t, "f u8 -> ? 1: load 0; call 0; return 0\nmain -> text 0: push u8 3; call 0; push text; return 1")
	m := impl.MillStart(c, impl.MillJob{})
	for len(m.Frames) < 40 {
		m = impl.MillStep(wantMillStep(t, m))
	}
	if m.Steps != 40 || m.Frames[39].At != 0 || m.Frames[38].At != 2 || m.Frames[0].At != 2 {
		t.Errorf("%s", millMachineTold(m))
	}
	for _, steps := range []int{0, 40, 3998, 3999, 4000} {
		m.Steps = steps
		end := wantMillStep(t, wantMillStep(t, m))
		wantMillMachine(t, "one too many", end, impl.MillMachine{Over: true, End: 2, Text: "deep in f", Steps: steps})
		less := millMachineCopied(m)
		less.Frames = less.Frames[:39]
		less.Frames[38].At, less.Frames[38].Stack = 1, []impl.MillValue{{Type: impl.MillTypeU8, N: 3}}
		got := wantMillStep(t, less)
		want := impl.MillMachine{Over: true, End: 3, Steps: 4000}
		if steps < 4000 {
			want = millMachineCopied(m)
			want.Steps = steps + 1
		}
		wantMillMachine(t, "the last that there is room for", got, want)
	}
	// The values are taken, and then there is no room: what was taken is in no answer.
	m.Steps = 40
	deep := impl.MillGo(m, 2)
	if deep.Text != "deep in f" || len(deep.Frames)+len(deep.Codes) != 0 {
		t.Errorf("%s", millMachineShown(deep))
	}
	// InsStep at the last step, and at one too many.
	m = impl.MillStart(millCoded(t, "main -> text 0: step; step; push text; return 1"), impl.MillJob{})
	m.Steps = 3999
	m = wantMillStep(t, m)
	if m.Steps != 4000 || m.Over {
		t.Errorf("%s", millMachineTold(m))
	}
	wantMillMachine(t, "one step too many", wantMillStep(t, m), impl.MillMachine{Over: true, End: 3, Steps: 4000})
}

// InsReturn in a function, in a tool's main, in the first main; which program goes with it.
func TestMillStepReturns(t *testing.T) {
	j := impl.MillJob{Arg: "0", Outs: []string{"o"}}
	m := millBegun(t, `fn f(a u8) -> text { return tool("t", "1") + dec(a); } `+inMain(`write "o", "x"; let x = f(7u8); return x + arg();`), j)
	// f(7u8) { tool t { g() { tool u { main() { } } } } }
	t1 := `fn g(s text) -> text { return s + tool("u", s + "2") + arg(); } ` + inMain(`return g(arg());`)
	t2 := inMain(`if arg() == "" { return "end"; } return main2() + arg();`) + ` fn main2() -> text { if has("h") { return main(); } return "no"; }`
	m, _ = millGone(t, m, 7)
	if m.Kind != 4 || m.Name != "t" || m.Hold != "1" || len(m.Codes) != 1 || len(m.Frames) != 2 {
		t.Fatalf("%s", millMachineTold(m))
	}
	wantMillRight(t, m)
	under := m.Frames[1]
	m = wantMillAnswer(t, m, impl.MillReply{Text: t1})
	if len(m.Codes) != 2 || !slices.Equal(m.Args, []string{"0", "1"}) || len(m.Frames) != 3 || m.Frames[2].Code != 1 || m.Frames[2].At != 0 || !isSameMillFrame(m.Frames[1], under) {
		t.Fatalf("%s", millMachineShown(m))
	}
	wantMillRight(t, m)
	m, _ = millGone(t, m, 1)
	if m.Kind != 4 || m.Name != "u" || m.Hold != "12" || len(m.Frames) != 4 || m.Frames[3].Code != 1 {
		t.Fatalf("%s", millMachineTold(m))
	}
	m = wantMillAnswer(t, m, impl.MillReply{Text: t2})
	if len(m.Codes) != 3 || !slices.Equal(m.Args, []string{"0", "1", "12"}) || len(m.Frames) != 5 || m.Frames[4].Code != 2 {
		t.Fatalf("%s", millMachineShown(m))
	}
	m, _ = millGone(t, m, 1)
	m = wantMillAnswer(t, m, impl.MillReply{Code: 5})
	// main2 of the tool calls main of the tool: one more frame of the same program.
	sizes := []string{fmt.Sprint(len(m.Codes), len(m.Args), len(m.Frames))}
	for range 1000 {
		if m.Over {
			break
		}
		if m.Kind != 0 {
			m = wantMillAnswer(t, m, impl.MillReply{Code: 4})
		}
		m = wantMillStep(t, m)
		if size := fmt.Sprint(len(m.Codes), len(m.Args), len(m.Frames)); size != sizes[len(sizes)-1] {
			sizes = append(sizes, size)
		}
	}
	// Of the tool's four frames each that returns leaves the program there, but for the last; then g, the first tool's main, f.
	want := []string{"3 3 6", "3 3 7", "3 3 8", "3 3 7", "3 3 6", "3 3 5", "2 2 4", "2 2 3", "1 1 2", "1 1 1", "0 0 0"}
	if !slices.Equal(sizes, want) {
		t.Errorf("%q, want %q", sizes, want)
	}
	wantMillMachine(t, "the end", m, impl.MillMachine{Over: true, Text: "1no12121" + "70", Steps: m.Steps, Files: []impl.MillFile{{Name: "o", Text: "x"}}})
}

// A tool's main that returns: its program goes, and the value lies on the frame that waited, whatever lies below it there.
func TestMillStepToolReturns(t *testing.T) {
	m := impl.MillStart(millCoded(t, "f -> ? 1: push u8 1; push text t; push text a; built tool; store 0; drop; return 0\nmain -> text 0: push i8 5; call 0; push text r; return 1"), impl.MillJob{Arg: "j"})
	m = impl.MillGo(m, 6)
	if told := millMachineTold(m); told != "2: 0.1@2 [] (i8:5) 0.0@4 [-] (u8:1) waits 4 t a" {
		t.Fatalf("%s", told)
	}
	m = wantMillAnswer(t, m, impl.MillReply{Text: inMain(`return arg();`)})
	for _, told := range []string{
		"3: 0.1@2 [] (i8:5) 0.0@4 [-] (u8:1) 1.0@0 [] ()", "4: 0.1@2 [] (i8:5) 0.0@4 [-] (u8:1) 1.0@1 [] ()", "4: 0.1@2 [] (i8:5) 0.0@4 [-] (u8:1) 1.0@2 [] (text:a)",
		"4: 0.1@2 [] (i8:5) 0.0@4 [-] (u8:1 text:a)", "4: 0.1@2 [] (i8:5) 0.0@5 [text:a] (u8:1)", "4: 0.1@2 [] (i8:5) 0.0@6 [text:a] ()", "4: 0.1@2 [] (i8:5)", "4: 0.1@3 [] (i8:5 text:r)", "4: over 0 r",
	} {
		if got := millMachineTold(m); got != told {
			t.Fatalf("%q, want %q", got, told)
		}
		if programs := strings.Count(told, "1.0@"); !m.Over && (len(m.Codes) != 1+programs || len(m.Args) != 1+programs) {
			t.Errorf("%s has %d programs and %d args", told, len(m.Codes), len(m.Args))
		}
		m = wantMillStep(t, m)
	}
}

// Each op of an instruction with each list of types that fits, and drawn values.
func TestMillStepEachOp(t *testing.T) {
	t.Parallel()
	dice := clayDice(181)
	var all []impl.MillIns
	for op, ends := range map[int][2]int{impl.MillInsUn: {1, 3}, impl.MillInsBin: {3, 18}, impl.MillInsConv: {3, 10}, impl.MillInsBuilt: {6, 12}} {
		for a := ends[0]; a <= ends[1]; a++ {
			all = append(all, impl.MillIns{Op: op, A: a})
		}
	}
	slices.SortFunc(all, func(a, b impl.MillIns) int { return cmp.Or(a.Op-b.Op, a.A-b.A) })
	words, values := map[string]int{}, 0
	for _, ins := range all {
		what, kids := millAsked(ins)
		for _, kinds := range millKindLists(kids) {
			if _, fits := millSigns[strings.TrimSpace(what+" "+millKindsShown(kinds))]; !fits {
				continue
			}
			for i := range 12 {
				var args []impl.MillValue
				fn := impl.MillFn{Name: "main", Result: impl.MillTypeText}
				for _, kind := range kinds {
					v := dice.millAny(kind)
					if i < 2 && v.Type == impl.MillTypeText {
						// Two of them are as long as a text may be, or one byte longer.
						v.Text = strings.Repeat("x", 1500+i*len(args))
					}
					args = append(args, v)
					fn.Ins = append(fn.Ins, impl.MillIns{Op: impl.MillInsPush, A: v.Type, N: v.N, Text: v.Text})
				}
				fn.Ins = append(append(fn.Ins, ins), millCodedIns(t, "drop; push text r; return 1")...)
				m := impl.MillGo(impl.MillStart(impl.MillCode{Fns: []impl.MillFn{fn}}, impl.MillJob{}), len(kinds))
				got := wantMillStep(t, m)
				v, word := millDoByRules(what, args)
				if word != "" {
					words[word]++
					wantMillMachine(t, what, got, impl.MillMachine{Over: true, End: 2, Text: word + " in main", Steps: 1})
					continue
				}
				values++
				if len(got.Frames) != 1 || got.Frames[0].At != len(kinds)+1 || !slices.Equal(got.Frames[0].Stack, []impl.MillValue{v}) {
					t.Errorf("%s of %v: %s, want %v", what, args, millMachineTold(got), v)
				}
			}
		}
	}
	for _, word := range strings.Fields("divide long range number") {
		if words[word] == 0 {
			t.Errorf("no %s: %v", word, words)
		}
	}
	if values < 1000 || words["type"] > 0 {
		t.Errorf("%d values, words %v", values, words)
	}
}

// Looks: name ahead of Spent, Looks one more, and what is kept while the machine waits.
func TestMillStepLooks(t *testing.T) {
	t.Parallel()
	long := strings.Repeat("h", 3000)
	for kind, word := range strings.Fields("? read has list tool") {
		if kind == 0 {
			continue
		}
		look := func(name string) impl.MillMachine {
			ins := []impl.MillIns{{Op: impl.MillInsPush, A: impl.MillTypeText, Text: name}}
			if word == "tool" {
				ins = append(ins, impl.MillIns{Op: impl.MillInsPush, A: impl.MillTypeText, Text: long})
			}
			ins = append(ins, millCodedIns(t, "built "+word+"; drop; push text r; return 1")...)
			fn := impl.MillFn{Name: "f_" + word, Ins: append(ins[:len(ins)-2:len(ins)-2], impl.MillIns{Op: impl.MillInsReturn})}
			main := millCoded(t, "main -> text 0: call 0; push text r; return 1").Fns[0]
			return impl.MillGo(impl.MillStart(impl.MillCode{Fns: []impl.MillFn{fn, main}}, impl.MillJob{}), len(ins)-3)
		}
		for _, looks := range []int{0, 1, 99, 100} {
			for _, name := range append(millNames(), "") {
				m := look(name)
				m.Looks = looks
				got := wantMillStep(t, m)
				switch {
				case name == "" && word != "list":
					wantMillMachine(t, word, got, impl.MillMachine{Over: true, End: 2, Text: "name in f_" + word, Steps: 2})
				case looks == 100:
					wantMillMachine(t, word, got, impl.MillMachine{Over: true, End: 3, Steps: 2})
				default:
					hold := ""
					if word == "tool" {
						hold = long
					}
					if got.Kind != kind || got.Name != name || got.Hold != hold || got.Looks != looks+1 || got.Steps != 2 || len(got.Frames[1].Stack) != 0 {
						t.Errorf("%s: %s", word, millMachineTold(got))
					}
				}
			}
			for _, name := range []string{" ", "a b", "\x00", "\x7f", "é", strings.Repeat("x", 61), strings.Repeat("x", 3000)} {
				m := look(name)
				m.Looks = looks
				wantMillMachine(t, word, wantMillStep(t, m), impl.MillMachine{Over: true, End: 2, Text: "name in f_" + word, Steps: 2})
			}
		}
	}
}

// What is written and said: anew, in order, as many as may be and one more.
func TestMillStepFilesAndSaid(t *testing.T) {
	outs := strings.Fields("a b c d e f g h i j k l m n o p q r s t")
	m := impl.MillStart(millCoded(t, "main -> text 0: push text k; push text new; write; jump 0"), impl.MillJob{Outs: outs})
	file := func(name, text string) impl.MillFile { return impl.MillFile{Name: name, Text: text} }
	for _, row := range []struct{ before, behind []impl.MillFile }{
		{nil, []impl.MillFile{file("k", "new")}},
		{[]impl.MillFile{file("k", "old")}, []impl.MillFile{file("k", "new")}},
		{[]impl.MillFile{file("a", "1"), file("b", "2")}, []impl.MillFile{file("a", "1"), file("b", "2"), file("k", "new")}},
		{[]impl.MillFile{file("l", "1"), file("t", "2")}, []impl.MillFile{file("k", "new"), file("l", "1"), file("t", "2")}},
		{[]impl.MillFile{file("a", "1"), file("k", ""), file("t", "2")}, []impl.MillFile{file("a", "1"), file("k", "new"), file("t", "2")}},
		{[]impl.MillFile{file("j", strings.Repeat("x", 3000)), file("l", "2")}, []impl.MillFile{file("j", strings.Repeat("x", 3000)), file("k", "new"), file("l", "2")}},
	} {
		m.Files = row.before
		got := wantMillStep(t, impl.MillGo(m, 2))
		if !slices.Equal(got.Files, row.behind) || got.Frames[0].At != 3 {
			t.Errorf("%v: %v", row.before, got.Files)
		}
	}
	var all []impl.MillFile
	for _, name := range outs {
		all = append(all, file(name, "old"))
	}
	m.Files = all
	got := wantMillStep(t, impl.MillGo(m, 2))
	if len(got.Files) != 20 || got.Files[10] != file("k", "new") || got.Files[9].Text != "old" {
		t.Errorf("%v", got.Files)
	}
	m = impl.MillStart(millCoded(t, "f -> ? 0: push text more; say; return 0\nmain -> text 0: call 0; jump 0"), impl.MillJob{})
	var said []string
	for i := range 51 {
		m.Said = said
		got := wantMillStep(t, impl.MillGo(m, 2))
		if i == 50 {
			wantMillMachine(t, "one too many", got, impl.MillMachine{Over: true, End: 2, Text: "said in f", Steps: 2, Said: said})
			break
		}
		if want := append(slices.Clone(said), "more"); !slices.Equal(got.Said, want) || got.Over {
			t.Errorf("%d: %s", i, millMachineShown(got))
		}
		said = append(said, fmt.Sprint("said ", i))
	}
}

// What stays of a run that ends, by each end.
func TestMillStepEnds(t *testing.T) {
	files := []impl.MillFile{{Name: "a", Text: "x"}, {Name: "b", Text: ""}}
	said := []string{"s", ""}
	for _, row := range []struct {
		does string
		end  int
		text string
	}{
		{"push text why; fail", 1, "why"},
		{"push text; fail", 1, ""},
		{"push text done; return 1", 0, "done"},
		{"step; jump 0", 3, ""},
		{"push i64 1; push i64 0; bin %; drop; jump 0", 2, "divide in main"},
		{"push text x; built num; drop; jump 0", 2, "number in main"},
		{"push text c; push text x; write; jump 0", 2, "output in main"},
		{"push text; push text x; write; jump 0", 2, "name in main"},
	} {
		m := impl.MillStart(millCoded(t, "main -> text 0: "+row.does), impl.MillJob{Outs: []string{"a", "b"}})
		m.Files, m.Said, m.Looks, m.Steps = files, said, 7, 3990
		for range 30 {
			m = wantMillStep(t, m)
		}
		want := impl.MillMachine{Over: true, End: row.end, Text: row.text, Steps: 3990, Said: said}
		if row.end == 0 {
			want.Files = files
		}
		if row.end == 3 {
			want.Steps = 4000
		}
		wantMillMachine(t, row.does, m, want)
		wantMillRight(t, m)
	}
	// A main that lacks something, each of its outs.
	for _, row := range []struct{ outs, files, text string }{
		{"a", "", "lacks a"}, {"a b", "a", "lacks b"}, {"a b", "b", "lacks a"}, {"a b c", "a c", "lacks b"}, {"a b c", "", "lacks a"},
	} {
		m := impl.MillStart(millCoded(t, "main -> text 0: push text done; return 1"), impl.MillJob{Outs: strings.Fields(row.outs)})
		for name := range strings.FieldsSeq(row.files) {
			m.Files = append(m.Files, impl.MillFile{Name: name})
		}
		m.Said = said
		wantMillMachine(t, row.text, impl.MillGo(m, 5), impl.MillMachine{Over: true, End: 2, Text: row.text, Steps: 1, Said: said})
	}
}

// Each look with each reply.
func TestMillAnswer(t *testing.T) {
	long := strings.Repeat("x", 3000)
	for kind, look := range []string{"", `read("n")`, `has("n")`, `list("n")`, `tool("n", "h")`} {
		if kind == 0 {
			continue
		}
		m := millBegun(t, `fn f() { let v = `+look+`; } `+inMain(`write "o", "w"; say "s"; f();`+millGive), impl.MillJob{Outs: []string{"o"}})
		m, _ = millGone(t, m, 100)
		if m.Kind != kind || m.Name != "n" || (m.Hold == "h") != (kind == 4) || m.Looks != 1 {
			t.Fatalf("%s", millMachineTold(m))
		}
		wantMillRight(t, m)
		put := func(v impl.MillValue) impl.MillMachine {
			next := millMachineCopied(m)
			next.Kind, next.Name, next.Hold = 0, "", ""
			next.Frames[1].Stack = []impl.MillValue{v}
			return next
		}
		over := func(end int, text string) impl.MillMachine {
			return impl.MillMachine{Over: true, End: end, Text: text, Steps: m.Steps, Said: m.Said}
		}
		for _, text := range []string{"", "x", long, "\x00\xff", "fn", inMain(`return 1;`), `fn main() { }`, `fn f() -> text { return ""; }`, inMain(strings.Repeat("if true { ", 60) + strings.Repeat("} ", 60) + millGive)} {
			want := over(2, "tool in f")
			switch kind {
			case 1, 3:
				want = put(millTextValue(text))
			case 2:
				want = put(millBoolValue(true))
			}
			wantMillMachine(t, look, wantMillAnswer(t, m, impl.MillReply{Text: text}), want)
		}
		for _, code := range []int{4, 5} {
			want := over(code, "n")
			switch kind {
			case 2:
				want = put(millBoolValue(code == 5))
			case 3:
				want = put(millTextValue(""))
			}
			wantMillMachine(t, look, wantMillAnswer(t, m, impl.MillReply{Code: code}), want)
		}
		for _, y := range millWrongReplies() {
			wantMillMachine(t, look, impl.MillAnswer(m, y), impl.MillMachine{})
		}
		// Names that end a run are told whole.
		for _, name := range millNames() {
			m.Name = name
			if kind == 1 || kind == 4 {
				wantMillMachine(t, look, wantMillAnswer(t, m, impl.MillReply{Code: 5}), over(5, name))
			}
		}
	}
}

// A tool's program, called with room and without.
func TestMillAnswerTools(t *testing.T) {
	src := `fn other() -> text { return ""; } fn main() -> text { let a = arg(); let b = 1; return a; } fn third(n i64) { }`
	c := impl.MillCompile(millOf(t, src).tree())
	m := millBegun(t, millDown(40, `return tool("t", dec(n)); `), impl.MillJob{Arg: "j", Outs: []string{"o"}})
	m, _ = millGone(t, m, 1000)
	if m.Kind != 4 || len(m.Frames) != 40 || m.Hold != "40" {
		t.Fatalf("%s", millMachineTold(m))
	}
	// tool ahead of deep, deep ahead of the step.
	for _, steps := range []int{0, 118, 3999, 4000} {
		m.Steps = steps
		wantMillMachine(t, "no program", wantMillAnswer(t, m, impl.MillReply{Text: "no"}), impl.MillMachine{Over: true, End: 2, Text: "tool in down", Steps: steps})
		wantMillMachine(t, "does not fit", wantMillAnswer(t, m, impl.MillReply{Text: `fn main() -> text { return x; }`}), impl.MillMachine{Over: true, End: 2, Text: "tool in down", Steps: steps})
		wantMillMachine(t, "deep", wantMillAnswer(t, m, impl.MillReply{Text: src}), impl.MillMachine{Over: true, End: 2, Text: "deep in down", Steps: steps})
		wantMillMachine(t, "missing", wantMillAnswer(t, m, impl.MillReply{Code: 4}), impl.MillMachine{Over: true, End: 4, Text: "t", Steps: steps})
	}
	m = millBegun(t, millDown(39, `return tool("t", dec(n)); `), impl.MillJob{Arg: "j", Outs: []string{"o"}})
	m, _ = millGone(t, m, 1000)
	for _, steps := range []int{0, 115, 3999, 4000} {
		m.Steps = steps
		got := wantMillAnswer(t, m, impl.MillReply{Text: src})
		if steps == 4000 {
			wantMillMachine(t, "spent", got, impl.MillMachine{Over: true, End: 3, Steps: 4000})
			continue
		}
		want := millMachineCopied(m)
		want.Steps, want.Kind, want.Name, want.Hold = steps+1, 0, "", ""
		want.Codes, want.Args = append(want.Codes, c), append(want.Args, "39")
		want.Frames = append(want.Frames, impl.MillFrame{Code: 1, Fn: 1, Slots: make([]impl.MillValue, 2)})
		wantMillMachine(t, "called", got, want)
		wantMillMachine(t, "no program", wantMillAnswer(t, m, impl.MillReply{Text: "no"}), impl.MillMachine{Over: true, End: 2, Text: "tool in down", Steps: steps})
	}
	// As many programs as there can be, each above the one that called it, and back again.
	again := inMain(`return tool("t", arg() + "x");`)
	m = millBegun(t, again, impl.MillJob{})
	for n := range 39 {
		m, _ = millGone(t, m, 100)
		m = wantMillAnswer(t, m, impl.MillReply{Text: again})
		if len(m.Codes) != n+2 || len(m.Frames) != n+2 || m.Args[n+1] != strings.Repeat("x", n+1) {
			t.Fatalf("%s", millMachineTold(m))
		}
	}
	m, _ = millGone(t, m, 100)
	wantMillRight(t, m)
	wantMillMachine(t, "one too many", wantMillAnswer(t, m, impl.MillReply{Text: again}), impl.MillMachine{Over: true, End: 2, Text: "deep in main", Steps: 80})
	// As the last one reads, in place of a tool, all of them return.
	m.Frames[39].At, m.Frames[39].Stack, m.Kind, m.Name, m.Hold = len(m.Codes[39].Fns[0].Ins)-1, []impl.MillValue{millTextValue("up")}, 0, "", ""
	for left := 39; left > 0; left-- {
		if m = wantMillStep(t, m); len(m.Codes) != left || len(m.Args) != left || len(m.Frames) != left {
			t.Fatalf("%d: %s", left, millMachineTold(m))
		}
	}
	wantMillMachine(t, "the end", wantMillStep(t, m), impl.MillMachine{Over: true, Text: "up", Steps: 80})
}

func TestMillGo(t *testing.T) {
	t.Parallel()
	// A loop of three instructions without a step has no end.
	m := impl.MillStart(millCoded(t, "main -> text 0: push bool 1; drop; jump 0"), impl.MillJob{})
	for most, at := range map[int]int{
		-1 << 63: 0, -100000: 0, -2: 0, -1: 0, 0: 0, 1: 1, 2: 2, 3: 0, 4: 1, 300: 0, 301: 1, 99998: 2, 99999: 0, 100000: 1, 100001: 1, 100002: 1, 200000: 1, 1 << 31: 1, 1<<32 + 2: 1, 1<<63 - 1: 1,
	} {
		if got := impl.MillGo(m, most); len(got.Frames) != 1 || got.Frames[0].At != at || got.Steps != 1 || !impl.MillValidMachine(got) {
			t.Errorf("by %d: %s", most, millMachineTold(got))
		}
	}
	m = impl.MillStart(millCoded(t, "main -> text 0: jump 0"), impl.MillJob{})
	wantMillMachine(t, "a jump to its own place", impl.MillGo(m, 1<<40), m)
	// It ends at a look and at the end, however many are left; and goes on from there.
	m = millBegun(t, inMain(`let a = read("a"); say a; return a;`), impl.MillJob{})
	wait := wantMillStep(t, wantMillStep(t, wantMillStep(t, m)))
	if wait.Kind != 1 {
		t.Fatalf("%s", millMachineTold(wait))
	}
	for _, most := range []int{3, 4, 5, 1000, 100000, 1 << 40} {
		wantMillMachine(t, "to a look", impl.MillGo(m, most), wait)
		wantMillMachine(t, "at a look", impl.MillGo(wait, most), wait)
	}
	reply := impl.MillReply{Text: "x"}
	end := impl.MillMachine{Over: true, Text: "x", Steps: 4, Said: []string{"x"}}
	for most, over := range map[int]bool{6: false, 7: true, 8: true, 100000: true, 1 << 40: true} {
		got := impl.MillGo(impl.MillAnswer(wait, reply), most)
		if got.Over != over {
			t.Errorf("by %d: %s", most, millMachineTold(got))
		}
		if over {
			wantMillMachine(t, "to the end", got, end)
			wantMillMachine(t, "at the end", impl.MillGo(got, most), end)
		}
	}
	// By k is k steps.
	dice := clayDice(183)
	maker := &millMaker{clayDice: &dice}
	for i := range 60 {
		b := dice.millTamed(maker.program(dice.below(4), i%4))
		if b.size() > 500 {
			continue
		}
		m := impl.MillStart(impl.MillCompile(b.tree()), dice.millDrawnJob(b))
		one := m
		for k := range 30 {
			wantMillMachine(t, fmt.Sprint("by ", k), impl.MillGo(m, k), one)
			one = impl.MillStep(one)
		}
	}
}

// millTower is a machine of three programs and five frames: main has called f, f a tool, the tool's main its function g, g a tool, and its main is at work.
func millTower(t *testing.T) impl.MillMachine {
	t.Helper()
	body := ": push i64 5; push text t; load 1; built tool; push text; bin ==; store 2; drop; load 2; return 1; push bool 1; return 1"
	codes := []string{
		"main -> text 2: push i8 7; store 0; push u16 9; push u8 2; built arg; call 1; drop; drop; call 2; push text x; return 1; step; jump 11\nf u8 text -> bool 3" + body + "\nnone -> ? 0: return 0\ntwin u8 text -> bool 3" + body,
		"twin -> text 1: push text q; store 0; call 2; load 0; return 1\nmain -> text 1: push text q; store 0; call 2; load 0; return 1\ng -> ? 1: push bool 1; push text u; push text v; built tool; drop; drop; return 0\nh -> ? 1: push bool 1; push text u; push text v; built tool; drop; drop; return 0",
		"main -> text 2: push text n; built read; store 0; push text n; built list; drop; push text n; built has; drop; push text n; push text a; built tool; return 1; step; return 1",
	}
	m := impl.MillMachine{Args: []string{"j", "a", "b"}, Outs: []string{"o", "p", "q"}, Steps: 12, Looks: 2, Files: []impl.MillFile{{Name: "o", Text: "1"}, {Name: "q", Text: "2"}}, Said: []string{"s"}}
	for _, code := range codes {
		m.Codes = append(m.Codes, millCoded(t, code))
	}
	of := func(kind int, n int64) impl.MillValue { return impl.MillValue{Type: kind, N: n} }
	m.Frames = []impl.MillFrame{
		{Code: 0, Fn: 0, At: 6, Slots: []impl.MillValue{of(impl.MillTypeI8, 7), {}}, Stack: []impl.MillValue{of(impl.MillTypeU16, 9)}},
		{Code: 0, Fn: 1, At: 4, Slots: []impl.MillValue{of(impl.MillTypeU8, 2), millTextValue("j"), {}}, Stack: []impl.MillValue{millI64(5)}},
		{Code: 1, Fn: 1, At: 3, Slots: []impl.MillValue{millTextValue("q")}},
		{Code: 1, Fn: 2, At: 4, Slots: []impl.MillValue{{}}, Stack: []impl.MillValue{millBoolValue(true)}},
		{Code: 2, Fn: 0, At: 1, Slots: []impl.MillValue{{}, {}}, Stack: []impl.MillValue{millTextValue("n")}},
	}
	wantMillRight(t, m)
	return m
}

// millTowerWaits is millTower where its last frame waits for a look.
func millTowerWaits(t *testing.T, kind int) impl.MillMachine {
	t.Helper()
	m := millTower(t)
	last := &m.Frames[4]
	m.Kind, m.Name = kind, "n"
	last.At = []int{0, 2, 8, 5, 12}[kind]
	last.Stack = nil
	if kind != 1 {
		last.Slots[0] = millTextValue("")
	}
	if kind == 4 {
		m.Hold = "a"
	}
	wantMillRight(t, m)
	return m
}

// millBend is a change of a machine, and the sentences that it breaks, with a `+` between them; empty if it breaks none, `*` if it does not matter which.
type millBend struct {
	breaks string
	bend   func(m *impl.MillMachine)
}

// wantMillBends asks of a valid machine, changed each time in one way, whether it is still valid.
func wantMillBends(t *testing.T, make func() impl.MillMachine, bends ...millBend) {
	t.Helper()
	for i, one := range bends {
		m := make()
		one.bend(&m)
		wrongs := millMachineWrongs(m)
		if one.breaks == "" {
			if len(wrongs) > 0 {
				t.Errorf("bend %d breaks %q", i, wrongs)
				continue
			}
			wantMillRight(t, m)
			continue
		}
		if len(wrongs) == 0 || one.breaks != "*" && !slices.Contains(strings.Fields(one.breaks), strings.Join(wrongs, "+")) {
			t.Errorf("bend %d breaks %q, not %q", i, wrongs, one.breaks)
		}
		wantMillNothing(t, m)
	}
}

func TestMillValidMachineKept(t *testing.T) {
	long := strings.Repeat("x", 3000)
	outs := strings.Fields("a b c d e f g h i j k l m n o p q r s t u")
	files := func(names ...string) func(m *impl.MillMachine) {
		return func(m *impl.MillMachine) {
			m.Files = nil
			for _, name := range names {
				m.Files = append(m.Files, impl.MillFile{Name: name})
			}
			if !m.Over {
				m.Outs = slices.Compact(slices.Sorted(slices.Values(names)))
				if len(m.Outs) == 21 {
					m.Outs = m.Outs[:20]
				}
			}
		}
	}
	for _, make := range []func() impl.MillMachine{
		func() impl.MillMachine { return millTower(t) },
		func() impl.MillMachine { return millTowerWaits(t, 3) },
		func() impl.MillMachine { return impl.MillMachine{Over: true, Text: "r", Steps: 4} },
	} {
		bends := []millBend{
			{"", files()},
			{"", files("a")},
			{"", files(outs[:20]...)},
			{"files files+out", files(outs...)},
			{"order", files("a", "a")},
			{"order", files("b", "a")},
			{"order", files("a", "c", "b")},
			{"order", files("a", "b", "a")},
			{"order", files("aa", "a")},
			{"", files("a", "aa", "ab", "b")},
			{"", files("!", "~", strings.Repeat("~", 60))},
			{"", func(m *impl.MillMachine) { files("a")(m); m.Files[0].Text = long }},
			{"file", func(m *impl.MillMachine) { files("a")(m); m.Files[0].Text = long + "x" }},
			{"", func(m *impl.MillMachine) { m.Said = nil }},
			{"", func(m *impl.MillMachine) { m.Said = []string{long, "", long, "\x00\xff"} }},
			{"said", func(m *impl.MillMachine) { m.Said = []string{"", long + "x"} }},
			{"", func(m *impl.MillMachine) { m.Said = millTextsOf(50) }},
			{"said", func(m *impl.MillMachine) { m.Said = millTextsOf(51) }},
			{"", func(m *impl.MillMachine) { m.Steps = 0 }},
			{"", func(m *impl.MillMachine) { m.Steps = 4000 }},
			{"steps", func(m *impl.MillMachine) { m.Steps = 4001 }},
			{"steps", func(m *impl.MillMachine) { m.Steps = -1 }},
			{"steps", func(m *impl.MillMachine) { m.Steps = -1 << 63 }},
			{"steps", func(m *impl.MillMachine) { m.Steps = 1 << 62 }},
		}
		for _, name := range []string{"", " ", "a b", "\x00", "\x7f", "é", strings.Repeat("x", 61), strings.Repeat("x", 3000)} {
			bends = append(bends, millBend{"file file+outs", files(name)}, millBend{"file file+outs file+order file+order+outs order+file order+file+outs", files("a", name)})
		}
		wantMillBends(t, make, bends...)
	}
}

// millTextsOf is so many texts.
func millTextsOf(many int) []string { return slices.Repeat([]string{"t"}, many) }

func TestMillValidMachineOver(t *testing.T) {
	over := func() impl.MillMachine {
		return impl.MillMachine{Over: true, Text: "r", Steps: 4, Files: []impl.MillFile{{Name: "a", Text: "x"}, {Name: "b"}}, Said: []string{"s"}}
	}
	bends := []millBend{
		{"", func(m *impl.MillMachine) {}},
		{"", func(m *impl.MillMachine) { m.Text = "" }},
		{"", func(m *impl.MillMachine) { m.Text = strings.Repeat("x", 3000) }},
		{"text", func(m *impl.MillMachine) { m.Text = strings.Repeat("x", 3001) }},
		{"end+lost", func(m *impl.MillMachine) { m.End = 6 }},
		{"end+lost", func(m *impl.MillMachine) { m.End = -1 }},
		{"left", func(m *impl.MillMachine) { m.Codes = millTower(t).Codes }},
		{"left", func(m *impl.MillMachine) { m.Codes = make([]impl.MillCode, 1) }},
		{"left", func(m *impl.MillMachine) { m.Args = []string{""} }},
		{"left", func(m *impl.MillMachine) { m.Outs = []string{"a", "b"} }},
		{"left", func(m *impl.MillMachine) { m.Outs = []string{""} }},
		{"left", func(m *impl.MillMachine) { m.Frames = make([]impl.MillFrame, 1) }},
		{"left", func(m *impl.MillMachine) { m.Frames = millTower(t).Frames }},
		{"left", func(m *impl.MillMachine) { m.Looks = 1 }},
		{"left", func(m *impl.MillMachine) { m.Looks = -1 }},
		{"left", func(m *impl.MillMachine) { m.Kind = 1 }},
		{"left", func(m *impl.MillMachine) { m.Name = "n" }},
		{"left", func(m *impl.MillMachine) { m.Hold = "h" }},
		{"left", func(m *impl.MillMachine) { m.Kind, m.Name, m.Looks = 1, "n", 1 }},
		{"left", func(m *impl.MillMachine) { *m = millTower(t); m.Over = true }},
		{"", func(m *impl.MillMachine) {
			m.Codes, m.Args, m.Outs, m.Frames = []impl.MillCode{}, []string{}, []string{}, []impl.MillFrame{}
		}},
		{"", func(m *impl.MillMachine) { m.Files, m.Said = []impl.MillFile{}, []string{} }},
	}
	for end := 1; end <= 5; end++ {
		bends = append(bends, millBend{"lost", func(m *impl.MillMachine) { m.End = end }})
	}
	for _, end := range []int{-1 << 63, -1, 6, 7, 8, 9, 10, 1 << 32, 1<<63 - 1} {
		bends = append(bends, millBend{"end", func(m *impl.MillMachine) { m.End, m.Files = end, nil }})
	}
	for end := range 6 {
		bends = append(bends, millBend{"", func(m *impl.MillMachine) { m.End, m.Files = end, nil }})
	}
	wantMillBends(t, over, bends...)
	// One that is not over has no end, and no text; nothing is one that is not valid.
	wantMillNothing(t, impl.MillMachine{})
	wantMillBends(t, func() impl.MillMachine { return millTower(t) },
		millBend{"end", func(m *impl.MillMachine) { m.End = 1 }},
		millBend{"end", func(m *impl.MillMachine) { m.End = 5 }},
		millBend{"end", func(m *impl.MillMachine) { m.End = -1 }},
		millBend{"end", func(m *impl.MillMachine) { m.End = 9 }},
		millBend{"text", func(m *impl.MillMachine) { m.Text = "x" }},
		millBend{"end+text", func(m *impl.MillMachine) { m.End, m.Text = 1, "x" }},
	)
}

func TestMillValidMachineGiven(t *testing.T) {
	long := strings.Repeat("x", 3000)
	wantMillBends(t, func() impl.MillMachine { return millTower(t) },
		millBend{"codes+args+frames", func(m *impl.MillMachine) { m.Codes, m.Frames = nil, nil }},
		millBend{"codes+frames", func(m *impl.MillMachine) { m.Codes, m.Args, m.Frames = nil, nil, nil }},
		millBend{"codes", func(m *impl.MillMachine) { m.Codes, m.Args = nil, nil }},
		millBend{"code", func(m *impl.MillMachine) { m.Codes, m.Args = m.Codes[:2], m.Args[:2] }},
		millBend{"code", func(m *impl.MillMachine) { m.Codes, m.Args = append(m.Codes, m.Codes[0]), append(m.Args, "") }},
		millBend{"valid", func(m *impl.MillMachine) { m.Codes[0].Fns[2].Ins[0].A = 1 }},
		millBend{"valid", func(m *impl.MillMachine) { m.Codes[1].Fns[3].Ins[0].A = impl.MillTypeText }},
		millBend{"valid", func(m *impl.MillMachine) { m.Codes[2].Fns[0].Ins[14].Op = 0 }},
		millBend{"valid", func(m *impl.MillMachine) { m.Codes[2].Fns[0].Name = "other" }},
		millBend{"valid", func(m *impl.MillMachine) { m.Codes[1] = impl.MillCode{} }},
		millBend{"valid", func(m *impl.MillMachine) { m.Codes[0].Fns[3].Name = "f" }},
		millBend{"args", func(m *impl.MillMachine) { m.Args = m.Args[:2] }},
		millBend{"args", func(m *impl.MillMachine) { m.Args = nil }},
		millBend{"args", func(m *impl.MillMachine) { m.Args = append(m.Args, "") }},
		millBend{"args", func(m *impl.MillMachine) { m.Args[2] = long + "x" }},
		millBend{"args", func(m *impl.MillMachine) { m.Args[0] = long + "x" }},
		millBend{"", func(m *impl.MillMachine) { m.Args = []string{long, "", "\x00\xff"} }},
		millBend{"out", func(m *impl.MillMachine) { m.Outs = m.Outs[:2] }},
		millBend{"out", func(m *impl.MillMachine) { m.Outs = nil }},
		millBend{"out", func(m *impl.MillMachine) { m.Files[0].Name = "a" }},
		millBend{"out", func(m *impl.MillMachine) { m.Files[1].Name = "qq" }},
		millBend{"", func(m *impl.MillMachine) { m.Files[1].Name = "p" }},
		millBend{"outs", func(m *impl.MillMachine) { m.Outs = []string{"o", "q", "p"} }},
		millBend{"outs", func(m *impl.MillMachine) { m.Outs = []string{"o", "o", "q"} }},
		millBend{"outs", func(m *impl.MillMachine) { m.Outs = []string{"", "o", "q"} }},
		millBend{"outs", func(m *impl.MillMachine) { m.Outs = []string{"o", "p q", "q"} }},
		millBend{"outs", func(m *impl.MillMachine) { m.Outs = strings.Fields("a b c d e f g h i j k l m n o p q r s t u") }},
		millBend{"", func(m *impl.MillMachine) { m.Outs = strings.Fields("a b c d e f g h i j k l m n o p q r s t") }},
		millBend{"", func(m *impl.MillMachine) { m.Files, m.Outs = nil, nil }},
		millBend{"", func(m *impl.MillMachine) { m.Looks = 0 }},
		millBend{"", func(m *impl.MillMachine) { m.Looks = 100 }},
		millBend{"looks", func(m *impl.MillMachine) { m.Looks = 101 }},
		millBend{"looks", func(m *impl.MillMachine) { m.Looks = -1 }},
		millBend{"looks", func(m *impl.MillMachine) { m.Looks = 1<<63 - 1 }},
	)
}

func TestMillValidMachineLook(t *testing.T) {
	long := strings.Repeat("x", 3000)
	wantMillBends(t, func() impl.MillMachine { return millTower(t) },
		millBend{"kind", func(m *impl.MillMachine) { m.Name = "n" }},
		millBend{"kind", func(m *impl.MillMachine) { m.Hold = "h" }},
		millBend{"kind", func(m *impl.MillMachine) { m.Kind = 5 }},
		millBend{"kind", func(m *impl.MillMachine) { m.Kind = -1 }},
		millBend{"kind", func(m *impl.MillMachine) { m.Kind, m.Name = 5, "n" }},
		millBend{"kind", func(m *impl.MillMachine) { m.Kind = 1 << 32 }},
		// A look that is just about to be made is not waited for.
		millBend{"look+stack", func(m *impl.MillMachine) { m.Kind, m.Name = 1, "n" }},
		millBend{"name", func(m *impl.MillMachine) { m.Kind = 1 }},
	)
	for kind := 1; kind <= 4; kind++ {
		bends := []millBend{
			{"", func(m *impl.MillMachine) { m.Name = strings.Repeat("~", 60) }},
			{"", func(m *impl.MillMachine) { m.Looks = 1 }},
			{"", func(m *impl.MillMachine) { m.Looks = 100 }},
			{"looks", func(m *impl.MillMachine) { m.Looks = 0 }},
			{"looks", func(m *impl.MillMachine) { m.Looks = 101 }},
			{"looks", func(m *impl.MillMachine) { m.Looks = -1 }},
			{"stack", func(m *impl.MillMachine) { m.Frames[4].Stack = []impl.MillValue{millTextValue("")} }},
			{"stack", func(m *impl.MillMachine) { m.Frames[4].Stack = []impl.MillValue{millBoolValue(true)} }},
			{"look look+stack", func(m *impl.MillMachine) { m.Frames[4].At-- }},
			{"*", func(m *impl.MillMachine) { m.Frames[4].At++ }},
			{"look", func(m *impl.MillMachine) { m.Frames[4].At = 0 }},
		}
		for _, name := range []string{" ", "a b", "\x00", "\x7f", "é", strings.Repeat("x", 61), strings.Repeat("x", 3000)} {
			bends = append(bends, millBend{"name", func(m *impl.MillMachine) { m.Name = name }})
		}
		for other := 1; other <= 4; other++ {
			breaks := "look"
			if other == kind {
				breaks = ""
			}
			bends = append(bends, millBend{breaks, func(m *impl.MillMachine) { m.Kind, m.Hold = other, "" }})
		}
		listed := map[bool]string{true: "", false: "name"}[kind == 3]
		held := map[bool]string{true: "", false: "hold"}[kind == 4]
		bends = append(bends,
			millBend{listed, func(m *impl.MillMachine) { m.Name = "" }},
			millBend{held, func(m *impl.MillMachine) { m.Hold = "h" }},
			millBend{held, func(m *impl.MillMachine) { m.Hold = long }},
			millBend{"hold", func(m *impl.MillMachine) { m.Hold = long + "x" }},
			millBend{"", func(m *impl.MillMachine) { m.Hold = "" }},
			// Without the look its value is there.
			millBend{"stack", func(m *impl.MillMachine) { m.Kind, m.Name, m.Hold = 0, "", "" }},
			millBend{"kind", func(m *impl.MillMachine) { m.Kind, m.Hold = 0, "" }},
		)
		wantMillBends(t, func() impl.MillMachine { return millTowerWaits(t, kind) }, bends...)
	}
}

func TestMillValidMachineFrames(t *testing.T) {
	frame := func(at int, bend func(f *impl.MillFrame)) func(m *impl.MillMachine) {
		return func(m *impl.MillMachine) { bend(&m.Frames[at]) }
	}
	code := func(codes ...int) func(m *impl.MillMachine) {
		return func(m *impl.MillMachine) {
			for i, code := range codes {
				m.Frames[i].Code = code
			}
		}
	}
	bends := []millBend{
		{"frames", func(m *impl.MillMachine) { m.Frames = nil }},
		{"frames", func(m *impl.MillMachine) { m.Frames = slices.Repeat(m.Frames, 9)[:41] }},
		{"code+stack", func(m *impl.MillMachine) { m.Frames = m.Frames[:4] }},
		{"main", func(m *impl.MillMachine) { m.Frames = m.Frames[1:] }},
		{"code", func(m *impl.MillMachine) { m.Frames = m.Frames[2:] }},
		{"code", func(m *impl.MillMachine) { m.Frames = slices.Delete(m.Frames, 2, 4) }},
		{"*", code(0, 0, 2, 2, 2)},
		{"*", code(0, 0, 1, 0, 2)},
		{"*", code(1, 1, 1, 1, 2)},
		{"*", code(-1, 0, 1, 1, 2)},
		{"*", code(0, 0, 1, 1, 3)},
		{"*", code(0, 0, 1, 1, 1<<62)},
		{"*", code(-1<<63, 1<<63-1, 1, 1, 2)},
		{"*", code(1<<63-1, 0, 1, 1, 2)},
		// Where the code goes up Fn is that of main, though there is one that is just the same.
		{"main", frame(2, func(f *impl.MillFrame) { f.Fn = 0 })},
		{"main", func(m *impl.MillMachine) {
			c := m.Codes[0]
			c.Fns[0].Name, c.Fns[2].Name, c.Fns[2].Result, c.Fns[2].Ins = "first", "main", impl.MillTypeText, millCodedIns(t, "push text; return 1")
			c.Fns[0].Ins[8] = impl.MillIns{Op: impl.MillInsStep}
		}},
		// A function that is none.
		{"call+stack+fn", frame(1, func(f *impl.MillFrame) { f.Fn = 4 })},
		{"call+stack+fn", frame(1, func(f *impl.MillFrame) { f.Fn = -1 })},
		{"fn", frame(4, func(f *impl.MillFrame) { f.Fn = 1 })},
		{"fn", frame(2, func(f *impl.MillFrame) { f.Fn = -1 })},
		{"fn", frame(4, func(f *impl.MillFrame) { f.Fn = 1 << 62 })},
		{"fn", frame(0, func(f *impl.MillFrame) { f.Fn = -1 << 63 })},
		// One that is called by none: that which is just the same, too.
		{"call", frame(1, func(f *impl.MillFrame) { f.Fn = 3 })},
		{"call", frame(3, func(f *impl.MillFrame) { f.Fn = 3 })},
		{"call", func(m *impl.MillMachine) { m.Codes[0].Fns[0].Ins[5].A = 3 }},
		{"call", func(m *impl.MillMachine) { m.Codes[1].Fns[1].Ins[2].A = 3 }},
		{"tool", func(m *impl.MillMachine) {
			m.Codes[0].Fns[1].Ins[3] = impl.MillIns{Op: impl.MillInsBin, A: impl.MillOpAdd}
		}},
		{"tool", func(m *impl.MillMachine) {
			m.Codes[1].Fns[2].Ins[3] = impl.MillIns{Op: impl.MillInsBin, A: impl.MillOpAdd}
		}},
	}
	for at := range 5 {
		for _, place := range []int{-1, -1 << 63, 15, 1 << 62} {
			bends = append(bends, millBend{"at", frame(at, func(f *impl.MillFrame) { f.At = place })})
		}
		bends = append(bends,
			millBend{"at", func(m *impl.MillMachine) {
				f := &m.Frames[at]
				f.At = len(m.Codes[f.Code].Fns[f.Fn].Ins)
			}},
			millBend{"slots slots+kinds", frame(at, func(f *impl.MillFrame) { f.Slots = append(f.Slots, impl.MillValue{}) })},
			millBend{"slots", frame(at, func(f *impl.MillFrame) { f.Slots = f.Slots[:len(f.Slots)-1] })},
			millBend{"slots", frame(at, func(f *impl.MillFrame) { f.Slots = nil })},
			millBend{"stack", frame(at, func(f *impl.MillFrame) { f.Stack = append(f.Stack, millBoolValue(true)) })},
			millBend{"value+stack", frame(at, func(f *impl.MillFrame) { f.Stack = append(f.Stack, impl.MillValue{}) })},
		)
		for _, v := range []impl.MillValue{{Type: 1, N: 2}, {Type: 2, N: 1}, {Type: 3, N: 256}, {Type: 11}, {Type: -1}, {N: 1}, {Text: "x"}, {Type: 2, Text: strings.Repeat("x", 3001)}, {Type: 10, Text: "x"}} {
			bends = append(bends, millBend{"slot slot+kinds", frame(at, func(f *impl.MillFrame) { f.Slots[len(f.Slots)-1] = v })})
			if at != 2 {
				bends = append(bends, millBend{"value value+stack", frame(at, func(f *impl.MillFrame) { f.Stack[0] = v })})
			}
		}
		if at != 2 {
			bends = append(bends,
				millBend{"stack", frame(at, func(f *impl.MillFrame) { f.Stack = nil })},
				millBend{"stack", frame(at, func(f *impl.MillFrame) { f.Stack[0] = millValueOf(impl.MillTypeI32, 1) })},
			)
		}
	}
	// Places to which no way leads, and those of which the shape is another.
	bends = append(bends,
		millBend{"at", frame(0, func(f *impl.MillFrame) { f.At = 11 })},
		millBend{"at", frame(1, func(f *impl.MillFrame) { f.At = 10 })},
		millBend{"at", frame(4, func(f *impl.MillFrame) { f.At = 13 })},
		millBend{"at", frame(4, func(f *impl.MillFrame) { f.At = 14 })},
		millBend{"call", frame(0, func(f *impl.MillFrame) { f.At = 4; f.Stack = f.Stack[:1] })},
		millBend{"call", frame(0, func(f *impl.MillFrame) { f.At = 9; f.Stack = nil })},
		millBend{"call", frame(2, func(f *impl.MillFrame) { f.At = 2 })},
		millBend{"call+stack", frame(2, func(f *impl.MillFrame) { f.At = 4 })},
		millBend{"call", frame(2, func(f *impl.MillFrame) { f.At, f.Stack = 4, []impl.MillValue{millTextValue("")} })},
		millBend{"call", frame(2, func(f *impl.MillFrame) { f.At, f.Slots = 0, []impl.MillValue{{}} })},
		millBend{"tool", frame(3, func(f *impl.MillFrame) { f.At = 2 })},
		millBend{"tool", frame(3, func(f *impl.MillFrame) { f.At, f.Stack = 6, nil })},
		millBend{"tool", frame(1, func(f *impl.MillFrame) { f.At, f.Stack = 0, nil })},
		// Slots whose type is known have it; others have any valid value or none.
		millBend{"kinds", frame(0, func(f *impl.MillFrame) { f.Slots[0] = impl.MillValue{} })},
		millBend{"kinds", frame(0, func(f *impl.MillFrame) { f.Slots[0] = millValueOf(impl.MillTypeU8, 7) })},
		millBend{"", frame(0, func(f *impl.MillFrame) { f.Slots[0] = millValueOf(impl.MillTypeI8, -128) })},
		millBend{"kinds", frame(1, func(f *impl.MillFrame) { f.Slots[0], f.Slots[1] = f.Slots[1], f.Slots[0] })},
		millBend{"kinds", frame(2, func(f *impl.MillFrame) { f.Slots[0] = impl.MillValue{} })},
		millBend{"", frame(2, func(f *impl.MillFrame) { f.Slots[0] = millTextValue(strings.Repeat("x", 3000)) })},
	)
	for kind := 1; kind <= 10; kind++ {
		v := millOfType(kind).literalValue()
		bends = append(bends,
			millBend{"", frame(0, func(f *impl.MillFrame) { f.Slots[1] = v })},
			millBend{"", frame(1, func(f *impl.MillFrame) { f.Slots[2] = v })},
			millBend{"", frame(3, func(f *impl.MillFrame) { f.Slots[0] = v })},
			millBend{"", frame(4, func(f *impl.MillFrame) { f.Slots[0], f.Slots[1] = v, v })},
		)
	}
	wantMillBends(t, func() impl.MillMachine { return millTower(t) }, bends...)
}

// Frames of programs that call each other as tools: their Code begins with the first, ends with the last, and goes up by one at most.
func TestMillValidMachineCodes(t *testing.T) {
	m := millBegun(t, inMain(`return tool("t", "");`), impl.MillJob{})
	c, frame := m.Codes[0], m.Frames[0]
	frame.At = 4
	for _, row := range []struct {
		programs int
		codes    []int
		breaks   string
	}{
		{1, []int{0}, ""},
		{2, []int{0, 1}, ""},
		{3, []int{0, 1, 2}, ""},
		{2, []int{0}, "code"},
		{3, []int{0, 1}, "code"},
		{2, []int{1}, "code"},
		{3, []int{1, 2}, "code"},
		{3, []int{0, 2}, "code"},
		{4, []int{0, 1, 3}, "code"},
		{4, []int{0, 2, 3}, "code"},
		{2, []int{0, 1, 0, 1}, "code+call call+code"},
		{2, []int{1, 0, 1}, "code+call call+code"},
		{3, []int{0, 1, 2, 1}, "code+call call+code"},
		{3, []int{0, 1, 2, 1, 2}, "code+call call+code"},
		{1, []int{-1, 0}, "code"},
		{1, []int{-2, -1, 0}, "code"},
		{1, []int{0, 1}, "code"},
		{1, []int{1}, "code"},
		{1, []int{-1}, "code"},
		{1, []int{-1 << 63}, "code"},
		{1, []int{1<<63 - 1}, "code"},
		{1, []int{1<<63 - 1, -1 << 63, 0}, "code"},
		// A program's own main, called as others are, stands behind no call here.
		{1, []int{0, 0}, "call"},
		{2, []int{0, 1, 1}, "call"},
	} {
		wantMillBends(t, func() impl.MillMachine {
			tower := impl.MillMachine{Kind: 4, Name: "t", Looks: 1}
			for range row.programs {
				tower.Codes, tower.Args = append(tower.Codes, millCopied(c)), append(tower.Args, "")
			}
			for _, code := range row.codes {
				frame.Code = code
				tower.Frames = append(tower.Frames, frame)
			}
			return tower
		}, millBend{row.breaks, func(m *impl.MillMachine) {}})
	}
	// One that goes down, and is else as it is to be.
	down := impl.MillStart(millCoded(t, "f -> ? 0: call 0; push text t; push text a; built tool; drop; return 0\nmain -> text 0: push text t; push text a; built tool; drop; call 0; push text; return 1"), impl.MillJob{})
	down.Codes, down.Args = append(down.Codes, down.Codes[0]), []string{"", ""}
	down.Frames = []impl.MillFrame{{Code: 0, Fn: 1, At: 3}, {Code: 1, Fn: 1, At: 5}, {Code: 0, Fn: 0, At: 4}, {Code: 1, Fn: 1}}
	wantMillBends(t, func() impl.MillMachine { return millMachineCopied(down) },
		millBend{"code", func(m *impl.MillMachine) {}},
		millBend{"", func(m *impl.MillMachine) {
			m.Frames[2].Code, m.Frames[3].Code = 1, 2
			m.Codes, m.Args = append(m.Codes, m.Codes[0]), append(m.Args, "")
		}},
	)
}

// A call at a place to which no way leads is none behind which a frame can stand.
func TestMillValidMachineBehind(t *testing.T) {
	m := impl.MillStart(millCoded(t, "f -> ? 0: return 0\nmain -> text 0: jump 2; call 0; step; call 0; push text; return 1"), impl.MillJob{})
	m.Frames = append(m.Frames, impl.MillFrame{})
	wantMillBends(t, func() impl.MillMachine { return millMachineCopied(m) },
		millBend{"call", func(m *impl.MillMachine) {}},
		millBend{"at", func(m *impl.MillMachine) { m.Frames[0].At = 1 }},
		millBend{"call", func(m *impl.MillMachine) { m.Frames[0].At = 2 }},
		millBend{"call", func(m *impl.MillMachine) { m.Frames[0].At = 3 }},
		millBend{"", func(m *impl.MillMachine) { m.Frames[0].At = 4 }},
		millBend{"call+stack", func(m *impl.MillMachine) { m.Frames[0].At = 5 }},
	)
	wait := impl.MillStart(millCoded(t, "main -> text 0: push text a; push text b; jump 4; built list; drop; built read; return 1"), impl.MillJob{})
	wait.Kind, wait.Name, wait.Looks = 1, "n", 1
	wantMillBends(t, func() impl.MillMachine { return millMachineCopied(wait) },
		millBend{"", func(m *impl.MillMachine) { m.Frames[0].At = 6 }},
		// The place of list is one to which no way leads, the one behind it is not.
		millBend{"look", func(m *impl.MillMachine) {
			m.Frames[0].At, m.Frames[0].Stack, m.Kind = 4, []impl.MillValue{millTextValue("a")}, 3
		}},
		millBend{"look", func(m *impl.MillMachine) { m.Frames[0].At, m.Kind = 6, 3 }},
		millBend{"look", func(m *impl.MillMachine) { m.Frames[0].At, m.Kind = 6, 2 }},
		millBend{"look", func(m *impl.MillMachine) { m.Frames[0].At, m.Kind = 6, 4 }},
		millBend{"look", func(m *impl.MillMachine) { m.Frames[0].At = 0 }},
	)
}

// As many frames and programs as may be, and one more.
func TestMillValidMachineMost(t *testing.T) {
	calls := impl.MillStart(millCoded(t, "f -> ? 0: call 0; return 0\nmain -> text 0: call 0; push text; return 1"), impl.MillJob{})
	calls.Frames[0].At = 1
	for range 39 {
		calls.Frames = append(calls.Frames, impl.MillFrame{At: 1})
	}
	calls.Frames[39].At = 0
	wantMillRight(t, calls)
	calls.Frames[39].At = 1
	calls.Frames = append(calls.Frames, impl.MillFrame{})
	wantMillNothing(t, calls)
	tools := millBegun(t, inMain(`return tool("t", "");`), impl.MillJob{})
	c, frame := tools.Codes[0], tools.Frames[0]
	frame.At = 4
	tools.Codes, tools.Args, tools.Frames = nil, nil, nil
	for i := range 41 {
		tools.Codes, tools.Args = append(tools.Codes, c), append(tools.Args, "")
		frame.Code = i
		tools.Frames = append(tools.Frames, frame)
		waits := millMachineCopied(tools)
		waits.Kind, waits.Name, waits.Looks = 4, "t", 1
		if i < 40 {
			wantMillRight(t, waits)
		} else {
			wantMillNothing(t, waits)
		}
	}
	// Far too many of each.
	for _, bend := range []func(m *impl.MillMachine){
		func(m *impl.MillMachine) { m.Frames = make([]impl.MillFrame, 1000000) },
		func(m *impl.MillMachine) {
			m.Codes, m.Args = slices.Repeat(m.Codes, 100000), make([]string, 300000)
		},
		func(m *impl.MillMachine) { m.Said = make([]string, 1000000) },
		func(m *impl.MillMachine) { m.Files = make([]impl.MillFile, 1000000) },
		func(m *impl.MillMachine) { m.Outs = make([]string, 1000000) },
		func(m *impl.MillMachine) { m.Frames[4].Stack = make([]impl.MillValue, 1000000) },
		func(m *impl.MillMachine) { m.Frames[4].Slots = make([]impl.MillValue, 1000000) },
	} {
		m := millTower(t)
		if bend(&m); impl.MillValidMachine(m) || !isSameMillMachine(impl.MillStep(m), impl.MillMachine{}) {
			t.Error("valid with far too many")
		}
	}
	// The highest stack, in a frame that waits and in the last one.
	pushes := strings.Repeat("push u8 1; ", 599)
	high := impl.MillGo(impl.MillStart(millCoded(t, "f -> ? 0: "+pushes+"push u8 1; return 0\ng -> u8 0: call 0; push u8 1; return 1\nmain -> text 0: "+pushes+"call 1; drop; push text; return 1"), impl.MillJob{}), 599+2+600)
	if len(high.Frames) != 3 || len(high.Frames[0].Stack) != 599 || len(high.Frames[2].Stack) != 600 {
		t.Fatalf("%.300q", millMachineTold(high))
	}
	wantMillRight(t, high)
	for _, at := range []int{0, 2} {
		more := millMachineCopied(high)
		more.Frames[at].Stack = append(more.Frames[at].Stack, millValueOf(impl.MillTypeU8, 1))
		wantMillNothing(t, more)
	}
	high = impl.MillGo(high, 3)
	if len(high.Frames) != 1 || len(high.Frames[0].Stack) != 600 {
		t.Fatalf("%.300q", millMachineTold(high))
	}
	wantMillRight(t, high)
}

// millHeartRows are programs with every sort of statement and look, with jobs and replies.
func millHeartRows() []millRow {
	tool := `fn g(s text, n i64) -> text { if n == 0 { return s; } return g(s + arg(), n - 1); } ` + inMain(`say "in"; return g("<", 2);`)
	nested := inMain(`let a = tool("u", arg() + "1"); while len(a) < 9 { a = a + tool("u", a); } return a;`)
	every := `fn f(a u8, b text) -> u8 { if a == 0u8 { return a; } else if has(b) { return u8(len(read(b))); } else { a = a - 1u8; } return f(a, b); } fn none(n i64) { if n > 1 { return; } say dec(n); } ` +
		inMain(`let i = 0; let s = ""; while true { i = i + 1; if i == 2 { continue; } if i > 3 || !(i < 9 && true) { break; } none(i); s = s + list("l"); write "o", s; f(3u8, "x"); } f(2u8, arg()); write "p", tool("t", s); if s == "zz" { fail "zz"; } write "o", dec(~u8(i)) + chr(at(s + "a", 0)); return cut(s, 0, find(s, "\0a"));`)
	return []millRow{
		{src: every, arg: "y", outs: "o p", replies: slices.Concat(there("a\n"), coded(4, 4, 4), there("b\n"), coded(5), there("12"), coded(0), there("123"), there(tool))},
		{src: every, arg: "y", outs: "o", replies: slices.Concat(there("z"), coded(4, 4, 4), there("z"), coded(4, 4, 4), coded(4, 4), there(tool))},
		{src: every, arg: " ", outs: "o p", replies: slices.Concat(there("z"), coded(4, 0), there("text"), there("z"), coded(4, 4, 4))},
		{src: inMain(`return tool("t", "x") + tool("v", "y") + arg();`), arg: "A", replies: there(nested, tool, tool, tool, inMain(`return arg();`))},
		{src: inMain(`return tool("t", "x") + tool("v", "y");`), replies: there(nested, tool, tool, "no program")},
		{src: inMain(`return tool("t", "x");`), replies: there(nested, inMain(`return 1;`))},
		{src: inMain(`return tool("t", "x");`), replies: there(`fn f(n i64) -> i64 { return 1 / n; } ` + inMain(`return dec(f(len(arg()) - 1));`))},
		{src: inMain(`return tool("t", "x");`), replies: append(there(`fn f() -> text { return read("r"); } `+inMain(`return f();`)), coded(4)...)},
		{src: inMain(`write "o", "1"; say "a"; write "o", "2"; write "a", tool("t", ""); return "r";`), outs: "a o", replies: there(inMain(`write "o", "3"; write "a", "4"; say "b"; return "5";`))},
		{src: inMain(`write "o", "1"; return "r";`), outs: "a o"},
		{src: inMain(`write "o", "1"; return "r";`), outs: "a"},
		{src: inMain(`let i = 0; while i < 50 { i = i + 1; say dec(i); } return "";`)},
		{src: inMain(`let i = 0; while i < 51 { i = i + 1; say dec(i); } return "";`)},
		{src: inMain(`let i = 0; while i < 9 { i = i + 1; if has(dec(i)) { say list(dec(i)); } } fail "end";`), replies: slices.Concat(coded(0, 5, 4, 5), there("a"), coded(5, 4, 4, 0, 4, 4, 4, 4))},
		{src: millDown(12, `return read("x"); `), replies: coded(5)},
		{src: inMain(`return main2(3);`) + ` fn main2(n i64) -> text { if n == 0 { return tool("t", "") + "."; } return main2(n - 1) + dec(n); }`, replies: there(inMain(`if arg() == "" { return tool("u", "x"); } return "no";`), inMain(`return arg();`))},
	}
}

// Promises 24 and 25, step by step, for programs with every sort of statement and look.
func TestMillHeartByHand(t *testing.T) {
	t.Parallel()
	ends := map[string]int{}
	for _, row := range millHeartRows() {
		b := millOf(t, row.src)
		if fault := impl.MillCheck(b.tree()); fault.Code != 0 {
			t.Fatalf("%q: %+v", row.src, fault)
		}
		j := impl.MillJob{Arg: row.arg, Outs: strings.Fields(row.outs)}
		for n := range len(row.replies) + 1 {
			m := wantMillHeart(t, b.tree(), j, row.replies[:n:n], 3000)
			ends[millEndOf(impl.MillShown(m))]++
			if t.Failed() {
				return
			}
		}
		wantMillMeant(t, b, j, row.replies)
	}
	for _, end := range strings.Fields("done failed broken missing below waits") {
		if ends[end] == 0 {
			t.Errorf("no %s: %v", end, ends)
		}
	}
}

// Promise 25 where steps and looks are spent, by the machine in other strides.
func TestMillHeartSpent(t *testing.T) {
	t.Parallel()
	tool := inMain(`return arg();`)
	for _, row := range []millRow{
		{src: inMain(`while true { } return "";`), want: millEndsBy(3, "", 4000)},
		{src: inMain(`while true { while true { break; } continue; } return "";`), want: millEndsBy(3, "", 4000)},
		{src: `fn f() { } ` + inMain(`while true { f(); } return "";`), want: millEndsBy(3, "", 4000)},
		{src: `fn f(n i64) -> i64 { return n; } ` + inMain(`while f(1) == 1 { } return "";`), want: millEndsBy(3, "", 4000)},
		{src: inMain(`let i = 0; while i < 100 { i = i + 1; say "s"; if has("a") { } if i == 50 { break; } } while has("b") { } return "";`), replies: coded(make([]int, 100)...), want: millEndsBy(3, "", 306, slices.Repeat([]string{"s"}, 50)...)},
		{src: inMain(`let s = ""; while true { s = tool("t", s); } return "";`), replies: there(slices.Repeat([]string{tool}, 100)...), want: millEndsBy(3, "", 405)},
		{src: inMain(millPad(3998) + `return tool("t", "");`), replies: there(tool), want: millEndsBy(3, "", 4000)},
		{src: inMain(millPad(3996) + `return tool("t", "x");`), replies: there(tool), want: millDone("x", 4000)},
		{src: inMain(millPad(3997) + `return tool("t", "x");`), replies: there(tool), want: millEndsBy(3, "", 4000)},
	} {
		b := millOf(t, row.src)
		for _, stride := range []int{13, 1000, 100000} {
			m := impl.MillStart(impl.MillCompile(b.tree()), impl.MillJob{})
			for used := range len(row.replies) + 1 {
				m, _ = millGone(t, m, stride)
				if got, want := impl.MillShown(m), impl.MillMean(b.tree(), impl.MillJob{}, row.replies[:used]); !isSameMillTurn(got, want) {
					t.Fatalf("%.300q, %d replies: %s, want %s", row.src, used, millTurnShown(got), millTurnShown(want))
				}
				if used < len(row.replies) {
					m = impl.MillAnswer(m, row.replies[used])
				}
			}
			if got := impl.MillShown(m); !isSameMillTurn(got, row.want) {
				t.Errorf("%.300q by %d: %s, want %s", row.src, stride, millTurnShown(got), millTurnShown(row.want))
			}
		}
	}
}

// Promises 24 and 25 for drawn programs, jobs and replies, step by step.
func TestMillHeartDrawnPrograms(t *testing.T) {
	t.Parallel()
	dice := clayDice(187)
	m := &millMaker{clayDice: &dice}
	ends := map[string]int{}
	for i := range 1500 {
		b := m.program(dice.below(4), i%4)
		if i%5 != 0 {
			b = dice.millTamed(b)
		}
		if b.size() > 500 {
			continue
		}
		end := wantMillHeart(t, b.tree(), dice.millDrawnJob(b), m.millDrawnReplies(), 150)
		if t.Failed() {
			return
		}
		if !end.Over && end.Kind == 0 {
			ends["under way"]++
			continue
		}
		ends[millEndOf(impl.MillShown(end))]++
		ends[fmt.Sprint("look ", end.Kind)]++
	}
	for _, what := range []string{"done", "failed", "broken", "missing", "below", "waits", "under way", "look 1", "look 2", "look 3", "look 4"} {
		if ends[what] < 5 {
			t.Errorf("%s: %d of %v", what, ends[what], ends)
		}
	}
}

// millDrawnReply is one that is valid.
func (m *millMaker) millDrawnReply() impl.MillReply {
	for {
		if replies := m.millDrawnReplies(); len(replies) > 0 {
			return replies[0]
		}
	}
}

// millTurned changes values, counts and what is kept in a machine, so that it stays valid.
func (d *clayDice) millTurned(m impl.MillMachine) impl.MillMachine {
	m = millMachineCopied(m)
	if m.Over {
		return m
	}
	for i, f := range m.Frames {
		shape := impl.MillShapes(m.Codes[f.Code], f.Fn)[f.At]
		for slot, kind := range shape.Slots {
			switch {
			case d.below(3) > 0:
			case kind != 0:
				m.Frames[i].Slots[slot] = d.millAny(kind)
			case d.below(3) == 0:
				m.Frames[i].Slots[slot] = impl.MillValue{}
			default:
				m.Frames[i].Slots[slot] = d.millAny(1 + d.below(10))
			}
		}
		for at, v := range f.Stack {
			// Names for looks stay mostly.
			if v.Type != impl.MillTypeText && d.below(2) == 0 || d.below(8) == 0 {
				m.Frames[i].Stack[at] = d.millAny(v.Type)
			}
		}
	}
	switch d.below(9) {
	case 0:
		m.Steps = []int{0, 1, 2000, 3998, 3999, 4000}[d.below(6)]
	case 1:
		m.Looks = []int{1, 50, 98, 99, 100}[d.below(5)]
	case 2:
		m.Said = slices.Repeat([]string{d.text()}, []int{0, 1, 49, 50}[d.below(4)])
	case 3:
		m.Files = nil
		for _, out := range m.Outs {
			if d.below(2) == 0 {
				m.Files = append(m.Files, impl.MillFile{Name: out, Text: d.text()})
			}
		}
	case 4:
		for i := range m.Args {
			m.Args[i] = d.text()
		}
	case 5:
		if m.Kind == 4 {
			m.Hold = d.text()
		}
	}
	return m
}

// millBentBy changes something of a machine, after which most are not valid.
func (d *clayDice) millBentBy(m impl.MillMachine) impl.MillMachine {
	m = millMachineCopied(m)
	near := []int{-1, 1, -2, 2, 100, -100}[d.below(6)]
	kind := func() impl.MillValue { return d.millAny(1 + d.below(10)) }
	if len(m.Frames) == 0 || d.below(3) == 0 {
		switch d.below(12) {
		case 0:
			m.Steps += near * 40
		case 1:
			m.Looks += near
		case 2:
			m.Kind = d.below(6)
		case 3:
			m.Name = d.pick("", "a", "a b", "name")
		case 4:
			m.Hold = d.pick("", "h")
		case 5:
			m.Over = !m.Over
		case 6:
			m.End = d.below(7)
		case 7:
			m.Text = d.pick("", "x")
		case 8:
			m.Files = append(m.Files, impl.MillFile{Name: d.pick("a", "b", "o", "z", "")})
		case 9:
			m.Outs = append(m.Outs, d.pick("a", "zz", ""))
		case 10:
			m.Args = append(m.Args, "")
		default:
			if len(m.Codes) > 0 {
				at := d.below(len(m.Codes))
				m.Codes[at] = d.millSpoilCode(m.Codes[at])
			}
		}
		return m
	}
	f := &m.Frames[d.below(len(m.Frames))]
	switch d.below(10) {
	case 0:
		f.Code += near
	case 1:
		f.Fn += near
	case 2, 3:
		f.At += near
	case 4:
		f.At = d.below(10)
	case 5:
		f.Stack = append(f.Stack, kind())
	case 6:
		if len(f.Stack) > 0 {
			f.Stack[d.below(len(f.Stack))] = kind()
		}
	case 7:
		if len(f.Slots) > 0 {
			f.Slots[d.below(len(f.Slots))] = []impl.MillValue{kind(), {}, {Type: near}}[d.below(3)]
		}
	case 8:
		m.Frames = append(m.Frames, *f)
	default:
		m.Frames = m.Frames[:len(m.Frames)-1]
	}
	return m
}

// Promise 24 for drawn codes that no program has, with values, counts and texts changed on the way, and for machines that are bent.
func TestMillMachineDrawn(t *testing.T) {
	t.Parallel()
	dice := clayDice(191)
	maker := &millMaker{clayDice: &dice}
	seen := map[string]int{}
	for range 800 {
		c := dice.millDrawnCode()
		for _, fn := range c.Fns {
			for i := range fn.Ins {
				// Names of files, as most texts are none, and so most looks and writes would be the end.
				if ins := &fn.Ins[i]; ins.Op == impl.MillInsPush && ins.A == impl.MillTypeText && dice.below(8) > 0 {
					ins.Text = dice.pick("a", "b", "o")
				}
			}
		}
		if millChecked(c) != [3]int{} {
			continue
		}
		m := impl.MillStart(c, impl.MillJob{Arg: dice.text(), Outs: []string{"a", "b", "o"}[:dice.below(4)]})
		for range 60 {
			if m.Over {
				break
			}
			if m.Kind != 0 {
				seen["look "+strconv.Itoa(m.Kind)]++
				for _, code := range []int{0, 4, 5} {
					over := wantMillAnswer(t, m, impl.MillReply{Code: code})
					seen["over "+strconv.Itoa(over.End)]++
				}
				m = wantMillAnswer(t, m, maker.millDrawnReply())
			} else {
				m = wantMillStep(t, m)
			}
			if dice.below(3) == 0 {
				m = dice.millTurned(m)
				if len(millMachineWrongs(m)) > 0 || !impl.MillValidMachine(m) {
					t.Errorf("turned it is %v: %s", millMachineWrongs(m), millMachineShown(m))
				}
			}
			if dice.below(6) == 0 {
				bent := dice.millBentBy(m)
				if wrongs := millMachineWrongs(bent); len(wrongs) > 0 {
					seen["bent"]++
					wantMillNothing(t, bent)
				} else {
					seen["bent but valid"]++
					wantMillStep(t, bent)
				}
			}
			seen[fmt.Sprint("codes ", len(m.Codes))]++
			if t.Failed() {
				return
			}
		}
		seen["over "+strconv.Itoa(m.End)]++
	}
	for _, what := range []string{"look 1", "look 2", "look 3", "look 4", "bent", "bent but valid", "codes 1", "codes 2", "over 0", "over 1", "over 2", "over 3", "over 4", "over 5"} {
		if seen[what] < 10 {
			t.Errorf("%s: %d of %v", what, seen[what], seen)
		}
	}
}

// Promise 24, for all functions of four instructions out of some.
func TestMillMachineAllSmall(t *testing.T) {
	t.Parallel()
	some := millCodedIns(t, "push bool 0; push text n; load 0; store 0; return 1; built read; unless 0; unless 2; jump 3; jump 1; call 0; step; fail")
	valid := 0
	ins := make([]impl.MillIns, 4)
	for n := range len(some) * len(some) * len(some) * len(some) {
		for i := range ins {
			ins[i], n = some[n%len(some)], n/len(some)
		}
		m := impl.MillStart(impl.MillCode{Fns: []impl.MillFn{{Name: "main", Result: impl.MillTypeText, Slots: 1, Ins: ins}}}, impl.MillJob{})
		if len(m.Frames) == 0 {
			continue
		}
		valid++
		for range 9 {
			m = wantMillStep(t, m)
			if m.Kind != 0 {
				m = wantMillAnswer(t, m, impl.MillReply{Text: "x"})
			}
		}
		if t.Failed() {
			return
		}
	}
	if valid < 400 {
		t.Errorf("only %d are valid", valid)
	}
}

// All machines of up to three frames of a code, with some stacks and slots, as the rules have them.
func TestMillValidMachineAllSmall(t *testing.T) {
	t.Parallel()
	c := millCoded(t, "f u8 -> bool 1: push text n; built has; call 2; return 1\nmain -> text 1: push u8 1; call 0; drop; call 2; push text n; built read; return 1\ng -> ? 0: return 0; step; return 0")
	stacks := [][]impl.MillValue{nil, {millTextValue("n")}, {millBoolValue(true)}}
	slots := [][]impl.MillValue{nil, {{}}, {millValueOf(impl.MillTypeU8, 1)}}
	var frames []impl.MillFrame
	for fn := -1; fn <= 3; fn++ {
		for at := -1; at <= 8; at++ {
			for _, stack := range stacks {
				for _, slot := range slots {
					frames = append(frames, impl.MillFrame{Fn: fn, At: at, Slots: slot, Stack: stack})
				}
			}
		}
	}
	counts := map[string]int{}
	ask := func(some ...impl.MillFrame) (open bool) {
		m := impl.MillMachine{Codes: []impl.MillCode{c}, Args: []string{""}, Frames: some, Steps: 1}
		for kind := range 3 {
			if m.Kind = kind; kind > 0 {
				m.Name, m.Looks = "n", 1
			}
			valid := impl.MillValidMachine(m)
			wrongs := millMachineWrongs(m)
			if valid != (len(wrongs) == 0) {
				t.Errorf("valid %v, wrongs %v: %s", valid, wrongs, millMachineShown(m))
			}
			if valid {
				counts[fmt.Sprint(len(some), " frames, kind ", kind)]++
				wantMillStep(t, m)
			}
			// Below others a frame may stand whose stack is that of one that waits.
			open = open || valid || slices.Equal(wrongs, []string{"stack"})
		}
		return open
	}
	for _, one := range frames {
		if !ask(one) {
			continue
		}
		for _, two := range frames {
			if !ask(one, two) {
				continue
			}
			for _, three := range frames {
				ask(one, two, three)
			}
			if t.Failed() {
				return
			}
		}
	}
	for _, what := range []string{"1 frames, kind 0", "1 frames, kind 1", "2 frames, kind 0", "2 frames, kind 2", "3 frames, kind 0"} {
		if counts[what] == 0 {
			t.Errorf("%s: %v", what, counts)
		}
	}
}

// millWantEnded asks promise 26 of a program whose looks are answered by replies in turn: it is over behind at most 30 instructions for each step and each node of the trees that are called.
func wantMillEnded(t *testing.T, tree impl.MillTree, j impl.MillJob, reply func(m impl.MillMachine) impl.MillReply) impl.MillMachine {
	t.Helper()
	m := impl.MillStart(impl.MillCompile(tree), j)
	nodes, ins := len(tree.Nodes), 0
	const stride = 500
	for !m.Over {
		gone, more := millGone(t, m, stride)
		ins += more
		if gone.Kind != 0 {
			y := reply(gone)
			if gone.Kind == 4 {
				called, _ := impl.MillParse(y.Text)
				nodes = max(nodes, len(called.Nodes))
			}
			gone = impl.MillAnswer(gone, y)
		}
		m = gone
		if most := 30*max(m.Steps, 1)*nodes + stride*(m.Looks+101); ins > most || ins > 30*4000*12001 {
			t.Fatalf("%.900q: %d instructions, at most %d: %s", impl.MillPrint(tree), ins, most, millMachineTold(m))
		}
	}
	return m
}

// Promise 26, for programs that have no end of their own.
func TestMillEnding(t *testing.T) {
	t.Parallel()
	here := func(m impl.MillMachine) impl.MillReply { return impl.MillReply{Text: inMain(`return arg() + "t";`)} }
	for _, src := range []string{
		inMain(`while true { } return "";`),
		inMain(`while true { continue; } return "";`),
		inMain(`while true { while true { while true { break; } break; } } return "";`),
		inMain(`while !false { if true { continue; } else { break; } } return "";`),
		`fn f() { f(); } ` + inMain(`f(); return "";`),
		`fn f() { } fn g() { f(); f(); f(); f(); } fn h() { g(); g(); g(); g(); } fn i() { h(); h(); h(); h(); } fn j() { i(); i(); i(); i(); } fn k() { j(); j(); j(); j(); } fn l() { k(); k(); k(); k(); } ` + inMain(`l(); l(); return "";`),
		`fn f(n i64) -> i64 { if n == 0 { return 1; } return f(n - 1) + f(n - 1); } ` + inMain(`return dec(f(35));`),
		inMain(`while has("a") { } return "";`),
		inMain(`let s = ""; while true { s = tool("t", s); } return s;`),
		inMain(`return main();`),
		`fn f(n i64) -> bool { return n > 0 && (f(n - 1) || f(n - 1)) || n == 0 && false; } ` + inMain(`if f(30) { } return "";`),
	} {
		m := wantMillEnded(t, millOf(t, src).tree(), impl.MillJob{}, here)
		if m.End != 3 && m.Text != "deep in f" && m.Text != "deep in main" {
			t.Errorf("%q: %s", src, millMachineTold(m))
		}
	}
	dice := clayDice(193)
	maker := &millMaker{clayDice: &dice}
	ends := map[string]int{}
	for i := range 800 {
		b := dice.millTamed(maker.program(dice.below(4), i%4))
		if b.size() > 600 {
			continue
		}
		m := wantMillEnded(t, b.tree(), dice.millDrawnJob(b), func(m impl.MillMachine) impl.MillReply { return maker.millDrawnReply() })
		ends[millEndOf(impl.MillShown(m))]++
		if t.Failed() {
			return
		}
	}
	for _, end := range strings.Fields("done failed broken spent missing below") {
		if ends[end] < 3 {
			t.Errorf("%s: %v", end, ends)
		}
	}
}

// Promise 26, for a tree of as many nodes as there may be, gone through at each step.
func TestMillEndingLargeTree(t *testing.T) {
	t.Parallel()
	if testing.Short() {
		t.Skip()
	}
	// Of bools: the right kids of || and && are looked at, so nothing is left out.
	e := func(levels int) millBush {
		b := millGrowBool(0)
		for range levels {
			b = millGrowBin(impl.MillOpSame, millGrowBin(impl.MillOpOr, b, millGrowBool(0)), millGrowBool(0))
			b = millGrowUn(impl.MillOpNot, b)
		}
		return b
	}
	or := e(14)
	for or.size() < 5000 {
		or = millGrowBin(impl.MillOpOr, or, or)
	}
	loop := millGrowKind(impl.MillNodeWhile, millGrowUn(impl.MillOpNot, or), millGrowBlock())
	b := millGrowProgram(millGrowFn("main", impl.MillTypeText, millGrowBlock(loop, millGrowKind(impl.MillNodeReturn, millGrowText(impl.MillNodeText, "")))))
	if fault := impl.MillCheck(b.tree()); fault.Code != 0 || b.size() < 5000 {
		t.Fatalf("%+v, %d nodes", fault, b.size())
	}
	m := impl.MillStart(impl.MillCompile(b.tree()), impl.MillJob{})
	m, ins := millGone(t, m, 100000)
	if m.End != 3 || m.Steps != 4000 || ins > 30*4000*b.size() || ins < 4000*b.size()/2 {
		t.Errorf("%d instructions: %s", ins, millMachineTold(m))
	}
	if got, want := impl.MillShown(m), impl.MillMean(b.tree(), impl.MillJob{}, nil); !isSameMillTurn(got, want) {
		t.Errorf("%s, want %s", millTurnShown(got), millTurnShown(want))
	}
}

// memoryPiece is a text, or a list with its room.
type memoryPiece struct {
	from, to uintptr
	what     string
}

// memoryOf are the pieces of memory that a thing holds.
func memoryOf(v reflect.Value, what string, pieces []memoryPiece) []memoryPiece {
	put := func(from unsafe.Pointer, size uintptr) {
		if size > 0 {
			pieces = append(pieces, memoryPiece{uintptr(from), uintptr(from) + size, what})
		}
	}
	switch v.Kind() {
	case reflect.String:
		put(unsafe.Pointer(unsafe.StringData(v.String())), uintptr(v.Len()))
	case reflect.Slice:
		put(v.UnsafePointer(), uintptr(v.Cap())*v.Type().Elem().Size())
		for i := range v.Len() {
			pieces = memoryOf(v.Index(i), what+"["+strconv.Itoa(i)+"]", pieces)
		}
	case reflect.Struct:
		for i := range v.NumField() {
			pieces = memoryOf(v.Field(i), what+"."+v.Type().Field(i).Name, pieces)
		}
	}
	return pieces
}

// wantNewMemory asks whether no two parts of an answer share memory, nor one with an argument.
func wantNewMemory(t *testing.T, answer any, args ...any) {
	t.Helper()
	own := memoryOf(reflect.ValueOf(answer), "answer", nil)
	slices.SortFunc(own, func(a, b memoryPiece) int { return cmp.Compare(a.from, b.from) })
	for i := range own[:max(0, len(own)-1)] {
		if own[i].to > own[i+1].from {
			t.Errorf("%s and %s share memory", own[i].what, own[i+1].what)
		}
	}
	for _, arg := range args {
		for _, given := range memoryOf(reflect.ValueOf(arg), "argument", nil) {
			at, _ := slices.BinarySearchFunc(own, given.from, func(p memoryPiece, from uintptr) int { return cmp.Compare(p.to, from+1) })
			if at < len(own) && own[at].from < given.to {
				t.Errorf("%s shares memory with %s", own[at].what, given.what)
			}
		}
	}
}

// roomValue is something of a type that no argument holds.
func roomValue(kind reflect.Type) reflect.Value {
	v := reflect.New(kind).Elem()
	switch kind.Kind() {
	case reflect.String:
		v.SetString("room")
	case reflect.Int, reflect.Int64:
		v.SetInt(-77)
	case reflect.Struct:
		for i := range kind.NumField() {
			v.Field(i).Set(roomValue(kind.Field(i).Type))
		}
	}
	return v
}

// roomyOf is a thing whose lists have room behind their ends, and shared texts; seen tells all that lies in the lists, and in the room.
func roomyOf[T any](thing T) (roomy T, seen func() string) {
	var lists []reflect.Value
	var made func(v reflect.Value) reflect.Value
	made = func(v reflect.Value) reflect.Value {
		next := reflect.New(v.Type()).Elem()
		switch v.Kind() {
		case reflect.Slice:
			long := reflect.MakeSlice(v.Type(), v.Len()+5, v.Len()+5)
			for i := range long.Len() {
				if i < v.Len() {
					long.Index(i).Set(made(v.Index(i)))
				} else {
					long.Index(i).Set(roomValue(v.Type().Elem()))
				}
			}
			lists = append(lists, long)
			next.Set(long.Slice(0, v.Len()))
		case reflect.Struct:
			for i := range v.NumField() {
				next.Field(i).Set(made(v.Field(i)))
			}
		default:
			next.Set(v)
		}
		return next
	}
	roomy = made(reflect.ValueOf(thing)).Interface().(T)
	return roomy, func() string {
		told := ""
		for _, list := range lists {
			told += fmt.Sprintf("%q;", fmt.Sprint(list))
		}
		return told
	}
}

// millMemoryMachines are machines of all sorts, whose texts stand in several places.
func millMemoryMachines(t *testing.T) []impl.MillMachine {
	t.Helper()
	var all []impl.MillMachine
	for _, row := range millHeartRows() {
		m := millBegun(t, row.src, impl.MillJob{Arg: row.arg, Outs: strings.Fields(row.outs)})
		all = append(all, m)
		for _, y := range row.replies {
			m, _ = millGone(t, m, 13)
			all = append(all, m, impl.MillGo(m, 3))
			if m.Kind != 0 {
				m = impl.MillAnswer(m, y)
				all = append(all, m)
			}
		}
		m, _ = millGone(t, m, 5)
		all = append(all, m)
	}
	one := string([]byte("one text"))
	m := millBegun(t, inMain(`say "one text"; let a = "one text"; write "o", a; let b = a; say b; let c = read(a + b); return tool("one", a + c) + a;`), impl.MillJob{Arg: one, Outs: []string{"o"}})
	for _, stride := range []int{1, 2, 5, 9, 12, 20} {
		all = append(all, impl.MillGo(m, stride))
	}
	tower := millTowerWaits(t, 4)
	tower.Name, tower.Hold, tower.Args[0], tower.Args[1], tower.Args[2] = "one", one, one, one, one
	tower.Said, tower.Files[0].Text, tower.Frames[2].Slots[0].Text, tower.Frames[1].Slots[1].Text = []string{one, one}, one, one, one
	shared := tower.Codes[1].Fns[2]
	tower.Codes[1].Fns[3].Ins, tower.Codes[1].Fns[0].Ins = shared.Ins, tower.Codes[1].Fns[1].Ins
	over := impl.MillMachine{Over: true, Text: one, Files: []impl.MillFile{{Name: "one", Text: one}, {Name: "two", Text: one}}, Said: []string{one, one}}
	return append(all, tower, millTower(t), over, impl.MillMachine{}, impl.MillMachine{Over: true, End: 7, Said: []string{one}})
}

// No argument is changed, nor what lies behind its lists; answers are new memory, and no two parts of one share any.
func TestMillMachineOwnMemory(t *testing.T) {
	t.Parallel()
	tool := inMain(`say arg(); return arg() + "a text of a tool";`)
	replies := []impl.MillReply{{Text: tool}, {Text: string([]byte("a text of a reply"))}, {}, {Code: 4}, {Code: 5}, {Code: 6}}
	pieces := 0
	for _, m := range millMemoryMachines(t) {
		ask := func(what string, do func(m impl.MillMachine) any, more ...any) {
			t.Helper()
			roomy, seen := roomyOf(m)
			before := seen()
			answer := do(roomy)
			wantNewMemory(t, answer, append(more, roomy)...)
			pieces += len(memoryOf(reflect.ValueOf(answer), "", nil))
			if seen() != before {
				t.Errorf("%s changes %s", what, millMachineShown(m))
			}
			// Asked again of what was not handed in before it is the same: nothing is kept.
			again := do(millMachineCopied(m))
			if fmt.Sprintf("%q", fmt.Sprint(again)) != fmt.Sprintf("%q", fmt.Sprint(answer)) {
				t.Errorf("%s of %s is another when it is asked again", what, millMachineShown(m))
			}
		}
		ask("valid", func(m impl.MillMachine) any { return impl.MillValidMachine(m) })
		ask("a step", func(m impl.MillMachine) any { return impl.MillStep(m) })
		ask("shown", func(m impl.MillMachine) any { return impl.MillShown(m) })
		for _, most := range []int{-1, 0, 2, 10, 1000} {
			ask("go", func(m impl.MillMachine) any { return impl.MillGo(m, most) })
		}
		for _, y := range replies {
			ask("an answer", func(m impl.MillMachine) any { return impl.MillAnswer(m, y) }, y)
		}
		for i, c := range m.Codes {
			roomy, seen := roomyOf(c)
			j, seenJob := roomyOf(impl.MillJob{Arg: m.Args[i], Outs: m.Outs})
			before := seen() + seenJob()
			wantNewMemory(t, impl.MillStart(roomy, j), roomy, j)
			if seen()+seenJob() != before {
				t.Errorf("start changes %s", millCodeShown(c))
			}
		}
		if t.Failed() {
			return
		}
	}
	if pieces < 10000 {
		t.Errorf("only %d pieces of memory", pieces)
	}
}

// Many at once: nothing is kept between calls.
func TestMillMachineKeepsNothing(t *testing.T) {
	var all []func() string
	for n := range 8 {
		arg := fmt.Sprint("n", n)
		m := millBegun(t, inMain(`let i = 0; while i < 20 { i = i + 1; say arg() + dec(i); write "o", arg(); } return read(arg()) + tool("t", arg());`), impl.MillJob{Arg: arg, Outs: []string{"o"}})
		all = append(all, func() string {
			wait := impl.MillGo(m, 1000)
			next := impl.MillGo(impl.MillAnswer(wait, impl.MillReply{Text: arg + "!"}), 1000)
			end := impl.MillGo(impl.MillAnswer(next, impl.MillReply{Text: inMain(`return arg() + "?";`)}), 1000)
			if wait.Kind != 1 || wait.Name != arg || next.Kind != 4 || next.Hold != arg || end.Text != arg+"!"+arg+"?" || len(end.Said) != 20 || len(end.Files) != 1 || end.Files[0].Text != arg {
				return millMachineTold(end)
			}
			return ""
		})
	}
	wantAtOnce(t, all)
}

func FuzzMillMachine(f *testing.F) {
	for _, row := range millHeartRows() {
		first := append(row.replies, impl.MillReply{Code: 4})[0]
		f.Add(row.src, row.arg, row.outs, first.Text, inMain(`return arg() + "!";`))
	}
	f.Fuzz(func(t *testing.T, src, arg, outs, first, second string) {
		tree, fault := impl.MillParse(src)
		if fault.Code != 0 || len(tree.Nodes) > 300 || impl.MillCheck(tree).Code != 0 || len(first) > 3000 || len(second) > 3000 {
			return
		}
		j := impl.MillJob{Arg: arg, Outs: strings.Fields(outs)}
		if !impl.MillValidJob(j) {
			wantMillMachine(t, "a wrong job", impl.MillStart(impl.MillCompile(tree), j), impl.MillMachine{})
			return
		}
		wantMillHeart(t, tree, j, append(there(first, second, first, second), impl.MillReply{Code: 4}), 200)
	})
}

// Codes that no program has, as they are read.
func FuzzMillMachineOfCode(f *testing.F) {
	f.Add("mill1\x01\x04main\x00\x02\x00\x02\x01\x02\x01x\x0c\x01", "x")
	f.Add("mill1\x02\x01g\x00\x00\x00\x01\x0c\x00\x04main\x00\x02\x00\x0f\x09\x00\x01\x02\x01a\x01\x02\x01b\x06\x09\x01\x02\x01c\x0e\x01\x02\x00\x0f\x01\x03\x09\x07\x08\x04\x08\x05\x01\x01\x00\x0b\x0e\x0c\x01", "")
	f.Fuzz(func(t *testing.T, form, reply string) {
		c, ok := impl.MillReadCode(form)
		if !ok || len(form) > 2000 || len(reply) > 3000 {
			return
		}
		m := impl.MillStart(c, impl.MillJob{Arg: "a", Outs: []string{"a", "b"}})
		for range 60 {
			m = wantMillStep(t, m)
			if m.Kind != 0 {
				m = wantMillAnswer(t, m, impl.MillReply{Text: reply})
			}
		}
	})
}
