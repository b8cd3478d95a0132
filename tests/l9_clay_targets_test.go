package tests

import (
	"fmt"
	"maps"
	"reflect"
	"slices"
	"strconv"
	"strings"
	"testing"

	"loop.example/kilnyard/impl"
)

// clayTell tells what values are; one that is a ClayValue is told as it stands.
func clayTell(values ...any) []impl.ClayTold {
	var told []impl.ClayTold
	for at, v := range values {
		value, ok := v.(impl.ClayValue)
		if !ok {
			value = clayVal(v)
		}
		told = append(told, impl.ClayTold{From: []string{"main", "", "no package"}[at%3], Value: value})
	}
	return told
}

// clayTarget is a record of a target, with what else it has.
func clayTarget(name string, outs ls, others ...any) rc {
	record := rc{"name": name, "tool": "t", "outs": outs}
	for i := 0; i < len(others); i += 2 {
		record[others[i].(string)] = others[i+1]
	}
	return record
}

// clayTextsIn is the list that a record has at a name, empty if none is there, and whether it is one of texts that are not empty.
func clayTextsIn(record rc, name string) ([]string, bool) {
	is, there := record[name]
	if !there {
		return nil, true
	}
	list, ok := is.(ls)
	texts := []string{}
	for _, item := range list {
		text, _ := item.(string)
		ok = ok && text != ""
		texts = append(texts, text)
	}
	return texts, ok
}

// isClayTarget says whether a value is a record as a target has to be.
func isClayTarget(v any) bool {
	record, ok := v.(rc)
	if !ok {
		return false
	}
	for name := range record {
		if !slices.Contains([]string{"name", "tool", "arg", "ins", "outs"}, name) {
			return false
		}
	}
	name, _ := record["name"].(string)
	tool, _ := record["tool"].(string)
	if arg, there := record["arg"]; there {
		_, ok = arg.(string)
	}
	_, insOk := clayTextsIn(record, "ins")
	outs, outsOk := clayTextsIn(record, "outs")
	return ok && insOk && outsOk && name != "" && tool != "" && len(outs) > 0
}

// isClayToldWrong says whether a place has the fault of a code, where no earlier place has one, nor this place one of a smaller code.
func isClayToldWrong(told []impl.ClayTold, at, code int) bool {
	is, ok := clayMeant(told[at].Value)
	if code == 1 {
		return !ok
	}
	if code == 2 {
		return !isClayTarget(is)
	}
	record := is.(rc)
	ins, _ := clayTextsIn(record, "ins")
	outs, _ := clayTextsIn(record, "outs")
	if code == 5 {
		return len(slices.Compact(slices.Sorted(slices.Values(ins)))) < len(ins)
	}
	for _, earlier := range told[:at] {
		other, _ := clayMeant(earlier.Value)
		if code == 3 && other.(rc)["name"] == record["name"] {
			return true
		}
		more, _ := clayTextsIn(other.(rc), "outs")
		outs = append(outs, more...)
	}
	return code == 4 && len(slices.Compact(slices.Sorted(slices.Values(outs)))) < len(outs)
}

// clayPlanByRules is what the document says of what is told, code by code at each place.
func clayPlanByRules(told []impl.ClayTold) impl.ClayPlan {
	var targets []impl.ClayTarget
	for at := range told {
		for code := 1; code <= 5; code++ {
			if isClayToldWrong(told, at, code) {
				return impl.ClayPlan{Code: code, At: at}
			}
		}
		is, _ := clayMeant(told[at].Value)
		record := is.(rc)
		arg, _ := record["arg"].(string)
		ins, _ := clayTextsIn(record, "ins")
		outs, _ := clayTextsIn(record, "outs")
		targets = append(targets, impl.ClayTarget{Name: record["name"].(string), Tool: record["tool"].(string), Arg: arg, Ins: slices.Sorted(slices.Values(ins)), Outs: slices.Sorted(slices.Values(outs))})
		for j := len(targets) - 1; j > 0 && targets[j].Name < targets[j-1].Name; j-- {
			targets[j], targets[j-1] = targets[j-1], targets[j]
		}
	}
	return impl.ClayPlan{Targets: targets}
}

// clayPlanForm is the form of targets, line by line.
func clayPlanForm(targets []impl.ClayTarget) string {
	form := ""
	for _, target := range targets {
		form += fmt.Sprintf("%s: %s %s\n", clayQuoted(target.Name), clayQuoted(target.Tool), clayQuoted(target.Arg))
		for _, in := range target.Ins {
			form += "  < " + clayQuoted(in) + "\n"
		}
		for _, out := range target.Outs {
			form += "  > " + clayQuoted(out) + "\n"
		}
	}
	return form
}

// clayUnquoted reads the texts of a line, which stand in quotes between the marks.
func clayUnquoted(t *testing.T, line string, marks ...string) []string {
	t.Helper()
	var texts []string
	for _, mark := range marks {
		rest, ok := strings.CutPrefix(line, mark+"\"")
		end := strings.IndexByte(rest, '"')
		if !ok || end < 0 {
			t.Fatalf("the line goes on with %q, want %q and a text", line, mark)
		}
		text, err := strconv.Unquote("\"" + strings.ReplaceAll(rest[:end], "\\", "\\x") + "\"")
		if err != nil {
			t.Fatalf("%q is no text", rest[:end])
		}
		texts = append(texts, text)
		line = rest[end+1:]
	}
	if line != "" {
		t.Fatalf("%q stands behind the line", line)
	}
	return texts
}

// clayPlanRead reads targets from their form, so that a form that can be read tells them apart from all others.
func clayPlanRead(t *testing.T, form string) []impl.ClayTarget {
	t.Helper()
	var targets []impl.ClayTarget
	for line := range strings.Lines(form) {
		line, ended := strings.CutSuffix(line, "\n")
		if !ended {
			t.Fatalf("the line %q has no end", line)
		}
		if !strings.HasPrefix(line, " ") {
			texts := clayUnquoted(t, line, "", ": ", " ")
			targets = append(targets, impl.ClayTarget{Name: texts[0], Tool: texts[1], Arg: texts[2]})
			continue
		}
		last := &targets[len(targets)-1]
		if strings.HasPrefix(line, "  <") {
			last.Ins = append(last.Ins, clayUnquoted(t, line, "  < ")...)
		} else {
			last.Outs = append(last.Outs, clayUnquoted(t, line, "  > ")...)
		}
	}
	return targets
}

// isSameTargets says whether targets are the same, the empty list and no list being the same.
func isSameTargets(a, b []impl.ClayTarget) bool {
	return slices.EqualFunc(a, b, func(a, b impl.ClayTarget) bool {
		return a.Name == b.Name && a.Tool == b.Tool && a.Arg == b.Arg && slices.Equal(a.Ins, b.Ins) && slices.Equal(a.Outs, b.Outs)
	})
}

// wantFormPlan holds the form of targets against what is said here, and reads them from it.
func wantFormPlan(t *testing.T, targets []impl.ClayTarget) string {
	t.Helper()
	form := impl.ClayFormPlan(targets)
	if want := clayPlanForm(targets); form != want {
		t.Errorf("the form of %+v is %q, want %q", targets, form, want)
	}
	if back := clayPlanRead(t, form); !isSameTargets(back, targets) {
		t.Errorf("%+v is read back as %+v", targets, back)
	}
	return form
}

// wantPlan holds a plan against what is said here, and holds it to promise 12.
func wantPlan(t *testing.T, told []impl.ClayTold) impl.ClayPlan {
	t.Helper()
	got := impl.ClayTargets(told)
	want := clayPlanByRules(told)
	if got.Code != want.Code || got.At != want.At || !isSameTargets(got.Targets, want.Targets) {
		t.Fatalf("told %.2000v: %.2000v, want %.2000v", told, got, want)
	}
	wantPromisedPlan(t, got, len(told))
	return got
}

// wantPromisedPlan holds a plan to what promise 12 says of it, and to what is said of all codes.
func wantPromisedPlan(t *testing.T, plan impl.ClayPlan, told int) {
	t.Helper()
	if plan.Code != 0 {
		if len(plan.Targets) != 0 {
			t.Errorf("code %d with targets: %+v", plan.Code, plan)
		}
		return
	}
	if plan.At != 0 || len(plan.Targets) != told {
		t.Errorf("%d were told: %+v", told, plan)
	}
	ascending := func(what string, texts []string) {
		for i := 1; i < len(texts); i++ {
			if texts[i-1] >= texts[i] {
				t.Errorf("%s are not ascending: %q", what, texts)
			}
		}
	}
	var names []string
	makers := map[string]string{}
	for _, target := range plan.Targets {
		names = append(names, target.Name)
		ascending("ins", target.Ins)
		ascending("outs", target.Outs)
		for _, out := range target.Outs {
			if maker, made := makers[out]; made {
				t.Errorf("%q is made by %q and by %q", out, maker, target.Name)
			}
			makers[out] = target.Name
		}
	}
	ascending("names", names)
	wantFormPlan(t, plan.Targets)
}

// wantPlanCode says which code comes out at which place, and holds the plan against what is said here.
func wantPlanCode(t *testing.T, what string, code, at int, values ...any) {
	t.Helper()
	if got := wantPlan(t, clayTell(values...)); got.Code != code || got.At != at {
		t.Errorf("%s: code %d at %d, want %d at %d", what, got.Code, got.At, code, at)
	}
}

func TestClayTargetsByHand(t *testing.T) {
	got := wantPlan(t, clayTell(
		clayTarget("prog", ls{"prog", "map"}, "tool", "ld", "arg", "-s", "ins", ls{"main.o", "lib.o"}),
		clayTarget("b", ls{"main.o"}, "tool", "cc", "ins", ls{"main.c", "lib.h"}),
		clayTarget("a", ls{"lib.o"}, "tool", "cc", "arg", ""),
	))
	want := []impl.ClayTarget{
		{Name: "a", Tool: "cc", Outs: []string{"lib.o"}},
		{Name: "b", Tool: "cc", Ins: []string{"lib.h", "main.c"}, Outs: []string{"main.o"}},
		{Name: "prog", Tool: "ld", Arg: "-s", Ins: []string{"lib.o", "main.o"}, Outs: []string{"map", "prog"}},
	}
	if got.Code != 0 || !isSameTargets(got.Targets, want) {
		t.Errorf("%+v", got)
	}
	form := "\"a\": \"cc\" \"\"\n  > \"lib.o\"\n\"b\": \"cc\" \"\"\n  < \"lib.h\"\n  < \"main.c\"\n  > \"main.o\"\n\"prog\": \"ld\" \"-s\"\n  < \"lib.o\"\n  < \"main.o\"\n  > \"map\"\n  > \"prog\"\n"
	if got := impl.ClayFormPlan(got.Targets); got != form {
		t.Errorf("%q", got)
	}
}

func TestClayTargetsOfNothing(t *testing.T) {
	for _, told := range [][]impl.ClayTold{nil, {}} {
		if got := impl.ClayTargets(told); got.Code != 0 || got.At != 0 || len(got.Targets) != 0 {
			t.Errorf("nothing told: %+v", got)
		}
	}
	for _, targets := range [][]impl.ClayTarget{nil, {}} {
		if got := impl.ClayFormPlan(targets); got != "" {
			t.Errorf("no targets: %q", got)
		}
	}
}

func TestClayTargetsFieldsLeftOut(t *testing.T) {
	whole := clayTarget("n", ls{"o"}, "arg", "x", "ins", ls{"i"})
	wantPlanCode(t, "all five", 0, 0, whole)
	names := slices.Sorted(maps.Keys(whole))
	for set := range 1 << len(names) {
		record := rc{}
		for i, name := range names {
			if set>>i&1 == 1 {
				record[name] = whole[name]
			}
		}
		code := 2
		if record["name"] != nil && record["tool"] != nil && record["outs"] != nil {
			code = 0
		}
		wantPlanCode(t, clayWritten(record), code, 0, record)
	}
}

func TestClayTargetsFieldsNotThere(t *testing.T) {
	for _, c := range []struct {
		others []any
		arg    string
		ins    []string
	}{
		{nil, "", nil}, {[]any{"arg", ""}, "", nil}, {[]any{"ins", ls{}}, "", nil}, {[]any{"arg", "", "ins", ls{}}, "", nil},
		{[]any{"arg", "x"}, "x", nil}, {[]any{"ins", ls{"i"}}, "", []string{"i"}}, {[]any{"arg", "x y", "ins", ls{"j", "i"}}, "x y", []string{"i", "j"}},
	} {
		got := wantPlan(t, clayTell(clayTarget("n", ls{"o"}, c.others...)))
		if want := []impl.ClayTarget{{Name: "n", Tool: "t", Arg: c.arg, Ins: c.ins, Outs: []string{"o"}}}; got.Code != 0 || !isSameTargets(got.Targets, want) {
			t.Errorf("%v: %+v", c.others, got)
		}
	}
}

func TestClayTargetsOtherNames(t *testing.T) {
	for _, name := range []string{"", "a", "argo", "ar", "in", "inst", "names", "nam", "out", "outsz", "tools", "too", "Name", "name ", "zz", "\xff"} {
		wantPlanCode(t, name, 2, 0, clayTarget("n", ls{"o"}, name, "x"))
		wantPlanCode(t, name, 2, 0, clayTarget("n", ls{"o"}, name, ls{"x"}))
		wantPlanCode(t, name, 2, 0, clayTarget("n", ls{"o"}, name, nil))
		wantPlanCode(t, name, 2, 0, clayTarget("n", ls{"o"}, "arg", "x", "ins", ls{"i"}, name, "x"))
	}
}

// clayEachKind is a value of each kind.
func clayEachKind() ls {
	return ls{nil, false, true, 0, 1, "text", ls{"text"}, rc{"text": "text"}, rc{"name": "n", "outs": ls{"o"}, "tool": "t"}}
}

func TestClayTargetsOtherKinds(t *testing.T) {
	for _, name := range []string{"arg", "ins", "name", "outs", "tool"} {
		for _, is := range clayEachKind() {
			code := 2
			_, isText := is.(string)
			_, isList := is.(ls)
			if isText && (name == "arg" || name == "name" || name == "tool") || isList && (name == "ins" || name == "outs") {
				code = 0
			}
			wantPlanCode(t, name+" is "+clayWritten(is), code, 0, clayTarget("n", ls{"o"}, name, is))
		}
	}
	for _, name := range []string{"ins", "outs"} {
		for _, is := range clayEachKind() {
			code := 2
			if _, isText := is.(string); isText {
				code = 0
			}
			for at := range 3 {
				list := slices.Insert(ls{"a", "b"}, at, is)
				wantPlanCode(t, name+" has "+clayWritten(is), code, 0, clayTarget("n", ls{"o"}, name, list))
			}
			wantPlanCode(t, name+" has but "+clayWritten(is), code, 0, clayTarget("n", ls{"o"}, name, ls{is}))
		}
	}
	for _, is := range clayEachKind() {
		code := 2
		if record, ok := is.(rc); ok && record["name"] != nil {
			code = 0
		}
		wantPlanCode(t, clayWritten(is), code, 0, is)
	}
	wantPlanCode(t, "an empty record", 2, 0, rc{})
	wantPlanCode(t, "an empty list", 2, 0, ls{})
	wantPlanCode(t, "a list of a target", 2, 0, ls{clayTarget("n", ls{"o"})})
	wantPlanCode(t, "a list of what a target has", 2, 0, ls{"name", "n", "outs", ls{"o"}, "tool", "t"})
}

func TestClayTargetsEmptyTexts(t *testing.T) {
	for _, name := range []string{"name", "tool"} {
		wantPlanCode(t, name+" is empty", 2, 0, clayTarget("n", ls{"o"}, name, ""))
	}
	for _, name := range []string{"ins", "outs"} {
		for at := range 3 {
			wantPlanCode(t, name+" has an empty one", 2, 0, clayTarget("n", ls{"o"}, name, slices.Insert(ls{"b", "a"}, at, any(""))))
		}
		wantPlanCode(t, name+" has but an empty one", 2, 0, clayTarget("n", ls{"o"}, name, ls{""}))
		wantPlanCode(t, name+" has two empty ones", 2, 0, clayTarget("n", ls{"o"}, name, ls{"", ""}))
	}
	wantPlanCode(t, "no outs", 2, 0, clayTarget("n", ls{}))
	wantPlanCode(t, "no ins", 0, 0, clayTarget("n", ls{"o"}, "ins", ls{}))
	wantPlanCode(t, "a text of one zero", 0, 0, clayTarget("\x00", ls{"\x00"}, "tool", "\x00", "ins", ls{"\x00"}))
}

func TestClayTargetsTakenAnew(t *testing.T) {
	first := clayTarget("n", ls{"o", "p"}, "ins", ls{"i", "j"}, "arg", "x")
	for _, c := range []struct {
		what   string
		code   int
		second rc
	}{
		{"the name", 3, clayTarget("n", ls{"q"})},
		{"an out", 4, clayTarget("m", ls{"o"})},
		{"the last out", 4, clayTarget("m", ls{"q", "a", "p"})},
		{"an out twice", 4, clayTarget("m", ls{"q", "q"})},
		{"an out twice, not side by side", 4, clayTarget("m", ls{"q", "r", "q"})},
		{"an in twice", 5, clayTarget("m", ls{"q"}, "ins", ls{"k", "k"})},
		{"an in twice, not side by side", 5, clayTarget("m", ls{"q"}, "ins", ls{"k", "l", "m", "k"})},
		{"an in as an earlier one", 0, clayTarget("m", ls{"q"}, "ins", ls{"i", "j"})},
		{"an out that is an earlier in", 0, clayTarget("m", ls{"i", "j"})},
		{"an in that is an earlier out", 0, clayTarget("m", ls{"q"}, "ins", ls{"o", "p"})},
		{"an in that is its own out", 0, clayTarget("m", ls{"q"}, "ins", ls{"q"})},
		{"an out that is an earlier name", 0, clayTarget("m", ls{"n"})},
		{"a name that is an earlier out", 0, clayTarget("o", ls{"q"})},
		{"a name that is its own out", 0, clayTarget("q", ls{"q"})},
		{"a name that is an earlier in", 0, clayTarget("i", ls{"q"})},
		{"tool and arg as an earlier one", 0, clayTarget("m", ls{"q"}, "arg", "x", "tool", "t")},
		{"a name that begins as an earlier one", 0, clayTarget("nn", ls{"oo", "o ", "O"})},
	} {
		wantPlanCode(t, c.what, c.code, min(c.code, 1), first, c.second)
		wantPlanCode(t, c.what+", with one between", c.code, 2*min(c.code, 1), first, clayTarget("between", ls{"between"}), c.second)
	}
	wantPlanCode(t, "a name of the last but two", 3, 3, clayTarget("a", ls{"1"}), clayTarget("b", ls{"2"}), clayTarget("c", ls{"3"}), clayTarget("b", ls{"4"}))
	wantPlanCode(t, "an out of the last but two", 4, 3, clayTarget("a", ls{"1"}), clayTarget("b", ls{"2"}), clayTarget("c", ls{"3"}), clayTarget("d", ls{"2"}))
}

// clayWrongs are values with faults behind a target n with the out o, each with its codes, the smallest first.
func clayWrongs() map[string]any {
	wrongs := map[string]any{
		"1": impl.ClayValue{},
		"2": 7, "23": clayTarget("n", ls{"q"}, "other", 1), "24": clayTarget("m", ls{"o"}, "tool", ""), "25": clayTarget("m", ls{"q"}, "ins", ls{"k", "k"}, "arg", 1),
		"234": clayTarget("n", ls{"o"}, "arg", nil), "2345": clayTarget("n", ls{"o", "o"}, "ins", ls{"k", "k", ""}), "235": clayTarget("n", ls{}, "ins", ls{"k", "k"}), "245": clayTarget("", ls{"q", "q"}, "ins", ls{"k", "k"}),
		"3": clayTarget("n", ls{"q"}), "34": clayTarget("n", ls{"o"}), "34 in one": clayTarget("n", ls{"q", "q"}), "35": clayTarget("n", ls{"q"}, "ins", ls{"k", "k"}), "345": clayTarget("n", ls{"o"}, "ins", ls{"k", "k"}),
		"4": clayTarget("m", ls{"o"}), "45": clayTarget("m", ls{"o"}, "ins", ls{"k", "k"}), "45 in one": clayTarget("m", ls{"q", "q"}, "ins", ls{"k", "k"}),
		"5": clayTarget("m", ls{"q"}, "ins", ls{"k", "k"}),
	}
	// Not valid, with all that is wrong beside.
	spoilt := clayVal(clayTarget("n", ls{"o", "o"}, "ins", ls{"k", "k"}, "other", strings.Repeat("x", impl.ClayMaxText+1)))
	wrongs["12345"] = spoilt
	return wrongs
}

func TestClayTargetsWhichFaultCounts(t *testing.T) {
	wrongs := clayWrongs()
	for codes, wrong := range wrongs {
		code := int(codes[0] - '0')
		wantPlanCode(t, codes, code, 1, clayTarget("n", ls{"o"}), wrong)
		wantPlanCode(t, codes, code, 1, clayTarget("n", ls{"o"}), wrong, clayTarget("z", ls{"z"}))
		for others, other := range wrongs {
			wantPlanCode(t, codes+" ahead of "+others, code, 1, clayTarget("n", ls{"o"}), wrong, other)
			wantPlanCode(t, codes+" ahead of "+others, code, 2, clayTarget("n", ls{"o"}), clayTarget("z", ls{"z"}, "ins", ls{"o"}), wrong, other, clayTarget("z", ls{"z"}))
		}
	}
	for _, c := range []struct {
		codes string
		at    int
	}{{"1", 0}, {"2", 0}, {"5", 0}, {"45 in one", 0}, {"12345", 0}, {"2345", 0}, {"25", 0}} {
		wantPlanCode(t, c.codes+" at first", int(c.codes[0]-'0'), 0, wrongs[c.codes], clayTarget("n", ls{"o"}), wrongs["1"])
	}
	// What is wrong only beside an earlier one is right ahead of it.
	wantPlanCode(t, "the later of two names", 3, 1, clayTarget("n", ls{"q"}), clayTarget("n", ls{"o"}))
	wantPlanCode(t, "the later of two outs", 4, 1, clayTarget("m", ls{"o"}), clayTarget("n", ls{"o"}), clayTarget("n", ls{"r"}))
}

func TestClayTargetsOfSpoiltValues(t *testing.T) {
	for _, spoilt := range spoiltClayValues() {
		wantPlanCode(t, "alone", 1, 0, spoilt)
		wantPlanCode(t, "behind a target", 1, 1, clayTarget("n", ls{"o"}), spoilt)
		wantPlanCode(t, "twice", 1, 0, spoilt, spoilt)
		for codes, wrong := range clayWrongs() {
			code := int(codes[0] - '0')
			wantPlanCode(t, "behind "+codes, code, 1, clayTarget("n", ls{"o"}), wrong, spoilt)
			wantPlanCode(t, "ahead of "+codes, 1, 1, clayTarget("n", ls{"o"}), spoilt, wrong)
		}
	}
	// A target but for a part that no kind of value has so, at each atom.
	for at := range clayAtomsOf(clayTarget("n", ls{"o", "p"}, "ins", ls{"i"}, "arg", "x")) {
		for what, spoil := range map[string]func(a *impl.ClayAtom){
			"kind": func(a *impl.ClayAtom) { a.Kind = 0 },
			"n":    func(a *impl.ClayAtom) { a.N++ },
			"kids": func(a *impl.ClayAtom) { a.Kids++ },
			"text": func(a *impl.ClayAtom) { a.Text = strings.Repeat("x", impl.ClayMaxText+1) },
		} {
			v := clayVal(clayTarget("n", ls{"o", "p"}, "ins", ls{"i"}, "arg", "x"))
			spoil(&v.Atoms[at])
			if _, ok := clayMeant(v); !ok {
				wantPlanCode(t, what, 1, 0, v, v)
			}
		}
	}
}

func TestClayTargetsOrder(t *testing.T) {
	names := []string{"\x00", "\x00\x00", " ", "A", "Z", "a", "a\x00", "a ", "aa", "ab", "b", "é", "\xff", "\xff\xff"}
	slices.Sort(names)
	for first := range names {
		var told []any
		turned := slices.Concat(names[first:], names[:first])
		list := ls{}
		for _, name := range turned {
			list = append(list, name)
		}
		for _, name := range turned {
			told = append(told, clayTarget(name, ls{name + "2", name + "1"}, "ins", list))
		}
		got := wantPlan(t, clayTell(told...))
		for i, target := range got.Targets {
			if target.Name != names[i] || !slices.Equal(target.Ins, names) || !slices.Equal(target.Outs, []string{names[i] + "1", names[i] + "2"}) {
				t.Errorf("at %d stands %+v", i, target)
			}
		}
		whole := wantPlan(t, clayTell(clayTarget("n", list)))
		if whole.Code != 0 || !slices.Equal(whole.Targets[0].Outs, names) {
			t.Errorf("%+v", whole)
		}
	}
}

func TestClayTargetsMost(t *testing.T) {
	t.Parallel()
	texts := func(n, size int) ls {
		list := ls{}
		for i := range n {
			list = append(list, fmt.Sprintf("%0*d", size, n-i))
		}
		return list
	}
	long := strings.Repeat("x", impl.ClayMaxText)
	wantPlanCode(t, "long texts", 0, 0, clayTarget(long, ls{long}, "tool", long, "arg", long, "ins", ls{long}))
	wantPlanCode(t, "a longer text", 1, 0, clayTarget("n", ls{"o"}, "arg", long+"x"))
	wantPlanCode(t, "many outs", 0, 0, clayTarget("n", texts(impl.ClayMaxList, 3), "ins", texts(impl.ClayMaxList, 3)))
	wantPlanCode(t, "too many outs", 1, 0, clayTarget("n", texts(impl.ClayMaxList+1, 3)))
	wantPlanCode(t, "too many ins", 1, 0, clayTarget("n", ls{"o"}, "ins", texts(impl.ClayMaxList+1, 3)))
	// More than a run can tell.
	told := clayTell()
	for i := range 3000 {
		told = append(told, clayTell(clayTarget(fmt.Sprint("n", i*7%3000), ls{fmt.Sprint("o", i), fmt.Sprint("p", i)}, "ins", ls{fmt.Sprint("o", i+1)}))...)
	}
	got := impl.ClayTargets(told)
	wantPromisedPlan(t, got, 3000)
	for _, last := range []struct {
		code int
		v    any
	}{{1, impl.ClayValue{}}, {2, rc{}}, {3, clayTarget("n5", ls{"x"})}, {4, clayTarget("x", ls{"p2999"})}, {4, clayTarget("x", ls{"o0"})}, {5, clayTarget("x", ls{"x"}, "ins", ls{"x", "x"})}} {
		got := impl.ClayTargets(append(slices.Clone(told), clayTell(last.v)...))
		if got.Code != last.code || got.At != 3000 || len(got.Targets) != 0 {
			t.Errorf("%v behind 3000: %+v", last.v, got)
		}
	}
}

func TestClayTargetsOfRuns(t *testing.T) {
	lib := "def obj(f, flags = \"\") = {name: \"obj \" + f, tool: \"cc\", arg: flags, ins: [f], outs: [f + \".o\"]};"
	main := "load \"lib\": obj; let all = files(\"src/\"); emit {name: \"prog\", tool: \"ld\", ins: [f + \".o\" for f in all], outs: [\"prog\"]}; let more = [obj(f) for f in all];"
	outcome := impl.ClayRun(clayWorldOf("doc src/a src/b", "lib", lib, "main", main+" emit more[1]; emit more[0];"), "main")
	got := wantPlan(t, outcome.Told)
	want := []impl.ClayTarget{
		{Name: "obj src/a", Tool: "cc", Ins: []string{"src/a"}, Outs: []string{"src/a.o"}},
		{Name: "obj src/b", Tool: "cc", Ins: []string{"src/b"}, Outs: []string{"src/b.o"}},
		{Name: "prog", Tool: "ld", Ins: []string{"src/a.o", "src/b.o"}, Outs: []string{"prog"}},
	}
	if outcome.Code != 0 || got.Code != 0 || !isSameTargets(got.Targets, want) {
		t.Errorf("%+v: %+v", outcome, got)
	}
	for at, emits := range []string{"emit more[0]; emit more[0];", "emit more[0]; emit obj(\"x\"); emit {name: \"x\"};"} {
		outcome := impl.ClayRun(clayWorldOf("src/a", "lib", lib, "main", main+emits), "main")
		if got := wantPlan(t, outcome.Told); outcome.Code != 0 || got.Code != 3-at || got.At != 2+at {
			t.Errorf("%s: %+v: %+v", emits, outcome, got)
		}
	}
	// Where a record comes from is no part of what it says.
	told := clayTell(clayTarget("a", ls{"x"}), clayTarget("b", ls{"y"}))
	for _, from := range []string{"", "main", strings.Repeat("x", 5000), "\xff"} {
		for i := range told {
			told[i].From = from
		}
		if got := wantPlan(t, told); got.Code != 0 {
			t.Errorf("from %.20q: %+v", from, got)
		}
	}
}

func TestClayFormPlanTellsApart(t *testing.T) {
	texts := []string{"a", "b", "", "a\"", "\"", "\\", "\\22", "\n", "a\nb", "\"\n  > \"", "\"\n  < \"", "\": \"", "\" \"", ":", "a: b", "<", ">", "  < a", "  > a", "\x00", "\x1f", " ", "~", "\x7f", "\x80", "\xff", "é", "ff", "\\ff", "\\\\", "a b", "#"}
	base := []impl.ClayTarget{
		{Name: "n", Tool: "t", Arg: "x", Ins: []string{"i", "j"}, Outs: []string{"o", "p"}},
		{Name: "z", Tool: "u", Arg: "y", Ins: []string{"k"}, Outs: []string{"q"}},
	}
	plans := [][]impl.ClayTarget{nil, base[:1], base[1:], {base[1], base[0]}, {base[0], base[0]}, {base[0], base[0], base[1]}}
	change := func(do func(target *impl.ClayTarget)) {
		for at := range base {
			plan := slices.Clone(base)
			do(&plan[at])
			plans = append(plans, plan)
		}
	}
	change(func(*impl.ClayTarget) {})
	for _, text := range texts {
		change(func(target *impl.ClayTarget) { target.Name = text })
		change(func(target *impl.ClayTarget) { target.Tool = text })
		change(func(target *impl.ClayTarget) { target.Arg = text })
		change(func(target *impl.ClayTarget) { target.Ins = []string{text} })
		change(func(target *impl.ClayTarget) { target.Outs = []string{text} })
		change(func(target *impl.ClayTarget) { target.Ins = append(slices.Clone(target.Ins), text) })
		change(func(target *impl.ClayTarget) { target.Outs = append(slices.Clone(target.Outs), text) })
		change(func(target *impl.ClayTarget) { target.Outs = append([]string{text}, target.Outs...) })
	}
	change(func(target *impl.ClayTarget) { target.Ins = nil })
	change(func(target *impl.ClayTarget) { target.Outs = nil })
	change(func(target *impl.ClayTarget) { target.Ins, target.Outs = target.Outs, target.Ins })
	change(func(target *impl.ClayTarget) { target.Tool, target.Arg = target.Tool+" "+target.Arg, "" })
	change(func(target *impl.ClayTarget) { target.Tool, target.Arg = "", target.Tool+" "+target.Arg })
	change(func(target *impl.ClayTarget) { target.Name, target.Tool = target.Name+": "+target.Tool, target.Arg })
	wantAllApart(t, plans)
}

// wantAllApart says that two plans have the same form just if they are the same.
func wantAllApart(t *testing.T, plans [][]impl.ClayTarget) {
	t.Helper()
	seen := map[string][]impl.ClayTarget{}
	for _, plan := range plans {
		form := wantFormPlan(t, plan)
		if other, there := seen[form]; there && !isSameTargets(other, plan) {
			t.Errorf("%+v and %+v have one form", plan, other)
		}
		seen[form] = plan
	}
}

func TestClayFormPlanWhereTargetsEnd(t *testing.T) {
	// What follows one another in a form may stand in one target or in two.
	lists := [][]string{nil, {"a"}, {"a", "a"}, {"a", "b"}, {"b", "a"}}
	var targets []impl.ClayTarget
	for _, name := range []string{"a", ""} {
		for _, ins := range lists {
			for _, outs := range lists {
				targets = append(targets, impl.ClayTarget{Name: name, Tool: "a", Ins: ins, Outs: outs})
			}
		}
	}
	plans := [][]impl.ClayTarget{nil}
	for _, first := range targets {
		plans = append(plans, []impl.ClayTarget{first})
		for _, second := range targets {
			plans = append(plans, []impl.ClayTarget{first, second})
		}
	}
	wantAllApart(t, plans)
}

func TestClayFormPlanOfLooseTargets(t *testing.T) {
	for _, c := range []struct {
		targets []impl.ClayTarget
		form    string
	}{
		{[]impl.ClayTarget{{}}, "\"\": \"\" \"\"\n"},
		{[]impl.ClayTarget{{}, {}}, "\"\": \"\" \"\"\n\"\": \"\" \"\"\n"},
		{[]impl.ClayTarget{{Name: "b"}, {Name: "a"}, {Name: "b"}}, "\"b\": \"\" \"\"\n\"a\": \"\" \"\"\n\"b\": \"\" \"\"\n"},
		{[]impl.ClayTarget{{Arg: "x", Ins: []string{"b", "a", "b", ""}, Outs: []string{"", "z", "y"}}}, "\"\": \"\" \"x\"\n  < \"b\"\n  < \"a\"\n  < \"b\"\n  < \"\"\n  > \"\"\n  > \"z\"\n  > \"y\"\n"},
		{[]impl.ClayTarget{{Name: "a\"b", Tool: "c\\d", Arg: "\x00\x1f ~\x7f\x80\xff", Ins: []string{"<\n>"}, Outs: []string{": é"}}}, "\"a\\22b\": \"c\\5cd\" \"\\00\\1f ~\\7f\\80\\ff\"\n  < \"<\\0a>\"\n  > \": \\c3\\a9\"\n"},
	} {
		if got := wantFormPlan(t, c.targets); got != c.form {
			t.Errorf("%+v: %q, want %q", c.targets, got, c.form)
		}
	}
	long := strings.Repeat("x\n", 50000)
	many := slices.Repeat([]impl.ClayTarget{{Name: long[:9], Outs: slices.Repeat([]string{"o"}, 300)}}, 300)
	if got := impl.ClayFormPlan(many); strings.Count(got, "\n") != 300*301 {
		t.Errorf("%d bytes", len(got))
	}
	if got := impl.ClayFormPlan([]impl.ClayTarget{{Name: long}}); got != "\""+strings.ReplaceAll(long, "\n", "\\0a")+"\": \"\" \"\"\n" {
		t.Errorf("%d bytes", len(got))
	}
}

// told makes things that are told, most of them targets, some of them changed a little.
func (d *clayDice) told() []impl.ClayTold {
	var told []impl.ClayTold
	texts := func() ls {
		list := ls{}
		for range 1 + d.below(3) {
			list = append(list, fmt.Sprint(d.pick("o", "p", "q"), d.below(30)))
		}
		return list
	}
	for range d.below(7) {
		record := clayTarget(fmt.Sprint("n", d.below(20)), texts())
		if d.below(2) == 0 {
			record["ins"] = texts()
		}
		if d.below(2) == 0 {
			record["arg"] = d.text()
		}
		var v any = record
		if d.below(12) == 0 {
			v = d.near(v)
		}
		one := clayTell(v)[0]
		if d.below(40) == 0 {
			atom := &one.Value.Atoms[d.below(len(one.Value.Atoms))]
			switch d.below(3) {
			case 0:
				atom.Kind = d.below(8)
			case 1:
				atom.Kids += d.below(3) - 1
			default:
				atom.N++
			}
		}
		told = append(told, one)
	}
	return told
}

func TestClayTargetsAsByRules(t *testing.T) {
	t.Parallel()
	dice := clayDice(9)
	codes := [6]int{}
	var plans [][]impl.ClayTarget
	for range 5000 {
		told := dice.told()
		got := wantPlan(t, told)
		codes[got.Code]++
		plans = append(plans, got.Targets)
		// What is told in another order has the same targets, if there are any.
		if got.Code == 0 {
			slices.Reverse(told)
			if turned := wantPlan(t, told); !isSameTargets(turned.Targets, got.Targets) {
				t.Fatalf("turned: %+v, want %+v", turned, got)
			}
		}
	}
	for code, n := range codes {
		if n < 50 {
			t.Errorf("code %d came %d times", code, n)
		}
	}
	wantAllApart(t, plans)
}

// clayPlanTexts are the texts of a plan.
func clayPlanTexts(plan impl.ClayPlan) []string {
	var texts []string
	for _, target := range plan.Targets {
		texts = append(texts, target.Name, target.Tool, target.Arg)
		texts = append(texts, target.Ins...)
		texts = append(texts, target.Outs...)
	}
	return texts
}

// spoilClayPlan writes over all lists of a plan, with the room behind them.
func spoilClayPlan(plan impl.ClayPlan) {
	targets := plan.Targets[:cap(plan.Targets)]
	for i := range targets {
		for _, list := range [][]string{targets[i].Ins, targets[i].Outs} {
			list = list[:cap(list)]
			for j := range list {
				list[j] = "written over"
			}
		}
		targets[i] = impl.ClayTarget{Name: "written over"}
	}
}

func TestClayTargetsAnswerNewMemory(t *testing.T) {
	values := ls{
		clayTarget("name", ls{"some out", "other", "more"}, "ins", ls{"some in", "in", "another"}, "arg", "some arg"),
		clayTarget("another", ls{"name", "another"}, "ins", ls{"some out", "other", "more"}, "tool", "some arg", "arg", "some arg"),
		clayTarget("first", ls{"one"}, "ins", ls{}),
	}
	for _, wrong := range []any{nil, rc{}, impl.ClayValue{}, clayTarget("name", ls{"x"}), clayTarget("x", ls{"one"}), clayTarget("x", ls{"x"}, "ins", ls{"b", "a", "b"}), clayTarget("last", ls{"last", "before"})} {
		told, long := withRoom(clayTell(append(slices.Clone(values), wrong)...), impl.ClayTold{From: "room"})
		if wrong == nil {
			told = told[:len(values)]
		}
		var given []string
		kept := slices.Clone(long)
		var longs, keptAtoms [][]impl.ClayAtom
		for at := range told {
			atoms, room := withRoom(told[at].Value.Atoms, impl.ClayAtom{Kind: 99, Text: "room"})
			for i := range atoms {
				atoms[i].Text = string([]byte(atoms[i].Text))
				given = append(given, atoms[i].Text)
			}
			long[at].Value.Atoms = atoms
			kept[at].Value.Atoms = atoms
			longs = append(longs, room)
			keptAtoms = append(keptAtoms, slices.Clone(room))
		}
		got := wantPlan(t, told)
		texts := clayPlanTexts(got)
		for i, text := range texts {
			for _, other := range given {
				if sharesBytes(other, text) {
					t.Errorf("%q shares memory with an argument", text)
				}
			}
			for _, other := range texts[i+1:] {
				if sharesBytes(other, text) {
					t.Errorf("%q stands twice in the answer", text)
				}
			}
		}
		form := impl.ClayFormPlan(got.Targets)
		code, at := got.Code, got.At
		spoilClayPlan(got)
		again := wantPlan(t, told)
		if again.Code != code || again.At != at || impl.ClayFormPlan(again.Targets) != form {
			t.Errorf("done again: %+v", again)
		}
		if !reflect.DeepEqual(long, kept) || !reflect.DeepEqual(longs, keptAtoms) {
			t.Error("an argument was changed")
		}
	}
}

func TestClayFormPlanLeavesTargets(t *testing.T) {
	room := impl.ClayTarget{Name: "room"}
	ins, longIns := withRoom([]string{"z", "a", "a"}, "room")
	outs, longOuts := withRoom([]string{"y", "b"}, "room")
	targets, long := withRoom([]impl.ClayTarget{{Name: "n", Tool: "t", Arg: "x", Ins: ins, Outs: outs}, {Name: "a"}}, room)
	wantLong, wantIns, wantOuts := slices.Clone(long), slices.Clone(longIns), slices.Clone(longOuts)
	first := wantFormPlan(t, targets)
	if again := impl.ClayFormPlan(targets); again != first || !slices.Equal(longIns, wantIns) || !slices.Equal(longOuts, wantOuts) || !reflect.DeepEqual(long, wantLong) {
		t.Error("written again it is another, or the targets were changed")
	}
}

func FuzzClayTargets(f *testing.F) {
	f.Add("{name: \"a\", outs: [\"o\"], tool: \"t\"}", "{arg: \"x\", ins: [\"j\", \"i\"], name: \"b\", outs: [\"q\", \"p\"], tool: \"t\"}", byte(0))
	f.Add("{name: \"a\", outs: [\"o\"], tool: \"t\"}", "{ins: [\"i\", \"i\"], name: \"a\", outs: [\"o\"], tool: \"t\"}", byte(3))
	f.Fuzz(func(t *testing.T, first, second string, cut byte) {
		a, _ := impl.ClayReadValue(first)
		b, _ := impl.ClayReadValue(second)
		wantPlan(t, clayTell(a, b))
		wantPlan(t, clayTell(b, a, b))
		wantPlan(t, clayTell(a, impl.ClayValue{Atoms: b.Atoms[min(int(cut), len(b.Atoms)):]}))
		wantFormPlan(t, []impl.ClayTarget{{Name: first, Tool: second, Ins: []string{second, first}}, {Arg: first, Outs: []string{first}}})
	})
}
