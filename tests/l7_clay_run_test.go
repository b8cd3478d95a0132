package tests

import (
	"fmt"
	"maps"
	"math"
	"reflect"
	"slices"
	"strconv"
	"strings"
	"testing"

	"loop.example/kilnyard/impl"
)

// clayWorldOf is a world of names, told with gaps between them, and of packages, each a name and a text.
func clayWorldOf(names string, files ...string) impl.ClayWorld {
	packs := map[string]string{}
	for i := 0; i+1 < len(files); i += 2 {
		packs[files[i]] = files[i+1]
	}
	w := impl.ClayWorld{Names: slices.Sorted(strings.FieldsSeq(names))}
	for _, name := range slices.Sorted(maps.Keys(packs)) {
		w.Files = append(w.Files, impl.ClayFile{Name: name, Text: packs[name]})
	}
	return w
}

// clayDeed is a function by the second reading: a built name, or a NodeFn or NodeDef where certain names are known.
type clayDeed struct {
	built string
	pack  *clayWalked
	bush  clayBush
	known *clayKnown
}

// clayKnown is a name that is known inside, and those around it. What it is is a value, said in Go, or a *clayDeed.
type clayKnown struct {
	name   string
	is     any
	around *clayKnown
}

// clayWalked is a package by the second reading, with what its statements have made so far.
type clayWalked struct {
	name string
	made map[string]any
	// kinds are those of the statements that make each name.
	kinds map[string]int
	over  bool
}

// clayHalt is the end of a run by the second reading.
type clayHalt struct {
	code     int
	word, at string
}

// clayWalker runs packages as the document says it, by going through the tree and finding each name by its text.
type clayWalker struct {
	world impl.ClayWorld
	packs map[string]*clayWalked
	asked []string
	told  []impl.ClayTold
	trace []string
	steps int
}

// clayRunByRules is the Outcome by the second reading, and what the package has made.
func clayRunByRules(w impl.ClayWorld, name string) (outcome impl.ClayOutcome, made map[string]any) {
	c := &clayWalker{world: w, packs: map[string]*clayWalked{}}
	var halt clayHalt
	func() {
		defer func() {
			if thrown := recover(); thrown != nil {
				halt = thrown.(clayHalt)
			}
		}()
		made = c.pack(name).made
	}()
	slices.Sort(c.asked)
	outcome = impl.ClayOutcome{Code: halt.code, Word: halt.word, At: halt.at, Told: c.told, Asked: slices.Compact(c.asked), Steps: c.steps}
	outcome.Read = slices.Sorted(maps.Keys(c.packs))
	if halt.code != 0 {
		outcome.Trace, outcome.Told, made = c.trace, nil, nil
	}
	return outcome, made
}

func (c *clayWalker) pack(name string) *clayWalked {
	p := &clayWalked{name: name, made: map[string]any{}, kinds: map[string]int{}}
	c.packs[name] = p
	text, there := "", false
	for _, file := range c.world.Files {
		if file.Name == name {
			text, there = file.Text, true
		}
	}
	if !there {
		panic(clayHalt{code: 2, at: name})
	}
	tree, fault := impl.ClayParse(text)
	if fault.Code != 0 || impl.ClayCheck(tree).Code != 0 {
		panic(clayHalt{code: 3, at: name})
	}
	file, _, _ := clayBushOf(tree.Nodes)
	for _, statement := range file.kids {
		if statement.top.Kind == impl.ClayNodeLoad {
			for _, kid := range statement.kids {
				p.kinds[kid.top.Text] = impl.ClayNodeLoad
			}
		} else if statement.top.Text != "" {
			p.kinds[statement.top.Text] = statement.top.Kind
		}
	}
	for _, statement := range file.kids {
		c.statement(p, statement)
	}
	p.over = true
	return p
}

func (c *clayWalker) statement(p *clayWalked, b clayBush) {
	switch b.top.Kind {
	case impl.ClayNodeDef:
		p.made[b.top.Text] = &clayDeed{pack: p, bush: b}
	case impl.ClayNodeSet:
		p.made[b.top.Text] = c.e(p, b.kids[0], nil)
	case impl.ClayNodeEmit:
		record, ok := c.e(p, b.kids[0], nil).(rc)
		if !ok {
			panic(clayHalt{4, "type", p.name})
		}
		if len(c.told) == 60 {
			panic(clayHalt{4, "told", p.name})
		}
		c.told = append(c.told, impl.ClayTold{From: p.name, Value: clayVal(record)})
	case impl.ClayNodeLoad:
		from := c.packs[b.top.Text]
		if from == nil {
			from = c.pack(b.top.Text)
		}
		if !from.over {
			panic(clayHalt{4, "cycle", p.name})
		}
		for _, kid := range b.kids {
			name := kid.top.Text
			if kind := from.kinds[name]; strings.HasPrefix(name, "_") || kind != impl.ClayNodeDef && kind != impl.ClayNodeSet {
				panic(clayHalt{4, "name", p.name})
			}
			p.made[name] = from.made[name]
		}
	}
}

// answered is the value, if there is no word with it.
func (p *clayWalked) answered(v any, word string) any {
	if word != "" {
		panic(clayHalt{4, word, p.name})
	}
	return v
}

// needs is what an E means, which has to be a value; of the kind of like, if that is not nil.
func (c *clayWalker) needs(p *clayWalked, b clayBush, known *clayKnown, like any) any {
	is := c.e(p, b, known)
	if _, ok := is.(*clayDeed); ok || like != nil && reflect.TypeOf(is) != reflect.TypeOf(like) {
		panic(clayHalt{4, "type", p.name})
	}
	return is
}

func (c *clayWalker) e(p *clayWalked, b clayBush, known *clayKnown) any {
	if c.steps == 5000 {
		panic(clayHalt{4, "steps", p.name})
	}
	c.steps++
	switch b.top.Kind {
	case impl.ClayNodeNone:
		return nil
	case impl.ClayNodeBool:
		return b.top.N == 1
	case impl.ClayNodeInt:
		return b.top.N
	case impl.ClayNodeText:
		return b.top.Text
	case impl.ClayNodeName:
		return c.name(p, b.top.Text, known)
	case impl.ClayNodeCall:
		return c.call(p, b, known)
	case impl.ClayNodeIf:
		if c.needs(p, b.kids[0], known, true).(bool) {
			return c.e(p, b.kids[1], known)
		}
		return c.e(p, b.kids[2], known)
	case impl.ClayNodeLet:
		return c.e(p, b.kids[1], &clayKnown{b.top.Text, c.e(p, b.kids[0], known), known})
	case impl.ClayNodeFn:
		return &clayDeed{pack: p, bush: b, known: known}
	}
	return c.value(p, b, known)
}

// value is an E that is never a function.
func (c *clayWalker) value(p *clayWalked, b clayBush, known *clayKnown) any {
	switch b.top.Kind {
	case impl.ClayNodeUn:
		return p.answered(clayUnByRules(b.top.Op, c.needs(p, b.kids[0], known, nil)))
	case impl.ClayNodeBin:
		if b.top.Op == impl.ClayOpOr || b.top.Op == impl.ClayOpAnd {
			first := c.needs(p, b.kids[0], known, true)
			if first == (b.top.Op == impl.ClayOpOr) {
				return first
			}
			return c.needs(p, b.kids[1], known, true)
		}
		first := c.needs(p, b.kids[0], known, nil)
		return p.answered(clayOpByRules(b.top.Op, first, c.needs(p, b.kids[1], known, nil)))
	case impl.ClayNodeList:
		list := ls{}
		for _, kid := range b.kids {
			list = append(list, c.needs(p, kid, known, nil))
		}
		return p.answered(claySized(list))
	case impl.ClayNodeRecord:
		record := rc{}
		for _, kid := range b.kids {
			record[kid.top.Text] = c.needs(p, kid.kids[0], known, nil)
		}
		return p.answered(claySized(record))
	case impl.ClayNodeIndex:
		of := c.needs(p, b.kids[0], known, nil)
		return p.answered(clayIndexByRules(of, c.needs(p, b.kids[1], known, nil)))
	case impl.ClayNodeDot:
		return p.answered(clayIndexByRules(c.needs(p, b.kids[0], known, rc{}), b.top.Text))
	}
	list := ls{}
	for _, item := range c.needs(p, b.kids[0], known, ls{}).(ls) {
		inner := &clayKnown{b.top.Text, item, known}
		if len(b.kids) < 3 || c.needs(p, b.kids[2], inner, true).(bool) {
			list = append(list, c.needs(p, b.kids[1], inner, nil))
		}
	}
	return p.answered(claySized(list))
}

func clayIndexByRules(of, by any) (any, string) {
	name, isName := by.(string)
	if record, ok := of.(rc); ok && isName {
		if is, has := record[name]; has {
			return is, ""
		}
		return nil, "key"
	}
	at, isNumber := by.(int64)
	var items ls
	switch of := of.(type) {
	case string:
		for _, b := range []byte(of) {
			items = append(items, string([]byte{b}))
		}
	case ls:
		items = of
	default:
		return nil, "type"
	}
	if !isNumber {
		return nil, "type"
	}
	if at < 0 || at >= int64(len(items)) {
		return nil, "range"
	}
	return items[at], ""
}

func (c *clayWalker) name(p *clayWalked, name string, known *clayKnown) any {
	for ; known != nil; known = known.around {
		if known.name == name {
			return known.is
		}
	}
	if is, ok := p.made[name]; ok {
		return is
	}
	if p.kinds[name] != 0 {
		panic(clayHalt{4, "early", p.name})
	}
	return &clayDeed{built: name}
}

func (c *clayWalker) call(p *clayWalked, b clayBush, known *clayKnown) any {
	deed, ok := c.e(p, b.kids[0], known).(*clayDeed)
	if !ok {
		panic(clayHalt{4, "type", p.name})
	}
	args := ls{}
	named := rc{}
	for _, kid := range b.kids[1:] {
		if kid.top.Kind == impl.ClayNodeNamed {
			named[kid.top.Text] = c.e(p, kid.kids[0], known)
		} else {
			args = append(args, c.e(p, kid, known))
		}
	}
	if deed.built != "" {
		return c.built(p, deed.built, args, named)
	}
	if len(c.trace) == 30 {
		panic(clayHalt{4, "deep", p.name})
	}
	params := deed.bush.kids[:len(deed.bush.kids)-1]
	if len(args) > len(params) {
		panic(clayHalt{4, "args", p.name})
	}
	got := rc{}
	for i, arg := range args {
		got[params[i].top.Text] = arg
	}
	for name, arg := range named {
		_, twice := got[name]
		if twice || !slices.ContainsFunc(params, func(param clayBush) bool { return param.top.Text == name }) {
			panic(clayHalt{4, "args", p.name})
		}
		got[name] = arg
	}
	for _, param := range params {
		if _, has := got[param.top.Text]; !has && len(param.kids) == 0 {
			panic(clayHalt{4, "args", p.name})
		}
	}
	return c.enter(deed, params, got)
}

// enter does a call whose args fit.
func (c *clayWalker) enter(deed *clayDeed, params []clayBush, got rc) any {
	title := deed.bush.top.Text
	if deed.bush.top.Kind == impl.ClayNodeFn {
		title = "fn"
	}
	c.trace = append(c.trace, deed.pack.name+"."+title)
	known := deed.known
	for _, param := range params {
		is, has := got[param.top.Text]
		if !has {
			is = c.e(deed.pack, param.kids[0], known)
		}
		known = &clayKnown{param.top.Text, is, known}
	}
	answer := c.e(deed.pack, deed.bush.kids[len(params)], known)
	c.trace = c.trace[:len(c.trace)-1]
	return answer
}

func (c *clayWalker) built(p *clayWalked, name string, args ls, named rc) any {
	if len(named) > 0 {
		panic(clayHalt{4, "args", p.name})
	}
	for _, arg := range args {
		if _, ok := arg.(*clayDeed); ok {
			panic(clayHalt{4, "type", p.name})
		}
	}
	if name != "files" && name != "fail" {
		return p.answered(clayBuiltByRules(name, args))
	}
	if len(args) != 1 || reflect.TypeOf(args[0]) != reflect.TypeOf("") {
		panic(clayHalt{4, "type", p.name})
	}
	text := args[0].(string)
	if name == "fail" {
		panic(clayHalt{4, text, p.name})
	}
	c.asked = append(c.asked, text)
	list := ls{}
	for _, file := range c.world.Names {
		if len(file) >= len(text) && file[:len(text)] == text {
			list = append(list, file)
		}
	}
	return list
}

// isSameOutcome says whether two outcomes are the same in all parts, the empty list and nil being one.
func isSameOutcome(a, b impl.ClayOutcome) bool {
	return a.Code == b.Code && a.Word == b.Word && a.At == b.At && a.Steps == b.Steps &&
		slices.Equal(a.Trace, b.Trace) && slices.Equal(a.Read, b.Read) && slices.Equal(a.Asked, b.Asked) &&
		slices.EqualFunc(a.Told, b.Told, func(x, y impl.ClayTold) bool {
			return x.From == y.From && slices.Equal(x.Value.Atoms, y.Value.Atoms)
		})
}

// clayShown tells an outcome in a line, but for Read, Asked and Steps.
func clayShown(o impl.ClayOutcome) string {
	s := strconv.Itoa(o.Code)
	if o.Code == 4 {
		s += " " + o.Word
	}
	if o.Code != 0 {
		s += " at " + o.At
	}
	for _, function := range o.Trace {
		s += " < " + function
	}
	for _, told := range o.Told {
		s += " " + told.From + impl.ClayFormValue(told.Value)
	}
	return s
}

// wantRun holds a run against the second reading and against what promises 7, 8 and 11 say of it, and gives its outcome.
func wantRun(t *testing.T, w impl.ClayWorld, name string) impl.ClayOutcome {
	t.Helper()
	got := impl.ClayRun(w, name)
	want, made := clayRunByRules(w, name)
	if !isSameOutcome(got, want) {
		t.Fatalf("%.3000q\nrun %q: %.1000v\nwant %.1000v", w.Files, name, got, want)
	}
	if got.Steps > impl.ClayMaxSteps || got.Steps < 0 {
		t.Errorf("%.3000q: %d steps", w.Files, got.Steps)
	}
	for _, told := range got.Told {
		if !impl.ClayValidValue(told.Value) || told.Value.Atoms[len(told.Value.Atoms)-1].Kind != impl.ClayAtomRecord {
			t.Errorf("%.3000q: told %.300v", w.Files, told)
		}
	}
	if elsewhere := clayElsewhere(w, got); !isSameOutcome(impl.ClayRun(elsewhere, name), got) {
		t.Errorf("%.3000q: in another world, %.3000q, it comes to %.1000v, not to %.1000v", w.Files, elsewhere.Files, impl.ClayRun(elsewhere, name), got)
	}
	wantLooks(t, w, name, got, made)
	return got
}

// clayElsewhere is a valid world that is another in all that was neither read nor asked for.
func clayElsewhere(w impl.ClayWorld, o impl.ClayOutcome) impl.ClayWorld {
	var other impl.ClayWorld
	files := map[string]string{}
	for _, name := range []string{"-", "a0", "m.", "zz", "other/one"} {
		files[name] = "emit {other: true}; broken"
	}
	for _, file := range w.Files {
		if slices.Contains(o.Read, file.Name) {
			files[file.Name] = file.Text
		} else {
			delete(files, file.Name)
		}
	}
	for _, name := range o.Read {
		if !slices.ContainsFunc(w.Files, func(file impl.ClayFile) bool { return file.Name == name }) {
			delete(files, name)
		}
	}
	for _, name := range slices.Sorted(maps.Keys(files)) {
		if len(other.Files) < impl.ClayMaxFiles || slices.Contains(o.Read, name) {
			other.Files = append(other.Files, impl.ClayFile{Name: name, Text: files[name]})
		}
	}
	names := []string{"\x00", "A", "a", "zzz", "\xff"}
	isSeen := func(name string) bool {
		return slices.ContainsFunc(o.Asked, func(asked string) bool { return strings.HasPrefix(name, asked) })
	}
	names = slices.DeleteFunc(names, func(name string) bool { return isSeen(name) || slices.Contains(w.Names, name) })
	for _, name := range w.Names {
		if isSeen(name) {
			names = append(names, name)
		}
	}
	slices.Sort(names)
	other.Names = names
	return other
}

// wantLooks holds Look against what the package has made by the second reading, and against what an emit put behind tells.
func wantLooks(t *testing.T, w impl.ClayWorld, name string, o impl.ClayOutcome, made map[string]any) {
	t.Helper()
	at := slices.IndexFunc(w.Files, func(file impl.ClayFile) bool { return file.Name == name })
	names := []string{"", "a", "f", "len", "none", "no_such", name}
	for known := range made {
		names = append(names, known)
	}
	for _, known := range names {
		got, ok := impl.ClayLook(w, name, known)
		is, isMade := made[known]
		_, isDeed := is.(*clayDeed)
		isMade = isMade && !isDeed && !isClayLoaded(w.Files[at].Text, known)
		switch {
		case ok != isMade:
			t.Errorf("%.3000q: looking for %q in %q: %v", w.Files, known, name, ok)
		case !ok && len(got.Atoms) != 0:
			t.Errorf("%.3000q: looking for %q in %q: false with a value", w.Files, known, name)
		case ok && (!impl.ClayValidValue(got) || !slices.Equal(got.Atoms, clayAtomsOf(is))):
			t.Errorf("%.3000q: looking for %q in %q: %.300s", w.Files, known, name, impl.ClayFormValue(got))
		case ok:
			wantToldBehind(t, w, at, known, o, got)
		}
	}
}

// isClayLoaded says whether the name is one that the text loads.
func isClayLoaded(src, name string) bool {
	tree, _ := impl.ClayParse(src)
	file, _, _ := clayBushOf(tree.Nodes)
	for _, statement := range file.kids {
		if statement.top.Kind == impl.ClayNodeLoad && slices.ContainsFunc(statement.kids, func(kid clayBush) bool { return kid.top.Text == name }) {
			return true
		}
	}
	return false
}

// Promise 11.
func wantToldBehind(t *testing.T, w impl.ClayWorld, at int, known string, o impl.ClayOutcome, value impl.ClayValue) {
	t.Helper()
	more := impl.ClayWorld{Files: slices.Clone(w.Files), Names: w.Names}
	more.Files[at].Text += "\nemit {v: " + known + "};"
	if len(more.Files[at].Text) > impl.ClayMaxSrc || strings.Count(more.Files[at].Text, ";") > impl.ClayMaxList {
		return
	}
	told := impl.ClayRun(more, w.Files[at].Name)
	if told.Code == 4 && (told.Word == "steps" || told.Word == "told" || told.Word == "large") {
		return
	}
	want := append(slices.Clone(o.Told), impl.ClayTold{From: w.Files[at].Name, Value: impl.ClayValue{
		Atoms: slices.Concat([]impl.ClayAtom{{Kind: impl.ClayAtomText, Text: "v"}}, value.Atoms, []impl.ClayAtom{{Kind: impl.ClayAtomRecord, Kids: 2}}),
	}})
	if told.Code != 0 || !reflect.DeepEqual(told.Told, want) {
		t.Errorf("%.3000q: %q told behind: %.1000v", w.Files, known, told)
	}
}

// wantShown runs the package m of a world, and holds it against what is told of it in a line.
func wantShown(t *testing.T, w impl.ClayWorld, want string) impl.ClayOutcome {
	t.Helper()
	got := wantRun(t, w, "m")
	if shown := clayShown(got); shown != want {
		t.Errorf("%.3000q\n%.1000s, want\n%.1000s", w.Files, shown, want)
	}
	return got
}

// wantRuns holds packages, each run as m by itself, against what is told of them, in turn.
func wantRuns(t *testing.T, pairs ...string) {
	t.Helper()
	for i := 0; i+1 < len(pairs); i += 2 {
		wantShown(t, clayWorldOf("a.c ab b.c", "m", pairs[i]), pairs[i+1])
	}
}

// wantValues is wantRuns for what each E means: a form, or a word and what stands behind it.
func wantValues(t *testing.T, before string, pairs ...string) {
	t.Helper()
	for i := 0; i+1 < len(pairs); i += 2 {
		o := wantRun(t, clayWorldOf("a.c ab b.c", "m", before+"emit {v: "+pairs[i]+"};"), "m")
		want := "0 m{v: " + pairs[i+1] + "}"
		if word, isWord := strings.CutPrefix(pairs[i+1], "!"); isWord {
			first, rest, _ := strings.Cut(word, " ")
			want = strings.TrimSuffix("4 "+first+" at m "+rest, " ")
		}
		if shown := clayShown(o); shown != want {
			t.Errorf("%s %s\n%.1000s, want\n%.1000s", before, pairs[i], shown, want)
		}
	}
}

func TestClayRunConstants(t *testing.T) {
	got := []int{impl.ClayMaxFiles, impl.ClayMaxLooks, impl.ClayMaxSteps, impl.ClayMaxCalls, impl.ClayMaxTold}
	if !slices.Equal(got, []int{20, 60, 5000, 30, 60}) {
		t.Errorf("%v", got)
	}
}

// clayFilesOf are so many packages, ascending by name.
func clayFilesOf(n int) []impl.ClayFile {
	var files []impl.ClayFile
	for i := range n {
		files = append(files, impl.ClayFile{Name: fmt.Sprintf("m%02d", i)})
	}
	return files
}

func clayNamesMany(n int) []string {
	var names []string
	for i := range n {
		names = append(names, fmt.Sprintf("n%02d", i))
	}
	return names
}

func TestClayWorldsThatAreValid(t *testing.T) {
	lone := func(name string) []impl.ClayFile { return []impl.ClayFile{{Name: name}} }
	for i, w := range []impl.ClayWorld{
		{},
		{Files: []impl.ClayFile{}, Names: []string{}},
		{Files: lone("m")}, {Files: lone("-")}, {Files: lone("./_9az")}, {Files: lone(strings.Repeat("m", 30))},
		{Files: clayFilesOf(20)}, {Names: clayNamesMany(60)},
		{Files: []impl.ClayFile{{Name: "m", Text: strings.Repeat(" ", 8000)}}},
		{Files: []impl.ClayFile{{Name: "m", Text: "no tree \x00\xff"}}},
		{Files: []impl.ClayFile{{Name: "m"}, {Name: "m-"}, {Name: "ma"}, {Name: "n"}}},
		{Names: []string{strings.Repeat("n", 1000)}}, {Names: []string{"\x00", "\x00\x00", "\n", "A", "a b", "\xff"}},
		{Names: []string{"a", "aa", "ab", "b"}},
	} {
		if !impl.ClayValidWorld(w) {
			t.Errorf("case %d is not valid", i)
		}
		if o := impl.ClayRun(w, "gone"); !isSameOutcome(o, impl.ClayOutcome{Code: 2, At: "gone", Read: []string{"gone"}}) {
			t.Errorf("case %d: %+v", i, o)
		}
	}
	// Limits that are met are no hindrance in a run.
	w := impl.ClayWorld{Files: clayFilesOf(20), Names: clayNamesMany(60)}
	w.Files[0].Text = "let v = files(\"\"); emit {v: len(v), w: v[59]};"
	w.Files[0].Text += strings.Repeat(" ", 8000-len(w.Files[0].Text))
	if o := wantRun(t, w, "m00"); clayShown(o) != "0 m00{v: 60, w: \"n59\"}" {
		t.Errorf("%v", o)
	}
}

func TestClayWorldsThatAreNotValid(t *testing.T) {
	m := impl.ClayFile{Name: "m", Text: "let v = 1;"}
	for i, w := range []impl.ClayWorld{
		{Files: clayFilesOf(21)}, {Files: []impl.ClayFile{m, {Name: "n", Text: strings.Repeat(" ", 8001)}}},
		{Files: []impl.ClayFile{m, {Name: "a"}}}, {Files: []impl.ClayFile{m, m}}, {Files: []impl.ClayFile{m, {Name: "ma"}, {Name: "m."}}}, {Files: []impl.ClayFile{{Name: "a"}, {Name: "a"}, m}},
		{Files: []impl.ClayFile{{}, m}}, {Files: []impl.ClayFile{{Name: "M"}, m}}, {Files: []impl.ClayFile{{Name: "a b"}, m}}, {Files: []impl.ClayFile{m, {Name: "é"}}}, {Files: []impl.ClayFile{{Name: "\x00"}, m}}, {Files: []impl.ClayFile{{Name: "a\n"}, m}}, {Files: []impl.ClayFile{{Name: strings.Repeat("a", 31)}, m}},
		{Files: []impl.ClayFile{m}, Names: clayNamesMany(61)}, {Files: []impl.ClayFile{m}, Names: []string{""}}, {Files: []impl.ClayFile{m}, Names: []string{"", "a"}}, {Files: []impl.ClayFile{m}, Names: []string{"a", ""}},
		{Files: []impl.ClayFile{m}, Names: []string{strings.Repeat("n", 1001)}}, {Files: []impl.ClayFile{m}, Names: []string{"b", "a"}}, {Files: []impl.ClayFile{m}, Names: []string{"a", "a"}}, {Files: []impl.ClayFile{m}, Names: []string{"ab", "a"}}, {Files: []impl.ClayFile{m}, Names: []string{"a", "b", "b"}},
	} {
		if impl.ClayValidWorld(w) {
			t.Errorf("case %d is valid", i)
		}
		for _, name := range []string{"m", "m00", "gone", "", "M"} {
			if o := impl.ClayRun(w, name); !isSameOutcome(o, impl.ClayOutcome{Code: 1}) {
				t.Errorf("case %d: run %q: %+v", i, name, o)
			}
			if v, ok := impl.ClayLook(w, name, "v"); ok || len(v.Atoms) != 0 {
				t.Errorf("case %d: look %q: %v", i, name, v)
			}
		}
	}
	// A name that is no package's name.
	w := impl.ClayWorld{Files: []impl.ClayFile{m}}
	for _, name := range []string{"", "M", "m ", "a b", "é", "m\n", "\x00", "\"m\"", "m:", strings.Repeat("m", 31), strings.Repeat("m", 100000)} {
		if o := impl.ClayRun(w, name); !isSameOutcome(o, impl.ClayOutcome{Code: 1}) {
			t.Errorf("run %.50q: %+v", name, o)
		}
		if v, ok := impl.ClayLook(w, name, "v"); ok || len(v.Atoms) != 0 {
			t.Errorf("look %.50q: %v", name, v)
		}
	}
}

// clayFilling is a hole's content: what it is, and how it is written.
type clayFilling struct{ kind, text string }

var clayFillings = []clayFilling{
	{"none", "none"}, {"bool", "true"}, {"int", "0"}, {"text", "\"a\""}, {"list", "[7]"}, {"record", "{a: 7}"},
	{"function", "len"}, {"function", "(fn(x = 1) => x)"}, {"function", "g"}, {"function", "files"}, {"function", "fail"}, {"function", "(if true then g else 1)"}, {"function", "(let y = g in y)"}, {"function", "h()"},
}

// Each statement and each E with each kind of value, and with a function; where it does not fit it is `type`.
func TestClayRunOfEachKind(t *testing.T) {
	const values = "none bool int text list record"
	for hole, fits := range map[string]string{
		"emit @;":                                 "record",
		"let v = @;":                              values + " function",
		"let v = let y = @ in 1;":                 values + " function",
		"let v = let y = 1 in @;":                 values + " function",
		"let v = if true then @ else 1;":          values + " function",
		"let v = if false then 1 else @;":         values + " function",
		"let v = if @ then 1 else 2;":             "bool",
		"let v = g(@);":                           values + " function",
		"let v = g(x = @);":                       values + " function",
		"def k(x = @) = x; let v = k();":          values + " function",
		"def k() = @; let v = k();":               values + " function",
		"let v = (fn() => @)();":                  values + " function",
		"let v = not @;":                          "bool",
		"let v = -@;":                             "int",
		"let v = @ or false;":                     "bool",
		"let v = false or @;":                     "bool",
		"let v = @ and true;":                     "bool",
		"let v = true and @;":                     "bool",
		"let v = @ == 1;":                         values,
		"let v = 1 == @;":                         values,
		"let v = @ != none;":                      values,
		"let v = none != @;":                      values,
		"let v = @ < true;":                       "bool",
		"let v = 1 <= @;":                         "int",
		"let v = \"\" > @;":                       "text",
		"let v = @ >= [];":                        "list",
		"let v = @ has \"a\";":                    "text list record",
		"let v = [] has @;":                       values,
		"let v = \"\" has @;":                     "text",
		"let v = {} has @;":                       "text",
		"let v = @ + 1;":                          "int",
		"let v = \"\" + @;":                       "text",
		"let v = [] + @;":                         "list",
		"let v = @ + {};":                         "record",
		"let v = @ - 1;":                          "int",
		"let v = 1 * @;":                          "int",
		"let v = @ / 1;":                          "int",
		"let v = @ % 2;":                          "int",
		"let v = [@];":                            values,
		"let v = [1, @, 2];":                      values,
		"let v = {a: @};":                         values,
		"let v = {b: 1, a: @};":                   values,
		"let v = @[0];":                           "text list",
		"let v = @[\"a\"];":                       "record",
		"let v = [1][@];":                         "int",
		"let v = \"b\"[@];":                       "int",
		"let v = {a: 1}[@];":                      "text",
		"let v = @[none];":                        "",
		"let v = @[g];":                           "",
		"let v = 1[@];":                           "",
		"let v = @.a;":                            "record",
		"let v = [1 for x in @];":                 "list",
		"let v = [@ for x in [1]];":               values,
		"let v = [@ for x in []];":                values + " function",
		"let v = [1 for x in [1] if @];":          "bool",
		"let v = [1 for x in [] if @];":           values + " function",
		"let v = [@ for x in [1] if false];":      values + " function",
		"let v = len(@);":                         "text list record",
		"let v = text(@);":                        values,
		"let v = without({}, @);":                 "text",
		"let v = cut(\"\", @, 0);":                "int",
		"let v = files(@);":                       "text",
		"let v = fail(@);":                        "",
		"let v = fn(x = @) => @;":                 values + " function",
		"let v = true or @;":                      values + " function",
		"let v = false and @;":                    values + " function",
		"def k(x, y = @) = @; let v = k;":         values + " function",
		"let v = if true then 1 else @;":          values + " function",
		"def k(x, y = @) = 1; let v = k(1, 2);":   values + " function",
		"def k(x, y = @) = 1; let v = k(1, y=2);": values + " function",
	} {
		for _, filling := range clayFillings {
			src := "def g(x = 2) = x; def h() = g; " + strings.ReplaceAll(hole, "@", filling.text)
			word := "type"
			if hole == "let v = fail(@);" && filling.kind == "text" {
				word = "a"
			}
			o := wantRun(t, clayWorldOf("a.c", "m", src), "m")
			if slices.Contains(strings.Fields(fits), filling.kind) {
				if o.Code != 0 {
					t.Errorf("%s: %s", src, clayShown(o))
				}
			} else if o.Code != 4 || o.Word != word || o.At != "m" {
				t.Errorf("%s: %s, want %s", src, clayShown(o), word)
			}
		}
	}
	// What is called.
	for _, filling := range clayFillings[:6] {
		wantRuns(t, "let v = "+filling.text+"(1 / 0);", "4 type at m", "let y = "+filling.text+"; let v = y();", "4 type at m", "def k(y) = y(); let v = k("+filling.text+");", "4 type at m < m.k")
	}
}

// In which order things are looked at: what stands first counts.
func TestClayRunOrder(t *testing.T) {
	wantValues(t, "def g(x = 1) = x; def two(x, y) = 1; ",
		// A function where a value is needed ends the run at once.
		"[len, 1 / 0]", "!type", "[1 / 0, len]", "!divide", "{a: g, b: 1 / 0}", "!type", "{a: 1 / 0, b: g}", "!divide", "{b: 1 / 0, a: [][0]}", "!divide", "{b: [][0], a: 1 / 0}", "!range",
		"g + 1 / 0", "!type", "1 / 0 + g", "!divide", "g == {}.a", "!type", "g[1 / 0]", "!type", "(1 / 0)[g]", "!divide", "g or 1 / 0 == 0", "!type", "g and 1 / 0 == 0", "!type",
		"[g for x in [1, 1 / 0]]", "!divide", "[if x == 1 then g else 1 / 0 for x in [1, 2]]", "!type", "[if x == 1 then g else 1 / 0 for x in [2, 1]]", "!divide",
		// A value that does not fit does so when both are there.
		"none + 1 / 0", "!divide", "1 + [][0]", "!range", "none[1 / 0]", "!divide", "true < 1 / 0", "!divide", "1 / 0 + [][0]", "!divide", "[][0] + 1 / 0", "!range",
		// But for or and and, if and each, which ask at once.
		"1 or 1 / 0 == 0", "!type", "none and 1 / 0 == 0", "!type", "if 1 then 1 / 0 else [][0]", "!type", "if true then 1 / 0 else [][0]", "!divide", "if false then 1 / 0 else [][0]", "!range",
		"[1 / 0 for x in 1]", "!type", "[1 / 0 for x in [1] if 1]", "!type", "[1 / 0 for x in [1] if [][0]]", "!range",
		// What is called, then the args, in order, all of them.
		"1(1 / 0)", "!type", "none(x = 1 / 0)", "!type", "(1 / 0)([][0])", "!divide", "two([][0], 1 / 0)", "!range", "two(1 / 0, y = [][0])", "!divide", "two(y = [][0], x = 1 / 0)", "!range",
		"len(1 / 0, [][0])", "!divide", "len([][0], 1 / 0)", "!range",
		// Of a built name: named args ahead of functions, and these when all args have been looked at.
		"len(g, 1 / 0)", "!divide", "len(g, s = 1 / 0)", "!divide", "len(g, s = 1)", "!args", "len(s = g)", "!args", "len(1, s = 1)", "!args", "len(g)", "!type", "len(g, g)", "!type", "len(s = 1 / 0)", "!divide",
		"files(g, s = 1)", "!args", "files(s = \"a\")", "!args", "fail(s = \"a\")", "!args", "fail(\"a\", s = 1)", "!args", "fail(g, 1 / 0)", "!divide", "fail(\"a\", 1 / 0)", "!divide",
		// Of one that is not built: args when all args have been looked at, ahead of defaults and of its E.
		"two(1, 2, 1 / 0)", "!divide", "two(1, z = 1 / 0)", "!divide", "two(1, x = 1 / 0)", "!divide", "two(1 / 0)", "!divide", "two(g, len)", "1",
		// A list is too large when all of its items are there.
		"[range(200), range(200), range(200), range(200), range(200), 1 / 0]", "!divide", "[range(200), range(200), range(200), range(200), range(200)]", "!large",
		"[if x == 9 then 1 / 0 else range(200) for x in range(10)]", "!divide",
	)
	// Statements.
	wantRuns(t,
		"let a = 1 / 0; let b = [][0];", "4 divide at m", "let b = [][0]; let a = 1 / 0;", "4 range at m", "emit len; let a = 1 / 0;", "4 type at m", "emit {a: 1 / 0}; emit 1;", "4 divide at m",
		"def f(x = 1 / 0) = [][0]; emit {};", "0 m{}",
	)
}

func TestClayRunOrAndAnd(t *testing.T) {
	wantValues(t, "",
		"true or 1 / 0 == 0", "true", "true or len", "true", "true or 1", "true", "false and 1 / 0 == 0", "false", "false and len", "false", "false and none", "false",
		"false or false", "false", "false or true", "true", "true and true", "true", "true and false", "false", "false or 1 / 0 == 0", "!divide", "true and 1 / 0 == 0", "!divide", "false or 1", "!type", "true and none", "!type", "false or len", "!type", "true and len", "!type",
		"true or false and 1 / 0 == 0", "true", "not true or not false and true", "true", "1 or true", "!type", "0 and false", "!type", "none or true", "!type",
	)
	// What is not needed takes no step.
	for src, steps := range map[string]int{"let a = true or true;": 2, "let a = false or true;": 3, "let a = true and 1 == 1;": 5, "let a = false and 1 == 1;": 2} {
		if o := wantRun(t, clayWorldOf("", "m", src), "m"); o.Steps != steps {
			t.Errorf("%s: %d steps", src, o.Steps)
		}
	}
}

func TestClayRunIndexAndDot(t *testing.T) {
	wantValues(t, "let l = [5, 6, 7]; let s = \"a\\00\\ffz\"; let r = {b: 1, a: [2], \"\": 3, \"c d\": none}; let big = 9223372036854775807; ",
		"[l[0], l[1], l[2]]", "[5, 6, 7]", "l[3]", "!range", "l[-1]", "!range", "l[big]", "!range", "l[-big - 1]", "!range", "[][0]", "!range", "[9][0]", "9", "l[0][0]", "!type", "[l][0][2]", "7",
		"[s[0], s[1], s[2], s[3]]", `["a", "\00", "\ff", "z"]`, "s[4]", "!range", "s[-1]", "!range", "s[big]", "!range", "s[-big - 1]", "!range", "\"\"[0]", "!range",
		"[r[\"b\"], r[\"a\"], r[\"\"], r[\"c d\"]]", "[1, [2], 3, none]", "r[\"c\"]", "!key", "r[\"b \"]", "!key", "{}[\"\"]", "!key", "r[0]", "!type", "l[\"0\"]", "!type", "s[\"a\"]", "!type", "l[none]", "!type", "l[true]", "!type", "s[[0]]", "!type", "1[0]", "!type", "true[true]", "!type", "none[none]", "!type",
		"r.b", "1", "r.a[0]", "2", "r.c", "!key", "{}.a", "!key", "{a: {b: {c: 4}}}.a.b.c", "4", "l.a", "!type", "s.a", "!type", "none.a", "!type", "{_: 1, if_: 2}._", "1", "{if_: 2}.if_", "2", "{\"if\": 2}[\"if\"]", "2",
		"[r.b, r.zz, 1 / 0]", "!key",
	)
}

func TestClayRunEach(t *testing.T) {
	wantValues(t, "let x = 9; let l = [3, 1, 2]; ",
		"[x for x in []]", "[]", "[1 / 0 for x in []]", "[]", "[x for x in [] if 1 / 0 == 0]", "[]", "[y for y in l]", "[3, 1, 2]", "[y for y in l if y != 1]", "[3, 2]", "[y for y in l if false]", "[]", "[y for y in l if true]", "[3, 1, 2]",
		"[x for y in l]", "[9, 9, 9]", "[[x for x in [x, x + 1]], x]", "[[9, 10], 9]", "[x for x in l if x > 1]", "[3, 2]", "[none for x in l]", "[none, none, none]", "[1 / 0 for y in l if y > 3]", "[]", "[1 / y for y in [1, 0] if y != 0]", "[1]",
		"[[[y, z] for z in [1, y] if y == z] for y in l]", "[[[3, 3]], [[1, 1], [1, 1]], [[2, 2]]]", "[y for y in [none, false, \"a\", [], {}]]", "[none, false, \"a\", [], {}]", "[y.a for y in [{a: 1}, {a: {}}]]", "[1, {}]",
		"len([y for y in range(200)])", "200", "[len for len in l]", "[3, 1, 2]", "[y for y in l if len]", "!type",
	)
	for src, steps := range map[string]int{"let a = [x for x in []];": 2, "let a = [x for x in [1, 2] if false];": 6, "let a = [x for x in [1, 2] if x == 1];": 11, "let a = [1 + 1 for x in [0]];": 6} {
		if o := wantRun(t, clayWorldOf("", "m", src), "m"); o.Code != 0 || o.Steps != steps {
			t.Errorf("%s: %d steps", src, o.Steps)
		}
	}
}

// Each E begins with a step, and nothing else has one.
func TestClayRunSteps(t *testing.T) {
	for src, steps := range map[string]int{
		"": 0, "def f(x = 1) = 1;": 0, "let a = none;": 1, "let a = true;": 1, "let a = 1;": 1, "let a = \"\";": 1, "let a = len;": 1, "let a = fn(x = 1 / 0) => 1 / 0;": 1, "let a = not true;": 2, "let a = -1;": 2, "let a = 1 + 2 * 3;": 5,
		"let a = [];": 1, "let a = [1, [2]];": 4, "let a = {};": 1, "let a = {b: 1, \"c d\": [2]};": 4, "let a = [1][0];": 4, "let a = {b: 1}.b;": 3, "let a = if true then 1 else 2 + 3;": 3, "let a = if false then 1 else 2 + 3;": 5, "let a = let b = 1 in b + b;": 5,
		"let a = len(\"\");": 3, "let a = cut(\"\", 0, 0);": 5, "def f() = 1; let a = f();": 3, "def f(x) = x; let a = f(1);": 4, "def f(x) = x; let a = f(x = 1);": 4, "def f(x, y = 2) = 1; let a = f(1);": 5, "def f(x, y = 2 + 3) = 1; let a = f(1);": 7, "def f(x, y = 2 + 3) = 1; let a = f(1, 4);": 5, "def f(x = 1, y = x) = 1; let a = f(y = 1);": 5,
		"emit {};": 1, "let a = (((1)));": 1, "let a = (fn(x) => x)(1);": 4, "let a = files(\"\");": 3,
	} {
		if o := wantRun(t, clayWorldOf("n", "m", src), "m"); o.Code != 0 || o.Steps != steps {
			t.Errorf("%s: code %d, %d steps, want %d", src, o.Code, o.Steps, steps)
		}
	}
	// Those of all packages count together; a load has none.
	w := clayWorldOf("", "a", "let x = 1 + 1;", "b", "load \"a\": x; let y = x;", "m", "load \"b\": y; load \"a\": x; emit {v: [x, y]};")
	if o := wantShown(t, w, "0 m{v: [2, 2]}"); o.Steps != 3+1+4 {
		t.Errorf("%d steps", o.Steps)
	}
	// Those that were begun are told with an end.
	for src, steps := range map[string]int{"let a = 1 / 0; let b = 1;": 3, "let a = [1, len, 2];": 3, "let a = b; let b = 1;": 1, "emit 1; emit {};": 1, "load \"m\": x; let a = 1;": 0, "let a = 1; load \"gone\": x;": 1, "let a = 1; load \"no\": x;": 1, "let a = fail(\"w\");": 3} {
		if o := wantRun(t, clayWorldOf("", "m", src, "no", "1"), "m"); o.Code == 0 || o.Steps != steps {
			t.Errorf("%s: %s, %d steps, want %d", src, clayShown(o), o.Steps, steps)
		}
	}
}

// The place of a function is that in which it was made.
func TestClayRunPlaces(t *testing.T) {
	wantRuns(t,
		"let n = 1; emit {v: let n = 2 in let f = fn() => n in let n = 3 in f()};", "0 m{v: 2}",
		"let n = 1; let f = fn() => n; def g(n) = f(); emit {v: g(5)};", "0 m{v: 1}",
		"def add(n) = fn(x) => x + n; let one = add(1); let ten = add(10); emit {v: let n = 100 in [one(1), ten(1), one(2)]};", "0 m{v: [2, 11, 3]}",
		"emit {v: [let f = fn(y) => x + y in let x = 100 in f(1) for x in [1, 2]]};", "0 m{v: [2, 3]}",
		"def f(a, g = fn(y) => a + y) = let a = 50 in g(1); emit {v: [f(2), f(2, fn(y) => -y), f(2, len)]};", "4 type at m < m.f",
		"def f(a, g = fn(y) => a + y) = let a = 50 in g(1); emit {v: [f(2), f(2, fn(y) => -y)]};", "0 m{v: [3, -1]}",
		"def f(a = 1, g = fn(b = a) => [a, b], a2 = g()) = let a = 7 in [g(), g(2), a2]; emit {v: f(), w: f(5)};", "0 m{v: [[1, 1], [1, 2], [1, 1]], w: [[5, 5], [5, 2], [5, 5]]}",
		"def f(a) = fn(b) => fn(c) => [a, b, c]; let g = f(1); let h = g(2); emit {v: [h(3), g(4)(5), f(6)(7)(8), h(9)]};", "0 m{v: [[1, 2, 3], [1, 4, 5], [6, 7, 8], [1, 2, 9]]}",
		"def f(a) = let b = a + 1 in fn(c) => let d = c in [x + a + b + c + d for x in [a, b]]; emit {v: f(1)(10)};", "0 m{v: [24, 25]}",
		"let f = let k = 5 in fn(x) => x * k; let k = 100; emit {v: f(2)};", "0 m{v: 10}",
		"def twice(f, x) = f(f(x)); def f(x) = x + 1; emit {v: [twice(f, 1), twice(fn(x) => x * x, 3), twice(fn(f) => f, 4)]};", "0 m{v: [3, 81, 4]}",
		// Names side by side do not meet.
		"emit {v: [let a = 1 in a, let b = 2 in b, [c for c in [3]], (fn(d) => d)(4)]};", "0 m{v: [1, 2, [3], 4]}",
		"emit {v: (let a = 1 in a) + (let a = 2 in let b = 3 in a * b)};", "0 m{v: 7}",
		"def f(a, b = let c = a in c + 1, d = let c = b in c + 1) = let c = d in [a, b, c, d]; emit {v: f(1)};", "0 m{v: [1, 2, 3, 3]}",
		"def f(n) = if n == 0 then [] else let rest = f(n - 1) in rest + [n]; emit {v: f(4)};", "0 m{v: [1, 2, 3, 4]}",
		"let fib = fn(n) => if n < 2 then n else fib(n - 1) + fib(n - 2); emit {v: [fib(x) for x in range(10)]};", "0 m{v: [0, 1, 1, 2, 3, 5, 8, 13, 21, 34]}",
		"let a = 1; let f = fn(b, c = a + b) => let d = a + b + c in [let e = x in e + d for x in [a, b, c, d] if x > a]; emit {v: f(2)};", "0 m{v: [8, 9, 12]}",
		// A function that is kept from one call on is not touched by the next.
		"def f(a, b = a) = fn() => [a, b]; let x = f(1); let y = f(2, 3); emit {v: [x(), y(), x()]};", "0 m{v: [[1, 1], [2, 3], [1, 1]]}",
	)
	// Two functions that are made at one place, with as many names around as there may be, keep what is put behind it apart.
	for n := range 9 {
		params := strings.Join(strings.Split("abcdefgh", "")[:n], ", ")
		args := strings.Join(strings.Split("12345678", "")[:n], ", ")
		wantRuns(t,
			"def both(x, y) = [x(), y()]; def at("+params+") = both(let z = 1 in fn() => z, let z = 2 in fn() => z); emit {v: at("+args+")};", "0 m{v: [1, 2]}",
			"def both(x, y) = [x(), y()]; def at("+params+") = let make = fn(z) => fn() => z in both(make(1), make(2)); emit {v: at("+args+")};", "0 m{v: [1, 2]}",
			"def both(x, y) = [x(), y()]; def at("+params+") = both(make(1), make(2)); def make(z, k = fn() => z, l = 5) = fn() => k() + l; emit {v: at("+args+")};", "0 m{v: [6, 7]}",
		)
	}
	// In a world of two packages each name is that of its own text.
	w := clayWorldOf("", "lib", "let n = 1; def f(x = n) = [n, x]; let g = fn(h) => h(n);", "m", "load \"lib\": f, g; let n = 5; emit {v: [f(), f(n), g(fn(x) => x + n)]};")
	wantShown(t, w, "0 m{v: [[1, 1], [1, 5], 6]}")
}

func TestClayRunDefaultsAndArgs(t *testing.T) {
	wantValues(t, "let b = 7; def f(a = b, b = a) = [a, b]; def g(a, b, c = a + b, d = c * 2) = [a, b, c, d]; def none_at_all() = 0; def eight(a, b, c, d, e, f, g, h) = [a, b, c, d, e, f, g, h]; ",
		"f()", "[7, 7]", "f(1)", "[1, 1]", "f(b = 2)", "[7, 2]", "f(1, 2)", "[1, 2]", "f(b = 1, a = 2)", "[2, 1]", "f(1, b = 2)", "[1, 2]", "f(a = 1)", "[1, 1]",
		"g(1, 2)", "[1, 2, 3, 6]", "g(1, 2, 5)", "[1, 2, 5, 10]", "g(1, 2, d = 5)", "[1, 2, 3, 5]", "g(d = 4, c = 3, b = 2, a = 1)", "[1, 2, 3, 4]", "g(1, b = 2)", "[1, 2, 3, 6]", "g(b = 1, a = 2)", "[2, 1, 3, 6]",
		"none_at_all()", "0", "eight(1, 2, 3, 4, 5, 6, 7, 8)", "[1, 2, 3, 4, 5, 6, 7, 8]", "eight(1, 2, 3, 4, h = 5, g = 6, f = 7, e = 8)", "[1, 2, 3, 4, 8, 7, 6, 5]",
		// Too many.
		"f(1, 2, 3)", "!args", "none_at_all(1)", "!args", "none_at_all(len)", "!args", "g(1, 2, 3, 4, 5)", "!args", "f(1, 2, b = 3)", "!args", "eight(1, 2, 3, 4, 5, 6, 7)", "!args",
		// A name that is no parameter.
		"f(c = 1)", "!args", "none_at_all(a = 1)", "!args", "g(1, 2, f = 3)", "!args", "f(1, len = 2)", "!args",
		// One that has got something already.
		"f(1, a = 1)", "!args", "f(a = 1, b = 2)", "[1, 2]", "g(1, 2, a = 3)", "!args", "g(1, 2, 3, c = 3)", "!args", "f(none, a = none)", "!args", "g(1, a = 2, b = 3)", "!args", "f(len, a = 1)", "!args",
		// One that has got nothing.
		"g()", "!args", "g(1)", "!args", "g(b = 1)", "!args", "g(c = 1, d = 2)", "!args", "g(1, c = 2)", "!args",
		// In a NodeFn likewise.
		"(fn(x, y = x) => [x, y])(1)", "[1, 1]", "(fn(x, y = x) => [x, y])(y = 1)", "!args", "(fn() => 1)(1)", "!args", "(fn(x) => 1)()", "!args", "(fn(x) => 1)(y = 1)", "!args", "(fn(x) => 1)(1, x = 1)", "!args",
	)
	wantRuns(t,
		// args stands ahead of defaults and of the E, and belongs to the text with the call.
		"def f(a, b = 1 / 0) = [][0]; let x = f();", "4 args at m", "def f(a, b = 1 / 0) = [][0]; let x = f(1, 2, 3);", "4 args at m", "def f(a, b = 1 / 0) = [][0]; let x = f(1, c = 3);", "4 args at m", "def f(a, b = 1 / 0) = [][0]; let x = f(1, a = 3);", "4 args at m",
		"def f(a, b = 1 / 0) = [][0]; let x = f(1);", "4 divide at m < m.f", "def f(a, b = 1 / 0) = [][0]; let x = f(1, 2);", "4 range at m < m.f", "def f(a, b = 1 / 0, c = [][0]) = 1; let x = f(1);", "4 divide at m < m.f", "def f(a, b = 1 / 0, c = [][0]) = 1; let x = f(1, 1);", "4 range at m < m.f", "def f(a, b = 1 / 0, c = [][0]) = 1; let x = f(1, c = 1);", "4 divide at m < m.f",
		"def f(a) = g(); def g(a) = 1; let x = f(1);", "4 args at m < m.f",
		// A default is asked for at each call, and only where it is needed.
		"let n = 1; def f(a = n + later) = a; let x = f(5); let later = 2; emit {v: [x, f()]};", "0 m{v: [5, 3]}", "def f(a = later) = a; let x = f(); let later = 2;", "4 early at m < m.f", "def f(x = x) = x; let x = 3; emit {v: [f(), f(4)]};", "0 m{v: [3, 4]}", "let b = 1; def f(a, b = a, c = b) = [a, b, c]; emit {v: f(2), w: f(2, c = b)};", "0 m{v: [2, 2, 2], w: [2, 2, 1]}",
	)
	o := wantShown(t, clayWorldOf("", "lib", "def f(a, b = a / 0) = 1;", "m", "load \"lib\": f; let x = f(1, z = 1);"), "4 args at m")
	if o.Steps != 4 {
		t.Errorf("%d steps", o.Steps)
	}
	wantShown(t, clayWorldOf("", "lib", "def f(a, b = a / 0) = 1;", "m", "load \"lib\": f; let x = f(1);"), "4 divide at lib < lib.f")
}

func TestClayRunBuiltNames(t *testing.T) {
	wantValues(t, "let size = len; def get() = size; def pick(b) = if b then len else keys; def call(f, x) = f(x); let nest = fn(f = len) => f; ",
		"size([1])", "1", "get()([1, 2])", "2", "pick(true)({a: 1})", "1", "pick(false)({a: 1})", "[\"a\"]", "call(len, \"abc\")", "3", "call(size, [])", "0", "call(sorted, [2, 1])", "[1, 2]", "nest()(\"a\")", "1", "(let l = len in l)([])", "0", "call(fn(x) => size(x), [1])", "1",
		"call(files, \"a\")", "[\"a.c\", \"ab\"]", "call(fail, \"w\")", "!w < m.call", "(let f = fail in f(\"w\"))", "!w", "call(len, 1)", "!type < m.call", "size()", "!type", "size([], [])", "!type", "size(s = [])", "!args", "size", "!type", "[len]", "!type", "len == size", "!type", "call(len, len)", "!type < m.call",
		"join([text(x) for x in range(3)], \"-\")", "\"0-1-2\"", "cut(\"abc\", 1, 2)", "\"b\"", "without({a: 1, b: 2}, \"a\")", "{b: 2}", "record([[\"a\", 1]])", "{a: 1}", "record([[\"a\", 1], [\"a\", 1]])", "!key", "split(\"a,b\", \",\")", "[\"a\", \"b\"]", "int(\"01\")", "!range", "unique([1, 1])", "[1]", "begins(\"ab\", \"a\")", "true", "range(-1)", "!range", "text({a: [1]})", "\"{a: [1]}\"",
	)
	// The file, or what is inside, hides them.
	wantRuns(t,
		"def len(x) = 7; emit {v: len([])};", "0 m{v: 7}", "let a = len([1]); def len(x) = 7;", "4 early at m", "let len = 5; emit {v: len};", "0 m{v: 5}", "emit {v: let len = 5 in len, w: len([])};", "0 m{v: 5, w: 0}", "emit {v: [len for len in [1]], w: (fn(len) => len)(2)};", "0 m{v: [1], w: 2}", "let files = 1; emit {v: files};", "0 m{v: 1}", "def f(len, n = len) = n; emit {v: f(3)};", "0 m{v: 3}", "def f(n = len(\"ab\"), len = n) = len; emit {v: f()};", "0 m{v: 2}",
	)
	wantShown(t, clayWorldOf("", "lib", "let size = len; def len(x) = 1;", "m", "load \"lib\": size; emit {v: size([])};"), "4 early at lib")
	wantShown(t, clayWorldOf("", "lib", "let size = len;", "m", "load \"lib\": size; def len(x) = 1; emit {v: size([7, 7])};"), "0 m{v: 2}")
	wantShown(t, clayWorldOf("", "lib", "let size = len;", "m", "load \"lib\": size; emit {v: size(1)};"), "4 type at m")
}

func TestClayRunFiles(t *testing.T) {
	names := "a a.c a/b ab b.c"
	for src, want := range map[string]struct{ shown, asked string }{
		"emit {v: files(\"\")};":         {"0 m{v: [\"a\", \"a.c\", \"a/b\", \"ab\", \"b.c\"]}", "\"\""},
		"emit {v: files(\"a\")};":        {"0 m{v: [\"a\", \"a.c\", \"a/b\", \"ab\"]}", "\"a\""},
		"emit {v: files(\"a/\")};":       {"0 m{v: [\"a/b\"]}", "\"a/\""},
		"emit {v: files(\"a/b\")};":      {"0 m{v: [\"a/b\"]}", "\"a/b\""},
		"emit {v: files(\"a/bc\")};":     {"0 m{v: []}", "\"a/bc\""},
		"emit {v: files(\"\\ff\\00\")};": {"0 m{v: []}", "\"\\ff\\00\""},
		"emit {v: [files(\"b\"), files(\"c\"), files(\"b\"), files(\"ab\")]};": {"0 m{v: [[\"b.c\"], [], [\"b.c\"], [\"ab\"]]}", "\"ab\" \"b\" \"c\""},
		"emit {v: [len(files(x)) for x in [\"b\", \"\", \"b\", \"a\"]]};":      {"0 m{v: [1, 5, 1, 4]}", "\"\" \"a\" \"b\""},
		"emit {v: files(1)};":                                   {"4 type at m", ""},
		"emit {v: files(\"a\", \"b\")};":                        {"4 type at m", ""},
		"emit {v: files()};":                                    {"4 type at m", ""},
		"emit {v: files(s = \"a\")};":                           {"4 args at m", ""},
		"let a = files(\"b\"); let b = 1 / 0;":                  {"4 divide at m", "\"b\""},
		"let a = files(\"b\"); load \"gone\": x;":               {"2 at gone", "\"b\""},
		"let a = files(\"b\"); load \"no\": x;":                 {"3 at no", "\"b\""},
		"let a = true or files(\"b\");":                         {"0", ""},
		"def f(x = files(\"d\")) = files(\"e\"); let a = f(1);": {"0", "\"e\""},
		"def f(x = files(\"d\")) = files(\"e\"); let a = f();":  {"0", "\"d\" \"e\""},
	} {
		o := wantShown(t, clayWorldOf(names, "m", src, "no", "1"), want.shown)
		var asked []string
		for _, text := range o.Asked {
			asked = append(asked, clayQuoted(text))
		}
		if got := strings.Join(asked, " "); got != want.asked {
			t.Errorf("%s: asked %s, want %s", src, got, want.asked)
		}
	}
	// Of a world without names, and with names of all bytes and of full size.
	wantShown(t, clayWorldOf("", "m", "emit {v: files(\"\")};"), "0 m{v: []}")
	long := strings.Repeat("n", 1000)
	w := clayWorldOf("", "m", "let long = files(\"n\")[0]; emit {v: [len(x) for x in files(\"\")], w: files(long) == [long], x: files(cut(long, 0, 999)) == [long]};")
	w.Names = []string{"\x00", long, "\xff\xfe"}
	wantShown(t, w, "0 m{v: [1, 1000, 2], w: true, x: true}")
}

// The text of fail is the word, whatever it is.
func TestClayRunFail(t *testing.T) {
	for _, word := range []string{"", "w", "type", "steps", "early", "large", "two words", "\x00\xff\n", "\"", strings.Repeat("w", 1000)} {
		o := wantRun(t, clayWorldOf("", "m", "emit {a: 1}; let v = fail("+clayQuoted(word)+"); let w = 1 / 0;"), "m")
		if want := (impl.ClayOutcome{Code: 4, Word: word, At: "m", Read: []string{"m"}, Steps: 5}); !isSameOutcome(o, want) {
			t.Errorf("%.50q: %.300v", word, o)
		}
	}
	wantRuns(t,
		"def check(x) = if x > 2 then fail(\"too \" + text(x)) else x; def outer(x) = check(x + 1); emit {v: outer(1)}; emit {v: outer(2)};", "4 too 3 at m < m.outer < m.check",
		"let v = [fail(text(x)) for x in [5, 6]];", "4 5 at m", "let v = fail(fail(\"in\"));", "4 in at m", "let v = true or fail(\"w\"); emit {v: v};", "0 m{v: true}", "let v = fail(\"\" + \"\");", "4  at m",
	)
	wantShown(t, clayWorldOf("", "lib", "def stop(x) = fail(x);", "m", "load \"lib\": stop; let v = stop(\"\");"), "4  at lib < lib.stop")
}

func TestClayRunEarly(t *testing.T) {
	wantRuns(t,
		"let a = b; let b = 1;", "4 early at m", "let a = a;", "4 early at m", "let a = f(1); def f(x) = x;", "4 early at m", "let a = [1, f]; def f(x) = x;", "4 early at m", "let f = fn() => f; let a = f()()()();", "0", "let a = (fn() => a)();", "4 early at m < m.fn",
		"def g(x) = b + x; let a = g(1); let b = 2;", "4 early at m < m.g", "def g(x) = b + x; let b = 2; emit {v: g(1)};", "0 m{v: 3}", "emit {v: b}; let b = 2;", "4 early at m", "def f() = g(); def g() = 1; emit {v: f()};", "0 m{v: 1}", "def f() = g(); let a = f(); def g() = 1;", "4 early at m < m.f",
		"let a = true or b; let b = 1; emit {v: a};", "0 m{v: true}", "let a = if true then 1 else b; let b = 1;", "0", "let a = fn() => b; let b = 1; emit {v: a()};", "0 m{v: 1}", "let a = let b = 2 in b; let b = 1; emit {v: a};", "0 m{v: 2}",
		// Ahead of what stands behind it, and behind what stands before it.
		"let a = b + 1 / 0; let b = 1;", "4 early at m", "let a = 1 / 0 + b; let b = 1;", "4 divide at m", "let a = f(1 / 0); def f(x) = x;", "4 early at m", "let a = len(b, s = 1); let b = 1;", "4 early at m",
	)
	lib := "let x = 1; def f() = x;"
	for src, want := range map[string]string{
		"let a = x; load \"lib\": x;":                                     "4 early at m",
		"let a = f(); load \"lib\": f;":                                   "4 early at m",
		"def g() = x; let a = g(); load \"lib\": x;":                      "4 early at m < m.g",
		"def g() = x; load \"lib\": x; emit {v: g()};":                    "0 m{v: 1}",
		"load \"lib\": x; emit {v: x}; let a = f(); load \"lib\": f;":     "4 early at m",
		"let a = x; load \"gone\": x;":                                    "4 early at m",
		"load \"lib\": x; load \"lib\": f; emit {v: f() + x};":            "0 m{v: 2}",
		"let a = true or x; load \"lib\": x; emit {v: a};":                "0 m{v: true}",
		"let f2 = fn() => f(); load \"lib\": f; emit {v: f2(), w: f2()};": "0 m{v: 1, w: 1}",
	} {
		wantShown(t, clayWorldOf("", "lib", lib, "m", src), want)
	}
	// In a package that is loaded.
	wantShown(t, clayWorldOf("", "lib", "def f() = y; let x = f(); let y = 1;", "m", "load \"lib\": f;"), "4 early at lib < lib.f")
}

func TestClayRunLoads(t *testing.T) {
	lib := "load \"deep\": d; let v = 7; let _h = 1; def f(x) = [x, v]; def _g() = 1; let len = 3; emit {from: \"lib\"};"
	for src, want := range map[string]string{
		"load \"lib\": v, f; emit {a: f(v)};":                           "0 lib{from: \"lib\"} m{a: [7, 7]}",
		"load \"lib\": f; let v = 1; emit {a: f(v)};":                   "0 lib{from: \"lib\"} m{a: [1, 7]}",
		"load \"lib\": len; emit {a: len};":                             "0 lib{from: \"lib\"} m{a: 3}",
		"load \"lib\": text;":                                           "4 name at m",
		"load \"lib\": w;":                                              "4 name at m",
		"load \"lib\": v, w;":                                           "4 name at m",
		"load \"lib\": w, v;":                                           "4 name at m",
		"load \"lib\": _h;":                                             "4 name at m",
		"load \"lib\": _g;":                                             "4 name at m",
		"load \"lib\": _none;":                                          "4 name at m",
		"load \"lib\": _;":                                              "4 name at m",
		"load \"lib\": d;":                                              "4 name at m",
		"load \"deep\": d; emit {a: d};":                                "0 m{a: 0}",
		"load \"lib\": v; load \"lib\": v;":                             "3 at m",
		"load \"lib\": v; load \"gone\": v;":                            "3 at m",
		"load \"lib\": w; load \"gone\": x;":                            "4 name at m",
		"load \"gone\": x; load \"lib\": w;":                            "2 at gone",
		"load \"no\": x; load \"gone\": w;":                             "3 at no",
		"load \"misfit\": x;":                                           "3 at misfit",
		"load \"bad\": _x;":                                             "4 divide at bad",
		"load \"bad\": no_such;":                                        "4 divide at bad",
		"load \"lib\": v; let g = fn() => v; load \"bad\": x;":          "4 divide at bad",
		"load \"lib\": f; emit {a: let v = 2 in f(v)}; emit {a: f(0)};": "0 lib{from: \"lib\"} m{a: [2, 7]} m{a: [0, 7]}",
	} {
		wantShown(t, clayWorldOf("", "lib", lib, "deep", "let d = 0;", "no", "let = ;", "misfit", "let x = y;", "bad", "let x = 1 / 0;", "m", src), want)
	}
}

// Promise 10.
func TestClayRunCycles(t *testing.T) {
	wantShown(t, clayWorldOf("", "m", "load \"m\": x; let y = 1;"), "4 cycle at m")
	wantShown(t, clayWorldOf("", "m", "let x = 1; load \"m\": y;"), "4 cycle at m")
	wantShown(t, clayWorldOf("", "m", "let x = 1; load \"m\": _no;"), "4 cycle at m")
	two := clayWorldOf("", "a", "load \"m\": x; let y = 1;", "m", "load \"a\": y; let x = 1;")
	wantShown(t, two, "4 cycle at a")
	if o := wantRun(t, two, "a"); clayShown(o) != "4 cycle at m" || !slices.Equal(o.Read, []string{"a", "m"}) {
		t.Errorf("%v", o)
	}
	three := clayWorldOf("", "a", "load \"b\": x;", "b", "emit {v: 1}; load \"m\": x; let y = 1 / 0;", "m", "load \"a\": x;")
	for first, last := range map[string]string{"m": "b", "a": "m", "b": "a"} {
		if o := wantRun(t, three, first); clayShown(o) != "4 cycle at "+last || !slices.Equal(o.Read, []string{"a", "b", "m"}) {
			t.Errorf("%s: %v", first, o)
		}
	}
	// One that is over is no cycle, nor is one that is loaded in two ways.
	wantShown(t, clayWorldOf("", "a", "let x = 1;", "b", "load \"a\": x; let y = x;", "m", "load \"a\": x; load \"b\": y; emit {v: [x, y]};"), "0 m{v: [1, 1]}")
	// The first of them that is not there, or wrong, is told ahead of it.
	wantShown(t, clayWorldOf("", "a", "load \"gone\": z; load \"m\": x;", "m", "load \"a\": y;"), "2 at gone")
	wantShown(t, clayWorldOf("", "a", "let z = 1 / 0; load \"m\": x;", "m", "load \"a\": y;"), "4 divide at a")
}

func TestClayRunOnce(t *testing.T) {
	lib := "emit {once: 1}; let v = files(\"a\"); let w = 2; emit {twice: 2};"
	w := clayWorldOf("ab", "lib", lib, "one", "load \"lib\": v; emit {one: v}; let x = v;", "two", "load \"lib\": v, w; emit {two: w}; let y = v;", "m", "load \"two\": y; load \"one\": x; load \"lib\": v; emit {v: [v, x, y]}; load \"lib\": w;")
	o := wantShown(t, w, "0 lib{once: 1} lib{twice: 2} two{two: 2} one{one: [\"ab\"]} m{v: [[\"ab\"], [\"ab\"], [\"ab\"]]}")
	if o.Steps != 2+3+1+2+2+1+2+1+5 || !slices.Equal(o.Read, []string{"lib", "m", "one", "two"}) || !slices.Equal(o.Asked, []string{"a"}) {
		t.Errorf("%v", o)
	}
	// Twice by one.
	wantShown(t, clayWorldOf("", "lib", lib, "m", "load \"lib\": v; load \"lib\": w; emit {v: v + [w]};"), "0 lib{once: 1} lib{twice: 2} m{v: [2]}")
	// Packages are told in the order in which they were run.
	wantShown(t, clayWorldOf("", "a", "emit {n: 1}; load \"z\": x; emit {n: 3};", "z", "emit {n: 2}; let x = 1;", "m", "emit {n: 0}; load \"z\": x;"), "0 m{n: 0} z{n: 2}")
	wantShown(t, clayWorldOf("", "a", "emit {n: 1}; load \"z\": x; emit {n: 3}; let y = x;", "z", "emit {n: 2}; let x = 1;", "m", "emit {n: 0}; load \"a\": y; load \"z\": x; emit {n: 4};"), "0 m{n: 0} a{n: 1} z{n: 2} a{n: 3} m{n: 4}")
	// The name with which two packages know one function is its own.
	wantShown(t, clayWorldOf("", "lib", "def f(x) = 1 / x;", "a", "load \"lib\": f; let g = f;", "m", "load \"a\": g; let h = g; emit {v: h(1)}; emit {v: h(0)};"), "4 divide at lib < lib.f")
}

func TestClayRunTold(t *testing.T) {
	emits := func(n int) string { return strings.Repeat("emit {};", n) }
	for _, c := range []struct{ lib, src, want string }{
		{"", emits(60), "0" + strings.Repeat(" m{}", 60)},
		{"", emits(61), "4 told at m"},
		{"", emits(60) + "emit 1;", "4 type at m"},
		{"", emits(60) + "emit len;", "4 type at m"},
		{"", emits(60) + "emit {a: 1 / 0};", "4 divide at m"},
		{"", emits(61) + "emit 1;", "4 told at m"},
		{"", emits(60) + "let a = 1;", "0" + strings.Repeat(" m{}", 60)},
		{emits(20), "load \"lib\": x;" + emits(40), "0" + strings.Repeat(" lib{}", 20) + strings.Repeat(" m{}", 40)},
		{emits(20), "load \"lib\": x;" + emits(41), "4 told at m"},
		{emits(60), "load \"lib\": x; let a = 1;", "0" + strings.Repeat(" lib{}", 60)},
		{emits(60), "load \"lib\": x; emit {};", "4 told at m"},
		{emits(1), emits(60) + "load \"lib\": x;", "4 told at lib"},
		{emits(61), "load \"lib\": x;", "4 told at lib"},
	} {
		wantShown(t, clayWorldOf("", "lib", c.lib+"let x = 1;", "m", c.src), c.want)
	}
	// The same record twice is told twice, each by itself.
	wantRuns(t, "let r = {b: [1], a: {}}; emit r; emit r; emit r + {c: 2};", "0 m{a: {}, b: [1]} m{a: {}, b: [1]} m{a: {}, b: [1], c: 2}", "emit {};", "0 m{}", "emit none;", "4 type at m", "emit [{}];", "4 type at m")
}

func TestClayRunDeep(t *testing.T) {
	deep := func(title string, n int) string { return strings.Repeat(" < "+title, n) }
	down := "def d(n, k = 0) = if n == 0 then leaf(k) else d(n - 1, k); "
	wantRuns(t,
		"def d(n) = if n == 0 then 0 else d(n - 1) + 1; emit {v: d(29)};", "0 m{v: 29}",
		"def d(n) = if n == 0 then 0 else d(n - 1) + 1; emit {v: d(30)};", "4 deep at m"+deep("m.d", 30),
		"def f(n) = f(n); let v = f(1);", "4 deep at m"+deep("m.f", 30),
		"let f = fn() => f(); let v = f();", "4 deep at m"+deep("m.fn", 30),
		// Built names are no calls that are under way, and may be called at the end.
		down+"def leaf(k) = 0; let v = d(28);", "0", down+"def leaf(k) = 0; let v = d(29);", "4 deep at m"+deep("m.d", 30), down+"let leaf = text; emit {v: d(29, 5)};", "0 m{v: \"5\"}", down+"let leaf = fail; let v = d(29, \"w\");", "4 w at m"+deep("m.d", 30),
		// Ahead of args, and of type at what is no record; behind all args.
		down+"def leaf() = 0; let v = d(28);", "4 args at m"+deep("m.d", 29), down+"def leaf() = 0; let v = d(29);", "4 deep at m"+deep("m.d", 30), down+"def leaf(k, j = 1 / 0) = 0; let v = d(29);", "4 deep at m"+deep("m.d", 30),
		"def d(n) = if n == 0 then leaf(1 / 0) else d(n - 1); def leaf(k) = 0; let v = d(29);", "4 divide at m"+deep("m.d", 30), "def d(n) = if n == 0 then leaf(1, z = [][0]) else d(n - 1); def leaf(k) = 0; let v = d(29);", "4 range at m"+deep("m.d", 30), "def d(n) = if n == 0 then 1(1 / 0) else d(n - 1); let v = d(29);", "4 type at m"+deep("m.d", 30),
		// An arg's call is over when the call begins; a default's is not.
		"def id(x) = x; def d(n) = if n == 0 then 0 else id(id(id(d(n - 1)))); emit {v: d(28)};", "0 m{v: 0}", "def id(x) = x; def d(n) = if n == 0 then id(0) else d(n - 1); emit {v: d(28)};", "0 m{v: 0}", "def id(x) = x; def d(n) = if n == 0 then id(0) else d(n - 1); emit {v: d(29)};", "4 deep at m"+deep("m.d", 30),
		"def d(n, k = if n == 0 then 0 else d(n - 1)) = k; emit {v: d(29)};", "0 m{v: 0}", "def d(n, k = if n == 0 then 0 else d(n - 1)) = k; emit {v: d(30)};", "4 deep at m"+deep("m.d", 30),
		// Calls that are over do not count.
		"def one(x) = x; emit {v: len([one(one(x)) for x in range(100)])};", "0 m{v: 100}", "def one(x) = x; let a = [one(x) for x in range(31)]; def d(n) = if n == 0 then 0 else d(n - 1); emit {v: d(29)};", "0 m{v: 0}",
	)
	// Of two packages.
	w := clayWorldOf("", "lib", "def f(n, g) = g(n);", "m", "load \"lib\": f; def d(n) = f(n - 1, fn(k) => if k == 0 then 0 else d(k)); emit {v: d(10)}; emit {v: d(11)};")
	wantShown(t, w, "4 deep at m"+deep("m.d < lib.f < m.fn", 10))
	w = clayWorldOf("", "lib", "def f(n) = g(n); def g(n) = f(n);", "m", "load \"lib\": f; let v = f(1);")
	wantShown(t, w, "4 deep at lib"+deep("lib.f < lib.g", 15))
}

// clayBurn is statements that take so many steps.
func clayBurn(steps int) string {
	src := ""
	for i := 0; steps > 0; i++ {
		// An each has a step of its own, 3 for its range, and one for each item.
		if steps >= 204 {
			src += fmt.Sprintf("let burn%d = [x for x in range(200)];", i)
			steps -= 204
		} else {
			n := min(steps, 150)
			src += fmt.Sprintf("let burn%d = [%s];", i, strings.TrimSuffix(strings.Repeat("0,", n-1), ","))
			steps -= n
		}
	}
	return src
}

func TestClayRunMostSteps(t *testing.T) {
	t.Parallel()
	for _, n := range []int{0, 1, 150, 151, 203, 204, 205, 4999, 5000} {
		if o := wantShown(t, clayWorldOf("", "m", clayBurn(n)), "0"); o.Steps != n {
			t.Errorf("%d steps, want %d", o.Steps, n)
		}
	}
	for _, c := range []struct {
		burnt int
		src   string
		want  string
	}{
		{5000, "", "0"}, {5000, "def f(x) = 1;", "0"}, {5001, "", "4 steps at m"}, {6000, "", "4 steps at m"}, {5000, "let a = 1;", "4 steps at m"}, {4999, "let a = 1;", "0"}, {4999, "let a = [1];", "4 steps at m"},
		// Another word that would come behind it does not, one that comes before it does.
		{4997, "let a = 1 / 0;", "4 divide at m"}, {4998, "let a = 1 / 0;", "4 steps at m"}, {4999, "let a = b; let b = 1;", "4 early at m"}, {5000, "let a = b; let b = 1;", "4 steps at m"}, {4999, "emit 1;", "4 type at m"}, {5000, "emit 1;", "4 steps at m"}, {4998, "let a = len[1];", "4 type at m"}, {4999, "let a = len[1];", "4 steps at m"},
		{5000, "load \"m\": x;", "4 cycle at m"}, {5000, "load \"gone\": x;", "2 at gone"}, {5000, "load \"no\": x;", "3 at no"}, {5000, "load \"lib\": g;", "4 name at m"}, {5000, "load \"lib\": f;", "0"}, {5000, "load \"more\": v;", "4 steps at more"}, {4999, "load \"more\": v;", "0"}, {4999, "load \"more\": w;", "4 name at m"},
		{4997, "let a = fail(\"w\");", "4 w at m"}, {4998, "let a = fail(\"w\");", "4 steps at m"}, {4998, "let a = len();", "4 type at m"}, {4999, "let a = len();", "4 steps at m"}, {4997, "let a = len(s = 1);", "4 args at m"}, {4998, "let a = len(s = 1);", "4 steps at m"},
		{4999, "let a = 1(2);", "4 steps at m"}, {4998, "let a = 1(2);", "4 type at m"}, {4998, "let a = true or 1;", "0"}, {4998, "let a = false or 1;", "4 steps at m"}, {4998, "let a = if true then 1 else 2;", "4 steps at m"}, {4997, "let a = if true then 1 else 2;", "0"},
		// In the text of another package, and with a Trace.
		{4996, "load \"lib\": f; let a = f(2);", "4 steps at lib < lib.f"}, {4994, "load \"lib\": f; let a = f(2);", "0"}, {4995, "load \"lib\": f; let a = f(2);", "4 steps at lib < lib.f"}, {4997, "load \"lib\": f; let a = f(2);", "4 steps at lib < lib.f"}, {4998, "load \"lib\": f; let a = f(2);", "4 steps at m"}, {4997, "load \"lib\": f; let a = f();", "4 args at m"}, {4998, "load \"lib\": f; let a = f();", "4 args at m"}, {4999, "load \"lib\": f; let a = f();", "4 steps at m"},
		{4997, "def g(x = 1) = 2; let a = g();", "4 steps at m < m.g"}, {4996, "def g(x = 1) = 2; let a = g();", "0"}, {4998, "def g(x = 1) = 2; let a = g();", "4 steps at m < m.g"}, {4999, "def g(x = 1) = 2; let a = g();", "4 steps at m"},
	} {
		w := clayWorldOf("", "lib", "def f(x) = x + 1;", "more", "let v = 1;", "no", "1", "m", clayBurn(c.burnt)+c.src)
		if o := wantShown(t, w, c.want); o.Code == 4 && o.Word == "steps" && o.Steps != 5000 {
			t.Errorf("%d and %s: %d steps", c.burnt, c.src, o.Steps)
		}
	}
	// Without an end of its own.
	wantRuns(t, "def f(n) = [f(x) for x in range(2)]; let v = f(0);", "4 deep at m"+strings.Repeat(" < m.f", 30), "def f(n) = if n == 0 then 0 else f(n - 1) + f(n - 1); let v = f(20);", "4 steps at m"+strings.Repeat(" < m.f", 20))
}

func TestClayRunLarge(t *testing.T) {
	wantValues(t, "let k = range(99); let j = range(98); let t = join([\"0123456789\" for x in range(100)], \"\"); def nest(n, v) = if n == 0 then v else [nest(n - 1, v)]; def fold(n, v) = if n == 0 then v else {a: fold(n - 1, v)}; ",
		// Items and names.
		"len(range(100) + range(100))", "200", "range(100) + range(101)", "!large", "len(range(200))", "200", "range(201)", "!large", "len(record([[text(x), x] for x in range(200)]))", "200", "record([[text(x), x] for x in range(200)]) + {a: 1}", "!large", "len(record([[text(x), x] for x in range(200)]) + {\"0\": 1})", "200", "len(split(join([\"a\" for x in range(200)], \",\"), \",\"))", "200", "split(join([\"a\" for x in range(200)], \",\") + \",\", \",\")", "!large",
		// Bytes.
		"len(t)", "1000", "t + \"\" == t", "true", "t + \"a\"", "!large", "text(t + \"\") == t", "true", "join([t, \"\"], \"\") == t", "true", "join([t, \"\"], \",\")", "!large", "text([t])", "!large",
		// Atoms: 9 * 100 + 99 + 1, and one more.
		"len([k, k, k, k, k, k, k, k, k, j])", "10", "[k, k, k, k, k, k, k, k, k, k]", "!large", "len([if x == 9 then j else k for x in range(10)])", "10", "[k for x in range(10)]", "!large", "len([k for x in range(9)] + [j])", "10", "[k for x in range(9)] + [k]", "!large",
		// 9 * 101 + 1 + 89 + 1, and one more.
		"len({a: k, b: k, c: k, d: k, e: k, f: k, g: k, h: k, i: k, j: range(88)})", "10", "{a: k, b: k, c: k, d: k, e: k, f: k, g: k, h: k, i: k, j: range(89)}", "!large",
		// Depth: 12 atoms above the lowest one, and one more.
		"len(nest(12, 1))", "1", "nest(13, 1)", "!large < m.nest", "len(nest(12, []))", "1", "nest(13, [])", "!large < m.nest", "len(fold(12, 1))", "1", "fold(13, 1)", "!large < m.fold", "len([nest(11, 1)])", "1", "[nest(12, 1)]", "!large", "[x for x in [nest(11, 1)]] == [nest(11, 1)]", "true", "[[x] for x in [nest(11, 1)]]", "!large", "{a: nest(12, 1)}", "!large", "[fold(12, 1)]", "!large", "[{a: nest(10, 1)}] == [{a: nest(10, 1)}]", "true",
		"nest(11, 1)", "[[[[[[[[[[[1]]]]]]]]]]]", "nest(12, 1)", "!large",
		// What is too large is so only as a whole.
		"len([x for x in range(200) if len([k for y in range(9)]) == 0])", "0",
	)
	// Told records have the limits of values.
	wantRuns(t, "def nest(n) = if n == 0 then [] else [nest(n - 1)]; emit {v: nest(11)};", "0 m{v: [[[[[[[[[[[[]]]]]]]]]]]]}", "def nest(n) = if n == 0 then [] else [nest(n - 1)]; let v = nest(12); emit {v: v};", "4 large at m")
	if v, ok := impl.ClayLook(clayWorldOf("", "m", "def nest(n) = if n == 0 then [] else [nest(n - 1)]; let v = nest(12);"), "m", "v"); !ok || !impl.ClayValidValue(v) || len(v.Atoms) != 13 {
		t.Errorf("%v %v", v, ok)
	}
}

// What is told with each code.
func TestClayRunCodes(t *testing.T) {
	told := func(from string, v any) impl.ClayTold { return impl.ClayTold{From: from, Value: clayVal(v)} }
	w := clayWorldOf("ab b", "bad", "let x = 1 / 0;", "gap", "let y = files(\"b\"); emit {n: 1}; load \"gone\": z;", "lib", "emit {n: len(files(\"a\"))}; def f(x) = g(x); def g(x) = 1 / x;",
		"m", "emit {m: 0}; load \"lib\": f; emit {m: f(1)};", "no", "let x = ;", "misfit", "let x = y;", "end", "emit {m: 0}; load \"lib\": f; let v = [f(1), f(0)];", "wrong", "load \"no\": x;", "w2", "emit {}; load \"misfit\": x;", "tail", "load \"bad\": x;")
	for name, want := range map[string]impl.ClayOutcome{
		"m":      {Told: []impl.ClayTold{told("m", rc{"m": 0}), told("lib", rc{"n": 1}), told("m", rc{"m": 1})}, Read: []string{"lib", "m"}, Asked: []string{"a"}, Steps: 2 + 6 + 4 + 3 + 3},
		"M":      {Code: 1},
		"":       {Code: 1},
		"gone":   {Code: 2, At: "gone", Read: []string{"gone"}},
		"gap":    {Code: 2, At: "gone", Read: []string{"gap", "gone"}, Asked: []string{"b"}, Steps: 5},
		"no":     {Code: 3, At: "no", Read: []string{"no"}},
		"misfit": {Code: 3, At: "misfit", Read: []string{"misfit"}},
		"wrong":  {Code: 3, At: "no", Read: []string{"no", "wrong"}},
		"w2":     {Code: 3, At: "misfit", Read: []string{"misfit", "w2"}, Steps: 1},
		"bad":    {Code: 4, Word: "divide", At: "bad", Read: []string{"bad"}, Steps: 3},
		"tail":   {Code: 4, Word: "divide", At: "bad", Read: []string{"bad", "tail"}, Steps: 3},
		"end":    {Code: 4, Word: "divide", At: "lib", Trace: []string{"lib.f", "lib.g"}, Read: []string{"end", "lib"}, Asked: []string{"a"}, Steps: 2 + 6 + 1 + 3 + 3 + 3 + 3 + 3 + 3},
	} {
		got := impl.ClayRun(w, name)
		if !isSameOutcome(got, want) {
			t.Errorf("%q: %+v\nwant %+v", name, got, want)
		}
		if want.Code != 1 {
			wantRun(t, w, name)
		}
	}
}

// At is where what ended stands; Trace has the functions whose calls were under way.
func TestClayRunAtAndTrace(t *testing.T) {
	lib := "def f(x) = 1 / x; def call(g, x = 0) = g(x); def dflt(x = 1 / 0) = x; def mk() = fn(x) => 1 / x; let fun = fn(x) => f(x); def chain(g) = call(fn(y) => g(y)); def named(x) = f(z = x); def rec() = {}.a; let _h = 1;"
	for src, want := range map[string]string{
		"let v = f(0);":                                    "4 divide at lib < lib.f",
		"let v = call(f);":                                 "4 divide at lib < lib.call < lib.f",
		"let v = call(fn(x) => 1 / x);":                    "4 divide at m < lib.call < m.fn",
		"def own(x) = f(x); let v = own(0);":               "4 divide at lib < m.own < lib.f",
		"def own(x) = 1 / x; let v = call(own);":           "4 divide at m < lib.call < m.own",
		"let v = dflt();":                                  "4 divide at lib < lib.dflt",
		"let v = dflt(1 / 0);":                             "4 divide at m",
		"let v = mk()(0);":                                 "4 divide at lib < lib.fn",
		"let v = mk(1);":                                   "4 args at m",
		"let v = fun(0);":                                  "4 divide at lib < lib.fn < lib.f",
		"let v = chain(fn(y) => 1 / y);":                   "4 divide at m < lib.chain < lib.call < lib.fn < m.fn",
		"let v = named(1);":                                "4 args at lib < lib.named",
		"let v = rec();":                                   "4 key at lib < lib.rec",
		"let v = call(1);":                                 "4 type at lib < lib.call",
		"let v = call(len);":                               "4 type at lib < lib.call",
		"let v = call(fail, \"w\");":                       "4 w at lib < lib.call",
		"let v = call(len, \"w\") + none;":                 "4 type at m",
		"let v = [call(f, 1), 1 / 0];":                     "4 divide at m",
		"def own(x = call(f)) = x; let v = own();":         "4 divide at lib < m.own < lib.call < lib.f",
		"def own(g = fn() => 1 / 0) = g(); let v = own();": "4 divide at m < m.own < m.fn",
		"def own(x = f(1), y = f(0)) = y; let v = [own(1, 2), own(3)];":     "4 divide at lib < m.own < lib.f",
		"def own(x) = [f(1) + f(y) for y in x]; let v = own([1, 2, 0, 4]);": "4 divide at lib < m.own < lib.f",
		"let alias = f; let v = alias(0);":                                  "4 divide at lib < lib.f",
		"emit call(fn(x) => x);":                                            "4 type at m",
		"def later() = fun(1); emit {v: later()}; emit {v: fun(0)};":        "4 divide at lib < lib.fn < lib.f",
	} {
		wantShown(t, clayWorldOf("", "lib", lib, "m", "load \"lib\": f, call, dflt, mk, fun, chain, named, rec; "+src), want)
	}
	// While a package is loaded no call is under way.
	wantShown(t, clayWorldOf("", "lib", "let v = 1 / 0;", "m", "def f() = 1; let a = f(); load \"lib\": v;"), "4 divide at lib")
}

func TestClayRunRead(t *testing.T) {
	w := clayWorldOf("", "a", "load \"c\": x; let y = 1;", "b", "let x = 1;", "c", "load \"b\": x; let y = x;", "c2", "load \"b\": x; let x2 = x;", "d", "load \"z\": y; load \"b\": x;", "e", "load \"b\": x; load \"c2\": x2; load \"no\": y; load \"z\": q;", "no", "((", "unused", "1 / 0")
	for name, want := range map[string]string{"a": "a b c", "b": "b", "c": "b c", "d": "d z", "e": "b c2 e no", "z": "z", "no": "no", "unused": "unused"} {
		if o := wantRun(t, w, name); strings.Join(o.Read, " ") != want {
			t.Errorf("%s: read %v", name, o.Read)
		}
	}
}

// Promise 7, by hand.
func TestClayRunElsewhere(t *testing.T) {
	m := "load \"lib\": f; let n = files(\"a\") + files(\"zz\"); emit {v: f(len(n)), n: n};"
	lib := "def f(x) = if x > 100 then files(\"b\") else x;"
	want := clayShown(impl.ClayRun(clayWorldOf("a1 a2 b", "lib", lib, "m", m), "m"))
	for i, w := range []impl.ClayWorld{
		clayWorldOf("a1 a2", "lib", lib, "m", m),
		clayWorldOf("a1 a2 b b2 zy \x00", "lib", lib, "m", m),
		clayWorldOf("a1 a2 b", "lib", lib, "m", m, "other", "broken", "l", "", "lib.x", "emit {};"),
	} {
		got, first := impl.ClayRun(w, "m"), impl.ClayRun(clayWorldOf("a1 a2 b", "lib", lib, "m", m), "m")
		if !isSameOutcome(got, first) || clayShown(got) != want || got.Code != 0 || !slices.Equal(got.Asked, []string{"a", "zz"}) || !slices.Equal(got.Read, []string{"lib", "m"}) {
			t.Errorf("world %d: %+v", i, got)
		}
	}
	for i, w := range []impl.ClayWorld{
		clayWorldOf("a1 b", "lib", lib, "m", m), clayWorldOf("a a1 a2 b", "lib", lib, "m", m), clayWorldOf("a1 a2 zzz", "lib", lib, "m", m), clayWorldOf("a1 a2", "lib", "def f(x) = 5;", "m", m), clayWorldOf("a1 a2", "m", m), clayWorldOf("a1 a2", "lib", lib, "m", m+"emit {};"),
	} {
		if got := impl.ClayRun(w, "m"); clayShown(got) == want {
			t.Errorf("world %d is another, but its run is the same: %+v", i, got)
		}
	}
	// A package that was looked for and is in neither world.
	gone := "emit {v: files(\"a\")}; load \"gone\": x;"
	first := impl.ClayRun(clayWorldOf("a1", "m", gone), "m")
	second := impl.ClayRun(clayWorldOf("a1 b1", "m", gone, "lib", lib, "gone.", "let x = 1;"), "m")
	if !isSameOutcome(first, second) || first.Code != 2 || first.At != "gone" || !slices.Equal(first.Read, []string{"gone", "m"}) {
		t.Errorf("%+v\n%+v", first, second)
	}
	if third := impl.ClayRun(clayWorldOf("a1", "m", gone, "gone", "let x = 1;"), "m"); third.Code != 0 {
		t.Errorf("%+v", third)
	}
}

func TestClayLook(t *testing.T) {
	lib := "let v = 1; def f() = 1;"
	src := "load \"lib\": v, f; let a = [v, {b: \"c\"}]; let _h = v; let fun = fn(x) => x; def g() = 1; let l = len; let e = none; let z = f; let copy = a; let x = let inner = 2 in inner; emit {told: 3};"
	w := clayWorldOf("", "lib", lib, "m", src, "bad", "let a = 1; let b = 1 / 0;", "no", "let a = ;", "gap", "let a = 1; load \"gone\": x;", "cyc", "let a = 1; load \"cyc\": a2;")
	for name, want := range map[string]string{"a": "[1, {b: \"c\"}]", "_h": "1", "e": "none", "copy": "[1, {b: \"c\"}]", "x": "2"} {
		if v, ok := impl.ClayLook(w, "m", name); !ok || !impl.ClayValidValue(v) || impl.ClayFormValue(v) != want {
			t.Errorf("%s: %s %v", name, impl.ClayFormValue(v), ok)
		}
	}
	for _, name := range []string{"v", "f", "fun", "g", "l", "z", "len", "files", "inner", "told", "b", "no_such", "", "A", "a ", "let", "m", "lib", "\x00", strings.Repeat("a", 1000)} {
		if v, ok := impl.ClayLook(w, "m", name); ok || len(v.Atoms) != 0 {
			t.Errorf("%q: %s", name, impl.ClayFormValue(v))
		}
	}
	for _, name := range []string{"bad", "no", "gap", "cyc", "gone", "", "M", "m "} {
		if v, ok := impl.ClayLook(w, name, "a"); ok || len(v.Atoms) != 0 {
			t.Errorf("%q: %s", name, impl.ClayFormValue(v))
		}
	}
	if v, ok := impl.ClayLook(w, "lib", "v"); !ok || impl.ClayFormValue(v) != "1" {
		t.Errorf("%s %v", impl.ClayFormValue(v), ok)
	}
	// Promise 11, of values of each kind.
	for i, v := range clayAscending() {
		w := clayWorldOf("", "m", "let v = "+clayWritten(v)+"; let w = v; emit {w: 0};")
		wantRun(t, w, "m")
		if got, ok := impl.ClayLook(w, "m", "v"); !ok || !slices.Equal(got.Atoms, clayAtomsOf(v)) {
			t.Errorf("value %d: %v %v", i, got, ok)
		}
	}
}

// Promise 5: an E with the form of a value means it.
func TestClayFormsMeanTheirValues(t *testing.T) {
	values := slices.Concat(clayAscending(), []any{int64(math.MinInt64), ls{int64(math.MinInt64), -1, rc{"a": int64(math.MinInt64)}}, clayNestOf(11, func(int) bool { return false }, 1), clayNestOf(11, func(i int) bool { return i%2 == 0 }, ls{}), strings.Repeat("x", 1000), strings.Repeat("\xff", 1000), clayNamesOf(200, nil), slices.Repeat(ls{ls{}}, 200)})
	dice := clayDice(71)
	for range 500 {
		values = append(values, dice.value(3))
	}
	tested := 0
	for _, v := range values {
		src := "emit {v: " + impl.ClayFormValue(clayVal(v)) + "};"
		if len(src) > impl.ClayMaxSrc || isClayLarge(rc{"v": v}) {
			continue
		}
		o := impl.ClayRun(clayWorldOf("", "m", src), "m")
		if o.Code != 0 || len(o.Told) != 1 || !slices.Equal(o.Told[0].Value.Atoms, clayAtomsOf(rc{"v": v})) {
			t.Errorf("%.500s: %.500v", src, o)
		}
		tested++
	}
	if tested < 500 {
		t.Errorf("only %d forms", tested)
	}
}

// wantRenamedRuns holds promise 4: each local of the packages that were read gets another name, and the outcome stays.
func wantRenamedRuns(t *testing.T, w impl.ClayWorld, name string, o impl.ClayOutcome) int {
	t.Helper()
	renames := 0
	for i, file := range w.Files {
		tree, fault := impl.ClayParse(file.Text)
		if fault.Code != 0 || !slices.Contains(o.Read, file.Name) {
			continue
		}
		for _, at := range impl.ClayLocals(tree) {
			renamed, code := impl.ClayRename(tree, at, "quite_another")
			text := impl.ClayPrint(renamed)
			if text == "" {
				continue
			}
			other := impl.ClayWorld{Files: slices.Clone(w.Files), Names: w.Names}
			other.Files[i].Text = text
			if got := impl.ClayRun(other, name); code != 0 || !isSameOutcome(got, o) {
				t.Errorf("%.3000q, renamed in %s at %d: %.1000v, want %.1000v", w.Files, file.Name, at, got, o)
			}
			renames++
		}
	}
	return renames
}

func TestClayRunRenamed(t *testing.T) {
	for _, src := range []string{
		"let a = 1; emit {v: let a = a + 1 in [a + b for b in [a, 2] if a != b]};",
		"def f(n) = let m = n - 1 in if n == 0 then fail(\"end\") else f(m); let v = f(5);",
		"def f(g, x = let y = 2 in y) = let g2 = g in g2(x); emit {v: [f(fn(z) => let q = z in q + c) for c in [1, 2]]}; emit {w: [1 / d for d in [0]]};",
		"let later = fn() => let x = early in x; let v = later(); let early = 1;",
	} {
		w := clayWorldOf("", "m", src)
		if wantRenamedRuns(t, w, "m", wantRun(t, w, "m")) == 0 {
			t.Errorf("%s: no renames", src)
		}
	}
}

// clayAuthor writes packages whose runs go far: an E is mostly of the kind that is asked for where it stands.
type clayAuthor struct {
	*clayDice
	// names are those that are known, each with its kind, the innermost last.
	names []clayFilling
}

// known is a name of a kind that is not hidden, or the empty text.
func (a *clayAuthor) known(kind string) string {
	var fit []string
	for i, n := range a.names {
		hidden := slices.ContainsFunc(a.names[i+1:], func(other clayFilling) bool { return other.text == n.text })
		if n.kind == kind && !hidden {
			fit = append(fit, n.text)
		}
	}
	if len(fit) == 0 {
		return ""
	}
	return a.pick(fit...)
}

// within writes where some more names are known.
func (a *clayAuthor) within(write func() string, names ...clayFilling) string {
	count := len(a.names)
	a.names = append(a.names, names...)
	text := write()
	a.names = a.names[:count]
	return text
}

var clayKinds = []string{"int", "bool", "text", "list", "record", "function"}

// e writes an E of a kind, at most so deep, and rarely one of another kind.
func (a *clayAuthor) e(kind string, deep int) string {
	if a.below(300) == 0 {
		kind = a.pick(clayKinds...)
	}
	if name := a.known(kind); name != "" && a.below(3) == 0 {
		return name
	}
	if deep == 0 {
		return a.leaf(kind)
	}
	less := func(kind string) string { return a.e(kind, deep-1) }
	switch a.below(7) {
	case 0:
		return "(if " + less("bool") + " then " + less(kind) + " else " + less(kind) + ")"
	case 1:
		name, of := a.pick("a", "b", "x", "len"), a.pick(clayKinds...)
		is := less(of)
		return "(let " + name + " = " + is + " in " + a.within(func() string { return less(kind) }, clayFilling{of, name}) + ")"
	}
	switch kind {
	case "int":
		return a.number(deep, less)
	case "bool":
		return a.truth(less)
	case "text":
		return a.words(less)
	case "list":
		return a.items(deep, less)
	case "record":
		return a.fields(less)
	}
	return a.function(deep - 1)
}

func (a *clayAuthor) leaf(kind string) string {
	switch kind {
	case "int":
		return a.pick("0", "1", "2", "3", "7", "9223372036854775807")
	case "bool":
		return a.pick("true", "false")
	case "text":
		return a.pick("\"\"", "\"a\"", "\"ab\"", "\"b.\"", "\"12\"")
	case "list":
		return a.pick("[]", "[1, 2, 3]", "range(4)")
	case "record":
		return a.pick("{a: 1, b: \"c\"}", "{a: 2, b: \"\"}", "{}")
	}
	return a.pick("(fn(x, y = x) => x + y)", "(fn(x, y = 1) => y)")
}

func (a *clayAuthor) number(deep int, less func(kind string) string) string {
	switch a.below(9) {
	case 0, 1:
		return "(" + less("int") + a.pick(" + ", " - ", " * ") + less("int") + ")"
	case 2:
		return "(" + less("int") + a.pick(" / ", " % ") + a.pick("2", "3", less("int")) + ")"
	case 3:
		return "(-" + less("int") + ")"
	case 4:
		return "len(" + less(a.pick("list", "text", "record")) + ")"
	case 5:
		return "[4, 5, 6][" + a.pick("0", "2", less("int")+" % 3") + "]"
	case 6:
		return a.pick(less("record")+".a", "(files("+less("text")+") + [1]) [0]", "len(files("+less("text")+"))")
	}
	return a.called(less)
}

// called writes a call of a function of x and y, and rarely one with args that do not fit.
func (a *clayAuthor) called(less func(kind string) string) string {
	f := less("function")
	switch a.below(60) {
	case 0:
		return f + "()"
	case 1:
		return f + "(1, 2, " + less("int") + ")"
	case 2:
		return f + "(1, z = " + less("int") + ")"
	case 3:
		return f + "(1, x = " + less("int") + ")"
	}
	switch a.below(4) {
	case 0:
		return f + "(" + less("int") + ", " + less("int") + ")"
	case 1:
		return f + "(" + less("int") + ", y = " + less("int") + ")"
	case 2:
		return f + "(y = " + less("int") + ", x = " + less("int") + ")"
	}
	return f + "(" + less("int") + ")"
}

func (a *clayAuthor) truth(less func(kind string) string) string {
	switch a.below(6) {
	case 0:
		return "(" + less("bool") + a.pick(" or ", " and ") + less("bool") + ")"
	case 1:
		return "(not " + less("bool") + ")"
	case 2:
		return "(" + less("list") + " has " + less("int") + ")"
	case 3:
		return "begins(" + less("text") + ", " + less("text") + ")"
	case 4:
		kind := a.pick("int", "text", "list", "bool")
		return "(" + less(kind) + a.pick(" < ", " <= ", " > ", " >= ") + less(kind) + ")"
	}
	kind := a.pick(clayKinds[:5]...)
	return "(" + less(kind) + a.pick(" == ", " != ") + less(kind) + ")"
}

func (a *clayAuthor) words(less func(kind string) string) string {
	switch a.below(6) {
	case 0:
		return "text(" + less(a.pick(clayKinds[:5]...)) + ")"
	case 1:
		return "join(files(" + less("text") + "), " + less("text") + ")"
	case 2:
		return a.pick("\"abc\"[1]", less("record")+".b", "cut("+less("text")+", 0, 0)", "{k: "+less("text")+"}[\"k\"]")
	case 3:
		if a.below(20) == 0 {
			return "fail(" + less("text") + ")"
		}
	}
	return "(" + less("text") + " + " + less("text") + ")"
}

func (a *clayAuthor) items(deep int, less func(kind string) string) string {
	switch a.below(6) {
	case 0:
		return "[" + less("int") + ", " + less("int") + "]"
	case 1:
		return "(" + less("list") + " + " + less("list") + ")"
	case 2:
		return a.pick("sorted", "unique") + "(" + less("list") + ")"
	case 3:
		return "range(" + less("int") + " % 5)"
	}
	name := a.pick("a", "i", "len", "x")
	from := less("list")
	return a.within(func() string {
		text := "[" + less("int") + " for " + name + " in " + from
		if a.below(2) == 0 {
			text += " if " + less("bool")
		}
		return text + "]"
	}, clayFilling{"int", name})
}

func (a *clayAuthor) fields(less func(kind string) string) string {
	switch a.below(4) {
	case 0:
		return "(" + less("record") + " + " + less("record") + ")"
	case 1:
		return "(without({b: \"\", a: 1, c: " + less("text") + "}, " + less("text") + "))"
	}
	return "{" + a.pick("a: "+less("int")+", b: "+less("text"), "b: "+less("text")+", \"\": "+less("list")+", a: "+less("int")) + "}"
}

// heads writes the parameters x and y, and behind them the mark and an E.
func (a *clayAuthor) heads(mark string, deep int) string {
	x, y := clayFilling{"int", "x"}, clayFilling{"int", "y"}
	second := a.within(func() string { return a.e("int", max(deep-1, 0)) }, x)
	return "(x, y = " + second + ")" + mark + a.within(func() string { return a.e("int", deep) }, x, y)
}

func (a *clayAuthor) function(deep int) string {
	return "(fn" + a.heads(" => ", max(deep, 0)) + ")"
}

// pack writes a package that loads some of the names that others make, and tells which names it makes.
func (a *clayAuthor) pack(lead string, others map[string][]clayFilling) (string, []clayFilling) {
	var statements []string
	a.names = nil
	for _, from := range slices.Sorted(maps.Keys(others)) {
		if len(others[from]) == 0 || a.below(5) == 0 {
			continue
		}
		name := others[from][a.below(len(others[from]))]
		if a.below(40) == 0 {
			name.text = a.pick("_"+name.text, name.text+"_none")
		}
		if !slices.Contains(a.names, name) {
			statements = append(statements, "load \""+from+"\": "+name.text+";")
			a.names = append(a.names, name)
		}
	}
	var made []clayFilling
	for i := range 2 + a.below(5) {
		name := clayFilling{a.pick(clayKinds...), fmt.Sprintf("%s%d", lead, i)}
		switch a.below(4) {
		case 0:
			statements = append(statements, "emit "+a.e("record", 3)+";")
			continue
		case 1:
			name.kind = "function"
			// It may call itself, if it has a way out.
			a.names = append(a.names, name)
			statements = append(statements, "def "+name.text+a.heads(" = ", 3)+";")
		default:
			statements = append(statements, "let "+name.text+" = "+a.e(name.kind, 3)+";")
			a.names = append(a.names, name)
		}
		made = append(made, name)
	}
	if a.below(12) == 0 {
		i, j := a.below(len(statements)), a.below(len(statements))
		statements[i], statements[j] = statements[j], statements[i]
	}
	return strings.Join(statements, a.pick("", " ", "\n")), made
}

// world writes a world whose package m loads others; rarely one of them is not there, no tree, or loads m.
func (a *clayAuthor) world() impl.ClayWorld {
	made := map[string][]clayFilling{}
	var files []string
	for _, name := range []string{"p", "lib/q", "r.s", "m"} {
		text, names := a.pack(name[:1], made)
		switch a.below(60) {
		case 0:
			text += "let;"
		case 1:
			text = "load \"m\": m0; " + text
		case 2:
			text = "load \"gone\": x; " + text
		}
		if a.below(60) > 0 {
			files = append(files, name, text)
		}
		made[name] = names
	}
	w := clayWorldOf(a.pick("", "a a.c ab b", "b.c ab ab.c 12"), files...)
	w.Files = slices.DeleteFunc(w.Files, func(file impl.ClayFile) bool { return len(file.Text) > impl.ClayMaxSrc })
	return w
}

// Promises 4, 7, 8 and 11, and the second reading, for packages that are put together by a fixed rule.
func TestClayRunAsByRules(t *testing.T) {
	t.Parallel()
	dice := clayDice(23)
	author := &clayAuthor{clayDice: &dice}
	ends := map[string]int{}
	renames, traces, far := 0, 0, 0
	for i := range 900 {
		w := author.world()
		for _, name := range []string{"m", "r.s"} {
			o := wantRun(t, w, name)
			ends[strings.TrimSpace(strconv.Itoa(o.Code)+" "+o.Word)]++
			if i%5 == 0 {
				renames += wantRenamedRuns(t, w, name, o)
			}
			traces += min(len(o.Trace), 1)
			far += len(o.Told)
		}
		if t.Failed() {
			return
		}
	}
	for _, end := range []string{"0", "2", "3", "4 type", "4 range", "4 divide", "4 key", "4 early", "4 name", "4 cycle", "4 args", "4 deep"} {
		if ends[end] < 5 {
			t.Errorf("only %d runs end with %s: %v", ends[end], end, ends)
		}
	}
	if ends["0"] < 400 || renames < 1000 || traces < 80 || far < 1000 {
		t.Errorf("%d runs come to code 0, there are %d renames, %d traces, %d records: %v", ends["0"], renames, traces, far, ends)
	}
}

// The same for packages of any kinds of nodes, which mostly end soon.
func TestClayRunOfAnyTrees(t *testing.T) {
	t.Parallel()
	dice := clayDice(29)
	lib := impl.ClayPrint(impl.ClayTree{Nodes: clayRead(t, "let a = 1; def b(x, y = x) = [x, y]; let c = fn(f) => f; let x = \"x\"; let z9_ = [1]; let iff = {a: 1};").Nodes})
	for i := range 3000 {
		text := impl.ClayPrint(impl.ClayTree{Nodes: dice.fitting(t, dice.file(1+dice.below(4), i%5).nodes())})
		w := clayWorldOf("a ab", "a/b", lib, "m", text, "p", lib, "x-1.y_", lib+"emit {};")
		wantRun(t, w, "m")
		if t.Failed() {
			return
		}
	}
}

func FuzzClayRun(f *testing.F) {
	f.Add("load \"lib\": g; def f(x, y = x) = let z = y in [z + a for a in x if a > z]; emit {v: f([1, 2], y = 0)}; let v = g(files(\"a\"));")
	f.Add("def f(n) = if n == 0 then fail(\"w\") else f(n - 1); let v = f(29);")
	f.Fuzz(func(t *testing.T, src string) {
		if len(src) <= impl.ClayMaxSrc {
			wantRun(t, clayWorldOf("a ab b", "lib", "def g(x) = x[0]; let y = 1;", "m", src), "m")
		}
	})
}

// textsOf are all texts of an outcome, list by list.
func textsOf(o impl.ClayOutcome) [][]string {
	lists := [][]string{{o.Word}, {o.At}, o.Trace, o.Read, o.Asked}
	for _, told := range o.Told {
		texts := []string{told.From}
		for _, atom := range told.Value.Atoms {
			texts = append(texts, atom.Text)
		}
		lists = append(lists, texts)
	}
	return lists
}

func TestClayRunAnswersNewMemory(t *testing.T) {
	own := func(text string) string { return string([]byte(text)) }
	lib := own("def fun(some) = fail(\"word \" + some); let name = \"some text\"; emit {name: name, list: [\"one item\", {field: name}]};")
	good := own("load \"libs\": name, fun; let list = files(\"names/\") + [name, \"own text\"]; emit {list: list, other: list, name: files(name)}; emit {list: list};")
	ends := own("load \"libs\": fun; let list = files(\"names/\"); def call(some) = fun(some); emit {v: call(\"here\")};")
	lone := own("let list = files(files(\"names/\")[1]); let v = fail(files(\"names/\")[0]);")
	for _, main := range []string{"good", "ends", "gone", "lone", "lost"} {
		files, long := withRoom([]impl.ClayFile{{Name: own("ends"), Text: ends}, {Name: own("good"), Text: good}, {Name: own("libs"), Text: lib}, {Name: own("lone"), Text: lone}, {Name: own("lost"), Text: own("load \"gone\": x;")}}, impl.ClayFile{Name: "room", Text: "room"})
		names, longNames := withRoom([]string{own("names/first"), own("names/second"), own("some text behind")}, "room")
		keptFiles, keptNames := slices.Clone(long), slices.Clone(longNames)
		w := impl.ClayWorld{Files: files, Names: names}
		name, at := own(main), own("list")
		given := []string{name, at}
		given = append(given, names...)
		for _, file := range files {
			given = append(given, file.Name, file.Text)
		}
		got := impl.ClayRun(w, name)
		want, _ := clayRunByRules(w, name)
		if !isSameOutcome(got, want) {
			t.Fatalf("%s: %+v", main, got)
		}
		lists := textsOf(got)
		for i, texts := range lists {
			for _, text := range texts {
				for _, other := range given {
					if sharesBytes(other, text) {
						t.Errorf("%s: %q shares memory with an argument", main, text)
					}
				}
				for _, others := range lists[i+1:] {
					for _, other := range others {
						if sharesBytes(other, text) || sharesBytes(text, other) {
							t.Errorf("%s: %q stands in two lists", main, text)
						}
					}
				}
			}
		}
		wantSpoiltApart(t, main, got)
		value, ok := impl.ClayLook(w, name, at)
		if ok != (main == "good") {
			t.Errorf("%s: looked: %v", main, ok)
		}
		if ok {
			wantOwnMemory(t, value, given...)
			for i := range value.Atoms[:cap(value.Atoms)] {
				value.Atoms[:cap(value.Atoms)][i] = impl.ClayAtom{Kind: 77, Text: "written over"}
			}
		}
		if again := impl.ClayRun(w, name); !isSameOutcome(again, want) {
			t.Errorf("%s: run again: %+v", main, again)
		}
		if !slices.Equal(long, keptFiles) || !slices.Equal(longNames, keptNames) {
			t.Errorf("%s: an argument was changed", main)
		}
	}
}

// wantSpoiltApart writes over each list of an outcome, spare room included, and asks that the others stay.
func wantSpoiltApart(t *testing.T, what string, o impl.ClayOutcome) {
	t.Helper()
	spoil := func(list []string) {
		for i := range list[:cap(list)] {
			list[:cap(list)][i] = "written over"
		}
	}
	read, asked := slices.Clone(o.Read), slices.Clone(o.Asked)
	var told [][]impl.ClayAtom
	for _, one := range o.Told {
		told = append(told, slices.Clone(one.Value.Atoms))
	}
	spoil(o.Trace)
	if !slices.Equal(o.Read, read) || !slices.Equal(o.Asked, asked) {
		t.Errorf("%s: Trace shares memory", what)
	}
	spoil(o.Read)
	if !slices.Equal(o.Asked, asked) {
		t.Errorf("%s: Read shares memory", what)
	}
	for i, one := range o.Told {
		if !slices.Equal(one.Value.Atoms, told[i]) {
			t.Errorf("%s: what is told shares memory", what)
		}
		for j := range one.Value.Atoms[:cap(one.Value.Atoms)] {
			one.Value.Atoms[:cap(one.Value.Atoms)][j] = impl.ClayAtom{Kind: 77}
		}
	}
}
