package tests

import (
	"fmt"
	"math"
	"reflect"
	"slices"
	"strings"
	"sync"
	"testing"

	"loop.example/kilnyard/impl"
)

// tidyWays are all ways to write.
var tidyWays = []int{impl.HousePrint, impl.HouseFold, impl.HouseRename}

// clayTidyByRules is the text of a package written anew, by the second readings of what fits, of folding and of printing; the empty text if there is none.
func clayTidyByRules(text string, how int) string {
	tree, fault := impl.ClayParse(text)
	if fault.Code != 0 || clayFamilyOf(tree.Nodes).fault().Code != 0 {
		return ""
	}
	nodes := tree.Nodes
	switch how {
	case 2:
		nodes = clayFoldByRules(nodes)
	case 3:
		nodes = clayAnewByRules(nodes)
	}
	b, _, _ := clayBushOf(nodes)
	if text = b.text(noBrackets); len(text) > 8000 {
		return ""
	}
	return text
}

// clayAnewByRules renames the names inside, in the order of the old tree, each if no node has the new name by then.
func clayAnewByRules(old []impl.ClayNode) []impl.ClayNode {
	binds := clayFamilyOf(old).binds()
	nodes := slices.Clone(old)
	k := 0
	for maker, n := range old {
		if n.Kind != impl.ClayNodeLet && n.Kind != impl.ClayNodeEach {
			continue
		}
		name := fmt.Sprint("anew_", k)
		k++
		if slices.ContainsFunc(nodes, func(n impl.ClayNode) bool { return n.Text == name }) {
			continue
		}
		for at := range nodes {
			if at == maker || binds[at] == maker {
				nodes[at].Text = name
			}
		}
	}
	return nodes
}

// millTidyByRules is the text of a program written anew; the empty text if there is none.
func millTidyByRules(text string, how int) string {
	tree, fault := impl.MillParse(text)
	if fault.Code != 0 {
		return ""
	}
	if _, misfit := millFamilyOf(tree.Nodes).read(); misfit.Code != 0 {
		return ""
	}
	b, _, _ := millBushOf(tree.Nodes)
	if how == 2 {
		b = b.folded()
	}
	if text = b.text(noBrackets); len(text) > 12000 {
		return ""
	}
	return text
}

// tidyKey is a text that is to be written anew.
type tidyKey struct {
	isPack bool
	text   string
	how    int
}

// tidyTexts has what second readings gave, since one text is often asked for among several names.
var tidyTexts sync.Map

// textTidyByRules is the text of a file written anew; the empty text if there is none.
func textTidyByRules(name, text string, how int) string {
	key := tidyKey{housePackFile.MatchString(name), text, how}
	if known, is := tidyTexts.Load(key); is {
		return known.(string)
	}
	anew := millTidyByRules
	if key.isPack {
		anew = clayTidyByRules
	}
	written := anew(text, how)
	tidyTexts.Store(key, written)
	return written
}

// houseTidyByRules is the place with files written anew, sentence by sentence as the document has it.
func houseTidyByRules(p impl.MillPlace, names []string, how int) impl.MillPlace {
	if !isMillPlace(p) || how < 1 || how > 3 {
		return impl.MillPlace{}
	}
	tidy := impl.MillPlace{Files: slices.Clone(p.Files)}
	for at, file := range p.Files {
		if !slices.Contains(names, file.Name) {
			continue
		}
		if text := textTidyByRules(file.Name, file.Text, how); text != "" && len(text) <= 3000 {
			tidy.Files[at].Text = text
		}
	}
	return tidy
}

// wantTidy asks Tidy for what the second reading has.
func wantTidy(t *testing.T, p impl.MillPlace, names []string, how int) impl.MillPlace {
	t.Helper()
	kept, keptNames := slices.Clone(p.Files), slices.Clone(names)
	got, want := impl.HouseTidy(p, names, how), houseTidyByRules(p, names, how)
	if !isSameMillPlace(got, want) {
		t.Errorf("%q of %s by %d: got %s, want %s", names, millPlaceShown(p), how, millPlaceShown(got), millPlaceShown(want))
		for at := range min(len(got.Files), len(want.Files)) {
			if got.Files[at] != want.Files[at] {
				t.Errorf("got %.3000q, want %.3000q", got.Files[at], want.Files[at])
			}
		}
	}
	if !slices.Equal(p.Files, kept) || !slices.Equal(names, keptNames) {
		t.Errorf("%q of %s: changed", names, millPlaceShown(p))
	}
	if !impl.MillValidPlace(got) {
		t.Errorf("%q of %s by %d: not valid: %s", names, millPlaceShown(p), how, millPlaceShown(got))
	}
	return got
}

// wantTidied asks what a file is written anew as, by each of the three ways: printed, folded, renamed. The empty text stands for one that stays.
func wantTidied(t *testing.T, name, text string, want ...string) {
	t.Helper()
	p := houseOf(name, text, "0", "first", "zz", "last")
	for i, how := range tidyWays {
		one := want[i]
		if one == "" {
			one = text
		}
		if got := impl.MillSee(wantTidy(t, p, []string{name}, how), impl.MillLookRead, name); got.Text != one {
			t.Errorf("%s by %d: %.3000q became %.3000q, want %.3000q", name, how, text, got.Text, one)
		}
	}
}

// wantStays asks that a file stays as it is by each of the three ways.
func wantStays(t *testing.T, name, text string) {
	t.Helper()
	wantTidied(t, name, text, "", "", "")
}

// fileNames are the names of a place's files.
func fileNames(p impl.MillPlace) []string {
	var names []string
	for _, file := range p.Files {
		names = append(names, file.Name)
	}
	return names
}

// packNames are the names of the files that are packages.
func packNames(p impl.MillPlace) []string {
	return slices.DeleteFunc(fileNames(p), func(name string) bool { return !housePackFile.MatchString(name) })
}

// outsOf are the outs of all targets.
func outsOf(targets []impl.ClayTarget) []string {
	var outs []string
	for _, target := range targets {
		outs = append(outs, target.Outs...)
	}
	return outs
}

func isSameOrders(a, b impl.HouseOrders) bool {
	return a.Code == b.Code && slices.EqualFunc(a.Targets, b.Targets, isSameTarget)
}

// houseFacts is a house with what it comes to, and all that is remembered of it.
type houseFacts struct {
	impl.MillPlace
	outcome impl.ClayOutcome
	orders  impl.HouseOrders
	outs    []string
	made    []impl.HouseMade
	shelf   impl.HouseShelf
}

func houseFactsOf(p impl.MillPlace) houseFacts {
	h := houseFacts{MillPlace: p, outcome: impl.ClayRun(impl.HouseClays(p), "main"), orders: impl.HousePlan(p, "main"), made: impl.HouseMeaning(p, "main")}
	h.outs = outsOf(h.orders.Targets)
	h.shelf = impl.HouseBuild(p, "main", impl.HouseShelf{}, h.outs).Shelf
	return h
}

// changedFiles has the files whose text is another one.
func changedFiles(p, q impl.MillPlace) map[string]bool {
	changed := map[string]bool{}
	for at, file := range p.Files {
		if q.Files[at] != file {
			changed[file.Name] = true
		}
	}
	return changed
}

// reads says whether a run reads one of the files otherwise than as its own Tool.
func (h houseFacts) reads(files map[string]bool) bool {
	for at, made := range h.made {
		for i, one := range made.Seen {
			if one.Kind == impl.MillLookRead && files[one.Name] && i != len(h.orders.Targets[at].Ins) {
				return true
			}
		}
	}
	return false
}

// wantWrittenAnew asks for promise 36 where files of a house are written anew, and that what is remembered of it holds there. It tells what it met with.
func wantWrittenAnew(t *testing.T, h houseFacts, names []string, how int) string {
	t.Helper()
	q := wantTidy(t, h.MillPlace, names, how)
	changed := changedFiles(h.MillPlace, q)
	if len(changed) == 0 {
		return "nothing"
	}
	if how == impl.HouseFold && h.orders.Code == 2 {
		return "no plan folded"
	}
	if is := impl.HousePlan(q, "main"); !isSameOrders(h.orders, is) {
		t.Errorf("%q of %s by %d: the plan was %+v, is %+v", names, millPlaceShown(h.MillPlace), how, h.orders, is)
		return "failed"
	}
	switch {
	case h.orders.Code != 0:
		return "no plan"
	case h.reads(changed):
		return "read"
	case slices.ContainsFunc(h.made, func(made impl.HouseMade) bool { return made.Code == impl.MillSpent }):
		return "spent"
	}
	after := impl.HouseMeaning(q, "main")
	for at, made := range h.made {
		wantMadeAnew(t, h.orders.Targets[at], made, after[at], q, how)
	}
	wantRemembered(t, h, q, changed)
	if t.Failed() {
		t.Errorf("%q of %s by %d: %s", names, millPlaceShown(h.MillPlace), how, millPlaceShown(q))
	}
	return "written anew"
}

// wantMadeAnew asks that a run comes to the same as before, having seen the same but for the text of its Tool.
func wantMadeAnew(t *testing.T, target impl.ClayTarget, before, after impl.HouseMade, q impl.MillPlace, how int) {
	t.Helper()
	if after.Steps > before.Steps || how != impl.HouseFold && after.Steps != before.Steps {
		t.Errorf("%s: %d steps, were %d", target.Name, after.Steps, before.Steps)
	}
	want := before
	want.Steps, want.Seen = after.Steps, slices.Clone(before.Seen)
	if tool := len(target.Ins); tool < len(want.Seen) && impl.MillSee(q, impl.MillLookHas, target.Tool).Code == 0 {
		want.Seen[tool].Reply = impl.MillSee(q, impl.MillLookRead, target.Tool)
	}
	if !isSameMade(after, want) {
		t.Errorf("got %s, want %s", madeShown([]impl.HouseMade{after}), madeShown([]impl.HouseMade{want}))
	}
}

// wantRemembered asks that what was remembered in the old place holds in the new one, but for the targets whose Tool is another text.
func wantRemembered(t *testing.T, h houseFacts, q impl.MillPlace, changed map[string]bool) {
	t.Helper()
	var want []string
	for at, target := range h.orders.Targets {
		if made := h.made[at]; made.Over && changed[target.Tool] && len(made.Seen) > len(target.Ins) {
			want = append(want, target.Name)
		}
	}
	if built := impl.HouseBuild(q, "main", h.shelf, h.outs); built.Code != 0 || !slices.Equal(built.Ran, want) {
		t.Errorf("code %d, ran %q, want %q", built.Code, built.Ran, want)
	}
}

func TestHouseTidyConstants(t *testing.T) {
	if impl.HousePrint != 1 || impl.HouseFold != 2 || impl.HouseRename != 3 {
		t.Errorf("%d %d %d", impl.HousePrint, impl.HouseFold, impl.HouseRename)
	}
}

// Packages and programs that can be written anew, by each of the three ways.
func TestHouseTidy(t *testing.T) {
	wantTidied(t, "p.clay", "let  a=(1+2)*(3);# a note", "let a = (1 + 2) * 3;\n", "let a = 9;\n", "let a = (1 + 2) * 3;\n")
	wantTidied(t, "p.clay", "def f(x,y=let z=2 in z)=[x+v for v in y if not(true or v)];", "def f(x, y = let z = 2 in z) = [x + v for v in y if not (true or v)];\n", "def f(x, y = 2) = [x + v for v in y if false];\n", "def f(x, y = let anew_0 = 2 in anew_0) = [x + anew_1 for anew_1 in y if not (true or anew_1)];\n")
	wantTidied(t, "p.clay", `load"lib/b":b,c;emit{"a":b,"b c":c(b,k=1)};`, "load \"lib/b\": b, c;\nemit {a: b, \"b c\": c(b, k = 1)};\n", "load \"lib/b\": b, c;\nemit {a: b, \"b c\": c(b, k = 1)};\n", "load \"lib/b\": b, c;\nemit {a: b, \"b c\": c(b, k = 1)};\n")
	wantTidied(t, "p.clay", `emit {a: "\41\0a\7e\80"};`, "emit {a: \"A\\0a~\\80\"};\n", "emit {a: \"A\\0a~\\80\"};\n", "emit {a: \"A\\0a~\\80\"};\n")
	program := "fn main() -> text {\n  let n = 1 + (2 * 3);\n  if n == 7 {\n    say \"a\" + arg();\n  }\n  return dec(n);\n}\n"
	folded := "fn main() -> text {\n  let n = 7;\n  if n == 7 {\n    say \"a\" + arg();\n  }\n  return dec(n);\n}\n"
	for _, name := range []string{"p", "tool.mill", "A.clay", ".clay", "clay", "p.clay.", "p.Clay", "p~.clay", strings.Repeat("p", 31) + ".clay", "p.clay/x"} {
		wantTidied(t, name, "fn main()->text{let n=1+2*3;if(n==7){say\"a\"+arg();}return dec(n);} # a note", program, folded, program)
		wantTidied(t, name, program, "", folded, "")
	}
	for _, name := range []string{"p.clay", ".clay.clay", "p.clay.clay", "0.clay", "a/b-c_d.e.clay", "-.clay", "/.clay", strings.Repeat("p", 30) + ".clay"} {
		wantTidied(t, name, "emit {v:let x=1+1 in x};", "emit {v: let x = 1 + 1 in x};\n", "emit {v: 2};\n", "emit {v: let anew_0 = 1 + 1 in anew_0};\n")
	}
	// What is written so already stays, and so does what has nothing to fold and nothing to rename.
	wantStays(t, "p.clay", "emit {v: 1};\n")
	wantStays(t, "p", "fn main() -> text {\n  return \"\";\n}\n")
}

// What is neither a package's tree nor a program stays as it is, byte for byte.
func TestHouseTidyStays(t *testing.T) {
	pack, program := "let  a=1+2;", "fn main()->text{return\"a\"+\"b\";}"
	for what, text := range map[string]string{
		"no token":        pack + "?",
		"not ended":       pack + "let",
		"no statement":    pack + "1;",
		"too deep":        "let a=" + strings.Repeat("-", 60) + "1;",
		"a key twice":     pack + "let b={a:1,a:2};",
		"a name twice":    pack + pack,
		"not known":       pack + "let b=c;",
		"known elsewhere": pack + "let b=[let c=1 in c,c];",
		"no default":      "def f(a=1+1,b)=a;",
		"a program":       program,
		"only a program":  "fn main() -> text {\n  return 1 + 2;\n}\n",
		"a text":          "S",
		"any bytes":       "\x00\xff\n",
	} {
		t.Run(what, func(t *testing.T) { wantStays(t, "p.clay", text) })
	}
	for what, text := range map[string]string{
		"a package":         pack,
		"a package to fold": "let v=let x=1 in x;",
		"no token":          program + "?",
		"not ended":         program + "fn",
		"no function":       "# a note",
		"no main":           "fn other()->text{return\"\";}",
		"main with args":    "fn main(a text)->text{return\"\";}",
		"no text":           "fn main()->i64{return 1+2;}",
		"another type":      "fn main()->text{return 1+2;}",
		"not known":         "fn main()->text{return a;}",
		"main twice":        program + program,
		"too deep":          "fn main()->text{return" + strings.Repeat(" -", 70) + "1;}",
		"nothing":           "",
		"any bytes":         "\x00\xff\n",
	} {
		t.Run(what, func(t *testing.T) {
			wantStays(t, "p", text)
			wantStays(t, "A.clay", text)
		})
	}
	// Trees without a statement, which are printed as the empty text.
	for _, text := range []string{"", " ", "\n\n", "# a note", "#\n #\n"} {
		wantStays(t, "p.clay", text)
	}
}

// Names that are no files, that come twice, none, all, and parts of names; files that are not among them stay, and so does the order.
func TestHouseTidyNames(t *testing.T) {
	pack, program := "let  a=1;", "fn main()->text{return\"\";}"
	p := houseOf("a.clay", pack, "a-b.clay", pack, "t/x", program, "t", program, "a", program, "src", " S ", "empty", "", "A.clay", pack, "bad.clay", program)
	all := fileNames(p)
	for _, row := range []struct{ names, written string }{
		{"", ""}, {"gone", ""}, {"gone.clay a.cla a.clay. .clay A", ""}, {"t/", ""}, {"T", ""},
		{"a.clay", "a.clay"}, {"a.clay a.clay a.clay", "a.clay"}, {"a", "a"}, {"t", "t"}, {"t/x gone t/x", "t/x"},
		{"t a.clay", "a.clay t"}, {"src empty A.clay bad.clay", ""}, {"src t empty", "t"},
		{strings.Join(all, " "), "a-b.clay a.clay a t t/x"},
		{"zz " + strings.Join(all, " ") + " " + strings.Join(all, " "), "a-b.clay a.clay a t t/x"},
	} {
		for _, how := range tidyWays {
			names := strings.Fields(row.names)
			want := map[string]bool{}
			for _, name := range strings.Fields(row.written) {
				want[name] = true
			}
			for range 3 {
				q := wantTidy(t, p, names, how)
				if !slices.Equal(fileNames(q), all) || !reflect.DeepEqual(changedFiles(p, q), want) {
					t.Errorf("%q by %d: %s", names, how, millPlaceShown(q))
				}
				// The order of names does not matter.
				slices.Reverse(names)
				names = append(names, "")
			}
		}
	}
	// Names may be any texts, and as many as one likes.
	for _, names := range [][]string{nil, {}, {""}, {"a b", "\n", "\xff", strings.Repeat("n", 10000)}} {
		if q := wantTidy(t, p, names, 1); !isSameMillPlace(q, p) {
			t.Errorf("%.100q: %s", names, millPlaceShown(q))
		}
	}
	many := slices.Repeat([]string{"gone", "t", "t/"}, 5000)
	if q := wantTidy(t, p, many, 1); !reflect.DeepEqual(changedFiles(p, q), map[string]bool{"t": true}) {
		t.Errorf("%s", millPlaceShown(q))
	}
	// More packages than a house may have are packages all the same.
	packs := impl.MillPlace{Files: manyPacks(40)}
	for at := range packs.Files {
		packs.Files[at].Text = pack
	}
	if q := wantTidy(t, packs, fileNames(packs), 1); len(changedFiles(packs, q)) != 40 {
		t.Errorf("%s", millPlaceShown(q))
	}
	if q := wantTidy(t, impl.MillPlace{}, []string{"a"}, 1); len(q.Files) != 0 {
		t.Errorf("%s", millPlaceShown(q))
	}
}

// Nothing: a way that is none, and a place that is not valid.
func TestHouseTidyNothing(t *testing.T) {
	p := houseOf("a.clay", "let  a=1;", "t", "fn main()->text{return\"\";}", "src", "S")
	for _, how := range []int{0, 4, 5, -1, -2, -3, 7, 256 + 1, 1<<32 + 1, math.MinInt, math.MaxInt} {
		for _, names := range [][]string{nil, {"a.clay"}, fileNames(p)} {
			if q := wantTidy(t, p, names, how); len(q.Files) != 0 {
				t.Errorf("by %d: %s", how, millPlaceShown(q))
			}
		}
	}
	for what, wrong := range millWrongPlaces() {
		for _, how := range append([]int{0, 4}, tidyWays...) {
			for _, names := range [][]string{nil, fileNames(wrong)} {
				if q := wantTidy(t, wrong, names, how); len(q.Files) != 0 {
					t.Errorf("%s by %d: %s", what, how, millPlaceShown(q))
				}
			}
		}
	}
	long := impl.MillPlace{Files: append(slices.Clone(p.Files), impl.MillFile{Name: "zz", Text: strings.Repeat(" ", 3001)})}
	if q := wantTidy(t, long, []string{"a.clay", "zz"}, 1); len(q.Files) != 0 {
		t.Errorf("%s", millPlaceShown(q))
	}
}

// wantLongTidied asks for a file that has just so many bytes when it is written anew in a way, for each number around the most, and that it stays where there would be more.
func wantLongTidied(t *testing.T, what, name string, how int, text func(pad string) string) {
	t.Helper()
	least := len(textTidyByRules(name, text(""), how))
	for _, size := range []int{2999, 3000, 3001, 3100} {
		old := text(strings.Repeat("x", size-least))
		if anew := textTidyByRules(name, old, how); len(anew) != size || len(old) > 3000 {
			t.Errorf("%s: %d bytes become %d, want %d", what, len(old), len(anew), size)
			continue
		}
		p := houseOf(name, old)
		if q := wantTidy(t, p, []string{name}, how); isSameMillPlace(p, q) != (size > 3000) {
			t.Errorf("%s of %d bytes: %d bytes", what, size, len(q.Files[0].Text))
		}
	}
}

// Files that are longer when they are written anew: as long as they may be, and longer than that.
func TestHouseTidyLong(t *testing.T) {
	ones := func(many int, one string) string { return strings.TrimSuffix(strings.Repeat(one+",", many), ",") }
	for _, how := range tidyWays {
		wantLongTidied(t, "printed", "p.clay", how, func(pad string) string {
			return "let a=[" + ones(200, "b") + "];let b=[" + ones(200, "a") + "];let c=[" + ones(200, "a") + "];let d=[" + ones(140, "b") + `];let e="` + pad + `";`
		})
		wantLongTidied(t, "a program", "p", how, func(pad string) string {
			return "fn main()->text{if true{let a=b();" + strings.Repeat("a=b();", 100) + `}return"` + pad + `";}fn b()->i64{return 1;}`
		})
	}
	wantLongTidied(t, "folded", "p.clay", impl.HouseFold, func(pad string) string {
		return `let a=let x="` + strings.Repeat("y", 100) + `" in [` + ones(20, "x") + `];let c="` + pad + `";`
	})
	wantLongTidied(t, "renamed", "p.clay", impl.HouseRename, func(pad string) string {
		return "let a=let x=a in [[" + ones(100, "x") + "],[" + ones(160, "x") + `]];let c="` + pad + `";`
	})
	wantLongTidied(t, "a program that is folded", "p", impl.HouseFold, func(pad string) string {
		return "fn main()->text{let a=0u64;" + strings.Repeat("a=~0u64;", 60) + `return"` + pad + `";}`
	})
	// One that is too long in one way, and not in another.
	two := `let a=let x="` + strings.Repeat("y", 500) + `" in [x,x,x,x,x,x,x];`
	wantTidied(t, "p.clay", two, clayTidyByRules(two, 1), "", clayTidyByRules(two, 3))
	two = "let a=let x=a in [" + ones(200, "x") + `];let c="` + strings.Repeat("x", 900) + `";let d="` + strings.Repeat("x", 600) + `";`
	wantTidied(t, "p.clay", two, clayTidyByRules(two, 1), clayTidyByRules(two, 2), "")
	two = "let a=[" + ones(200, "1+1") + "];let b=[" + ones(200, "1+1") + `];let c="` + strings.Repeat("x", 900) + `";`
	wantTidied(t, "p.clay", two, "", clayTidyByRules(two, 2), "")
	two = "fn main()->text{let a=0u64;" + strings.Repeat("a=~0u64;", 80) + `return"` + strings.Repeat("x", 1000) + `";}`
	wantTidied(t, "p", two, millTidyByRules(two, 1), "", millTidyByRules(two, 1))
	two = "fn main()->text{let a=0;" + strings.Repeat("a=(1+1)*(1+1);", 150) + `return"";}`
	wantTidied(t, "p", two, "", millTidyByRules(two, 2), "")
	// More than there may be in a package or in a program: there is no text at all.
	long := "let a=let x=a in [" + ones(13, "["+ones(90, "x")+"]") + "];"
	tree, _ := impl.ClayParse(long)
	if size := len(strings.ReplaceAll(impl.ClayPrint(tree), "x", "anew_0")); size <= 8000 {
		t.Errorf("%d bytes", size)
	}
	wantTidied(t, "p.clay", long, "", "", "")
	long = "let a=let x=a in [" + ones(8, "["+ones(90, "x")+"]") + "];"
	wantTidied(t, "p.clay", long, clayTidyByRules(long, 1), clayTidyByRules(long, 2), "")
	long = `let a=let x="` + strings.Repeat("y", 900) + `" in [x,x,x,x,x,x,x,x,x,x];`
	wantTidied(t, "p.clay", long, clayTidyByRules(long, 1), "", clayTidyByRules(long, 3))
	long = "fn main()->text{let a=0;" + strings.Repeat("if true{", 25) + strings.Repeat("a=1;", 600) + strings.Repeat("}", 25) + `return"";}`
	if tree, _ := impl.MillParse(long); impl.MillCheck(tree).Code != 0 || impl.MillPrint(tree) != "" {
		t.Errorf("%d nodes", len(tree.Nodes))
	}
	wantStays(t, "p", long)
}

// wantAnew asks for the text of a package whose names inside are renamed.
func wantAnew(t *testing.T, text, want string) {
	t.Helper()
	tree := clayRead(t, text)
	if text != impl.ClayPrint(tree) {
		t.Errorf("%q: not written so", text)
	}
	wantTidied(t, "p.clay", text, "", clayTidyByRules(text, impl.HouseFold), want)
	got := wantTidy(t, houseOf("p.clay", text), []string{"p.clay"}, impl.HouseRename).Files[0].Text
	wantSameBinds(t, tree, clayRead(t, got))
}

// Names inside are told by their numbers in the order of Locals.
func TestHouseRename(t *testing.T) {
	for _, row := range []struct{ text, want string }{
		// One behind the other, and each in others: what stands further inside comes first.
		{"let v = [let a = v in a, let b = v in b, [c for c in v]];\n", "let v = [let anew_0 = v in anew_0, let anew_1 = v in anew_1, [anew_2 for anew_2 in v]];\n"},
		{"let v = let a = v in let b = a in a + b;\n", "let v = let anew_1 = v in let anew_0 = anew_1 in anew_1 + anew_0;\n"},
		{"let v = let a = let b = v in b in a;\n", "let v = let anew_1 = let anew_0 = v in anew_0 in anew_1;\n"},
		{"let v = [let a = f in a for f in v];\n", "let v = [let anew_0 = anew_1 in anew_0 for anew_1 in v];\n"},
		{"let v = [f for f in let a = v in a if let b = f in b];\n", "let v = [anew_2 for anew_2 in let anew_0 = v in anew_0 if let anew_1 = anew_2 in anew_1];\n"},
		{"let v = [[g + f for g in [f]] for f in v];\n", "let v = [[anew_0 + anew_1 for anew_0 in [anew_1]] for anew_1 in v];\n"},
		{"let v = let a = v in [a + c for c in [a] if a == c];\nlet w = let b = v in b;\n", "let v = let anew_1 = v in [anew_1 + anew_0 for anew_0 in [anew_1] if anew_1 == anew_0];\nlet w = let anew_2 = v in anew_2;\n"},
		{"def f(x, y = let a = x in a) = let b = y in fn(c) => let d = c in [a for a in [b, c, d, x, y]];\n", "def f(x, y = let anew_0 = x in anew_0) = let anew_3 = y in fn(c) => let anew_2 = c in [anew_1 for anew_1 in [anew_3, c, anew_2, x, y]];\n"},
		// Names that hide each other, names outside, parameters and built names.
		{"let v = let x = v in let x = x + 1 in x;\n", "let v = let anew_1 = v in let anew_0 = anew_1 + 1 in anew_0;\n"},
		{"let v = let x = v in [[x for x in [x]], x];\n", "let v = let anew_1 = v in [[anew_0 for anew_0 in [anew_1]], anew_1];\n"},
		{"let v = [x for x in [x for x in [let x = v in x]] if [x for x in [x]] == [x]];\n", "let v = [anew_3 for anew_3 in [anew_1 for anew_1 in [let anew_0 = v in anew_0]] if [anew_2 for anew_2 in [anew_3]] == [anew_3]];\n"},
		{"let x = 1;\nlet v = [let x = x in x, x];\n", "let x = 1;\nlet v = [let anew_0 = x in anew_0, x];\n"},
		{"def f(x) = [let x = x in x, x];\n", "def f(x) = [let anew_0 = x in anew_0, x];\n"},
		{"let v = let x = v in (fn(x) => x)(x);\n", "let v = let anew_0 = v in (fn(x) => x)(anew_0);\n"},
		{"let v = let len = v in [len, len.len];\nlet w = len(v);\n", "let v = let anew_0 = v in [anew_0, anew_0.len];\nlet w = len(v);\n"},
		{"let v = let x = {x: 1} in [x.x, v(x = x), {x: x, \"x y\": \"x\"}];\n", "let v = let anew_0 = {x: 1} in [anew_0.x, v(x = anew_0), {x: anew_0, \"x y\": \"x\"}];\n"},
		// One that binds nothing.
		{"let v = let x = v in v;\n", "let v = let anew_0 = v in v;\n"},
		{"let v = [v for x in v if true];\n", "let v = [v for anew_0 in v if true];\n"},
		// None.
		{"let v = fn(a, b = 1) => a + b;\n", ""},
		{"load \"p\": x;\nemit {v: x};\n", ""},
	} {
		wantAnew(t, row.text, row.want)
	}
	// More than ten of them.
	text, want := "", ""
	for i := range 25 {
		text += fmt.Sprintf("let v%d = let x = v%d in [x for y in x];\n", i, i)
		want += fmt.Sprintf("let v%d = let anew_%d = v%d in [anew_%d for anew_%d in anew_%d];\n", i, 2*i+1, i, 2*i+1, 2*i, 2*i+1)
	}
	wantAnew(t, text, want)
	text = "let v = " + strings.Repeat("[", 15) + "v" + strings.Repeat(" for x in v]", 15) + ";\n"
	want = text
	for i := range 15 {
		want = strings.Replace(want, " x ", fmt.Sprintf(" anew_%d ", i), 1)
	}
	wantAnew(t, text, want)
}

// A name that is there already is not taken, and its number stays unused; one that has been renamed is there no longer.
func TestHouseRenameTaken(t *testing.T) {
	inside := "[let x = v in x, let y = v in y]"
	first, second, none := "[let x = v in x, let anew_1 = v in anew_1]", "[let anew_0 = v in anew_0, let y = v in y]", inside
	both := "[let anew_0 = v in anew_0, let anew_1 = v in anew_1]"
	for _, row := range []struct{ text, want string }{
		{"let v = INSIDE;\n", both},
		{"let anew_0 = 1;\nlet v = INSIDE;\n", first},
		{"let anew_1 = 1;\nlet v = INSIDE;\n", second},
		{"let anew_0 = 1;\nlet anew_1 = 1;\nlet v = INSIDE;\n", none},
		{"let v = INSIDE;\ndef anew_0() = 1;\n", first},
		{"let v = INSIDE;\ndef anew_1() = 1;\n", second},
		{"load \"p\": anew_0, a;\nlet v = INSIDE;\n", first},
		{"load \"anew_1\": a;\nlet v = INSIDE;\n", second},
		{"def f(anew_0) = 1;\nlet v = INSIDE;\n", first},
		{"def f(a, anew_1 = a) = 1;\nlet v = INSIDE;\n", second},
		{"let v = INSIDE;\nlet w = fn(anew_0, a) => a;\n", first},
		{"let v = INSIDE;\nlet w = fn(a, anew_1 = 1) => a;\n", second},
		{"let v = {anew_0: INSIDE};\n", first},
		{"let v = {a: INSIDE, anew_1: 1};\n", second},
		{"let v = INSIDE;\nlet w = v.anew_0;\n", first},
		{"let v = INSIDE;\nlet w = v(anew_1 = 1);\n", second},
		{"let v = INSIDE;\nlet w = \"anew_0\";\n", first},
		{"let v = {\"anew_1\": INSIDE};\n", second},
		// What is only nearly that name is not in its way.
		{"let anew_00 = 1;\nlet anew_ = 1;\nlet anew = 1;\nlet anew_2 = \" anew_0\";\nlet v = {\"anew_1 \": INSIDE};\nlet w = \"anew_0, anew_1\";\n", both},
	} {
		text := strings.ReplaceAll(row.text, `{"anew_1": `, "{anew_1: ")
		wantAnew(t, strings.Replace(text, "INSIDE", inside, 1), strings.Replace(text, "INSIDE", row.want, 1))
	}
	for _, row := range []struct{ text, want string }{
		// As a name inside: the one that is to get this name itself, and others.
		{"let v = let anew_0 = v in anew_0;\n", ""},
		{"let v = [let anew_0 = v in anew_0, let anew_1 = v in anew_1];\n", ""},
		{"let v = [let anew_0 = v in anew_0, let y = v in y];\n", "let v = [let anew_0 = v in anew_0, let anew_1 = v in anew_1];\n"},
		{"let v = [let x = v in x, let anew_0 = v in anew_0];\n", "let v = [let x = v in x, let anew_1 = v in anew_1];\n"},
		{"let v = [let anew_1 = v in anew_1, let anew_0 = v in anew_0];\n", ""},
		{"let v = [let anew_0 = v in anew_0, let anew_0 = v in anew_0];\n", "let v = [let anew_0 = v in anew_0, let anew_1 = v in anew_1];\n"},
		{"let v = let anew_0 = v in let x = anew_0 in x + anew_0;\n", "let v = let anew_1 = v in let x = anew_1 in x + anew_1;\n"},
		// The first gives its name up, and the second takes it.
		{"let v = [let anew_1 = v in anew_1, let x = v in x];\n", "let v = [let anew_0 = v in anew_0, let anew_1 = v in anew_1];\n"},
		{"let v = let x = v in let anew_1 = x in anew_1 + x;\n", "let v = let anew_1 = v in let anew_0 = anew_1 in anew_0 + anew_1;\n"},
		{"let v = [[let anew_1 = w in anew_1 for w in v] for anew_2 in v];\n", "let v = [[let anew_0 = anew_1 in anew_0 for anew_1 in v] for anew_2 in v];\n"},
		{"let v = [let anew_2 = v in anew_2, let anew_1 = v in anew_1, let x = v in x];\n", "let v = [let anew_0 = v in anew_0, let anew_1 = v in anew_1, let anew_2 = v in anew_2];\n"},
		// One that stays keeps its name from others.
		{"let v = [let anew_2 = v in anew_2, let y = v in y, let x = v in x, \"anew_0\"];\n", "let v = [let anew_2 = v in anew_2, let anew_1 = v in anew_1, let x = v in x, \"anew_0\"];\n"},
		{"let v = [let x = v in x, let anew_2 = v in anew_2, let y = v in y, {anew_1: 1}];\n", "let v = [let anew_0 = v in anew_0, let anew_2 = v in anew_2, let y = v in y, {anew_1: 1}];\n"},
	} {
		wantAnew(t, row.text, row.want)
	}
}

// wantAllWays asks for promise 36 by each of the three ways, for each file alone, for packages, for all that are none, and for all.
func wantAllWays(t *testing.T, p impl.MillPlace, counts map[string]int) {
	t.Helper()
	h := houseFactsOf(p)
	all := fileNames(p)
	packs := packNames(p)
	others := slices.DeleteFunc(slices.Clone(all), housePackFile.MatchString)
	lists := [][]string{packs, others, all}
	for _, name := range all {
		lists = append(lists, []string{name})
	}
	for _, how := range tidyWays {
		for _, names := range lists {
			counts[wantWrittenAnew(t, h, names, how)]++
		}
	}
}

// tidyMain tells targets in many words.
const tidyMain = `load"lib/obj":obj,ext;# a note
let srcs=[s for s in files("s/")if let n=len(s) in n>1+1];
emit obj("all"){NAMED}+{tool:"t/"+"join",arg:join([let o=s+ext in o for s in srcs],","),ins:[s+ext for s in srcs]};
emit {name:"copy",tool:if 1<2 then "t/one" else fail("no"),arg:let a="all" in a+ext+">copy",outs:[let anew_0="copy" in anew_0]};
`

// tidyHouse is a house whose files are written in many words; more files may stand in the place of these.
func tidyHouse(more ...string) impl.MillPlace {
	main := strings.Replace(tidyMain, "{NAMED}", "", 1)
	for _, s := range []string{"s/a", "s/b"} {
		main += "emit obj(\"" + s + "\") ;"
	}
	one := `fn main()->text{let cut_at=find(arg(),">");write cut(arg(),cut_at+(2-1),len(arg())),read(cut(arg(),0,cut_at))+("!"+"");say "o"+"ne";if false||(1==1&&has("s/a")){say dec(2*3);}return"done";}`
	join := `# joins
fn main ( ) -> text { let rest = arg() ; let all = "" ; while find(rest, ",") >= 0+0 { let i = find(rest, ",") ; all = all + read(cut(rest, 0, i)) ; rest = cut(rest, i + 1, len(rest)) ; } write "all.o" , (all + read(rest)) ; return list("s" + "/") ; }`
	return houseOf(append([]string{
		"main.clay", main,
		"lib/obj.clay", `let ext="."+"o";def obj(f)=let o=f+ext in{name:f,tool:"t/one",arg:f+">"+o,outs:[x for x in [o]]};`,
		"t/one", one, "t/join", join, "s/a", "A", "s/b", "B", "other.clay", "let  v=1+1;", "bad.clay", "let  v=w;", "t/other", join, "t/bad", "fn main()->text{return 1;}",
	}, more...)...)
}

// Promise 36 for houses written by hand: packages and tools written anew one at a time, by kinds and all, by each of the three.
func TestHouseWrittenAnew(t *testing.T) {
	t.Parallel()
	p := tidyHouse()
	wantEnds(t, p, `all 0 "s/a\ns/a.o\ns/b\ns/b.o\n" 6`, `copy 0 "done" 3`, `s/a 0 "done" 3`, `s/b 0 "done" 3`)
	counts := map[string]int{}
	wantAllWays(t, p, counts)
	// Of the ten files six are written anew by each of the three.
	if counts["written anew"] != 3*9 || counts["nothing"] != 3*4 || len(counts) != 2 {
		t.Errorf("%v", counts)
	}
	q := wantTidy(t, p, fileNames(p), impl.HouseRename)
	if got := impl.MillSee(q, 1, "main.clay").Text; !strings.Contains(got, "if let n = len(anew_1) in n > 1 + 1") || !strings.Contains(got, "[let anew_6 = \"copy\" in anew_6]") {
		t.Errorf("%s", got)
	}
	// With runs that end in each way, that wait, and with tools that are made, called, or no programs.
	for what, p := range map[string]impl.MillPlace{
		"codes":   houseWith([]string{"a ends p>q>0 > p q", "b ends r>1 > r", "c ends s>2 > s", "e ends u>4 > u", "bad ends bad>5 > bad", "f ends w>9 > w", "g get x>p < p q > x", "h get y>r > y", "i has z>s > z", "k list l>empt > l"}),
		"waits":   houseWith([]string{"a get 1>2 > 1", "b get 2>1 > 2", "c set 3>x > 3", "d get 4>src < 1 3 > 4", "e o > o", "f get 6>src < 3 > 6"}),
		"missing": houseWith([]string{"a gone > 1", "b get 2>src < gone > 2", "c src > 3", "d get 4>1 > 4", "e empty > 5", "f unfit > 6"}, "unfit", inMain(`return 1;`)),
		"made":    houseWith([]string{"a made x>src > x", "b gen > made", "c list y>get > y", "d has z>ends > z"}, "gen", houseWriter("made", houseGet, "gives")),
		"in":      houseWith([]string{"a get o>src < get > o"}),
		"calls":   houseWith([]string{"a tool o>inner > o", "b get p>src > p"}, "inner", inMain(`return arg()+("i"+"n");`)),
		"reads":   houseWith([]string{"a get o>has > o", "b has p>has > p", "c get q>lib.clay > q"}, "lib.clay", "let  a=1;"),
		"itself":  houseWith([]string{"a get o>get > o", "b set p>x > p"}),
		"spent":   houseWith([]string{"a ends o>3 > o", "b set p>x > p"}),
	} {
		t.Run(what, func(t *testing.T) {
			counts := map[string]int{}
			wantAllWays(t, p, counts)
			reads := slices.Contains([]string{"in", "calls", "reads", "itself"}, what)
			if (counts["read"] > 0) != reads || (counts["spent"] > 0) != (what == "spent") || (counts["written anew"] == 0) != (what == "spent") {
				t.Errorf("%v", counts)
			}
		})
	}
}

// What is seen where a run reads a file that was written anew: promise 36 does not speak of it.
func TestHouseWrittenAnewIsRead(t *testing.T) {
	p := houseWith([]string{"a get o>t > o", "b get p>lib.clay > p"}, "lib.clay", "let  a=1;", "t", "fn main()->text{return\"\";}")
	q := wantTidy(t, p, []string{"lib.clay", "t"}, impl.HousePrint)
	wantComes(t, q, "o", 0, "fn main() -> text {\n  return \"\";\n}\n!")
	wantComes(t, q, "p", 0, "let a = 1;\n!")
	// One that is called as a tool does the same.
	p = houseWith([]string{"a tool o>t > o"}, "t", "fn main()->text{return arg()+(\"1\"+\"2\");}")
	for _, how := range tidyWays {
		wantComes(t, wantTidy(t, p, []string{"t"}, how), "o", 0, "x12")
	}
}

// The plan stays with each of its codes; a package that is folded may do with fewer steps than it had.
func TestHouseWrittenAnewPlans(t *testing.T) {
	t.Parallel()
	emit := `emit{name:"n",tool:let t="t"+"" in t,outs:[o for o in ["o"+""]]};`
	burn := "let u=[BURN];let v=[BURN];let w=[BURN];"
	burn = strings.ReplaceAll(burn, "BURN", "let x=1 in let y=1 in let z=1 in x+y+z+1+1+1 for i in range(150)")
	for _, row := range []struct {
		what, main    string
		code, folding int
	}{
		{"orders", emit, 0, 0},
		{"no targets", "", 0, 0},
		{"a word", emit + "let v=1+let z=0 in 1/z;", 2, 2},
		{"a word of its own", emit + `let v=[fail("a"+x)for x in ["b"]];`, 2, 2},
		{"no package", `load"gone":x;` + emit, 2, 2},
		{"one that does not fit", `load"bad":x;` + emit, 2, 2},
		{"a cycle", `load"main":x;` + emit + "let x=let y=1 in y;", 2, 2},
		{"steps", burn + emit, 2, 0},
		{"no record", "emit let x=1 in x+1;", 2, 2},
		{"no target", "emit{v:let x=1 in x+1};", 3, 3},
		{"a name twice", emit + emit, 3, 3},
		{"an out that is a file", strings.ReplaceAll(emit, `["o"`, `["t"`), 4, 4},
		{"a name that is none", strings.ReplaceAll(emit, `"t"+""`, `"t"+" "`), 4, 4},
	} {
		p := houseOf("main.clay", row.main, "lib.clay", "let  x=1+1;", "bad.clay", "let  x=y;", "t", `fn main()->text{write"o","x"+"y";return"";}`)
		wantHouseCode(t, row.what, row.code, p, "main")
		wantAllWays(t, p, map[string]int{})
		for _, how := range tidyWays {
			q := wantTidy(t, p, fileNames(p), how)
			code := row.code
			if how == impl.HouseFold {
				code = row.folding
			}
			wantHouseCode(t, fmt.Sprint(row.what, " by ", how), code, q, "main")
		}
	}
}

// wordy is a file's text written in more words: with names inside, with what can be folded, and with other gaps.
func (a houseAuthor) wordy(t *testing.T, file impl.MillFile) string {
	text := file.Text
	if !housePackFile.MatchString(file.Name) {
		text = strings.ReplaceAll(text, "len(s) / 2", a.pick("len(s) / 2", "len(s) / (1 + 1)", "len(s) / (len(\"ab\") * 1)"))
		text = strings.ReplaceAll(text, `"!"`, a.pick(`"!"`, `("!" + "")`, `chr(33u8)`))
		text = strings.ReplaceAll(text, ") { ", a.pick(") { ", "){", ")  {  "))
		return strings.ReplaceAll(text, "; ", a.pick("; ", ";", " ;  ", " ; "))
	}
	author := &clayAuthor{clayDice: a.clayDice}
	parts := strings.Split(text, ", ins: ")
	for i := range parts[1:] {
		if a.below(3) > 0 {
			continue
		}
		parts[i] += a.pick(" + text("+author.e(a.pick("list", "record", "int"), 2)+")", " + cut(text("+author.e("bool", 2)+"), 0, 0)")
	}
	text = strings.Join(parts, ", ins: ")
	// Some names are those that are given anew.
	tree, fault := impl.ClayParse(text)
	if fault.Code != 0 {
		t.Fatalf("%q: %+v", text, fault)
	}
	other := map[string]string{}
	for _, name := range []string{"x", "b", "i"} {
		if a.below(4) == 0 {
			other[name] = fmt.Sprintf("anew_%d", a.below(4))
		}
	}
	for at, n := range tree.Nodes {
		name, is := other[n.Text]
		if is && n.Kind != impl.ClayNodeField && n.Kind != impl.ClayNodeDot {
			tree.Nodes[at].Text = name
		}
	}
	if written := impl.ClayPrint(tree); written != "" && impl.ClayCheck(tree).Code == 0 {
		text = written
	}
	text = strings.ReplaceAll(text, ", ", a.pick(", ", ",", " ,\n ", ", # a note\n"))
	return strings.ReplaceAll(text, "\n", a.pick("\n", " ", "\n\n", "\n# a note\n"))
}

// wordyHouse is a drawn house whose files are written in more words.
func (a houseAuthor) wordyHouse(t *testing.T) impl.MillPlace {
	for {
		p := a.house()
		for at, file := range p.Files {
			p.Files[at].Text = a.wordy(t, file)
		}
		if impl.MillValidPlace(p) {
			return p
		}
	}
}

// some are some of the names, in any order.
func (a houseAuthor) some(names []string) []string {
	var some []string
	for range 1 + a.below(4) {
		some = append(some, a.pick(names...))
	}
	return some
}

// Promise 36 for drawn houses.
func TestHouseWrittenAnewDrawn(t *testing.T) {
	t.Parallel()
	dice := clayDice(2401)
	a := houseAuthor{&dice}
	counts := map[string]int{}
	for range 500 {
		p := a.wordyHouse(t)
		h := houseFactsOf(p)
		if h.orders.Code != 0 && a.below(4) > 0 {
			continue
		}
		all := fileNames(p)
		counts[fmt.Sprint("plan ", h.orders.Code)]++
		for _, how := range tidyWays {
			for what, names := range map[string][]string{"packages": packNames(p), "all": all, "some": a.some(all), "one": {a.pick(all...)}} {
				met := wantWrittenAnew(t, h, names, how)
				counts[met]++
				counts[fmt.Sprint(what, " ", met)]++
				if met == "written anew" {
					counts[fmt.Sprint(met, " by ", how)]++
				}
			}
		}
		for _, made := range h.made {
			counts[fmt.Sprint("over ", made.Over, " code ", made.Code)]++
		}
		if t.Failed() {
			return
		}
	}
	for _, what := range []string{"plan 0", "plan 2", "no plan", "no plan folded", "read", "spent", "all written anew", "some written anew", "one written anew", "packages written anew", "written anew by 1", "written anew by 2", "written anew by 3", "over true code 0", "over true code 1", "over true code 2", "over true code 4", "over true code 5", "over false code 0"} {
		if counts[what] < 20 {
			t.Errorf("%s: %v", what, counts)
		}
	}
}

// Packages of any kinds of nodes, whose names are often those that are given anew, against the second reading; run, they come to the same.
func TestHouseTidyAnyPackages(t *testing.T) {
	t.Parallel()
	dice := clayDice(2402)
	lib := "let a = 1; def b(x, y = x) = [x, y]; let c = fn(f) => f; let x = \"x\"; let z9_ = [1]; let iff = {a: 1};"
	counts := map[string]int{}
	for i := range 1500 {
		nodes := dice.fitting(t, dice.constants(dice.file(1+dice.below(4), i%6).nodes()))
		if t.Failed() {
			return
		}
		swaps := map[string]string{"b": fmt.Sprint("anew_", dice.below(3)), "z9_": fmt.Sprint("anew_", 3+dice.below(3))}
		for at, n := range nodes {
			if name, is := swaps[n.Text]; is {
				nodes[at].Text = name
			}
		}
		b, _, _ := clayBushOf(nodes)
		text := b.text(func() int { return max(0, dice.below(5)-2) })
		if len(nodes) > 300 || len(text) > 3000 {
			continue
		}
		text = strings.ReplaceAll(text, ", ", dice.pick(", ", ",", ",  "))
		p := houseOf("a/b.clay", lib, "main.clay", text, "p.clay", lib, "x-1.y_.clay", lib)
		before := impl.ClayRun(impl.HouseClays(p), "main")
		for _, how := range tidyWays {
			q := wantTidy(t, p, []string{"main.clay"}, how)
			if isSameMillPlace(p, q) {
				continue
			}
			counts[fmt.Sprint("anew by ", how)]++
			if got := impl.MillSee(q, 1, "main.clay").Text; how == 3 && got != impl.MillSee(wantTidy(t, p, []string{"main.clay"}, 1), 1, "main.clay").Text {
				counts["renamed"]++
			}
			after := impl.ClayRun(impl.HouseClays(q), "main")
			if how == impl.HouseFold && after.Steps <= before.Steps {
				after.Steps = before.Steps
			}
			if !isSameOutcome(before, after) && (how != impl.HouseFold || before.Word != "steps") {
				t.Errorf("%q by %d: %s, was %s", text, how, clayShown(after), clayShown(before))
			}
		}
		if t.Failed() {
			return
		}
	}
	for _, what := range []string{"anew by 1", "anew by 2", "anew by 3", "renamed"} {
		if counts[what] < 400 {
			t.Errorf("%s: %v", what, counts)
		}
	}
}

// Promise 36 for houses whose programs are drawn, with other gaps and needless brackets.
func TestHouseTidyDrawnPrograms(t *testing.T) {
	t.Parallel()
	dice := clayDice(2403)
	m := &millMaker{clayDice: &dice}
	texts := m.millTextsFor(300)
	counts := map[string]int{}
	for i := range 400 {
		p := m.drawnHouse(i, texts)
		for at, file := range p.Files {
			tree, fault := impl.MillParse(file.Text)
			if fault.Code != 0 || dice.below(3) == 0 {
				continue
			}
			b, _, _ := millBushOf(tree.Nodes)
			if text := b.text(func() int { return max(0, dice.below(5)-2) }); len(text) <= 3000 {
				p.Files[at].Text = text
			}
		}
		h, all := houseFactsOf(p), fileNames(p)
		for _, how := range tidyWays {
			counts[wantWrittenAnew(t, h, all, how)]++
			counts[wantWrittenAnew(t, h, []string{dice.pick(all...), dice.pick(all...)}, how)]++
		}
		if t.Failed() {
			return
		}
	}
	for _, what := range []string{"written anew", "read", "spent"} {
		if counts[what] < 20 {
			t.Errorf("%s: %v", what, counts)
		}
	}
}

// isElsewhere says whether promise 37 speaks of a file that is set in a house, which has become another place then.
func (h houseFacts) isElsewhere(name string, q impl.MillPlace) bool {
	if found := housePackFile.FindStringSubmatch(name); found != nil && slices.Contains(h.outcome.Read, found[1]) || len(packNames(q)) > impl.ClayMaxFiles {
		return false
	}
	begins := func(with string) bool { return strings.HasPrefix(name, with) }
	if slices.ContainsFunc(h.outcome.Asked, begins) || slices.Contains(outsOf(impl.ClayTargets(h.outcome.Told).Targets), name) {
		return false
	}
	for _, made := range h.made {
		for _, one := range made.Seen {
			if one.Kind == impl.MillLookList && begins(one.Name) || one.Kind != impl.MillLookList && one.Name == name {
				return false
			}
		}
	}
	return true
}

// wantElsewhere asks for promise 37 of a file, if it speaks of it, and tells what it met with.
func wantElsewhere(t *testing.T, h houseFacts, file impl.MillFile) string {
	t.Helper()
	q, code := impl.MillLay(h.MillPlace, []impl.MillFile{file})
	if code != 0 {
		return "no room"
	}
	orders, made := impl.HousePlan(q, "main"), impl.HouseMeaning(q, "main")
	same := isSameOrders(h.orders, orders) && slices.EqualFunc(h.made, made, isSameMade)
	switch {
	case !h.isElsewhere(file.Name, q) && same:
		return "looked at"
	case !h.isElsewhere(file.Name, q):
		return "seen"
	case !same:
		t.Errorf("%.200q in %s: %+v, %s, was %+v, %s", file, millPlaceShown(h.MillPlace), orders, madeShown(made), h.orders, madeShown(h.made))
	}
	if built := impl.HouseBuild(q, "main", h.shelf, h.outs); len(built.Ran) != 0 {
		t.Errorf("%.200q in %s: %q were run", file, millPlaceShown(h.MillPlace), built.Ran)
	}
	if len(q.Files) == len(h.Files) {
		return "changed elsewhere"
	}
	return "set elsewhere"
}

// Promise 37 for a house written by hand, and files that are not elsewhere, each of which is seen.
func TestHouseElsewhere(t *testing.T) {
	t.Parallel()
	main := `load "lib": x; let f = files("doc/") + files("n."); emit {name: "f", tool: "set", arg: "f>" + join(f, x), outs: ["f"]};` +
		emitsOf("a get 1>src > 1", "b has 2>maybe > 2", "c list 3>dir/ > 3", "d tool 4>inner > 4", "e get 5>empty < in1 > 5", "g get 6>gone > 6", "h get 7>src < no > 7", "k get 8>maybe/not < 1 > 8", "l get 9>9 > 9", "m notool > m")
	files := []string{"main.clay", main, "lib.clay", `let x = ",";`, "other.clay", "let  a=1;", "broken.clay", "let", "inner", inMain(`return "in" + list("deep/er");`), "in1", "I", "doc/1", "", "dir/1", "", "deep/1", "", "n", "", "unused", inMain(`return read("src");`)}
	p := houseWith(nil, files...)
	wantEnds(t, p, `a 0 "got" 2`, `b 0 "asked" 2`, `c 0 "listed" 2`, `d 0 "called" 3`, `e 0 "got" 3`, `f 0 "set" 1`, `g 4 "gone" 2`, `h 4 "no" 1`, `k 4 "maybe/not" 3`, "l waits 9 1", `m 4 "notool" 1`)
	h := houseFactsOf(p)
	for what, names := range map[string]string{
		"set elsewhere":     "zz new new.clay lib2.clay li.clay doc dir dir.clay do di de deep/e deep maybe2 mayb src2 sr ina in 10 0 nn n- n-1 gone.clay a e f/ LIB.clay lib.cla lib.clay. main xmain.clay maybe/no no/ gones",
		"changed elsewhere": "other.clay broken.clay deep/1 n unused ends",
		"seen":              "gone no maybe maybe/not dir/2 dir/ doc/2 n.x n. deep/er deep/er/x 1 5 9 f m notool",
	} {
		for _, name := range strings.Fields(names) {
			for _, text := range []string{"", "let", "let x = 2;", main, inMain(`return "";`)} {
				if met := wantElsewhere(t, h, impl.MillFile{Name: name, Text: text}); met != what {
					t.Errorf("%s with %.30q: %s, want %s", name, text, met, what)
				}
			}
		}
	}
	// Files that are looked at, with another text and with their own.
	for _, name := range strings.Fields("main.clay lib.clay src inner in1 empty get has list tool set") {
		own := impl.MillSee(p, impl.MillLookRead, name).Text
		for text, want := range map[string]string{own: "looked at", "let x = 2;": "seen"} {
			if met := wantElsewhere(t, h, impl.MillFile{Name: name, Text: text}); met != want {
				t.Errorf("%s with %.30q: %s, want %s", name, text, met, want)
			}
		}
	}
	// By has and by list a text is not looked at.
	for _, name := range strings.Fields("doc/1 dir/1") {
		if met := wantElsewhere(t, h, impl.MillFile{Name: name, Text: "other"}); met != "looked at" {
			t.Errorf("%s: %s", name, met)
		}
	}
	// Room: as many files as there may be, and as many packages.
	full := p
	for i := len(p.Files); i < impl.MillMaxFiles-1; i++ {
		full = placeWith(t, full, fmt.Sprintf("zz%02d", i), "")
	}
	packed := p
	for i := 4; i < impl.ClayMaxFiles-1; i++ {
		packed = placeWith(t, packed, fmt.Sprintf("zz%02d.clay", i), "")
	}
	for what, row := range map[string]struct {
		p    impl.MillPlace
		name string
		want string
	}{
		"one more": {full, "zzz", "set elsewhere"}, "no room": {placeWith(t, full, "zzy", ""), "zzz", "no room"}, "no room but for itself": {placeWith(t, full, "zzy", ""), "zzy", "changed elsewhere"},
		"one more package": {packed, "zzz.clay", "set elsewhere"}, "too many packages": {placeWith(t, packed, "zzy.clay", ""), "zzz.clay", "seen"}, "no more packages": {placeWith(t, packed, "zzy.clay", ""), "zzz", "set elsewhere"}, "another package": {placeWith(t, packed, "zzy.clay", ""), "zzy.clay", "changed elsewhere"},
	} {
		if met := wantElsewhere(t, houseFactsOf(row.p), impl.MillFile{Name: row.name, Text: "let"}); met != row.want {
			t.Errorf("%s: %s, want %s", what, met, row.want)
		}
	}
}

// Promise 37 where there is no plan: the code stays.
func TestHouseElsewhereNoPlan(t *testing.T) {
	for _, row := range []struct {
		what, main string
		code       int
		seen       string
	}{
		{"not there", `load "gone": x;`, 2, "gone.clay"},
		{"a word", `let f = files("d/"); let v = f[0] + 1;`, 2, ""},
		{"no text", "let", 2, ""},
		{"no targets", `emit {n: files("d/")};`, 3, ""},
		{"not enough", `let v = files("d/")[1];` + emitsOf("n set o>x > o"), 2, "d/2"},
		{"an out that is a file", emitsOf("n set o>x > src"), 4, ""},
	} {
		p := houseWith(nil, "main.clay", row.main, "d/1", "")
		wantHouseCode(t, row.what, row.code, p, "main")
		h := houseFactsOf(p)
		for _, name := range []string{"zz", "zz.clay", "empty", "get"} {
			for _, text := range []string{"", "let", "let x = 1;"} {
				if met := wantElsewhere(t, h, impl.MillFile{Name: name, Text: text}); !strings.HasSuffix(met, "elsewhere") {
					t.Errorf("%s: %s with %q: %s", row.what, name, text, met)
				}
			}
		}
		if row.seen != "" {
			if met := wantElsewhere(t, h, impl.MillFile{Name: row.seen, Text: "let x = 1;"}); met != "seen" {
				t.Errorf("%s: %s: %s", row.what, row.seen, met)
			}
		}
	}
}

// Promise 37 for drawn houses.
func TestHouseElsewhereDrawn(t *testing.T) {
	t.Parallel()
	dice := clayDice(2404)
	a := houseAuthor{&dice}
	counts := map[string]int{}
	for i := range 400 {
		p := a.house()
		if i%3 == 0 {
			p = a.wordyHouse(t)
		}
		h := houseFactsOf(p)
		for range 8 {
			name := a.pick(append(houseNames, "t3", "t4", "gen", "l/g", "z", "o", "main.clay", "lib/b.clay", "b-c.clay", "q.clay", "a", "ab")...)
			text := a.pick("", "x", "let", "let b = 1;\n", "let c = 2;", a.program())
			counts[wantElsewhere(t, h, impl.MillFile{Name: name, Text: text})]++
		}
		if t.Failed() {
			return
		}
	}
	for _, what := range []string{"set elsewhere", "changed elsewhere", "looked at", "seen"} {
		if counts[what] < 60 {
			t.Errorf("%s: %v", what, counts)
		}
	}
}

// No argument is changed, nor what lies behind its lists; answers are new memory, and no two parts of one share any.
func TestHouseTidyOwnMemory(t *testing.T) {
	dice := clayDice(2405)
	a := houseAuthor{&dice}
	one := "let a = [let x = a in x, \"a text\"];\n"
	places := []impl.MillPlace{
		tidyHouse(),
		houseOf("a.clay", one, "b.clay", one, "c", one, "d", inMain(`return "one";`), "e", "", "f.clay", ""),
		placeOf("b", "1", "a", "2"),
		{},
	}
	for range 20 {
		places = append(places, a.wordyHouse(t))
	}
	pieces := 0
	for _, p := range places {
		roomy, seen := roomyOf(p)
		names, seenNames := roomyOf(append(fileNames(p), "gone", "gone"))
		before := seen() + seenNames()
		for _, how := range append([]int{0, 4}, tidyWays...) {
			for _, some := range [][]string{names, names[:0], names[:1]} {
				tidy := impl.HouseTidy(roomy, some, how)
				wantNewMemory(t, tidy, roomy, names)
				pieces += len(memoryOf(reflect.ValueOf(tidy), "", nil))
				if seen()+seenNames() != before {
					t.Errorf("%s: changed", millPlaceShown(p))
				}
				// What is done to an answer does not come back.
				for i := range tidy.Files {
					tidy.Files[i] = impl.MillFile{Name: "other"}
				}
				wantTidy(t, roomy, some, how)
			}
		}
	}
	if pieces < 2000 {
		t.Errorf("only %d pieces of memory", pieces)
	}
}

// Many at once: nothing is kept between calls.
func TestHouseTidyKeepsNothing(t *testing.T) {
	var all []func() string
	for n := range 8 {
		p := houseOf("p.clay", fmt.Sprintf("let v=let x%d=v in x%d;", n, n), "t", fmt.Sprintf("fn main()->text{return dec(%d+1);}", n))
		want := []string{
			fmt.Sprintf("let v = let x%d = v in x%d;\n", n, n), fmt.Sprintf("fn main() -> text {\n  return dec(%d + 1);\n}\n", n),
			fmt.Sprintf("let v = let x%d = v in x%d;\n", n, n), fmt.Sprintf("fn main() -> text {\n  return \"%d\";\n}\n", n+1),
			"let v = let anew_0 = v in anew_0;\n", fmt.Sprintf("fn main() -> text {\n  return dec(%d + 1);\n}\n", n),
		}
		all = append(all, func() string {
			for i, how := range tidyWays {
				if q := impl.HouseTidy(p, []string{"t", "p.clay"}, how); q.Files[0].Text != want[2*i] || q.Files[1].Text != want[2*i+1] {
					return millPlaceShown(q)
				}
			}
			return ""
		})
	}
	wantAtOnce(t, all)
}

func FuzzHouseTidy(f *testing.F) {
	f.Add("let v=[let x=v in x+(1+1)for y in v];", `fn main()->text{write"o","a"+"b";return arg();}`, "t", 3)
	f.Add(`emit{name:"n",tool:"t",outs:[let anew_0="o" in anew_0]};`, `fn main()->text{write"o",dec(1+2);return"";}`, "main.clay", 2)
	f.Add("let v = w;", "let v = 1;", "lib.clay", 1)
	f.Fuzz(func(t *testing.T, main, text, name string, how int) {
		for _, src := range []string{main, text} {
			mill, _ := impl.MillParse(src)
			clay, _ := impl.ClayParse(src)
			if len(mill.Nodes) > 300 || len(clay.Nodes) > 300 || len(src) > 3000 {
				return
			}
		}
		for _, p := range []impl.MillPlace{placeOf("main.clay", main, "t", text), placeOf("main.clay", main, name, text), placeOf(name, text, "main.clay", main)} {
			wantTidy(t, p, []string{"main.clay", name}, how)
			if impl.MillValidPlace(p) {
				h := houseFactsOf(p)
				wantWrittenAnew(t, h, []string{"main.clay", name}, 1+(how&0xff)%3)
				wantElsewhere(t, h, impl.MillFile{Name: "lib.clay", Text: text})
			}
		}
	})
}
