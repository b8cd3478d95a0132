package tests

import (
	"slices"
	"strconv"
	"strings"
	"testing"

	"loop.example/kilnyard/impl"
)

// clayFoldByRules folds a tree that fits as the document says it, word by word. Each NodeLet, and each NodeName that it binds, is given
// a number first, so that no name has to be looked for.
func clayFoldByRules(nodes []impl.ClayNode) []impl.ClayNode {
	marked := slices.Clone(nodes)
	for at, maker := range clayFamilyOf(nodes).binds() {
		if nodes[at].Kind == impl.ClayNodeLet {
			marked[at].N = int64(at) + 1
		}
		if maker >= 0 {
			marked[at].N = int64(maker) + 1
		}
	}
	file, _, _ := clayBushOf(marked)
	made := file.folded().nodes()
	for at, n := range made {
		if n.Kind == impl.ClayNodeLet || n.Kind == impl.ClayNodeName {
			made[at].N = 0
		}
	}
	return made
}

func (b clayBush) isConstant() bool { return b.top.Kind <= impl.ClayNodeText }

// folded makes a node anew when its kids have been made.
func (b clayBush) folded() clayBush {
	made := clayGrow(b.top)
	constants := true
	for _, kid := range b.kids {
		kid = kid.folded()
		made = clayGrow(b.top, append(made.kids, kid)...)
		constants = constants && kid.isConstant()
	}
	switch made.top.Kind {
	case impl.ClayNodeUn:
		if constants {
			v, _ := made.kids[0].means()
			return made.orConstant(clayUnByRules(made.top.Op, v))
		}
	case impl.ClayNodeBin:
		first := made.kids[0].top
		if first.Kind == impl.ClayNodeBool && (made.top.Op == impl.ClayOpOr && first.N == 1 || made.top.Op == impl.ClayOpAnd && first.N == 0) {
			return made.kids[0]
		}
		if constants {
			v, _ := made.kids[0].means()
			w, _ := made.kids[1].means()
			return made.orConstant(clayOpByRules(made.top.Op, v, w))
		}
	case impl.ClayNodeIf:
		if first := made.kids[0].top; first.Kind == impl.ClayNodeBool {
			return made.kids[2-first.N]
		}
	case impl.ClayNodeLet:
		if made.kids[0].isConstant() {
			return made.kids[1].given(made.top.N, made.kids[0]).folded()
		}
	}
	return made
}

// orConstant is the constant with the value that came of an op, or the bush itself if there is none.
func (b clayBush) orConstant(v any, word string) clayBush {
	if word != "" {
		return b
	}
	atoms := clayAtomsOf(v)
	// The kinds of these atoms have the numbers of the nodes that mean them.
	if atom := atoms[0]; len(atoms) == 1 && atom.Kind <= impl.ClayAtomText && (atom.Kind != impl.ClayAtomInt || atom.N >= 0) {
		return clayGrow(impl.ClayNode{Kind: atom.Kind, N: atom.N, Text: atom.Text})
	}
	return b
}

// given is the bush with a constant in the place of the names with a number.
func (b clayBush) given(number int64, constant clayBush) clayBush {
	if b.top.Kind == impl.ClayNodeName && b.top.N == number {
		return constant
	}
	made := clayGrow(b.top)
	for _, kid := range b.kids {
		made = clayGrow(b.top, append(made.kids, kid.given(number, constant))...)
	}
	return made
}

// wantFolded folds a tree that fits, and holds it against the second reading, and against what holds for all that is folded.
func wantFolded(t *testing.T, tree impl.ClayTree) impl.ClayTree {
	t.Helper()
	kept := slices.Clone(tree.Nodes)
	got := impl.ClayFold(tree)
	if want := clayFoldByRules(kept); !slices.Equal(got.Nodes, want) {
		t.Errorf("%.1000q: got %.1000q, want %.1000q", impl.ClayPrint(tree), impl.ClayPrint(got), impl.ClayPrint(impl.ClayTree{Nodes: want}))
	}
	if !slices.Equal(tree.Nodes, kept) {
		t.Errorf("%.1000q: the argument was changed", impl.ClayPrint(tree))
	}
	if fault := impl.ClayCheck(got); fault.Code != 0 || len(got.Nodes) > len(tree.Nodes) {
		t.Errorf("%.1000q: folded to %d nodes from %d, %+v", impl.ClayPrint(tree), len(got.Nodes), len(tree.Nodes), fault)
	}
	if again := impl.ClayFold(got); !slices.Equal(again.Nodes, got.Nodes) {
		t.Errorf("%.1000q: folded again: %.1000q", impl.ClayPrint(got), impl.ClayPrint(again))
	}
	return got
}

// clayKeeper is how a package is written anew, the empty text if it can't be, and whether the steps stay.
type clayKeeper struct {
	what  string
	write func(tree impl.ClayTree) string
	same  bool
}

var clayKeepers = []clayKeeper{
	{"printed", impl.ClayPrint, true},
	{"folded", func(tree impl.ClayTree) string { return impl.ClayPrint(impl.ClayFold(tree)) }, false},
}

// keep is a world with one of its packages, or with all of them if at is below 0, written anew.
func (k clayKeeper) keep(w impl.ClayWorld, at int) impl.ClayWorld {
	kept := impl.ClayWorld{Files: slices.Clone(w.Files), Names: w.Names}
	for i, file := range w.Files {
		tree, fault := impl.ClayParse(file.Text)
		if fault.Code != 0 || at >= 0 && at != i {
			continue
		}
		if text := k.write(tree); text != "" || len(tree.Nodes) == 1 {
			kept.Files[i].Text = text
		}
	}
	return kept
}

// wantKept holds promise 9: packages are written anew, one at a time and all at once. It gives the outcome, and that of all of them folded.
func wantKept(t *testing.T, w impl.ClayWorld, name string) (plain, folded impl.ClayOutcome) {
	t.Helper()
	plain = impl.ClayRun(w, name)
	for _, keeper := range clayKeepers {
		for at := -1; at < len(w.Files); at++ {
			kept := keeper.keep(w, at)
			got := impl.ClayRun(kept, name)
			if at < 0 && !keeper.same {
				folded = got
			}
			want := plain
			if !keeper.same && plain.Word == "steps" {
				continue
			}
			if !keeper.same && got.Steps <= plain.Steps {
				want.Steps = got.Steps
			}
			if !isSameOutcome(got, want) {
				t.Errorf("%.2000q\n%s: %.2000q\ncame to %.1000v\nwant %.1000v", w.Files, keeper.what, kept.Files, got, plain)
			}
		}
	}
	return plain, folded
}

const clayFoldBefore = "load \"lib\": l, k; def f(a = 1, b = 2) = a; let g = 1; let v = "

// wantFolds holds each E, in a statement, against what it is folded to; the empty text stands for the E itself.
func wantFolds(t *testing.T, pairs ...string) {
	t.Helper()
	for i := 0; i+1 < len(pairs); i += 2 {
		wantFoldsTo(t, pairs[i], pairs[i+1])
	}
}

func wantFoldsTo(t *testing.T, e, want string) {
	t.Helper()
	if want == "" {
		want = e
	}
	src := clayFoldBefore + e + ";"
	tree, wanted := clayRead(t, src), clayRead(t, clayFoldBefore+want+";")
	if fault := impl.ClayCheck(tree); fault.Code != 0 {
		t.Fatalf("%s: %+v", e, fault)
	}
	if got := wantFolded(t, tree); !slices.Equal(got.Nodes, wanted.Nodes) {
		t.Errorf("%.500s: folded to %.500q, want %.500s", e, impl.ClayPrint(got), want)
	}
	wantKept(t, clayWorldOf("a ab b", "lib", "let k = [true, 2]; def l(x) = x;", "m", src+"emit {v: v};"), "m")
}

// clayConstants are the forms of constants of each kind.
func clayConstants() []string {
	forms := []string{"none", "false", "true", "0", "1", "2", "7", "9223372036854775806", "9223372036854775807", "3037000500"}
	for _, text := range []string{"", "a", "ab", "b", "\n\xff", strings.Repeat("x", 500), strings.Repeat("x", 501), strings.Repeat("y", 1000)} {
		forms = append(forms, clayQuoted(text))
	}
	return forms
}

// Each op over each two constants gives a constant or stays, as Op says.
func TestClayFoldOpsOfEachTwo(t *testing.T) {
	t.Parallel()
	words := map[string]int{}
	folds, below := 0, 0
	for _, first := range clayConstants() {
		a, _ := impl.ClayReadValue(first)
		for op := impl.ClayOpOr; op <= impl.ClayOpRem; op++ {
			for _, second := range clayConstants() {
				b, _ := impl.ClayReadValue(second)
				e := first + " " + clayOpTexts[op] + " " + second
				got, word := impl.ClayOp(op, a, b)
				form := impl.ClayFormValue(got)
				switch {
				case op == impl.ClayOpOr && first == "true" || op == impl.ClayOpAnd && first == "false":
					wantFoldsTo(t, e, first)
				case word == "" && !strings.HasPrefix(form, "-"):
					wantFoldsTo(t, e, form)
					folds++
				default:
					wantFoldsTo(t, e, e)
					below += 1 - min(len(word), 1)
				}
				words[word]++
			}
		}
		if t.Failed() {
			return
		}
	}
	for _, word := range []string{"", "type", "range", "divide", "large"} {
		if words[word] < 5 {
			t.Errorf("the word %q came %d times", word, words[word])
		}
	}
	if folds < 500 || below < 10 {
		t.Errorf("%d folds, %d numbers below 0", folds, below)
	}
}

func TestClayFoldOpsOfOne(t *testing.T) {
	for _, form := range clayConstants() {
		not, neg := "not "+form, "-"+form
		switch form {
		case "false":
			wantFolds(t, not, "true", neg, "")
		case "true":
			wantFolds(t, not, "false", neg, "")
		case "0":
			wantFolds(t, not, "", neg, "0")
		default:
			wantFolds(t, not, "", neg, "")
		}
	}
	wantFolds(t,
		"not not true", "true", "not 1 == 1", "false", "not (1 < 2 and \"a\" < \"b\")", "false", "not not 1", "", "not g", "", "not f()", "", "not []", "", "not none", "",
		"-(1 - 1)", "0", "-(1 - 2)", "", "--1", "", "--0", "0", "---1", "", "-g", "", "-f()", "", "-(2 + 3)", "-5", "-[]", "", "-{}", "", "-\"1\"", "", "-(9223372036854775807)", "",
	)
}

// What comes out below 0 stays, and so does what is made of it, as it is no constant.
func TestClayFoldNumbersBelow0(t *testing.T) {
	wantFolds(t,
		"1 - 2", "", "0 - 0", "0", "5 - 5", "0", "1 - 2 + 3", "", "(1 - 2) * (1 - 2)", "", "-1 * -1", "", "-1 + 1", "", "3 + (1 - 2)", "", "3 + -1", "", "-1 < 0", "", "-1 == -1", "", "-1 == 1", "", "0 > -1", "",
		"-7 / 2", "", "7 / -2", "", "7 / 2", "3", "7 % 2", "1", "-7 % 2", "", "7 % -2", "", "0 / 5", "0", "0 % 5", "0", "0 / 0", "", "5 % 0", "", "-0 / 1", "0",
		"0 * 9223372036854775807", "0", "9223372036854775807 + 0", "9223372036854775807", "9223372036854775807 + 1", "", "9223372036854775807 + 1 - 1", "", "9223372036854775807 - 1 + 1", "9223372036854775807", "0 - 9223372036854775807", "", "-9223372036854775807 - 1", "", "3037000499 * 3037000500", "9223372033963249500", "3037000500 * 3037000500", "", "4611686018427387904 * 2", "", "4611686018427387904 + 4611686018427387903", "9223372036854775807",
		"let x = 1 - 2 in x", "", "let x = -1 in x + x", "", "if -1 < 0 then 1 else 2", "", "2 - 1 - 2", "1 - 2", "2 - (1 - 2)", "", "1 + 2 - 4 + 5", "3 - 4 + 5",
	)
}

// OpOr and OpAnd look at the first kid alone, and at the second only if it is a bool.
func TestClayFoldOrAndAnd(t *testing.T) {
	for _, e := range []string{"f()", "g", "g == 1", "1", "none", "\"a\"", "[]", "{}", "[1][2]", "1 / 0", "fail(\"w\")", "files(\"a\")", "fn() => 1", "len", "v", "1 - 2", "f", "{}.a", "let y = g in y", "if g == 1 then 1 else 2", "[y for y in 1]"} {
		wantFolds(t,
			"true or ("+e+")", "true", "false and ("+e+")", "false", "false or ("+e+")", "", "true and ("+e+")", "",
			"("+e+") or true", "", "("+e+") or false", "", "("+e+") and true", "", "("+e+") and false", "",
			"1 == 1 or ("+e+")", "true", "not true and ("+e+")", "false", "(true or ("+e+")) and false", "false", "false or true and ("+e+")", "false or true and ("+e+")",
			"let x = true in x or ("+e+")", "true", "let x = false in x and ("+e+")", "false", "let x = 1 in x or ("+e+")", "1 or ("+e+")", "let x = \"true\" in x and ("+e+")", "\"true\" and ("+e+")", "none or ("+e+")", "", "0 and ("+e+")", "",
		)
	}
	wantFolds(t,
		"true or true", "true", "true or false", "true", "false or true", "true", "false or false", "false", "true and true", "true", "true and false", "false", "false and true", "false", "false and false", "false",
		"g == 1 or true or f()", "", "g == 1 or (true or f())", "g == 1 or true", "false or (true and false)", "false", "false or 1 < 2", "true", "true and not false", "true", "false or (let x = true in x)", "true", "true and (if 1 < 2 then false else g)", "false", "f() and false", "", "true and 1", "", "false or none", "", "1 or true", "", "none and false", "", "\"\" or false", "",
	)
}

func TestClayFoldIf(t *testing.T) {
	wantFolds(t,
		"if true then f() else g", "f()", "if false then f() else g", "g", "if true then 1 else 1 / 0", "1", "if false then 1 / 0 else 2", "2", "if 1 then 2 else 3", "", "if 0 then 2 else 3", "", "if none then 2 else 3", "", "if \"true\" then 2 else 3", "", "if -1 then 2 else 3", "",
		"if g == 1 then 1 + 1 else 2 * 2", "if g == 1 then 2 else 4", "if [] then 1 else 2", "", "if f() then true else false", "", "if len then 1 else 2", "", "if g == 1 then g else g", "", "if g == 1 then true else true", "",
		"if 1 == 1 then f() else 2", "f()", "if not true then f() else 2", "2", "if 1 < 2 and 2 < 3 then 1 else g", "1", "if true or g then 1 else 2", "1", "if false and g then 1 else 2", "2", "if false or g == 1 then 1 else 2", "", "if if true then false else true then 1 else 2", "2", "if let x = true in x then f() else g", "f()", "if 1 + 1 then 1 else 2", "if 2 then 1 else 2", "if 1 / 0 == 0 then 1 else 2", "", "if 1 - 2 then 1 else 2", "",
		"if true then if false then 1 else f() else 2", "f()", "if true then fn(x) => x else 1", "fn(x) => x", "(if true then f else g)(1)", "f(1)", "(if false then f else len)(\"a\")", "len(\"a\")", "(if true then 1 else 2) + 3", "4", "(if true then {a: 1} else g).a", "{a: 1}.a", "(if false then 1 else [1, 2])[1]", "[1, 2][1]", "[if true then 1 else 2, if false then g else v]", "[1, v]", "(if true then 1 else 2)()", "1()",
		"if true then let x = g in x + 1 else 2", "let x = g in x + 1",
	)
}

// A NodeLet is left out if what it names is a constant, or comes to be one.
func TestClayFoldLet(t *testing.T) {
	for _, form := range clayConstants() {
		wantFolds(t, "let x = "+form+" in x", form, "let x = "+form+" in [x, g, x]", "["+form+", g, "+form+"]", "let x = "+form+" in f()", "f()", "let x = "+form+" in fn(a) => [a, x]", "fn(a) => [a, "+form+"]")
	}
	wantFolds(t,
		"let x = 1 in 2", "2", "let x = 1 in g", "g", "let x = 1 in x", "1", "let x = 1 in x + x", "2", "let x = 1 in x + x + f(x)", "2 + f(1)", "let x = 1 + 1 in x * x + f(x)", "4 + f(2)", "let x = not false in if x then g else f", "g", "let x = \"a\" + \"b\" in x", "\"ab\"", "let x = if true then 1 else 2 in x", "1", "let x = let y = 1 in y in x", "1", "let x = (let y = true in y and false) in x or g", "false or g", "let x = true or f() in x", "true",
		"let x = g in x", "", "let x = f() in x + 1 + 2", "", "let x = f() in 1 + 2", "let x = f() in 3", "let x = [] in x", "", "let x = [1 + 1] in x", "let x = [2] in x", "let x = {} in 1", "", "let x = -1 in x", "", "let x = -0 in x", "0", "let x = 1 / 0 in 1", "", "let x = fn() => 1 in x()", "", "let x = len in x(\"a\")", "", "let x = fail in 1", "", "let x = 1 or 2 in x", "", "let x = if g == 1 then 1 else 1 in x", "", "let x = [1][0] in x", "", "let x = {a: 1}.a in x", "", "let x = (fn() => 1)() in x", "",
		// In all kinds of nodes.
		"let x = 2 in not x", "not 2", "let x = 2 in -x", "-2", "let x = 0 in -x", "0", "let x = 2 in x < g", "2 < g", "let x = 2 in g < x", "g < 2", "let x = 2 in [1, x, [x]]", "[1, 2, [2]]", "let x = 2 in {a: x, b: {c: x}}", "{a: 2, b: {c: 2}}", "let x = 2 in g[x]", "g[2]", "let x = 2 in x[g]", "2[g]", "let x = \"ab\" in x[0]", "\"ab\"[0]", "let x = 2 in x.x", "2.x", "let x = 2 in f(x, b = x)", "f(2, b = 2)", "let x = 2 in x()", "2()", "let x = 2 in x(x, b = x)", "2(2, b = 2)", "let x = none in (if g == 1 then x else f)()", "(if g == 1 then none else f)()", "let x = 2 in if x then x else x", "if 2 then 2 else 2", "let x = 2 in if g == x then x else x + 1", "if g == 2 then 2 else 3", "let x = 2 in let y = x in y", "2", "let x = 2 in let y = g in x + y", "let y = g in 2 + y", "let x = 2 in let y = [x] in y", "let y = [2] in y", "let x = 2 in fn() => x", "fn() => 2", "let x = 2 in fn(y, z = x) => [x, y, z]", "fn(y, z = 2) => [2, y, z]", "let x = 3 in [x + y for y in [x] if x < y]", "[3 + y for y in [3] if 3 < y]", "let x = 3 in [y for y in x]", "[y for y in 3]", "let x = true in [y for y in [] if x]", "[y for y in [] if true]",
		// What only looks the same.
		"let x = 1 in {x: 2}", "{x: 2}", "let x = 1 in {x: x, \"x \": x}", "{x: 1, \"x \": 1}", "let x = 1 in {x: x}.x", "{x: 1}.x", "let b = 1 in f(b = 2)", "f(b = 2)", "let b = 1 in f(b = b)", "f(b = 1)", "let a = 1 in f(a, b = a)", "f(1, b = 1)", "let x = 1 in \"x\"", "\"x\"", "let g_ = 1 in g", "g", "let ff = 1 in f(ff)", "f(1)",
	)
}

// Names that hide that of a NodeLet, and where it comes back behind them.
func TestClayFoldNamesThatHide(t *testing.T) {
	wantFolds(t,
		"let x = 1 in let x = x + 1 in x", "2", "let x = 1 in let x = g in x", "let x = g in x", "let x = 1 in let x = [x] in x", "let x = [1] in x", "let x = 1 in [let x = g in x, x]", "[let x = g in x, 1]", "let x = 1 in (let x = 2 in x) + x", "3", "let x = 1 in (let x = g in x) + x", "(let x = g in x) + 1", "let x = 1 in let y = (let x = g in x) in x + y", "let y = let x = g in x in 1 + y", "let x = g in let x = 1 in x", "let x = g in 1", "let x = g in [let x = 1 in x, x]", "let x = g in [1, x]", "let x = 1 in let x = 2 in let x = 3 in x", "3", "let x = 1 in let x = let x = x + 5 in x + 10 in x + 100", "116",
		"let x = 2 in fn(x) => x", "fn(x) => x", "let x = 2 in [fn(x) => x, x]", "[fn(x) => x, 2]", "let x = 1 in (fn(x = 2) => x)() + x", "(fn(x = 2) => x)() + 1", "let x = 1 in (fn(y, x = x) => x)(x)", "(fn(y, x = 1) => x)(1)", "let x = 1 in fn(x, y = x) => [x, y]", "fn(x, y = x) => [x, y]", "let x = 1 in fn(y = x, x = x, z = x) => [x, y, z]", "fn(y = 1, x = 1, z = x) => [x, y, z]", "let x = 1 in fn(y = x, z = y + x) => z + x", "fn(y = 1, z = y + 1) => z + 1", "let x = 1 in fn(a) => fn(x) => x + a", "fn(a) => fn(x) => x + a", "let x = 1 in fn(a = fn(x) => x, b = x) => x", "fn(a = fn(x) => x, b = 1) => 1", "let x = 1 in fn(x) => let x = 2 in x", "fn(x) => 2", "let x = 1 in fn(x) => let y = x in y", "fn(x) => let y = x in y", "let x = 1 in fn(y) => let x = y in x", "fn(y) => let x = y in x",
		"let x = 1 in [x for x in [x]]", "[x for x in [1]]", "let x = 1 in [x for x in [x] if x > 0] + [x]", "[x for x in [1] if x > 0] + [1]", "let x = 1 in [y for y in [x] if x > 0]", "[y for y in [1] if true]", "let x = 1 in [[x for x in [x, y]] for y in [x]]", "[[x for x in [1, y]] for y in [1]]", "let x = 1 in [let x = 5 in x for x in [x] if let x = true in x]", "[5 for x in [1] if true]", "let x = 1 in [[x for y in [x]] for x in [x]]", "[[x for y in [x]] for x in [1]]",
		// A name that the file makes, and a built one.
		"let g = 5 in g + 1", "6", "[let g = 5 in g, g]", "[5, g]", "let len = 5 in len", "5", "[let len = 5 in len + 1, len(\"a\")]", "[6, len(\"a\")]", "let len = \"a\" in len(len)", "\"a\"(\"a\")", "let f = 1 in fn(g) => f + g", "fn(g) => 1 + g", "let v = 1 in v", "1", "let l = 2 in [l, k]", "[2, k]", "let k = 3 in k + l(1)", "3 + l(1)", "let lib = 4 in lib", "4",
	)
}

// What becomes a constant only when others stand in their places.
func TestClayFoldLetsInsideEachOther(t *testing.T) {
	wantFolds(t,
		"let a = 1 in let b = a + 1 in let c = b + a in [a, b, c]", "[1, 2, 3]", "let a = 1 in let b = a in let c = b in let d = c in d", "1", "let a = true in let b = not a in let c = if b then g else f in c", "let c = f in c", "let a = g in let b = 1 in let c = a + b in c + b", "let a = g in let c = a + 1 in c + 1", "let a = 1 in let b = g in let c = a + 1 in b + c", "let b = g in b + 2",
		"let a = 1 in (let b = a in b) + (let b = a + 1 in b)", "3", "let a = (let b = 1 in b + 1) in let c = (let d = a in d * a) in c + a", "6", "let a = 1 in fn(x = let y = a in y + 1) => let z = a in z + x", "fn(x = 2) => 1 + x", "let a = 2 in [let c = a * a in c + b for b in [let c = a in c] if let c = a == 2 in c]", "[4 + b for b in [2] if true]",
		"let a = 1 in let b = a - 2 in b", "let b = 1 - 2 in b", "let a = 1 in let b = a - 2 in let c = a in b + c", "let b = 1 - 2 in b + 1", "let a = 0 in let b = 1 / a in 5", "let b = 1 / 0 in 5", "let a = \"x\" in let b = a + a in let c = b + b in c == \"xxxx\"", "true", "let a = \"x\" in let b = a has \"x\" in if b then let c = b in not c else g", "false", "let a = 1 in if a == 1 then let b = a + 1 in b else let b = g in b", "2", "let b = true in if b then let c = 1 in c + 1 else b", "2", "let a = 1 in let b = fn(x) => x + a in let c = a in b(c)", "let b = fn(x) => x + 1 in b(1)", "let a = true in let b = a or g in let c = b and a in c", "true", "let x = 1 in 1 + (let x = x + 1 in x) * (let y = x in y + y)", "5",
	)
	// As many as may stand inside each other, each but the first being a constant only when the one around it is.
	deep := impl.ClayMaxNest - 2
	chain, open := "let a0 = 1 in ", "let a0 = g in "
	for i := 1; i < deep-1; i++ {
		next := "let a" + strconv.Itoa(i) + " = a" + strconv.Itoa(i-1) + " + 1 in "
		chain, open = chain+next, open+next
	}
	last := "a" + strconv.Itoa(deep-2)
	wantFolds(t, chain+last+" + 1", strconv.Itoa(deep), open+last+" + 1", "")
}

// Fold goes into statements of each kind, and into all that stands in them.
func TestClayFoldStatements(t *testing.T) {
	for src, want := range map[string]string{
		"":                               "",
		"let a = 1 + 1;":                 "let a = 2;\n",
		"emit 1 + 1;":                    "emit 2;\n",
		"emit {a: 1 + 1, \"b c\": -0};":  "emit {a: 2, \"b c\": 0};\n",
		"def f() = 1 + 1;":               "def f() = 2;\n",
		"def f(a, b = 1 + 1) = a;":       "def f(a, b = 2) = a;\n",
		"def f(a = let x = 1 in x) = a;": "def f(a = 1) = a;\n",
		"load \"p\": a, b; let c = a;":   "load \"p\": a, b;\nlet c = a;\n",
		"load \"p\": a; let c = let a = 1 in a; let d = a;":                                                  "load \"p\": a;\nlet c = 1;\nlet d = a;\n",
		"let a = 1; let b = a; let c = let d = a in d; emit {a: a};":                                         "let a = 1;\nlet b = a;\nlet c = let d = a in d;\nemit {a: a};\n",
		"def f(a) = let b = 1 in a + b; let b = 2; def g(b = b) = b;":                                        "def f(a) = a + 1;\nlet b = 2;\ndef g(b = b) = b;\n",
		"let a = true; let b = if a then 1 else 2;":                                                          "let a = true;\nlet b = if a then 1 else 2;\n",
		"let a = [1 + 1, [2 * 3], {b: 4 - 3}, (5 / 2)(6 % 4, c = 1 + 2)];":                                   "let a = [2, [6], {b: 1}, 2(2, c = 3)];\n",
		"let a = [1 + 1 for x in [2 + 2] if 3 + 3];":                                                         "let a = [2 for x in [4] if 6];\n",
		"let a = [1 + 1][2 - 1]; let b = {c: \"a\" + \"b\"}.c;":                                              "let a = [2][1];\nlet b = {c: \"ab\"}.c;\n",
		"let a = fn(x, y = 1 + 1) => 2 + 2;":                                                                 "let a = fn(x, y = 2) => 4;\n",
		"let a = if b then 1 + 1 else 2 + 2; let b = len(\"a\" + \"\") == 1 + 0;":                            "let a = if b then 2 else 4;\nlet b = len(\"a\") == 1;\n",
		"let a = let b = len in 1 + 1; emit {};":                                                             "let a = let b = len in 2;\nemit {};\n",
		"let a = [1, 2] + [3]; let b = [1] == [1]; let c = {} + {}; let d = [] has 1; let e = range(1 + 1);": "let a = [1, 2] + [3];\nlet b = [1] == [1];\nlet c = {} + {};\nlet d = [] has 1;\nlet e = range(2);\n",
	} {
		tree := clayRead(t, src)
		if got := wantFolded(t, tree); impl.ClayPrint(got) != want {
			t.Errorf("%q: %q, want %q", src, impl.ClayPrint(got), want)
		}
		wantKept(t, clayWorldOf("", "m", src, "p", "let a = 1; let b = 2;"), "m")
	}
}

func TestClayFoldWrongTrees(t *testing.T) {
	valid := clayRead(t, "let a = let b = 1 in b + 1;")
	wrong := map[string]impl.ClayTree{
		"no nodes":     {},
		"no file":      {Nodes: valid.Nodes[:len(valid.Nodes)-1]},
		"below 0":      clayGrowFile(clayGrowText(impl.ClayNodeSet, "a", clayGrowInt(-1))).tree(),
		"another kind": clayGrowFile(clayGrowKind(25)).tree(),
		"another op":   clayGrowFile(clayGrowEmit(clayGrowBin(15, clayGrowInt(1), clayGrowInt(1)))).tree(),
		"two files":    {Nodes: append(slices.Clone(valid.Nodes), impl.ClayNode{Kind: impl.ClayNodeFile})},
		"no name":      clayGrowFile(clayGrowText(impl.ClayNodeSet, "let", clayGrowInt(1))).tree(),
		"a bool of 2":  clayGrowFile(clayGrowEmit(clayGrow(impl.ClayNode{Kind: impl.ClayNodeBool, N: 2}))).tree(),
		"too deep":     clayGrowFile(clayGrowEmit(clayNegs(impl.ClayMaxNest-1, clayGrowInt(0)))).tree(),
		"too many":     clayGrowFile(clayMany(impl.ClayMaxList+1, func(int) clayBush { return clayGrowEmit(clayGrowInt(1)) })...).tree(),
		"a long text":  clayGrowFile(clayGrowEmit(clayGrowText(impl.ClayNodeText, strings.Repeat("x", 1001)))).tree(),
	}
	for _, src := range []string{
		"let a = b;", "let a = let b = 1 in c;", "let a = 1; let a = 1 + 1;", "def f(a, a) = 1;", "def f(a = 1, b) = 1;", "let a = fn(x, x) => 1;", "let a = true or b;", "let a = if true then 1 else b;", "let a = let b = b in 1;", "load \"p\": a, a;", "let a = [1 for x in x];", "let a = false and (fn(x = 1, y) => 1);", "let a = if false then x else 1;",
	} {
		wrong[src] = clayRead(t, src)
	}
	for what, tree := range wrong {
		if impl.ClayCheck(tree).Code == 0 {
			t.Errorf("%s: fits", what)
		}
		nodes, long := withRoom(tree.Nodes, impl.ClayNode{Kind: 99})
		kept := slices.Clone(long)
		if got := impl.ClayFold(impl.ClayTree{Nodes: nodes}); len(got.Nodes) != 0 {
			t.Errorf("%s: folded to %+v", what, got)
		}
		if !slices.Equal(long, kept) {
			t.Errorf("%s: the argument was changed", what)
		}
	}
	if got := wantFolded(t, clayGrowFile().tree()); len(got.Nodes) != 1 || got.Nodes[0] != (impl.ClayNode{Kind: impl.ClayNodeFile}) {
		t.Errorf("the file of nothing: %+v", got)
	}
}

// Trees that are as large as they may be.
func TestClayFoldLargeTrees(t *testing.T) {
	deepest := clayGrowFile(clayGrowEmit(clayNegs(impl.ClayMaxNest-2, clayGrowInt(0)))).tree()
	if got := wantFolded(t, deepest); len(got.Nodes) != 3 || got.Nodes[0] != (impl.ClayNode{Kind: impl.ClayNodeInt}) {
		t.Errorf("the deepest tree: %d nodes", len(got.Nodes))
	}
	sum := func(e clayBush) clayBush { return clayGrowBin(impl.ClayOpAdd, e, clayGrowName("x")) }
	set := func(i int, e clayBush) clayBush { return clayGrowText(impl.ClayNodeSet, "a"+strconv.Itoa(i), e) }
	sets := clayMany(impl.ClayMaxList, func(i int) clayBush {
		e := clayGrowName("x")
		for range 10 {
			e = sum(e)
		}
		return set(i, clayGrowText(impl.ClayNodeLet, "x", clayGrowInt(int64(i)), e))
	})
	// 200 statements of 24 nodes, one of 199 more, and the file.
	sets[0] = set(0, clayGrowKind(impl.ClayNodeList, clayMany(199, func(int) clayBush { return clayGrowInt(1) })...))
	tree := clayGrowFile(sets...).tree()
	if got := wantFolded(t, tree); len(got.Nodes) != 199+2+2*199+1 || got.Nodes[201].N != 11 {
		t.Errorf("%d nodes of %d", len(got.Nodes), len(tree.Nodes))
	}
	// Each name of a list is one of a let further out.
	list := clayGrowKind(impl.ClayNodeList, clayMany(100, func(i int) clayBush { return clayGrowName("x" + strconv.Itoa(i%40)) })...)
	many := clayGrowKind(impl.ClayNodeList, clayMany(48, func(int) clayBush { return list })...)
	for i := range 40 {
		is := clayGrowInt(1)
		if i < 39 {
			is = clayGrowName("x" + strconv.Itoa(i+1))
		}
		many = clayGrowText(impl.ClayNodeLet, "x"+strconv.Itoa(i), is, many)
	}
	tree = clayGrowFile(clayGrowEmit(many)).tree()
	if fault := impl.ClayCheck(tree); fault.Code != 0 {
		t.Fatalf("%+v", fault)
	}
	if got := wantFolded(t, tree); len(got.Nodes) != 48*101+3 {
		t.Errorf("%d nodes of %d", len(got.Nodes), len(tree.Nodes))
	}
	// A text in the place of names makes what is printed longer than a package may be; the tree is right all the same.
	long := "let v = let x = " + clayQuoted(strings.Repeat("x", 1000)) + " in [" + strings.Repeat("x, ", 7)
	if got := wantFolded(t, clayRead(t, long+"0];")); len(impl.ClayPrint(got)) != 7000+7*4+13 {
		t.Errorf("%d bytes", len(impl.ClayPrint(got)))
	}
	if got := wantFolded(t, clayRead(t, long+"x];")); impl.ClayPrint(got) != "" || len(got.Nodes) != 11 {
		t.Errorf("%d bytes", len(impl.ClayPrint(got)))
	}
}

// Promise 9, for runs that end with each word, all of which have something that is folded in front of it or in it.
func TestClayFoldKeepsEachEnd(t *testing.T) {
	told := ""
	for range 61 {
		told += "emit {a: 1 + 1};"
	}
	lib := "let x = 1 + 1; def fun(a, b = let c = 2 in c * c) = if true then a / (b - 4) else 0; let _hid = 1; def call(g) = let y = 1 in g(y, y + 1); emit {x: x}; let _asked = files(\"a\" + \"b\") + files(if true then \"b\" else \"a\");"
	lead := "load \"lib\": x, fun, call; load \"other\": o; let seen = files(\"a\") + files(\"a\" + \".\"); emit {seen: seen, n: let n = 3 in n * n}; "
	for src, want := range map[string]string{
		"emit {v: let a = 1 in call(fn(x, y) => [x, y, a])};":                    "0",
		"let v = 1 + 1 + none;":                                                  "4 type at m",
		"let v = let a = \"b\" in 1 + a;":                                        "4 type at m",
		"let v = let a = 1 in a(2);":                                             "4 type at m",
		"let v = false or 1;":                                                    "4 type at m",
		"let v = let a = 1 in if a then 1 else 2;":                               "4 type at m",
		"emit let a = 1 in a + 1;":                                               "4 type at m",
		"let v = 9223372036854775807 + (0 + 1);":                                 "4 range at m",
		"let v = let a = -9223372036854775807 - 1 in -a;":                        "4 range at m",
		"let v = [1 + 1][1 * 2];":                                                "4 range at m",
		"let v = int(\"a\" + \"1\");":                                            "4 range at m",
		"let v = let a = 0 in 1 / a;":                                            "4 divide at m",
		"let v = call(fn(x, y) => let z = 0 in x % z);":                          "4 divide at m < lib.call < m.fn",
		"let v = fun(1 + 1);":                                                    "4 divide at lib < lib.fun",
		"let v = let a = " + clayQuoted(strings.Repeat("x", 501)) + " in a + a;": "4 large at m",
		"let v = {a: 1 + 1}[\"b\" + \"\"];":                                      "4 key at m",
		"let v = {a: 1 + 1}.b;":                                                  "4 key at m",
		"let v = true and early; let early = true;":                              "4 early at m",
		"let v = let a = 1 in a + early; let early = 1 + 1;":                     "4 early at m",
		"load \"lib\": _hid;":                                                    "4 name at m",
		"let v = 1 + 1; load \"lib\": none_such;":                                "4 name at m",
		"load \"round\": r;":                                                     "4 cycle at round",
		told:                                                                     "4 told at m",
		"def f(n) = let one = 1 in f(n + one); let v = f(0);":                    "4 deep at m" + strings.Repeat(" < m.f", 30),
		"let v = fun(1, 2 + 2, 3);":                                              "4 args at m",
		"let v = let a = 1 in fun(a, d = a);":                                    "4 args at m",
		"let v = len(s = \"a\" + \"b\");":                                        "4 args at m",
		"let v = fail(\"my \" + \"own\");":                                       "4 my own at m",
		"let v = fail(if 1 > 2 then \"a\" else \"steps\");":                      "4 steps at m",
		"load \"gone\": x2;":                                                     "2 at gone",
		"load \"broken\": x2;":                                                   "3 at broken",
		"load \"unfit\": x2;":                                                    "3 at unfit",
		// What is left out would have ended the run, had it been looked at.
		"let v = [true or 1 / 0, false and fail(\"w\"), if true then 1 else early, let unused = 1 in 2]; let early = 1;": "0",
	} {
		w := clayWorldOf("a a.c ab b", "lib", lib, "other", "load \"lib\": x; let o = x * (1 + 1);", "round", "load \"m\": x; let r = 1 + 1;", "broken", "let a = 1 + ;", "unfit", "let a = 1 + b;", "m", lead+src)
		wantRun(t, w, "m")
		plain, folded := wantKept(t, w, "m")
		if shown := clayShown(plain); !strings.HasPrefix(shown, want) || len(plain.Read) < 3 || len(plain.Asked) < 4 {
			t.Errorf("%.300s: %s, want %s; %q %q", src, shown, want, plain.Read, plain.Asked)
		}
		if plain.Word != "steps" && folded.Steps >= plain.Steps {
			t.Errorf("%.300s: %d steps of %d", src, folded.Steps, plain.Steps)
		}
		if plain.Code == 0 && len(plain.Told) < 2 {
			t.Errorf("%.300s: told %v", src, plain.Told)
		}
	}
	// With fewer steps the folded one may go on where the other could not.
	plain, folded := wantKept(t, clayWorldOf("", "m", clayBurn(4998)+"let v = 1 + 1; emit {v: v};"), "m")
	if plain.Word != "steps" || folded.Code != 4 || folded.Word != "steps" {
		t.Errorf("%s, %s", clayShown(plain), clayShown(folded))
	}
	plain, folded = wantKept(t, clayWorldOf("", "m", clayBurn(4996)+"let v = 1 + 1; emit {v: v};"), "m")
	if plain.Word != "steps" || folded.Code != 0 || folded.Steps != 4999 {
		t.Errorf("%s, %s", clayShown(plain), clayShown(folded))
	}
}

// Promise 9 and the second reading, for packages that are put together by a fixed rule and whose runs go far.
func TestClayFoldKeepsRuns(t *testing.T) {
	t.Parallel()
	dice := clayDice(37)
	author := &clayAuthor{clayDice: &dice}
	ends := map[string]int{}
	fewer, traces, told, asked := 0, 0, 0, 0
	for range 600 {
		w := author.world()
		for _, file := range w.Files {
			if tree, fault := impl.ClayParse(file.Text); fault.Code == 0 && impl.ClayCheck(tree).Code == 0 {
				wantFolded(t, tree)
			}
		}
		plain, folded := wantKept(t, w, "m")
		ends[strings.TrimSpace(strconv.Itoa(plain.Code)+" "+plain.Word)]++
		if folded.Steps < plain.Steps {
			fewer++
		}
		traces += min(len(plain.Trace), 1)
		told += len(plain.Told)
		if len(plain.Asked) > 1 && len(plain.Read) > 1 {
			asked++
		}
		if t.Failed() {
			return
		}
	}
	for _, end := range []string{"0", "2", "3", "4 type", "4 range", "4 divide", "4 key", "4 early", "4 name", "4 cycle", "4 args", "4 deep"} {
		if ends[end] < 2 {
			t.Errorf("only %d runs end with %s: %v", ends[end], end, ends)
		}
	}
	if ends["0"] < 120 || fewer < 400 || traces < 30 || told < 400 || asked < 100 {
		t.Errorf("%d with code 0, %d with fewer steps, %d traces, %d records, %d that asked: %v", ends["0"], fewer, traces, told, asked, ends)
	}
}

// constants puts constants in the place of some names and of the empty lists.
func (d *clayDice) constants(nodes []impl.ClayNode) []impl.ClayNode {
	made := slices.Clone(nodes)
	family := clayFamilyOf(nodes)
	for at, n := range nodes {
		if n.Kind == impl.ClayNodeName && !family.isUnderLoad(at) && d.below(3) == 0 {
			made[at] = impl.ClayNode{Kind: impl.ClayNodeBool, N: int64(d.below(2))}
		}
		if n.Kind == impl.ClayNodeList && n.Kids == 0 {
			made[at] = impl.ClayNode{Kind: impl.ClayNodeInt, N: int64(d.below(3))}
		}
	}
	return made
}

// The same for trees of any kinds of nodes, and for what is printed of them.
func TestClayFoldAnyTrees(t *testing.T) {
	t.Parallel()
	dice := clayDice(41)
	lib := "let a = 1; def b(x, y = x) = [x, y]; let c = fn(f) => f; let x = \"x\"; let z9_ = [1]; let iff = {a: 1};"
	smaller, lets := 0, 0
	for i := range 3000 {
		nodes := dice.file(1+dice.below(4), i%6).nodes()
		if len(nodes) > 300 {
			continue
		}
		tree := impl.ClayTree{Nodes: dice.fitting(t, dice.constants(nodes))}
		if t.Failed() {
			return
		}
		got := wantFolded(t, tree)
		if len(got.Nodes) < len(tree.Nodes) {
			smaller++
		}
		if len(impl.ClayLocals(got)) < len(impl.ClayLocals(tree)) {
			lets++
		}
		wantKept(t, clayWorldOf("a ab", "a/b", lib, "m", impl.ClayPrint(tree), "p", lib, "x-1.y_", lib+"emit {};"), "m")
		if t.Failed() {
			return
		}
	}
	if smaller < 800 || lets < 500 {
		t.Errorf("%d trees are smaller, %d have fewer lets", smaller, lets)
	}
}

// All small trees of some forms, in a let of a constant.
func TestClayFoldAllSmallTrees(t *testing.T) {
	t.Parallel()
	folds := 0
	for _, e := range clayTurns(2) {
		for _, name := range []string{"a", "len"} {
			let := clayGrowText(impl.ClayNodeLet, name, clayGrowInt(1), clayGrowKind(impl.ClayNodeList, e, clayGrowName(name)))
			tree := clayGrowFile(clayGrowText(impl.ClayNodeSet, "a", let)).tree()
			if impl.ClayCheck(tree).Code == 0 {
				wantFolded(t, tree)
				folds++
			}
			if t.Failed() {
				return
			}
		}
	}
	if folds < 10000 {
		t.Errorf("only %d", folds)
	}
}

func TestClayFoldAnswersNewMemory(t *testing.T) {
	room := impl.ClayNode{Kind: 99, Text: "room"}
	src := "load \"pack/age\": loaded; def func(param, other = \"some text\") = {field: param.field, \"a b\": other}; let set = let const = \"constant text\" in [const, const + \"\", \"\" + const, const, let local = loaded in local, func(loaded, other = const)]; emit [item for item in set if true or item]; let chosen = if true then \"chosen text\" else \"\";"
	nodes, long := withRoom(clayRead(t, src).Nodes, room)
	for i, n := range nodes {
		nodes[i].Text = string([]byte(n.Text))
		long[i] = nodes[i]
	}
	kept := slices.Clone(long)
	tree := impl.ClayTree{Nodes: nodes}
	got := wantFolded(t, tree)
	for at, n := range got.Nodes {
		for _, other := range nodes {
			if sharesBytes(other.Text, n.Text) {
				t.Errorf("the text of %d, %q, shares memory with the argument", at, n.Text)
			}
		}
		for _, other := range got.Nodes[at+1:] {
			if sharesBytes(other.Text, n.Text) {
				t.Errorf("the text of %d, %q, stands in two nodes", at, n.Text)
			}
		}
	}
	want := slices.Clone(got.Nodes)
	for i := range got.Nodes[:cap(got.Nodes)] {
		got.Nodes[:cap(got.Nodes)][i] = room
	}
	if again := impl.ClayFold(tree); !slices.Equal(again.Nodes, want) || !slices.Equal(long, kept) {
		t.Error("folded again it is another, or the argument was changed")
	}
}

func FuzzClayFold(f *testing.F) {
	f.Add("def f(x, y = 1 + 1) = let z = 2 in [z + a for a in x if true or a > z]; emit {v: f([1, 2], y = let x = 0 in x)};")
	f.Add("let v = let a = true in if not a then 1 / 0 else let b = \"b\" in fn(b = b) => b + \"a\" * -0;")
	f.Fuzz(func(t *testing.T, src string) {
		tree, fault := impl.ClayParse(src)
		if fault.Code != 0 || len(tree.Nodes) > 1000 {
			return
		}
		if impl.ClayCheck(tree).Code != 0 {
			if got := impl.ClayFold(tree); len(got.Nodes) != 0 {
				t.Errorf("%q does not fit, but: %+v", src, got)
			}
			return
		}
		wantFolded(t, tree)
		wantKept(t, clayWorldOf("a ab b", "lib", "def g(x) = x[0]; let y = 1;", "m", src), "m")
	})
}
