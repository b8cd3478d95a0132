package tests

import (
	"math"
	"slices"
	"strings"
	"testing"

	"loop.example/kilnyard/impl"
)

// wantRenamed asks of a text in which a local and all that it binds end with 1 that they get the new name, and nothing else does.
func wantRenamed(t *testing.T, src, name string) {
	t.Helper()
	marked, plain := clayMarked(t, src)
	want := slices.Clone(plain.Nodes)
	at := -1
	for i, n := range marked.Nodes {
		if strings.HasSuffix(n.Text, "1") {
			want[i].Text = name
			if n.Kind == impl.ClayNodeLet || n.Kind == impl.ClayNodeEach {
				at = i
			}
		}
	}
	got, code := impl.ClayRename(plain, at, name)
	if code != 0 || !slices.Equal(got.Nodes, want) {
		t.Errorf("%q: code %d, %q", src, code, impl.ClayPrint(got))
		return
	}
	wantSameBinds(t, plain, got)
}

// wantSameBinds asks that a tree fits after it was renamed, each name being bound as before.
func wantSameBinds(t *testing.T, old, renamed impl.ClayTree) {
	t.Helper()
	if fault := impl.ClayCheck(renamed); fault.Code != 0 {
		t.Errorf("%q: %+v", impl.ClayPrint(renamed), fault)
	}
	if fault := wantBound(t, renamed.Nodes); fault.Code != 0 {
		t.Errorf("%q: %+v", impl.ClayPrint(renamed), fault)
	}
	if was, is := impl.ClayBinds(old), impl.ClayBinds(renamed); !slices.Equal(was, is) {
		t.Errorf("%q: bound %v, was %v", impl.ClayPrint(renamed), is, was)
	}
}

// wantRenameCode asks for a code and no tree beside it.
func wantRenameCode(t *testing.T, tree impl.ClayTree, at int, name string, code int) {
	t.Helper()
	got, gotCode := impl.ClayRename(tree, at, name)
	if gotCode != code || len(got.Nodes) != 0 {
		t.Errorf("%q at %d to %.50q: code %d, %d nodes, want code %d", impl.ClayPrint(tree), at, name, gotCode, len(got.Nodes), code)
	}
}

// Promise 4: all names that a local binds are renamed with it, and no others.
func TestClayRenameWhatIsBound(t *testing.T) {
	for _, src := range []string{
		"emit let a1 = 1 in a1;",
		"emit let a1 = 1 in 2;",
		"emit let a1 = 1 in [a1, a1 + a1, {a: a1.a, b: a1(a = a1)}];",
		"emit [a1 for a1 in [] if a1];",
		"emit [a1 for a1 in []];",
		"emit [1 for a1 in []];",
		"emit [1 for a1 in [] if a1];",
		// It is not known in its own first E, where another of its name may be.
		"let a = 1; emit let a1 = a in a1;",
		"let a = 1; emit [[a1 for a1 in [a] if a1], a];",
		"emit let a = 1 in let a1 = a in a1;",
		"emit let a1 = 1 in let a = a1 in a;",
		"emit [[a1 for a1 in a] for a in []];",
		"emit [[a for a in a1 if a] for a1 in [] if a1];",
		// It is hidden inside.
		"emit let a1 = 1 in [let a = a1 in a, a1];",
		"emit let a1 = 1 in [[a for a in [a1] if a], a1];",
		"emit let a1 = 1 in [fn(a) => a, a1];",
		"emit let a1 = 1 in [fn(b = a1, a = a1) => [a, b], a1];",
		"emit [let a = a1 in a for a1 in [] if (fn(a) => a)(a1)];",
		"emit let a1 = 1 in let b = a1 in let a = a1 in let b = a in a;",
		// It hides something.
		"let a = 1; emit [let a1 = 2 in a1, a];",
		"def a(b) = [let b1 = a in b1, b];",
		"def f(a) = [[a1 for a1 in a if a1], a];",
		"emit fn(a) => [let a1 = a in a1, a];",
		"emit fn(a, b = let a1 = a in a1) => a;",
		`load "p": a; emit [let a1 = a in a1, a];`,
		"emit [let len1 = len in len1(1), len];",
		"emit [[len1 for len1 in [len] if len1], len];",
		// Beside it are others of its name.
		"emit [let a1 = 1 in a1, let a = 1 in a, [a for a in []]];",
		"emit [let a = 1 in a, let a1 = 1 in a1, [a for a in []]];",
		"emit [let a = 1 in a, let a = 1 in a, [a1 for a1 in []]];",
		"emit let b = let a1 = 1 in a1 in let a = b in a;",
		// Its name stands where it is not bound.
		"emit let a1 = \"a\" in {a: a1, \"a \": {a: 1}.a, b: len(a = a1)};",
		`load "a": b; emit let a1 = b in a1;`,
		// It is used far inside.
		"def f(x) = let a1 = x in fn(y = a1, w = [a1 for q in a1 if a1]) => if a1 then -a1 else not a1[a1];",
	} {
		wantRenamed(t, src, "z")
		wantRenamed(t, src, "_new_name_")
		wantRenamed(t, src, strings.Repeat("n", 30))
	}
}

func TestClayRenamePlaces(t *testing.T) {
	tree := clayRead(t, "load \"p\": q; def f(a, b = let c = 1 in c) = [d for d in a if b]; let v = fn(x) => let y = x in -y; emit {k: v(q, n = 1), l: if v then q.m else q[0]};")
	locals := impl.ClayLocals(tree)
	for at, n := range tree.Nodes {
		isLocal := n.Kind == impl.ClayNodeLet || n.Kind == impl.ClayNodeEach
		if slices.Contains(locals, at) != isLocal {
			t.Errorf("locals %v: %d is of kind %d", locals, at, n.Kind)
		}
		if isLocal {
			if got, code := impl.ClayRename(tree, at, "fresh"); code != 0 || got.Nodes[at].Text != "fresh" {
				t.Errorf("at %d: code %d", at, code)
			}
		} else {
			wantRenameCode(t, tree, at, "fresh", 2)
			wantRenameCode(t, tree, at, n.Text, 2)
		}
	}
	if len(locals) != 3 {
		t.Errorf("locals %v", locals)
	}
	count := len(tree.Nodes)
	for _, at := range []int{-1, -2, count, count + 1, math.MinInt, math.MaxInt, -count, 1 << 32} {
		wantRenameCode(t, tree, at, "fresh", 2)
	}
}

func TestClayLocalsAscending(t *testing.T) {
	for src, want := range map[string][]int{
		"":                                              nil,
		"let a = 1; def f(b) = b; emit a;":              nil,
		"emit let a = 1 in a;":                          {2},
		"emit [a for a in []];":                         {2},
		"emit let a = let b = 1 in b in a;":             {2, 4},
		"emit let a = 1 in let b = 2 in a;":             {3, 4},
		"emit [[b for b in a if b] for a in []];":       {4, 5},
		"emit {x: let a = 1 in a, y: [a for a in []]};": {2, 6},
	} {
		if got := impl.ClayLocals(clayRead(t, src)); !slices.Equal(got, want) {
			t.Errorf("%q: %v, want %v", src, got, want)
		}
	}
	// Of what does not fit there are none.
	for _, src := range []string{"emit let a = a in a;", "emit [a for a in a];", "let x = let a = 1 in a; let x = 1;", "def f(a = let b = 1 in b, c) = 1;"} {
		if got := impl.ClayLocals(clayRead(t, src)); len(got) != 0 {
			t.Errorf("%q: %v", src, got)
		}
	}
}

func TestClayRenameNames(t *testing.T) {
	tree := clayRead(t, "emit let old = 1 in old;")
	at := impl.ClayLocals(tree)[0]
	for _, name := range []string{"z", "_", "__", "a9", "z_9", "olds", "ol", "_old", "iff", "lens", "file", strings.Repeat("q", 30)} {
		if got, code := impl.ClayRename(tree, at, name); code != 0 || got.Nodes[at].Text != name || got.Nodes[1].Text != name {
			t.Errorf("%q: %d %+v", name, code, got)
		}
	}
	wrong := []string{"", "old", "A", "9", "9a", "a b", " a", "a ", "a-b", "a.b", "a\n", "a\x00", "é", "\xff", "\"a\"", strings.Repeat("q", 31), strings.Repeat("q", 100000)}
	wrong = append(wrong, strings.Fields(clayWordList)...)
	wrong = append(wrong, strings.Fields(clayBuiltList)...)
	for _, name := range wrong {
		wantRenameCode(t, tree, at, name, 3)
	}
	// A built name stays one where the file makes it, too.
	hidden := clayRead(t, "let len = 1; emit let old = len in old;")
	for name := range strings.FieldsSeq(clayBuiltList) {
		wantRenameCode(t, hidden, impl.ClayLocals(hidden)[0], name, 3)
	}
}

// A name that is the Text of any node is not taken, wherever it stands and whatever the node is.
func TestClayRenameToTextsOfNodes(t *testing.T) {
	for kind, src := range map[int]string{
		impl.ClayNodeText:  `emit [let old = 1 in old, "taken"];`,
		impl.ClayNodeName:  `load "p": taken; emit let old = 1 in old;`,
		impl.ClayNodeDot:   "emit let old = {}.taken in old;",
		impl.ClayNodeLet:   "emit [let old = 1 in old, let taken = 1 in 2];",
		impl.ClayNodeEach:  "emit [1 for taken in let old = [] in old];",
		impl.ClayNodeField: "emit {taken: let old = 1 in old};",
		impl.ClayNodeNamed: "emit let old = len in old(taken = 1);",
		impl.ClayNodeParam: "emit let old = fn(taken) => 1 in old;",
		impl.ClayNodeDef:   "emit let old = 1 in old; def taken() = 1;",
		impl.ClayNodeSet:   "let taken = 1; emit let old = 1 in old;",
		impl.ClayNodeLoad:  `emit let old = 1 in old; load "taken": a;`,
	} {
		tree := clayRead(t, src)
		if !slices.ContainsFunc(tree.Nodes, func(n impl.ClayNode) bool { return n.Kind == kind && n.Text == "taken" }) {
			t.Errorf("%q: no node of kind %d", src, kind)
		}
		at := slices.IndexFunc(tree.Nodes, func(n impl.ClayNode) bool { return n.Text == "old" && n.Kind != impl.ClayNodeName })
		wantRenameCode(t, tree, at, "taken", 3)
		for _, near := range []string{"take", "takens", "taken_"} {
			if got, code := impl.ClayRename(tree, at, near); code != 0 || got.Nodes[at].Text != near {
				t.Errorf("%q to %s: %d", src, near, code)
			}
		}
	}
	tree := clayRead(t, `load "p": a; emit let old = a in [b.c(d = "e", f = {g: h}) for h in old if fn(i, j = let k = 1 in k) => i]; def b(l) = l; let m = 1;`)
	for _, at := range impl.ClayLocals(tree) {
		for _, n := range tree.Nodes {
			wantRenameCode(t, tree, at, n.Text, 3)
		}
	}
}

// Codes are looked for in their order.
func TestClayRenameMoreThanOneCode(t *testing.T) {
	for _, src := range []string{"emit let a = b in a;", "let a = 1; let a = let c = 1 in c;", "def f(a = let c = 1 in c, b) = 1;"} {
		tree := clayRead(t, src)
		for at := -1; at <= len(tree.Nodes); at++ {
			for _, name := range []string{"fresh", "", "if", "len", "a"} {
				wantRenameCode(t, tree, at, name, 1)
			}
		}
	}
	for _, at := range []int{-1, 0, 7, math.MinInt, math.MaxInt} {
		wantRenameCode(t, impl.ClayTree{}, at, "fresh", 1)
		wantRenameCode(t, impl.ClayTree{}, at, "", 1)
	}
	tree := clayRead(t, "emit let a = 1 in a;")
	for _, at := range []int{-1, 0, 1, 3, 4, 5, 6} {
		for _, name := range []string{"fresh", "", "if", "len", "a"} {
			wantRenameCode(t, tree, at, name, 2)
		}
	}
}

// Promise 4: renaming back gives the old tree, where the old name may be given.
func TestClayRenameBack(t *testing.T) {
	for _, src := range []string{
		"emit let a = 1 in a;",
		"emit [a for a in [] if a];",
		"let x = 1; def f(p) = let a = p in [b + a for b in [a, x] if fn(q = b) => a]; emit f(let c = x in c);",
		"emit let a = let b = 1 in b in [c for c in a];",
	} {
		tree := clayRead(t, src)
		for _, at := range impl.ClayLocals(tree) {
			old := tree.Nodes[at].Text
			there, code := impl.ClayRename(tree, at, "fresh")
			back, codeBack := impl.ClayRename(there, at, old)
			if code != 0 || codeBack != 0 || !slices.Equal(back.Nodes, tree.Nodes) {
				t.Errorf("%q at %d: %d, %d, %q", src, at, code, codeBack, impl.ClayPrint(back))
			}
			if slices.Equal(there.Nodes, tree.Nodes) {
				t.Errorf("%q at %d: not renamed", src, at)
			}
		}
	}
	// Where it still stands elsewhere, or is built, it may not.
	for _, src := range []string{"let a = 1; emit let a1 = a in a1;", "emit let a1 = 1 in {a: a1};", "emit let len1 = 1 in len1;", "emit let a1 = 1 in let a = a1 in a;"} {
		marked, plain := clayMarked(t, src)
		at := slices.IndexFunc(marked.Nodes, func(n impl.ClayNode) bool { return n.Kind == impl.ClayNodeLet && strings.HasSuffix(n.Text, "1") })
		there, code := impl.ClayRename(plain, at, "fresh")
		if code != 0 {
			t.Errorf("%q: %d", src, code)
		}
		wantRenameCode(t, there, at, plain.Nodes[at].Text, 3)
	}
}

// Promise 4, for trees of all kinds that are put together by a fixed rule: each local by itself, then all one after the other, then all back.
func TestClayRenameAsByClimbing(t *testing.T) {
	dice := clayDice(19)
	renames, backs := 0, 0
	for i := range 4000 {
		tree := impl.ClayTree{Nodes: dice.fitting(t, dice.file(1+dice.below(3), i%4).nodes())}
		binds := clayFamilyOf(tree.Nodes).binds()
		var locals []int
		for at, n := range tree.Nodes {
			if n.Kind == 14 || n.Kind == 16 {
				locals = append(locals, at)
			}
		}
		if got := impl.ClayLocals(tree); !slices.Equal(got, locals) {
			t.Fatalf("%q: locals %v, want %v", impl.ClayPrint(tree), got, locals)
		}
		for _, at := range locals {
			want := slices.Clone(tree.Nodes)
			for i, bound := range binds {
				if bound == at || i == at {
					want[i].Text = "other"
				}
			}
			got, code := impl.ClayRename(tree, at, "other")
			if code != 0 || !slices.Equal(got.Nodes, want) {
				t.Fatalf("%q at %d: %d, %q", impl.ClayPrint(tree), at, code, impl.ClayPrint(got))
			}
			wantSameBinds(t, tree, got)
			renames++
			old := tree.Nodes[at].Text
			if slices.Contains(strings.Fields(clayBuiltList), old) || slices.ContainsFunc(got.Nodes, func(n impl.ClayNode) bool { return n.Text == old }) {
				wantRenameCode(t, got, at, old, 3)
			} else if back, code := impl.ClayRename(got, at, old); code != 0 || !slices.Equal(back.Nodes, tree.Nodes) {
				t.Errorf("%q at %d, back: %d, %q", impl.ClayPrint(tree), at, code, impl.ClayPrint(back))
			} else {
				backs++
			}
		}
		wantAllRenamed(t, tree, locals)
		if t.Failed() {
			return
		}
	}
	if renames < 1000 || backs < 100 {
		t.Errorf("only %d renames, %d back", renames, backs)
	}
}

// wantAllRenamed gives each local a name of its own, then another, and then the first one back.
func wantAllRenamed(t *testing.T, tree impl.ClayTree, locals []int) {
	t.Helper()
	if len(locals) > 20 {
		return
	}
	rename := func(from impl.ClayTree, lead string) impl.ClayTree {
		for i, at := range locals {
			to, code := impl.ClayRename(from, at, lead+string(rune('a'+i)))
			if code != 0 {
				t.Fatalf("%q at %d: %d", impl.ClayPrint(from), at, code)
			}
			from = to
		}
		return from
	}
	own := rename(tree, "own_")
	wantSameBinds(t, tree, own)
	if back := rename(rename(own, "other_"), "own_"); !slices.Equal(back.Nodes, own.Nodes) {
		t.Errorf("%q, back: %q", impl.ClayPrint(own), impl.ClayPrint(back))
	}
}

func TestClayRenameAnswersNewMemory(t *testing.T) {
	room := impl.ClayNode{Kind: 99, Text: "room"}
	nodes, long := withRoom(clayRead(t, "let abc = let old = \"text\" in {field: old}; emit [def_ + abc for def_ in abc];").Nodes, room)
	tree := impl.ClayTree{Nodes: nodes}
	kept := slices.Clone(long)
	name := string([]byte("fresh"))
	locals := impl.ClayLocals(tree)
	got, code := impl.ClayRename(tree, locals[0], name)
	if code != 0 || !slices.Equal(long, kept) {
		t.Fatalf("code %d, or the argument was changed", code)
	}
	for at, n := range got.Nodes {
		for _, other := range tree.Nodes {
			if sharesBytes(other.Text, n.Text) || sharesBytes(name, n.Text) {
				t.Errorf("the text of %d shares memory with an argument", at)
			}
		}
	}
	want := slices.Clone(got.Nodes)
	for i := range got.Nodes[:cap(got.Nodes)] {
		got.Nodes[:cap(got.Nodes)][i] = room
	}
	wantLocals := slices.Clone(locals)
	for i := range locals[:cap(locals)] {
		locals[:cap(locals)][i] = 77
	}
	if again := impl.ClayLocals(tree); !slices.Equal(again, wantLocals) {
		t.Errorf("locals asked again: %v", again)
	}
	if again, _ := impl.ClayRename(tree, wantLocals[0], name); !slices.Equal(again.Nodes, want) || !slices.Equal(long, kept) {
		t.Errorf("renamed again: %+v", again)
	}
	impl.ClayRename(tree, wantLocals[0], "abc")
	impl.ClayRename(tree, -1, "fresh")
	if !slices.Equal(long, kept) {
		t.Error("the argument was changed beside a code")
	}
}
