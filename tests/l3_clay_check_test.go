package tests

import (
	"slices"
	"strings"
	"testing"

	"loop.example/kilnyard/impl"
)

const clayBuiltList = "len text int range sorted unique join split keys record without begins cut files fail"

// clayRead is the tree of a text that is one.
func clayRead(t *testing.T, src string) impl.ClayTree {
	t.Helper()
	tree, fault := impl.ClayParse(src)
	if fault.Code != 0 {
		t.Fatalf("%.200q: %+v", src, fault)
	}
	return tree
}

// clayMarked is the tree of a text whose names end with digits that only tell them apart, with and without these digits.
func clayMarked(t *testing.T, src string) (marked, plain impl.ClayTree) {
	t.Helper()
	marked = clayRead(t, src)
	plain.Nodes = slices.Clone(marked.Nodes)
	for i, n := range plain.Nodes {
		plain.Nodes[i].Text = strings.TrimRight(n.Text, "0123456789")
	}
	return marked, plain
}

// kin tells for each node of a list which one is above it, the how manieth kid of it it is, and what its own kids are.
type kin struct {
	above []int
	turn  []int
	kids  [][]int
}

// kinOf takes how many kids each node has, each being behind its kids.
func kinOf(counts []int) kin {
	k := kin{make([]int, len(counts)), make([]int, len(counts)), make([][]int, len(counts))}
	var place func(at int) int
	// place puts a node above its kids, from the last one on, and gives the place before all of them.
	place = func(at int) int {
		next := at - 1
		for turn := counts[at] - 1; turn >= 0; turn-- {
			k.above[next], k.turn[next] = at, turn
			k.kids[at] = slices.Insert(k.kids[at], 0, next)
			next = place(next)
		}
		return next
	}
	k.above[len(counts)-1] = -1
	place(len(counts) - 1)
	return k
}

type clayFamily struct {
	kin
	nodes []impl.ClayNode
}

func clayFamilyOf(nodes []impl.ClayNode) clayFamily {
	var counts []int
	for _, n := range nodes {
		counts = append(counts, n.Kids)
	}
	return clayFamily{kinOf(counts), nodes}
}

func (f clayFamily) isUnderLoad(at int) bool {
	return f.above[at] >= 0 && f.nodes[f.above[at]].Kind == impl.ClayNodeLoad
}

// makers are the nodes that make the names of the file, in order.
func (f clayFamily) makers() []int {
	var makers []int
	for at, n := range f.nodes {
		if n.Kind == impl.ClayNodeDef || n.Kind == impl.ClayNodeSet || f.isUnderLoad(at) {
			makers = append(makers, at)
		}
	}
	return makers
}

// maker climbs from a name to the node that makes it; -2 if it is built, -1 if it is not known.
func (f clayFamily) maker(at int) int {
	name := f.nodes[at].Text
	for from, up := at, f.above[at]; up >= 0; from, up = up, f.above[up] {
		switch turn := f.turn[from]; f.nodes[up].Kind {
		case impl.ClayNodeLet, impl.ClayNodeEach:
			if turn > 0 && f.nodes[up].Text == name {
				return up
			}
		case impl.ClayNodeFn, impl.ClayNodeDef:
			for before := turn - 1; before >= 0; before-- {
				if f.nodes[f.kids[up][before]].Text == name {
					return f.kids[up][before]
				}
			}
		}
	}
	for _, maker := range f.makers() {
		if f.nodes[maker].Text == name {
			return maker
		}
	}
	if slices.Contains(strings.Fields(clayBuiltList), name) {
		return -2
	}
	return -1
}

// codes are all faults at a node.
func (f clayFamily) codes(at int) []int {
	n := f.nodes[at]
	var codes []int
	sameBefore := func(makers []int) bool {
		return slices.ContainsFunc(makers, func(other int) bool { return other < at && f.nodes[other].Text == n.Text })
	}
	if makers := f.makers(); slices.Contains(makers, at) && sameBefore(makers) {
		codes = append(codes, 8)
	}
	if n.Kind == impl.ClayNodeParam {
		before := f.kids[f.above[at]][:f.turn[at]]
		if sameBefore(before) {
			codes = append(codes, 8)
		}
		if n.Kids == 0 && slices.ContainsFunc(before, func(other int) bool { return f.nodes[other].Kids > 0 }) {
			codes = append(codes, 10)
		}
	}
	if n.Kind == impl.ClayNodeName && !f.isUnderLoad(at) && f.maker(at) == -1 {
		codes = append(codes, 9)
	}
	return codes
}

// fault is the one that counts.
func (f clayFamily) fault() impl.ClayFault {
	for at := range f.nodes {
		if codes := f.codes(at); len(codes) > 0 {
			return impl.ClayFault{Code: slices.Min(codes), At: at}
		}
	}
	return impl.ClayFault{}
}

func (f clayFamily) binds() []int {
	binds := make([]int, len(f.nodes))
	for at, n := range f.nodes {
		binds[at] = -1
		if n.Kind == impl.ClayNodeName && !f.isUnderLoad(at) {
			binds[at] = f.maker(at)
		}
	}
	return binds
}

// wantBound asks of a valid tree what climbing from its names says, and gives the fault.
func wantBound(t *testing.T, nodes []impl.ClayNode) impl.ClayFault {
	t.Helper()
	tree := impl.ClayTree{Nodes: nodes}
	family := clayFamilyOf(nodes)
	fault := family.fault()
	if got := impl.ClayCheck(tree); got != fault {
		t.Errorf("%q: got %+v, want %+v", impl.ClayPrint(tree), got, fault)
	}
	binds := impl.ClayBinds(tree)
	if fault.Code != 0 {
		if len(binds) != 0 || len(impl.ClayLocals(tree)) != 0 {
			t.Errorf("%q does not fit, but: %v %v", impl.ClayPrint(tree), binds, impl.ClayLocals(tree))
		}
	} else if want := family.binds(); !slices.Equal(binds, want) {
		t.Errorf("%q: got %v, want %v", impl.ClayPrint(tree), binds, want)
	}
	return fault
}

// wantBinds asks that a text fits in which each name that is used ends with the digits of the node that makes it, a built one with none.
func wantBinds(t *testing.T, src string) {
	t.Helper()
	marked, plain := clayMarked(t, src)
	makers := map[string]int{}
	want := make([]int, len(plain.Nodes))
	family := clayFamilyOf(plain.Nodes)
	for at, n := range marked.Nodes {
		isMaker := slices.Contains([]int{impl.ClayNodeLet, impl.ClayNodeEach, impl.ClayNodeParam, impl.ClayNodeDef, impl.ClayNodeSet}, n.Kind) || family.isUnderLoad(at)
		if isMaker {
			if _, twice := makers[n.Text]; twice {
				t.Fatalf("%q: %s is made twice", src, n.Text)
			}
			makers[n.Text] = at
		}
	}
	for at, n := range marked.Nodes {
		want[at] = -1
		if n.Kind == impl.ClayNodeName && !family.isUnderLoad(at) {
			maker, ok := makers[n.Text]
			if !ok {
				maker = -2
			}
			want[at] = maker
		}
	}
	if fault := impl.ClayCheck(plain); fault != (impl.ClayFault{}) {
		t.Errorf("%q: %+v", src, fault)
	}
	if got := impl.ClayBinds(plain); !slices.Equal(got, want) {
		t.Errorf("%q: got %v, want %v", src, got, want)
	}
	wantBound(t, plain.Nodes)
}

// wantMisfit asks for a fault at the node whose name ends with 9.
func wantMisfit(t *testing.T, code int, src string) {
	t.Helper()
	marked, plain := clayMarked(t, src)
	at := slices.IndexFunc(marked.Nodes, func(n impl.ClayNode) bool { return strings.HasSuffix(n.Text, "9") })
	if got := impl.ClayCheck(plain); got != (impl.ClayFault{Code: code, At: at}) {
		t.Errorf("%q: got %+v, want code %d at %d", src, got, code, at)
	}
	if fault := wantBound(t, plain.Nodes); fault.Code == 0 {
		t.Errorf("%q fits", src)
	}
}

// Promise 3: names of the file are known in all of it.
func TestClayBindsNamesOfFile(t *testing.T) {
	wantBinds(t, "")
	wantBinds(t, "let a1 = b2; let b2 = 1;")
	wantBinds(t, "let a1 = a1;")
	wantBinds(t, "emit f1(a2); def f1() = a2; let a2 = f1;")
	wantBinds(t, "def f1() = f1(g2); def g2() = f1(g2);")
	wantBinds(t, `emit [a1, b2, c3]; load "p": a1, b2; load "p": c3;`)
	wantBinds(t, `load "p": p1; load "q": q2; emit [p1, q2];`)
	wantBinds(t, "let a1 = 1; emit {a: a1.a, b: len(a = a1), \"a\\00\": \"a\"};")
	wantBinds(t, "let a1 = 1; emit not -a1 == a1 + a1[a1] and (if a1 then a1 else a1);")
}

// Promise 3: what is made further inside hides what is outside, and no longer than where it is known.
func TestClayBindsWhatHides(t *testing.T) {
	for _, src := range []string{
		// A name of the file.
		"let a1 = 1; def f2(a3) = a3; emit a1;",
		"let a1 = 1; emit [fn(a2) => a2, a1];",
		"let a1 = 1; emit [let a2 = a1 in a2, a1];",
		"let a1 = 1; emit [[a2 for a2 in a1 if a2], a1];",
		"def a1(b2) = [let a3 = a1 in a3(b2), a1, b2];",
		`emit [[a2 for a2 in a1], a1]; load "p": a1;`,
		"def f1(f2) = f2; emit f1;",
		"let a1 = let a2 = a1 in a2;",
		// A built name.
		"emit [fn(len1) => len1, len];",
		"def f1(len2) = len2; emit len;",
		"emit [let len1 = len in len1, len];",
		"emit [[len1 for len1 in len if len1], len];",
		"let len1 = 1; emit [len1, cut];",
		"def len1(cut2) = [len1, cut2]; emit [len1, cut];",
		`load "p": len1, a2; emit [a2, len1, text];`,
		`load "p": len1; emit [let len2 = len1 in len2, len1];`,
		// Each other.
		"emit let a1 = 1 in [let a2 = a1 in a2, a1];",
		"emit let a1 = 1 in let a2 = a1 in let a3 = a2 in a3;",
		"emit let a1 = let a2 = 1 in a2 in a1;",
		"emit let a1 = 1 in [[a2 for a2 in [a1]], a1];",
		"emit let a1 = 1 in [fn(a2) => a2, a1];",
		"emit let a1 = 1 in [fn(b2 = a1, a3 = a1) => a3, a1];",
		"emit [[let a2 = a1 in a2, a1] for a1 in [] if (let a3 = a1 in a3) == a1];",
		"emit [[a2 for a2 in a1 if a2] for a1 in [] if [a3 for a3 in a1 if a3] == a1];",
		"emit [fn(a2) => a2 for a1 in [] if (fn(a3) => a3)(a1)];",
		"def f1(a2) = [let a3 = a2 in a3, [a4 for a4 in a2 if a4], fn(a5) => a5, a2];",
		"emit fn(a1) => [fn(a2) => a2, a1];",
		"emit [(let a1 = 1 in a1) + (let a2 = 2 in a2), [a3 for a3 in []], fn(a4) => a4];",
	} {
		wantBinds(t, src)
	}
}

// Promise 3: parameters and their defaults.
func TestClayBindsDefaults(t *testing.T) {
	for _, src := range []string{
		"def f1(a2, b3 = a2, c4 = [a2, b3]) = [a2, b3, c4];",
		"emit fn(a1, b2 = a1, c3 = [a1, b2]) => [a1, b2, c3];",
		"let a1 = 1; def f2(a3 = a1) = a3; emit a1;",
		"let a1 = 1; emit fn(a2 = a1) => a2;",
		"emit fn(len1 = len) => len1;",
		"def f1(len2 = len(len)) = len2;",
		"let b1 = 1; def f2(a3 = b1, b4 = [a3, b1]) = [a3, b4]; emit b1;",
		"emit fn(a1 = 1, b2 = fn(a3 = a1) => a3) => [a1, b2];",
		"emit fn(a1, b2 = let a3 = a1 in a3, c4 = [a5 for a5 in a1]) => a1;",
		"def f1(a2 = f1) = f1(a2);",
		"def f1(a2 = fn(b3) => b3, b4 = a2) = b4;",
		"def f1(f2 = f1, g3 = f2) = [f2, g3];",
		"emit let a1 = 1 in fn(a2 = a1, b3 = a2) => a2;",
		"emit fn(a1, b2, c3 = 1, d4 = 2) => d4;",
	} {
		wantBinds(t, src)
	}
}

func TestClayBindsBuiltNames(t *testing.T) {
	for name := range strings.FieldsSeq(clayBuiltList) {
		tree := clayRead(t, "emit "+name+";")
		if got := impl.ClayBinds(tree); !slices.Equal(got, []int{-2, -1, -1}) {
			t.Errorf("%s: %v", name, got)
		}
		for _, near := range []string{name + "_", "_" + name, name[1:], name[:len(name)-1], name + name} {
			// Cut short some are words, which are no names.
			if isClayName(near) {
				wantMisfit(t, 9, "emit "+near+"9;")
			}
		}
	}
	for name := range strings.FieldsSeq("load_ print emit_ has_ str list bool text_of a _ x y") {
		wantMisfit(t, 9, "emit "+name+"9;")
	}
}

func TestClayCheckUnknownNames(t *testing.T) {
	for _, src := range []string{
		"let a = b9;",
		"emit a9;",
		"emit let x = x9 in x;",
		"emit let x = 1 in y9;",
		"emit (let x = 1 in x) + x9;",
		"emit [1 for x in x9];",
		"emit [x for x in x9 if x];",
		"emit [[x for x in [] if x], x9];",
		"emit fn(a = a9) => a;",
		"def f(a = a9) = a;",
		"def f(a = b9, b = 1) = a;",
		"def f(a, b = c9, c = 1) = a;",
		"def f(a) = a; emit a9;",
		"def f(a) = b9;",
		"emit (fn(x) => x)(x9);",
		"emit fn(a = fn(b) => b) => b9;",
		"emit {a: 1, b: a9};",
		"emit {a: 1}.a + a9;",
		"emit len(a = 1, b = a9);",
		`load "p": a; emit p9;`,
		`load "a": b; emit a9;`,
		"emit \"a\" + a9;",
		"emit let len_ = 1 in lenx9;",
		"emit [let a = 1 in a, [a for a in []], fn(a) => a, a9];",
	} {
		wantMisfit(t, 9, src)
	}
}

func TestClayCheckNamesMadeTwice(t *testing.T) {
	for _, src := range []string{
		"let a = 1; let a9 = 2;",
		"let a = 1; let a9 = 2; let a = 3;",
		"let a = 1; let b = 2; let a9 = 3; let b = 4;",
		"def a() = 1; def a9() = 2;",
		"def a() = 1; let a9 = 2;",
		"let a = 1; def a9(b) = 2;",
		`def a() = 1; load "p": b, a9;`,
		`load "p": a; def a9() = 1;`,
		`load "p": a; let a9 = 1;`,
		`let a = 1; load "p": a9;`,
		`load "p": a, a9;`,
		`load "p": a, b, a9, b;`,
		`load "p": a; load "q": a9;`,
		`load "p": a; load "p": a9;`,
		"let len = 1; let len9 = 1;",
		`load "p": len, len9;`,
		"def f(a, a9) = 1;",
		"def f(a, b, a9) = 1;",
		"def f(a, a9, a) = 1;",
		"emit fn(a, a9) => 1;",
		"def f(a = 1, a9 = 2) = 1;",
		"def f(a, a9 = a) = 1;",
		"emit fn(len, len9) => 1;",
	} {
		wantMisfit(t, 8, src)
	}
	// Nothing is made twice where it is another thing that makes it.
	for _, src := range []string{
		"let a1 = 1; def b2(a3) = 1; def c4(a5) = let a6 = 1 in [a7 for a7 in []]; emit fn(a8) => let a10 = 1 in let a11 = 1 in 2;",
		"def f1(a2 = fn(a3) => 1, b4 = fn(a5) => 1) = fn(a6, b7) => 1;",
		`load "a": b1; load "a": c2; let a3 = {b: 1, c: 2}.b;`,
	} {
		wantBinds(t, src)
	}
}

func TestClayCheckDefaults(t *testing.T) {
	for _, src := range []string{
		"def f(a = 1, b9) = a;",
		"def f(a, b = 1, c9) = a;",
		"def f(a = 1, b = 2, c9, d) = a;",
		"def f(a = 1, b9, c = 2, d) = a;",
		"emit fn(a = 1, b9) => a;",
		"def f(a = fn(b = 1, c9) => b, d = 1) = a;",
		"def f(a = a(1), b9) = a; def a(c) = c;",
	} {
		wantMisfit(t, 10, src)
	}
	wantBinds(t, "def f1(a2, b3 = fn(c4) => c4) = fn(d5) => d5;")
	wantBinds(t, "def f1(a2 = fn(b3) => b3) = a2;")
	wantBinds(t, "def f1(a2 = 1) = 1; def g3(a4) = 1;")
	wantBinds(t, "def f1(a2 = 1) = fn(a3) => 1;")
}

// The least place counts, and of one node the least code.
func TestClayCheckMoreThanOneFault(t *testing.T) {
	for src, code := range map[string]int{
		"def f(a = 1, a9) = 1;":                        8,
		"emit fn(a, b = 1, a9) => 1;":                  8,
		"def f(a = 1, b9, a) = 1;":                     10,
		"def f(a = 1, b9, b) = 1;":                     10,
		"def f(a, a9, b = 1, c) = x;":                  8,
		"def f(a, a = x9) = 1;":                        9,
		"def f(a = x9, b) = 1;":                        9,
		"def f(a = 1, b9) = x;":                        10,
		"let a = x9; let a = 1;":                       9,
		"let a = 1; let a = x9;":                       9,
		"let a = 1; let a9 = 2; emit x;":               8,
		"emit x9; let a = 1; let a = 2;":               9,
		`load "p": a, a9; emit x;`:                     8,
		`emit x9; load "p": a, a;`:                     9,
		"def f() = 1; def f(a = 1, b9) = 2;":           10,
		"def f() = 1; def f9(a = 1) = 2; emit x;":      8,
		"def f(a = fn(b = 1, c9) => 1, a) = 1;":        10,
		"def f(a = 1, b9) = 1; let c = 1; let c = 2;":  10,
		"let c = 1; let c9 = 2; def f(a = 1, b) = 1;":  8,
		"emit fn(a = 1, b9) => fn(c, c) => d;":         10,
		"emit [fn(c, c9) => d, fn(a = 1, b) => 1];":    8,
		"emit [[y for x in x9 if z], fn(a, a) => 1];":  9,
		"emit [[y9 for x in [] if z], fn(a, a) => 1];": 9,
	} {
		wantMisfit(t, code, src)
	}
}

// wantNoFit asks for what is answered of a tree that is not valid.
func wantNoFit(t *testing.T, what string, tree impl.ClayTree) {
	t.Helper()
	if got := impl.ClayCheck(tree); got != (impl.ClayFault{Code: 11}) {
		t.Errorf("%s: %+v", what, got)
	}
	if got := impl.ClayBinds(tree); len(got) != 0 {
		t.Errorf("%s: binds %v", what, got)
	}
	if got := impl.ClayLocals(tree); len(got) != 0 {
		t.Errorf("%s: locals %v", what, got)
	}
	for at := -1; at <= len(tree.Nodes) && at < 20; at++ {
		if got, code := impl.ClayRename(tree, at, "fresh"); code != 1 || len(got.Nodes) != 0 {
			t.Errorf("%s: renamed at %d: %d %v", what, at, code, got)
		}
	}
}

func TestClayCheckNotValid(t *testing.T) {
	wantNoFit(t, "no nodes", impl.ClayTree{})
	fits := clayRead(t, "let a = let b = 1 in b; emit [b for b in a];").Nodes
	wantNoFit(t, "no file", impl.ClayTree{Nodes: fits[:len(fits)-1]})
	wantNoFit(t, "two files", impl.ClayTree{Nodes: append(slices.Clone(fits), impl.ClayNode{Kind: impl.ClayNodeFile})})
	for at := range fits {
		for what, bend := range map[string]func(n *impl.ClayNode){
			"kind":         func(n *impl.ClayNode) { n.Kind = 0 },
			"kind above":   func(n *impl.ClayNode) { n.Kind = 25 },
			"op":           func(n *impl.ClayNode) { n.Op = 15 },
			"number":       func(n *impl.ClayNode) { n.N = -1 },
			"kids":         func(n *impl.ClayNode) { n.Kids = -1 },
			"too many":     func(n *impl.ClayNode) { n.Kids = 1 << 62 },
			"one kid more": func(n *impl.ClayNode) { n.Kids += 10 },
		} {
			nodes := slices.Clone(fits)
			bend(&nodes[at])
			wantNoFit(t, what, impl.ClayTree{Nodes: nodes})
		}
	}
	// Code 11 is looked for first, whatever else does not fit.
	for _, src := range []string{"emit x;", "let a = 1; let a = 2;", "def f(a = 1, b) = 1;", "def f(a = 1, a) = x; let f = 1;"} {
		nodes := clayRead(t, src).Nodes
		nodes[len(nodes)-1].Text = "a"
		wantNoFit(t, src, impl.ClayTree{Nodes: nodes})
	}
	many := clayGrowFile(clayMany(201, func(i int) clayBush { return clayGrowEmit(clayGrowName("x")) })...)
	wantNoFit(t, "too many statements", many.tree())
}

// The largest trees and the deepest ones are gone through, too.
func TestClayCheckLargeTrees(t *testing.T) {
	nested := clayGrowName("a")
	for range 48 {
		nested = clayGrowText(impl.ClayNodeLet, "a", clayGrowInt(1), nested)
	}
	deepest := clayGrowFile(clayGrowEmit(nested)).nodes()
	if fault := wantBound(t, deepest); fault.Code != 0 {
		t.Errorf("deepest: %+v", fault)
	}
	if got := impl.ClayBinds(impl.ClayTree{Nodes: deepest})[48]; got != 49 {
		t.Errorf("the innermost name is bound to %d", got)
	}
	use := clayGrowEmit(clayGrowName("f"))
	statements := clayMany(24, func(int) clayBush {
		return clayGrowEmit(clayGrowKind(impl.ClayNodeList, clayMany(200, func(int) clayBush { return clayGrowName("f") })...))
	})
	statements = append(statements, clayGrowText(impl.ClayNodeDef, "f", clayGrowName("f")), clayGrowEmit(clayGrowUn(impl.ClayOpNeg, clayGrowName("f"))))
	statements = append(statements, clayMany(73, func(int) clayBush { return use })...)
	binds := impl.ClayBinds(clayGrowFile(statements...).tree())
	if len(binds) != 5000 || binds[0] != 24*202+1 || binds[4997] != 24*202+1 {
		t.Errorf("widest: %d binds", len(binds))
	}
	wantNoFit(t, "too many nodes", clayGrowFile(append(statements, use)...).tree())
	names := clayMany(200, func(i int) clayBush { return clayGrowName("n" + strings.Repeat("z", i/26) + string(rune('a'+i%26))) })
	load := clayGrowFile(clayGrowText(impl.ClayNodeLoad, "p", names...)).nodes()
	if fault := wantBound(t, load); fault.Code != 0 {
		t.Errorf("200 names of a load: %+v", fault)
	}
	load[199].Text = load[0].Text
	if fault := wantBound(t, load); fault != (impl.ClayFault{Code: 8, At: 199}) {
		t.Errorf("the last of 200 names: %+v", fault)
	}
}

// clayTurns are all E of a few forms that are at most so deep, each name being one of two.
func clayTurns(deep int) []clayBush {
	names := []string{"a", "len"}
	var all []clayBush
	for _, name := range names {
		all = append(all, clayGrowName(name))
	}
	if deep == 0 {
		return all
	}
	less, least := clayTurns(deep-1), clayTurns(0)
	param := impl.ClayNodeParam
	for _, name := range names {
		for _, e := range less {
			all = append(all, clayGrowKind(impl.ClayNodeFn, clayGrowText(param, name), e))
			for _, d := range least {
				all = append(all, clayGrowText(impl.ClayNodeEach, name, d, e, d))
				all = append(all, clayGrowKind(impl.ClayNodeFn, clayGrowText(param, name, e), d))
				for _, other := range names {
					all = append(all, clayGrowKind(impl.ClayNodeFn, clayGrowText(param, name), clayGrowText(param, other, d), e))
					all = append(all, clayGrowKind(impl.ClayNodeFn, clayGrowText(param, name, d), clayGrowText(param, other), e))
				}
			}
		}
	}
	for _, name := range names {
		for _, first := range less {
			for _, second := range less {
				all = append(all, clayGrowText(impl.ClayNodeLet, name, first, second))
				all = append(all, clayGrowText(impl.ClayNodeEach, name, first, second))
			}
		}
	}
	return all
}

// Promise 3, for all small trees of these forms, in a file that makes one of the names, both or none.
func TestClayCheckAllSmallTrees(t *testing.T) {
	t.Parallel()
	files := []func(e clayBush) clayBush{
		func(e clayBush) clayBush { return clayGrowFile(clayGrowEmit(e)) },
		func(e clayBush) clayBush { return clayGrowFile(clayGrowText(impl.ClayNodeSet, "a", e)) },
		func(e clayBush) clayBush {
			return clayGrowFile(clayGrowEmit(e), clayGrowText(impl.ClayNodeLoad, "p", clayGrowName("len"), clayGrowName("a")))
		},
	}
	fit, all := 0, 0
	for _, e := range clayTurns(2) {
		for _, file := range files {
			all++
			if wantBound(t, file(e).nodes()).Code == 0 {
				fit++
			}
			if t.Failed() {
				return
			}
		}
	}
	if fit < 10000 || all-fit < 10000 {
		t.Errorf("%d of %d fit", fit, all)
	}
}

// fitting mends a tree at its first fault till there is none, asking for each fault on the way.
func (d *clayDice) fitting(t *testing.T, nodes []impl.ClayNode) []impl.ClayNode {
	t.Helper()
	for fresh := 0; ; fresh++ {
		fault := wantBound(t, nodes)
		if fault.Code == 0 || t.Failed() {
			return nodes
		}
		at := fault.At
		switch fault.Code {
		case 8:
			nodes[at].Text = "fresh_" + strings.Repeat("x", fresh%20) + string(rune('a'+fresh/20))
		case 9:
			if d.below(2) == 0 {
				nodes[at].Text = d.pick("len", "keys", "cut")
			} else {
				nodes[at] = impl.ClayNode{Kind: impl.ClayNodeInt, N: 7}
			}
		case 10:
			nodes[at].Kids = 1
			nodes = slices.Insert(nodes, at, impl.ClayNode{Kind: impl.ClayNodeNone})
		}
	}
}

// Promise 3, for trees of all kinds that are put together by a fixed rule, and mended till they fit.
func TestClayCheckAsByClimbing(t *testing.T) {
	dice := clayDice(13)
	for i := range 3000 {
		nodes := dice.file(1+dice.below(4), i%4).nodes()
		if len(nodes) > 200 {
			continue
		}
		nodes = dice.fitting(t, nodes)
		if t.Failed() {
			return
		}
		if !isRightClayTree(impl.ClayTree{Nodes: nodes}) {
			t.Fatalf("mended to what is not valid: %+v", nodes)
		}
	}
}

// What is printed, and read again, fits as before.
func TestClayBindsOfPrinted(t *testing.T) {
	dice := clayDice(17)
	for i := range 300 {
		tree := impl.ClayTree{Nodes: dice.fitting(t, dice.file(1+dice.below(3), i%4).nodes())}
		text := impl.ClayPrint(tree)
		if text == "" {
			continue
		}
		if again := clayRead(t, text); !slices.Equal(impl.ClayBinds(again), impl.ClayBinds(tree)) {
			t.Errorf("%q: %v, %v", text, impl.ClayBinds(again), impl.ClayBinds(tree))
		}
		if t.Failed() {
			return
		}
	}
}

// withRoom is a list with spare room behind its end, and all of that room.
func withRoom[T any](list []T, room T) (short, long []T) {
	long = append(slices.Clone(list), make([]T, 50)...)
	for i := len(list); i < len(long); i++ {
		long[i] = room
	}
	return long[:len(list)], long
}

func TestClayBindsAnswersNewMemory(t *testing.T) {
	room := impl.ClayNode{Kind: 99, Text: "room"}
	for _, src := range []string{"let a = let b = len in b; emit [b + a for b in a if b];", "def f(a = 1, b) = x;", "let a = 1; let a = 2;"} {
		nodes, long := withRoom(clayRead(t, src).Nodes, room)
		kept := slices.Clone(long)
		tree := impl.ClayTree{Nodes: nodes}
		fault := impl.ClayCheck(tree)
		binds := impl.ClayBinds(tree)
		want := slices.Clone(binds)
		for i := range binds[:cap(binds)] {
			binds[:cap(binds)][i] = 77
		}
		if again := impl.ClayBinds(tree); !slices.Equal(again, want) || impl.ClayCheck(tree) != fault {
			t.Errorf("%q: asked again: %v, want %v", src, again, want)
		}
		if !slices.Equal(long, kept) {
			t.Errorf("%q: the argument was changed", src)
		}
	}
}

func FuzzClayCheck(f *testing.F) {
	f.Add("load \"p\": a, b; def f(x, y = x) = let z = y in [z for z in x if z]; emit fn(a = b) => len(a);")
	f.Fuzz(func(t *testing.T, src string) {
		tree, fault := impl.ClayParse(src)
		if fault.Code == 0 && len(tree.Nodes) < 500 {
			wantBound(t, tree.Nodes)
		}
	})
}
