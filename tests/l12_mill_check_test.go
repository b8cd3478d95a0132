package tests

import (
	"fmt"
	"slices"
	"strconv"
	"strings"
	"testing"

	"loop.example/kilnyard/impl"
)

// millSignRows are the rows of the document's table: what, the types of the kids that hang on it, and the type that it gives. I is each integer type, A each type.
const millSignRows = `
- ~ : I gives I
! : bool gives bool
|| && : bool bool gives bool
== != : A A gives bool
< <= > >= : I I gives bool
< <= > >= : text text gives bool
+ : I I gives I
+ : text text gives text
- | ^ * / % & << >> : I I gives I
read list : text gives text
has : text gives bool
tool : text text gives text
arg : gives text
len num : text gives i64
at : text i64 gives u8
cut : text i64 i64 gives text
find : text text gives i64
chr : u8 gives text
dec : I gives text
u8 : I gives u8
u16 : I gives u16
u32 : I gives u32
u64 : I gives u64
i8 : I gives i8
i16 : I gives i16
i32 : I gives i32
i64 : I gives i64
if while : bool gives ?
fail say : text gives ?
write : text text gives ?
let : A gives ?
`

// millNoType is the word of TypeNone in what stands for types.
const millNoType = "?"

// millSigns has the type that is given for each thing and each list of types of its kids that fit; there is none where they do not.
var millSigns = func() map[string]int {
	signs := map[string]int{}
	for line := range strings.Lines(strings.TrimSpace(millSignRows)) {
		what, rest, _ := strings.Cut(line, ":")
		kids, gives, _ := strings.Cut(rest, "gives")
		for _, kind := range millTypeTexts[1:] {
			for letter, some := range map[string][]string{"I": millTypeTexts[impl.MillTypeU8:], "A": millTypeTexts[1:]} {
				if strings.Contains(kids, letter) && !slices.Contains(some, kind) {
					kind = ""
				}
			}
			if kind == "" {
				continue
			}
			of := func(text string) string { return strings.NewReplacer("I", kind, "A", kind).Replace(text) }
			for word := range strings.FieldsSeq(what) {
				key := strings.Join(append([]string{word}, strings.Fields(of(kids))...), " ")
				signs[key] = slices.Index(millTypeTexts, strings.TrimSpace(of(gives)))
			}
		}
	}
	return signs
}()

// millWhat is how a node is called in the rows of the table; empty if it stands in none of them.
func millWhat(n impl.MillNode) string {
	switch n.Kind {
	case impl.MillNodeUn:
		return millUnTexts[n.Op]
	case impl.MillNodeBin:
		return millOpMarks[n.Op]
	case impl.MillNodeBuilt:
		return millBuiltTexts[n.Op]
	case impl.MillNodeConv:
		return millTypeTexts[n.Type]
	}
	return map[int]string{
		impl.MillNodeIf: "if", impl.MillNodeWhile: "while", impl.MillNodeFail: "fail", impl.MillNodeSay: "say", impl.MillNodeWrite: "write", impl.MillNodeLet: "let",
	}[n.Kind]
}

// millFamily asks what fits by climbing from each node, in the order of the nodes.
type millFamily struct {
	kin
	nodes []impl.MillNode
	types []int
	ends  []bool
}

func millFamilyOf(nodes []impl.MillNode) *millFamily {
	var counts []int
	for _, n := range nodes {
		counts = append(counts, n.Kids)
	}
	return &millFamily{kin: kinOf(counts), nodes: nodes}
}

// seen are the names that are visible where a node stands, each with its type.
func (f *millFamily) seen(at int) map[string]int {
	seen := map[string]int{}
	for from, up := at, f.above[at]; up >= 0; from, up = up, f.above[up] {
		for _, before := range f.kids[up][:f.turn[from]] {
			switch n := f.nodes[before]; n.Kind {
			case impl.MillNodeLet:
				seen[n.Text] = f.types[before-1]
			case impl.MillNodeParam:
				seen[n.Text] = n.Type
			}
		}
	}
	return seen
}

// over is the first node above one that is of a kind; -1 if there is none.
func (f *millFamily) over(at, kind int) int {
	for at = f.above[at]; at >= 0 && f.nodes[at].Kind != kind; at = f.above[at] {
	}
	return at
}

// fn is the first function of a name; -1 if there is none.
func (f *millFamily) fn(name string) int {
	return slices.IndexFunc(f.nodes, func(n impl.MillNode) bool { return n.Kind == impl.MillNodeFn && n.Text == name })
}

// params are the types of a function's parameters.
func (f *millFamily) params(fn int) []int {
	params := []int{}
	for _, kid := range f.kids[fn] {
		if f.nodes[kid].Kind == impl.MillNodeParam {
			params = append(params, f.nodes[kid].Type)
		}
	}
	return params
}

// endsAt says whether a statement or a block ends, by what is known of those before.
func (f *millFamily) endsAt(at int) bool {
	kids := f.kids[at]
	switch f.nodes[at].Kind {
	case impl.MillNodeReturn, impl.MillNodeFail:
		return true
	case impl.MillNodeIf:
		return len(kids) == 3 && f.ends[kids[1]] && f.ends[kids[2]]
	case impl.MillNodeBlock:
		return len(kids) > 0 && f.ends[kids[len(kids)-1]]
	}
	return false
}

// look gives the type of a node and all its codes, where no node before it has one.
func (f *millFamily) look(at int) (kind int, codes []int) {
	n := f.nodes[at]
	is := func(wrong bool, code int) {
		if wrong {
			codes = append(codes, code)
		}
	}
	var kinds []int
	key := millWhat(n)
	for _, kid := range f.kids[at] {
		kinds = append(kinds, f.types[kid])
		if f.nodes[kid].Kind <= impl.MillNodeConv {
			key += " " + millTypeTexts[f.types[kid]]
		}
	}
	if millWhat(n) != "" {
		gives, ok := millSigns[key]
		is(!ok, 5)
		kind = gives
	}
	seen := f.seen(at)
	named, known := seen[n.Text]
	switch n.Kind {
	case impl.MillNodeInt:
		kind = n.Type
	case impl.MillNodeText:
		kind = impl.MillTypeText
	case impl.MillNodeBool:
		kind = impl.MillTypeBool
	case impl.MillNodeName:
		is(!known, 3)
		kind = named
	case impl.MillNodeSet:
		is(!known, 3)
		is(kinds[0] != named, 5)
	case impl.MillNodeLet, impl.MillNodeParam:
		is(known, 2)
		is(len(seen) >= 200, 11)
	case impl.MillNodeCall:
		if fn := f.fn(n.Text); fn < 0 || len(f.params(fn)) != len(kinds) {
			is(true, 4)
		} else {
			is(!slices.Equal(f.params(fn), kinds), 5)
			kind = f.nodes[fn].Type
		}
	case impl.MillNodeBreak, impl.MillNodeContinue:
		is(f.over(at, impl.MillNodeWhile) < 0, 6)
	case impl.MillNodeReturn:
		gives := f.nodes[f.over(at, impl.MillNodeFn)].Type
		is(len(kinds) == 1 && gives == 0, 7)
		is(len(kinds) == 1 && gives != kinds[0], 7)
		is(len(kinds) == 0 && gives != 0, 7)
	case impl.MillNodeFn:
		is(f.fn(n.Text) != at, 1)
		is(n.Type != 0 && !f.ends[at-1], 8)
	case impl.MillNodeProgram:
		fn := f.fn("main")
		is(fn < 0 || len(f.params(fn)) > 0 || f.nodes[fn].Type != impl.MillTypeText, 10)
	}
	return kind, codes
}

// read gives the types of the nodes, or the fault that counts.
func (f *millFamily) read() ([]int, impl.MillFault) {
	for at := range f.nodes {
		kind, codes := f.look(at)
		if len(codes) > 0 {
			return nil, impl.MillFault{Code: slices.Min(codes), At: at}
		}
		f.types = append(f.types, kind)
		f.ends = append(f.ends, f.endsAt(at))
	}
	return f.types, impl.MillFault{}
}

// wantMillFitted asks of a valid tree what climbing says, and gives the fault.
func wantMillFitted(t *testing.T, nodes []impl.MillNode) impl.MillFault {
	t.Helper()
	tree := impl.MillTree{Nodes: nodes}
	types, fault := millFamilyOf(nodes).read()
	if got := impl.MillCheck(tree); got != fault {
		t.Errorf("%.2000q: got %+v, want %+v", impl.MillPrint(tree), got, fault)
	}
	if got := impl.MillTypes(tree); !slices.Equal(got, types) {
		t.Errorf("%.2000q: types %v, want %v", impl.MillPrint(tree), got, types)
	}
	wantMillTyped(t, tree)
	return fault
}

// wantMillTyped asks promise 16's second half: each E has a type, but for a call of a function without one.
func wantMillTyped(t *testing.T, tree impl.MillTree) {
	t.Helper()
	types := impl.MillTypes(tree)
	if impl.MillCheck(tree) != (impl.MillFault{}) {
		if len(types) != 0 {
			t.Errorf("%d types beside a fault", len(types))
		}
		return
	}
	if len(types) != len(tree.Nodes) {
		t.Errorf("%d types of %d nodes", len(types), len(tree.Nodes))
		return
	}
	typeless := map[string]int{}
	for _, n := range tree.Nodes {
		if n.Kind == impl.MillNodeFn && n.Type == impl.MillTypeNone {
			typeless[n.Text] = 1
		}
	}
	for at, n := range tree.Nodes {
		isE := n.Kind <= impl.MillNodeConv && (n.Kind != impl.MillNodeCall || typeless[n.Text] == 0)
		if (types[at] != impl.MillTypeNone) != isE || types[at] < 0 || types[at] > 10 {
			t.Errorf("%+v has the type %d", n, types[at])
		}
	}
}

// millOf is the bush of a text that is a program.
func millOf(t *testing.T, src string) millBush {
	t.Helper()
	tree, fault := impl.MillParse(src)
	if fault.Code != 0 {
		t.Fatalf("%.300q: %+v", src, fault)
	}
	b, _, _ := millBushOf(tree.Nodes)
	return b
}

// labels tell the nodes of a bush apart, in their order: an E and a short statement by its text, what has a block by what stands in front of it.
func (b millBush) labels() []string {
	var labels []string
	for _, kid := range b.kids {
		labels = append(labels, kid.labels()...)
	}
	label := strings.Join(strings.Fields(b.text(noBrackets)), " ")
	switch b.top.Kind {
	case impl.MillNodeIf, impl.MillNodeWhile, impl.MillNodeFn:
		label, _, _ = strings.Cut(label, " {")
	case impl.MillNodeProgram:
		label = "program"
	case impl.MillNodeBlock:
		label = "{}"
	}
	return append(labels, label)
}

// millWrong is a program, the code of its first fault, and the label of the node that has it: `x#2` is the second one with the label `x`, where there are several.
type millWrong struct {
	code int
	at   string
	src  string
}

// wantMillWrong asks for a fault, and for no types.
func wantMillWrong(t *testing.T, w millWrong) {
	t.Helper()
	b := millOf(t, w.src)
	label, turn, several := strings.Cut(w.at, "#")
	var places []int
	for at, other := range b.labels() {
		if other == label {
			places = append(places, at)
		}
	}
	n := 1
	if several {
		n, _ = strconv.Atoi(turn)
	}
	if len(places) < n || !several && len(places) > 1 {
		t.Fatalf("%q: %d nodes with the label %q: %q", w.src, len(places), label, b.labels())
	}
	if got, want := impl.MillCheck(b.tree()), (impl.MillFault{Code: w.code, At: places[n-1]}); got != want {
		t.Errorf("%q: got %+v, want %+v", w.src, got, want)
	}
	if types := impl.MillTypes(b.tree()); len(types) != 0 {
		t.Errorf("%q: types %v", w.src, types)
	}
	wantMillFitted(t, b.nodes())
}

func wantMillFits(t *testing.T, src string) {
	t.Helper()
	b := millOf(t, src)
	if got := impl.MillCheck(b.tree()); got != (impl.MillFault{}) {
		label := "none"
		if labels := b.labels(); got.At >= 0 && got.At < len(labels) {
			label = labels[got.At]
		}
		t.Errorf("%q: %+v, %s", src, got, label)
	}
	if got := len(impl.MillTypes(b.tree())); got != b.size() {
		t.Errorf("%q: %d types of %d nodes", src, got, b.size())
	}
	wantMillFitted(t, b.nodes())
}

func (b millBush) size() int {
	size := 1
	for _, kid := range b.kids {
		size += kid.size()
	}
	return size
}

// millEnd has what most programs of these tests need beside what they ask.
const millEnd = ` fn none() { } fn byte(n u8) -> u8 { return n; } fn pair(s text, n i64) -> text { return s; } fn main() -> text { return ""; }`

func TestMillMaxSlots(t *testing.T) {
	if impl.MillMaxSlots != 200 {
		t.Errorf("%d", impl.MillMaxSlots)
	}
}

// Promise 16: of faults in several nodes the first one in the order of the tree is told.
func TestMillCheckFirstNode(t *testing.T) {
	for _, w := range []millWrong{
		// In a node and in a kid of it.
		{3, "x", `fn f() { say x; }` + millEnd},
		{3, "x", `fn f() { y = x; }` + millEnd},
		{3, "x", `fn f(a u8) { let a = x; }` + millEnd},
		{3, "x", `fn f() { let a = none() + x; }` + millEnd},
		{4, "g()", `fn f() { say 1 + g(); }` + millEnd},
		{4, "g()", `fn f() { h(g()); }` + millEnd},
		{5, "-true", `fn f() { y = -true; }` + millEnd},
		{5, "-true", `fn f() { return -true; }` + millEnd},
		{5, "!1", `fn f() { if !1 { } }` + millEnd},
		{5, "say 1;", `fn f() { if 1 { say 1; } }` + millEnd},
		{5, "say 1;", `fn f() { while 1 { say 1; } }` + millEnd},
		{6, "break;", `fn f() { if 1 { break; } }` + millEnd},
		{7, "return 1;", `fn f() { if 1 { return 1; } else { } }` + millEnd},
		{5, "if 2", `fn f() { if 1 { } else if 2 { } }` + millEnd},
		{5, "if 1", `fn f() { if 1 { } else if true { } }` + millEnd},
		{5, "say 2;", `fn f() { if 1 { } else { say 2; } }` + millEnd},
		// In kids beside each other.
		{3, "x", `fn f() { let a = x + y; }` + millEnd},
		{5, "-true", `fn f() { let a = -true == x; }` + millEnd},
		{3, "x", `fn f() { write x, y; }` + millEnd},
		{3, "y", `fn f() { write 1, y; }` + millEnd},
		{3, "x", `fn f() { pair(x, g()); }` + millEnd},
		{4, "g()", `fn f() { pair(g(), x); }` + millEnd},
		{3, "x", `fn f() { let a = cut("", x, y); }` + millEnd},
		{3, "x", `fn f() { if x { say 1; } else { say 2; } }` + millEnd},
		{5, "say 1;", `fn f() { if true { say 1; } else { say 2; } }` + millEnd},
		// In a statement and in one behind it.
		{5, "say 1;", `fn f() { say 1; say 2; }` + millEnd},
		{5, "say 2;", `fn f() { say ""; say 2; x = 3; }` + millEnd},
		{6, "break;", `fn f() { break; continue; }` + millEnd},
		{6, "continue;", `fn f() { continue; break; x = 1; }` + millEnd},
		{3, "x", `fn f() { let a = x; let a = 1; }` + millEnd},
		{2, "let a = 2;", `fn f() { let a = 1; let a = 2; say x; }` + millEnd},
		{3, "x", `fn f() { let a = 1; let b = x; let a = 2; }` + millEnd},
		// In two functions.
		{3, "x", `fn f() { say x; } fn g() { say y; }` + millEnd},
		{3, "y", `fn f() { } fn g() { say y; }` + millEnd},
		{2, "a bool", `fn f(a u8, a bool) { say x; } fn g() { say y; }` + millEnd},
		{8, "fn f() -> u8", `fn f() -> u8 { } fn g() { say x; }` + millEnd},
		{3, "x", `fn f() { say x; } fn g() -> u8 { }` + millEnd},
		{3, "x", `fn g() { say x; } fn f() { } fn f() { }` + millEnd},
		{1, "fn f()#2", `fn f() { } fn f() { } fn g() { say x; }` + millEnd},
		// In a function itself and inside its block.
		{3, "x", `fn f() { } fn f() { say x; }` + millEnd},
		{3, "x", `fn f() -> u8 { say x; }` + millEnd},
		{3, "x", `fn f() { } fn f() -> u8 { say x; }` + millEnd},
		{2, "a u8#2", `fn f(a u8, a u8) -> u8 { }` + millEnd},
		{2, "a u8#2", `fn f() { } fn f(a u8, a u8) { }` + millEnd},
		{2, "a u8#2", `fn f(a u8, a u8) { break; }` + millEnd},
		// In the program and inside a function.
		{3, "x", `fn f() { say x; }`},
		{2, "a u8#2", `fn f(a u8, a u8) { }`},
		{8, "fn f() -> u8", `fn f() -> u8 { }`},
		{1, "fn f()#2", `fn f() { } fn f() { }`},
		{3, "x", `fn main() { say x; }`},
		{8, "fn main() -> u8", `fn main() -> u8 { }`},
		{7, "return 1;", `fn main(a u8) -> text { return 1; }`},
	} {
		wantMillWrong(t, w)
	}
}

// Promise 16: of the codes of one node the first is told.
func TestMillCheckFirstCode(t *testing.T) {
	for _, w := range []millWrong{
		{3, "x = none();", `fn f() { x = none(); }` + millEnd},
		{3, "x = 1;", `fn f() { x = 1; }` + millEnd},
		{4, "g(1)", `fn f() { g(1); }` + millEnd},
		{4, "byte()", `fn f() { byte(); }` + millEnd},
		{4, `byte("", 1u8)`, `fn f() { byte("", 1u8); }` + millEnd},
		{4, "pair(1)", `fn f() { pair(1); }` + millEnd},
		{4, "pair(none())", `fn f() { pair(none()); }` + millEnd},
		{4, "none(none())", `fn f() { none(none()); }` + millEnd},
		{2, "let a = none();", `fn f(a u8) { let a = none(); }` + millEnd},
		{1, "fn f() -> u8#2", `fn f() -> u8 { return 1u8; } fn f() -> u8 { }` + millEnd},
		{1, "fn f() -> u8", `fn f() { } fn f() -> u8 { }` + millEnd},
		{1, "fn main() -> u8", `fn main() -> text { return ""; } fn main() -> u8 { }`},
	} {
		wantMillWrong(t, w)
	}
}

// millLets is so many lets of names that begin so.
func millLets(begins string, many int) string {
	text := ""
	for i := range many {
		text += fmt.Sprintf("let %s%d = 1; ", begins, i)
	}
	return text
}

// Code 11: as many names as may be visible, and one more.
func TestMillCheckSlots(t *testing.T) {
	const params = "a u8, b u8, c u8, d u8, e u8, f u8, g u8, h u8"
	for _, src := range []string{
		`fn f() { ` + millLets("x", 200) + `}`,
		`fn f(` + params + `) { ` + millLets("x", 192) + `}`,
		`fn f(a u8) { ` + millLets("x", 198) + `let s = dec(a); say s; }`,
		// Names that are gone do not count.
		`fn f() { ` + millLets("x", 199) + `if true { let a = 1; } else { let b = 1; } while true { let c = 1; } let d = 1; }`,
		`fn f() { if true { ` + millLets("x", 200) + `} else { ` + millLets("x", 200) + `} while true { ` + millLets("y", 200) + `} ` + millLets("z", 200) + `}`,
		`fn f() { if true { ` + millLets("x", 200) + `} else if true { ` + millLets("y", 200) + `} else { ` + millLets("z", 200) + `} }`,
		`fn f() { ` + millLets("x", 100) + `if true { ` + millLets("y", 50) + `while true { ` + millLets("z", 50) + `} ` + millLets("z", 50) + `} ` + millLets("y", 100) + `}`,
		// Nor do those of another function, nor functions.
		`fn f(` + params + `) { ` + millLets("x", 192) + `} fn g(` + params + `) { ` + millLets("x", 192) + `}`,
		`fn f() { ` + millLets("x", 199) + `let f = 1; }`,
	} {
		wantMillFits(t, src+millEnd)
	}
	for _, w := range []millWrong{
		{11, "let y = 1;", `fn f() { ` + millLets("x", 200) + `let y = 1; let z = 1; }`},
		{11, "let y = 1;", `fn f(a u8) { ` + millLets("x", 199) + `let y = 1; }`},
		{11, "let y = 1;", `fn f(` + params + `) { ` + millLets("x", 192) + `let y = 1; }`},
		{11, "let y = 1;", `fn f() { ` + millLets("x", 200) + `if true { let y = 1; } }`},
		{11, "let y = 1;", `fn f() { ` + millLets("x", 200) + `if true { } else { let y = 1; } }`},
		{11, "let y = 1;", `fn f() { ` + millLets("x", 200) + `while true { let y = 1; } }`},
		{11, "let y = 1;", `fn f(` + params + `) { ` + millLets("x", 92) + `if true { ` + millLets("z", 50) + `while true { ` + millLets("w", 50) + `let y = 1; } } }`},
		{11, "let y = 1;", `fn f() { if true { ` + millLets("x", 200) + `let y = 1; } }`},
		{11, "let y = 1;", `fn f() { ` + millLets("x", 100) + `if true { ` + millLets("y", 100) + `} ` + millLets("z", 100) + `let y = 1; }`},
		{11, "let y = 1;", `fn g() { ` + millLets("x", 200) + `} fn f() { ` + millLets("x", 200) + `let y = 1; }`},
		// With another code at the same node, and with faults of other nodes.
		{2, "let x0 = 2;", `fn f() { ` + millLets("x", 200) + `let x0 = 2; }`},
		{2, "let a = 2;", `fn f(a u8) { ` + millLets("x", 199) + `let a = 2; }`},
		{5, "let y = none();", `fn f() { ` + millLets("x", 200) + `let y = none(); }`},
		{2, "let x9 = none();", `fn f() { ` + millLets("x", 200) + `let x9 = none(); }`},
		{3, "y", `fn f() { ` + millLets("x", 200) + `let y = y; }`},
		{5, "-true", `fn f() { ` + millLets("x", 200) + `let y = -true; }`},
		{11, "let y = 1;", `fn f() { ` + millLets("x", 200) + `let y = 1; say 1; }`},
		{11, "let y = 1;", `fn f() -> u8 { ` + millLets("x", 200) + `let y = 1; }`},
		{11, "let y = 1;", `fn f() { ` + millLets("x", 200) + `if 1 { let y = 1; } }`},
		{5, "say 1;", `fn f() { say 1; ` + millLets("x", 200) + `let y = 1; }`},
	} {
		w.src += millEnd
		wantMillWrong(t, w)
	}
}

func TestMillCheckNames(t *testing.T) {
	for _, src := range []string{
		`fn f(a u8) -> u8 { return a; }`,
		`fn f(a u8) -> u8 { if true { while true { return a; } } return a; }`,
		`fn f(a u8) { a = a + 1u8; if true { a = a; } else { a = a; } while a == a { a = a; } }`,
		`fn f() { let a = 1; a = a; let b = a; if a == b { a = b; let c = a; c = c; } b = a; }`,
		// A let with a name of a block beside, of one that is over, of one further on.
		`fn f() { if true { let a = 1; } let a = ""; say a; }`,
		`fn f() { if true { let a = 1; } else { let a = ""; say a; } }`,
		`fn f() { if true { let a = 1; } else if true { let a = ""; say a; } else { let a = true; if a { } } }`,
		`fn f() { if true { let a = 1; } if true { let a = ""; say a; } while true { let a = true; if a { } } let a = 2u8; byte(a); }`,
		`fn f() { while true { let a = 1; } while true { let a = ""; say a; } }`,
		`fn f() { while true { if true { let a = 1; } let a = ""; say a; } let a = true; if a { } }`,
		// In another function.
		`fn f() { let a = 1; } fn g() { let a = ""; say a; }`,
		`fn f(a u8) { } fn g(a text) { say a; } fn h() { let a = true; if a { } }`,
		// A name and a function do not get in each other's way.
		`fn f(f u8) -> u8 { return f; }`,
		`fn f(g u8) -> u8 { return g + g(g); } fn g(f u8) -> u8 { return f(f); }`,
		`fn f() { let f = 1; f = f; f(); }`,
		`fn f() { let none = 1; none = none; none(); let main = main(); main = main; }`,
		`fn f(main text, none u8) { say main + main(); none(); byte(none); }`,
		`fn f() { if true { let g = 1; g(); } g(); } fn g() { let f = 1; f(); }`,
	} {
		wantMillFits(t, src+millEnd)
	}
	for _, w := range []millWrong{
		// Made twice.
		{2, "let a = 1;", `fn f(a u8) { let a = 1; }`},
		{2, "let a = 1;", `fn f(b u8, a text) { if true { while true { let a = 1; } } }`},
		{2, "let a = 2;", `fn f() { let a = 1; let a = 2; }`},
		{2, "let a = 1;#2", `fn f() { let a = 1; say ""; let b = 2; let a = 1; }`},
		{2, `let a = "";`, `fn f() { let a = 1; let a = ""; }`},
		{2, "let a = 2;", `fn f() { let a = 1; if true { let a = 2; } }`},
		{2, "let a = 2;", `fn f() { let a = 1; if true { } else { let a = 2; } }`},
		{2, "let a = 2;", `fn f() { let a = 1; while true { let a = 2; } }`},
		{2, "let a = 2;", `fn f() { let a = 1; while true { if true { } else if true { while true { let a = 2; } } } }`},
		{2, "let a = 2;", `fn f() { while true { let a = 1; if true { let a = 2; } } }`},
		{2, "let a = a;", `fn f() { let a = 1; let a = a; }`},
		{2, "a text", `fn f(a u8, a text) { }`},
		{2, "a u8#2", `fn f(a u8, b u8, a u8) { }`},
		{2, "b u8#2", `fn f(a u8, b u8, b u8, a u8) { }`},
		{2, "a i8", `fn f(a u8, b u16, c u32, d u64, e bool, g text, h i64, a i8) { }`},
		{2, "let a = 3;", `fn f() { if true { let a = 1; } let a = 2; if true { let a = 3; } }`},
		{2, "let main = 2;", `fn f() { let main = 1; let main = 2; }`},
		// Not visible.
		{3, "a", `fn f() { say a; }`},
		{3, "a = 1;", `fn f() { a = 1; }`},
		{3, "a", `fn f() { let a = a; }`},
		{3, "a#1", `fn f() { let a = a + a; }`},
		{3, "a", `fn f() { let a = 1 + u8(a); }`},
		{3, "a#1", `fn f() { let b = a; let a = 1; b = a; }`},
		{3, "a = 1;", `fn f() { a = 1; let a = 1; }`},
		{3, "a", `fn f() { if true { let a = ""; } say a; }`},
		{3, "a = 1;", `fn f() { if true { let a = 1; } a = 1; }`},
		{3, "a", `fn f() { if true { let a = ""; } else { say a; } }`},
		{3, "a", `fn f() { if true { let a = true; } else if a { } }`},
		{3, "a", `fn f() { if true { } else { let a = ""; } say a; }`},
		{3, "a", `fn f() { while a { let a = true; } }`},
		{3, "a", `fn f() { while true { let a = true; } if a { } }`},
		{3, "a", `fn f() { while true { if a { } let a = true; } }`},
		{3, "a", `fn f() { if true { if true { let a = ""; } say a; } }`},
		{3, "a", `fn f() { let a = ""; } fn g() { say a; }`},
		{3, "a", `fn f() { say a; } fn g() { let a = ""; }`},
		{3, "a", `fn f(a text) { } fn g() { say a; }`},
		{3, "a", `fn g() { say a; } fn f(a text) { }`},
		{3, "a = 1;", `fn f(a i64) { g(); } fn g() { a = 1; }`},
		{3, "none", `fn f() { say none; }`},
		{3, "main", `fn f() { say main; }`},
		{3, "f", `fn f() { let a = f; }`},
		{3, "f = 1;", `fn f() { f = 1; }`},
		{3, "main = main();", `fn f() { main = main(); }`},
		{3, "ab", `fn f(a u8, b u8) { let c = ab; }`},
		{3, "a", `fn f(ab text, aa text) { say a; }`},
		// A let whose E has a fault, and whose name is used behind it.
		{3, "x", `fn f() { let a = x; say a; a = 1; }`},
		{5, "-true", `fn f() { let a = -true; say a; }`},
		{5, "let a = none();", `fn f() { let a = none(); say a; a = 1; let a = 2; }`},
		{4, "g()", `fn f() { let a = g(); say a; }`},
	} {
		w.src += millEnd
		wantMillWrong(t, w)
	}
}

// A name has the type of what makes it, where it is visible.
func TestMillTypesOfNames(t *testing.T) {
	for kind := 1; kind <= 10; kind++ {
		for other := 1; other <= 10; other++ {
			if kind == other {
				continue
			}
			use := func(name string) millBush { return millGrowText(impl.MillNodeLet, "to_"+name, millGrowName(name)) }
			beside := millGrowBlock(millGrowText(impl.MillNodeLet, "b", millOfType(other)), use("b"))
			own := millGrowBlock(millGrowText(impl.MillNodeLet, "b", millOfType(kind)), use("b"), use("a"))
			b := millWith(
				millGrowFn("f", impl.MillTypeNone, millGrowParam("a", kind), millGrowBlock(millGrowKind(impl.MillNodeIf, millGrowBool(1), beside, own), use("a"))),
				millGrowFn("g", impl.MillTypeNone, millGrowParam("b", kind), millGrowParam("a", other), millGrowBlock(use("a"), use("b"))),
			)
			wantMillFitted(t, b.nodes())
			var got []int
			types := impl.MillTypes(b.tree())
			for at, n := range b.nodes() {
				if n.Kind == impl.MillNodeName && at < len(types) {
					got = append(got, types[at])
				}
			}
			if want := []int{other, kind, kind, kind, other, kind}; !slices.Equal(got, want) {
				t.Errorf("names have the types %v, want %v", got, want)
			}
		}
	}
}

func TestMillCheckCalls(t *testing.T) {
	for _, src := range []string{
		`fn f() { none(); byte(1u8); pair("", 1); main(); f(); g(); } fn g() { f(); }`,
		`fn f() -> u8 { return byte(byte(1u8)); }`,
		`fn f() -> text { return pair(pair(main(), 1), 2) + main(); }`,
		`fn f(a u8, b u8) -> u8 { return f(b, f(a, b)); }`,
		`fn f() { let a = g(true); } fn g(a bool) -> u64 { return 1u64; }`,
		`fn f(a bool, b text, c u8, d u16, e u32, g u64, h i8, i i16) { f(a, b, c, d, e, g, h, i); }`,
		`fn f(a i32, b i64) { f(1i32, 1); }`,
	} {
		wantMillFits(t, src+millEnd)
	}
	for _, w := range []millWrong{
		{4, "g()", `fn f() { g(); }`},
		{4, "g(1)", `fn f() { g(1); }`},
		{4, "nonee()", `fn f() { nonee(); }`},
		{4, "a()", `fn f(a u8) { a(); }`},
		{4, "a()", `fn f() { let a = 1; a(); }`},
		{4, "none(1)", `fn f() { none(1); }`},
		{4, "byte()", `fn f() { byte(); }`},
		{4, "byte(1u8, 1u8)", `fn f() { byte(1u8, 1u8); }`},
		{4, `pair("")`, `fn f() { pair(""); }`},
		{4, `pair("", 1, 2)`, `fn f() { pair("", 1, 2); }`},
		{4, "main(1)", `fn f() { main(1); }`},
		{4, "f()", `fn f(a u8) { f(); }`},
		{4, "f(1u8, 2u8, 3u8, 4u8, 5u8, 6u8, 7u8, 8u8)", `fn f(a u8) { f(1u8, 2u8, 3u8, 4u8, 5u8, 6u8, 7u8, 8u8); }`},
		{4, "g(1)", `fn f() { let a = g(1); }`},
		{4, "byte()", `fn f() { let a = 1u8 + byte(); }`},
		{5, "byte(1)", `fn f() { byte(1); }`},
		{5, "byte(1i8)", `fn f() { let a = byte(1i8); }`},
		{5, "pair(1, 1)", `fn f() { pair(1, 1); }`},
		{5, `pair("", "")`, `fn f() { pair("", ""); }`},
		{5, `pair(1, "")`, `fn f() { pair(1, ""); }`},
		{5, "byte(none())", `fn f() { byte(none()); }`},
		{5, `pair("", none())`, `fn f() { pair("", none()); }`},
		{5, "byte(true)", `fn f() { if true { byte(true); } }`},
		// Of two with one name the first counts, also where the second stands, and behind both.
		{4, "g()", `fn f() { g(); } fn g(a u8) { } fn g() { }`},
		{5, `g("")`, `fn f() { g(""); } fn g(a u8) { } fn g(a text) { }`},
		{1, "fn g(a text)", `fn f() { g(1u8); } fn g(a u8) { } fn g(a text) { }`},
		{4, "g()", `fn g(a u8) { } fn g() { g(); }`},
		{1, "fn g()", `fn g(a u8) { } fn g() { g(1u8); }`},
		{5, "let a = g();", `fn g() { } fn g() -> u8 { let a = g(); return 1u8; }`},
		{1, "fn g()#2", `fn g() { } fn g() { g(); }`},
		{1, "fn g()", `fn g() -> u8 { return 1u8; } fn g() { let a = g() + 1u8; }`},
		{1, "fn g()#2", `fn f() { } fn g() { } fn g() { } fn g() { } fn f() { }`},
		{1, "fn g()#2", `fn g() { } fn f() { } fn g() { }`},
		{1, "fn none()#2", `fn f() { none(); } fn none() { }`},
	} {
		w.src += millEnd
		wantMillWrong(t, w)
	}
}

// millOfType is an E of a type; of TypeNone it is a call.
func millOfType(kind int) millBush {
	switch kind {
	case impl.MillTypeNone:
		return millGrowCall("none")
	case impl.MillTypeBool:
		return millGrowBool(1)
	case impl.MillTypeText:
		return millGrowText(impl.MillNodeText, "x")
	}
	return millGrowInt(kind, 1)
}

// millWith is a program of these functions, of none without a Type, and of main.
func millWith(fns ...millBush) millBush {
	ret := millGrowKind(impl.MillNodeReturn, millOfType(impl.MillTypeText))
	fns = append(fns, millGrowFn("none", impl.MillTypeNone, millGrowBlock()), millGrowFn("main", impl.MillTypeText, millGrowBlock(ret)))
	return millGrowProgram(fns...)
}

// millStands is a program with these statements in a function.
func millStands(statements ...millBush) millBush {
	return millWith(millGrowFn("f", impl.MillTypeNone, millGrowBlock(statements...)))
}

// millEachKinds hands out each list of so many types, TypeNone among them.
func millEachKinds(many int, ask func(kinds []int)) {
	kinds := make([]int, many)
	var put func(at int)
	put = func(at int) {
		if at == many {
			ask(kinds)
			return
		}
		for kind := range 11 {
			kinds[at] = kind
			put(at + 1)
		}
	}
	put(0)
}

// wantMillSigned asks that a node with kids of these types has the fault of code 5, or none and the type that it gives, by the document's table.
func wantMillSigned(t *testing.T, top impl.MillNode, kinds []int, around func(b millBush) millBush) (fits bool) {
	t.Helper()
	key := millWhat(top)
	var kids []millBush
	for _, kind := range kinds {
		key += " " + millTypeTexts[kind]
		kids = append(kids, millOfType(kind))
	}
	gives, fits := millSigns[key]
	if top.Kind == impl.MillNodeIf || top.Kind == impl.MillNodeWhile {
		kids = append(kids, millGrowBlock())
	}
	b := around(millGrow(top, kids...))
	// It is the first node of the program, but for its kids.
	at := millGrow(top, kids...).size() - 1
	var want impl.MillFault
	if !fits {
		want = impl.MillFault{Code: 5, At: at}
	}
	if got := impl.MillCheck(b.tree()); got != want {
		t.Errorf("%s: got %+v, want %+v", key, got, want)
	}
	types := impl.MillTypes(b.tree())
	if !fits && len(types) != 0 || fits && (len(types) != b.size() || types[at] != gives) {
		t.Errorf("%s: types %v, want %d at %d", key, types, gives, at)
	}
	for i, kind := range kinds {
		if fits && i < len(types) && types[i] != kind {
			t.Errorf("%s: types %v", key, types)
		}
	}
	return fits
}

// Each row of the table with each type in each place.
func TestMillCheckTypesOfOps(t *testing.T) {
	inLet := func(b millBush) millBush { return millStands(millGrowText(impl.MillNodeLet, "x", b)) }
	fits := map[string]int{}
	ask := func(top impl.MillNode, many int, around func(b millBush) millBush) {
		millEachKinds(many, func(kinds []int) {
			if wantMillSigned(t, top, kinds, around) {
				fits[millWhat(top)+strconv.Itoa(many)]++
			}
		})
	}
	for op := 1; op <= 3; op++ {
		ask(impl.MillNode{Kind: impl.MillNodeUn, Op: op}, 1, inLet)
	}
	for op := 1; op <= 18; op++ {
		ask(impl.MillNode{Kind: impl.MillNodeBin, Op: op}, 2, inLet)
	}
	for op := 1; op <= 12; op++ {
		ask(impl.MillNode{Kind: impl.MillNodeBuilt, Op: op}, millBuiltKids[op], inLet)
	}
	for kind := impl.MillTypeU8; kind <= impl.MillTypeI64; kind++ {
		ask(impl.MillNode{Kind: impl.MillNodeConv, Type: kind}, 1, inLet)
	}
	inF := func(b millBush) millBush { return millStands(b) }
	for kind, many := range map[int]int{impl.MillNodeIf: 1, impl.MillNodeWhile: 1, impl.MillNodeFail: 1, impl.MillNodeSay: 1, impl.MillNodeWrite: 2} {
		ask(impl.MillNode{Kind: kind}, many, inF)
	}
	ask(impl.MillNode{Kind: impl.MillNodeLet, Text: "x"}, 1, inF)
	want := map[string]int{
		"-1": 8, "~1": 8, "!1": 1, "||2": 1, "&&2": 1, "==2": 10, "!=2": 10, "<2": 9, "<=2": 9, ">2": 9, ">=2": 9, "+2": 9,
		"-2": 8, "|2": 8, "^2": 8, "*2": 8, "/2": 8, "%2": 8, "&2": 8, "<<2": 8, ">>2": 8,
		"read1": 1, "has1": 1, "list1": 1, "tool2": 1, "arg0": 1, "len1": 1, "at2": 1, "cut3": 1, "find2": 1, "chr1": 1, "dec1": 8, "num1": 1,
		"u81": 8, "u161": 8, "u321": 8, "u641": 8, "i81": 8, "i161": 8, "i321": 8, "i641": 8,
		"if1": 1, "while1": 1, "fail1": 1, "say1": 1, "write2": 1, "let1": 10,
	}
	for what, n := range want {
		if fits[what] != n {
			t.Errorf("%s: %d fit, want %d", what, fits[what], n)
		}
	}
	if len(fits) != len(want) {
		t.Errorf("fit: %v", fits)
	}
}

// An if with an else asks the same of its first kid, and so does one behind else.
func TestMillCheckTypesOfIfs(t *testing.T) {
	for kind := range 11 {
		block := millGrowBlock()
		three := millGrowKind(impl.MillNodeIf, millOfType(kind), block, block)
		inner := millGrowKind(impl.MillNodeIf, millGrowBool(0), block, millGrowKind(impl.MillNodeIf, millOfType(kind), block))
		for at, b := range map[int]millBush{3: three, 4: inner} {
			var want impl.MillFault
			if kind != impl.MillTypeBool {
				want = impl.MillFault{Code: 5, At: at}
			}
			if got := wantMillFitted(t, millStands(b).nodes()); got != want {
				t.Errorf("type %d: %+v, want %+v", kind, got, want)
			}
		}
	}
}

// NodeSet, NodeCall and NodeReturn ask for the type of a name, of a parameter and of the function.
func TestMillCheckTypesAsMade(t *testing.T) {
	for made := range 11 {
		for kind := range 11 {
			e := millOfType(kind)
			want := func(what string, b millBush, fault impl.MillFault) {
				t.Helper()
				if made == kind && kind != impl.MillTypeNone {
					fault = impl.MillFault{}
				}
				if got := wantMillFitted(t, b.nodes()); got != fault {
					t.Errorf("%s: type %d for %d: %+v, want %+v", what, kind, made, got, fault)
				}
			}
			ret := millGrowKind(impl.MillNodeReturn, e)
			want("return", millWith(millGrowFn("f", made, millGrowBlock(ret))), impl.MillFault{Code: 7, At: 1})
			inside := millGrowKind(impl.MillNodeWhile, millGrowBool(1), millGrowBlock(ret))
			want("return in a while", millWith(millGrowFn("f", made, millGrowBlock(inside, millGrowFail(millOfType(2))))), impl.MillFault{Code: 7, At: 2})
			if made == impl.MillTypeNone {
				continue
			}
			set := millGrowText(impl.MillNodeSet, "x", e)
			want("a let is set", millStands(millGrowText(impl.MillNodeLet, "x", millOfType(made)), set), impl.MillFault{Code: 5, At: 3})
			want("a parameter is set", millWith(millGrowFn("f", impl.MillTypeNone, millGrowParam("x", made), millGrowBlock(set))), impl.MillFault{Code: 5, At: 2})
			call := millGrowCall("g", millOfType(1), e, millOfType(2))
			callee := millGrowFn("g", impl.MillTypeNone, millGrowParam("x", 1), millGrowParam("y", made), millGrowParam("z", 2), millGrowBlock())
			caller := millGrowFn("f", impl.MillTypeNone, millGrowBlock(millGrowKind(impl.MillNodeDo, call)))
			want("a call", millWith(caller, callee), impl.MillFault{Code: 5, At: 3})
			want("a call behind it", millWith(callee, caller), impl.MillFault{Code: 5, At: 8})
		}
		// The type of a call is that of its function, and a NodeDo takes each.
		end := millGrowFail(millOfType(2))
		do := millGrowKind(impl.MillNodeDo, millGrowCall("g"))
		b := millWith(millGrowFn("f", impl.MillTypeNone, millGrowBlock(do)), millGrowFn("g", made, millGrowBlock(end)))
		if fault := wantMillFitted(t, b.nodes()); fault.Code != 0 || impl.MillTypes(b.tree())[0] != made || impl.MillTypes(b.tree())[1] != 0 {
			t.Errorf("do of type %d: %+v", made, fault)
		}
		// A return without a kid fits where there is no Type alone.
		b = millWith(millGrowFn("f", made, millGrowBlock(millGrowKind(impl.MillNodeReturn))))
		want := impl.MillFault{}
		if made != impl.MillTypeNone {
			want = impl.MillFault{Code: 7, At: 0}
		}
		if got := wantMillFitted(t, b.nodes()); got != want {
			t.Errorf("return; with type %d: %+v", made, got)
		}
	}
}

func TestMillCheckLoops(t *testing.T) {
	for _, word := range []string{"break;", "continue;"} {
		for _, src := range []string{
			`fn f() { while true { W } }`,
			`fn f() { while true { say ""; W say ""; } }`,
			`fn f() { while true { if true { W } else if true { W } else { W } } }`,
			`fn f() { while true { while false { } W } }`,
			`fn f() { while true { while false { W } W } while true { W } }`,
			`fn f() -> u8 { while true { W } return 1u8; }`,
			`fn f() { if true { while true { if true { if true { W } } } } }`,
			`fn f() { while true { W W return; W } }`,
		} {
			wantMillFits(t, strings.ReplaceAll(src, "W", word)+millEnd)
		}
		for _, src := range []string{
			`fn f() { W }`,
			`fn f() { if true { W } }`,
			`fn f() { if true { } else { W } }`,
			`fn f() { if true { } else if true { W } }`,
			`fn f() { while true { } W }`,
			`fn f() { W while true { } }`,
			`fn f() { if true { W } while true { } }`,
			`fn f() { while true { while true { } } if true { W } }`,
			`fn f() { while true { g(); } } fn g() { W }`,
			`fn g() { W } fn f() { while true { g(); } }`,
			`fn f() { while true { } } fn g() { W }`,
			`fn f() -> u8 { W return 1u8; }`,
			`fn f() { return; W }`,
		} {
			wantMillWrong(t, millWrong{6, word, strings.ReplaceAll(src, "W", word) + millEnd})
		}
		wantMillWrong(t, millWrong{6, word + "#3", `fn f() { while true { ` + word + ` if true { ` + word + ` } } ` + word + ` ` + word + ` }` + millEnd})
	}
}

func TestMillCheckReturns(t *testing.T) {
	for _, src := range []string{
		`fn f() { return; }`,
		`fn f() { return; return; say ""; return; }`,
		`fn f() { if true { return; } while true { return; } }`,
		`fn f() -> u8 { return 1u8; return 2u8; }`,
		`fn f() -> u8 { if true { return 1u8; } while true { return 2u8; } return byte(3u8); }`,
		`fn f() -> bool { return 1 == 2; } fn g() -> i64 { return 1; } fn h() { return; }`,
		`fn f(a text) -> text { return a; }`,
	} {
		wantMillFits(t, src+millEnd)
	}
	for _, w := range []millWrong{
		{7, "return 1;", `fn f() { return 1; }`},
		{7, "return none();", `fn f() { return none(); }`},
		{7, "return none();", `fn f() -> u8 { return none(); }`},
		{7, "return;", `fn f() -> u8 { return; }`},
		{7, "return 1;", `fn f() -> u8 { return 1; }`},
		{7, "return 1u8;", `fn f() -> i8 { return 1u8; }`},
		{7, "return true;", `fn f() -> text { return true; }`},
		{7, `return "";#1`, `fn f() -> bool { return ""; }`},
		{7, "return 2;", `fn f() -> u8 { return 1u8; return 2; }`},
		{7, "return;#1", `fn f() -> u8 { if true { return; } return; }`},
		{7, "return 1;", `fn f() { if true { return; } else { return 1; } return 2; }`},
		{7, "return 1;", `fn f() { while true { return 1; } }`},
		{7, "return;", `fn g() { } fn f() -> u8 { while true { return; } return 1u8; }`},
		{7, "return 1;", `fn g() -> i64 { fail ""; } fn f() { return 1; }`},
		{7, "return 1;", `fn f() { return 1; } fn g() -> i64 { fail ""; }`},
	} {
		w.src += millEnd
		wantMillWrong(t, w)
	}
}

// Code 8: which blocks end.
func TestMillCheckEnds(t *testing.T) {
	for _, block := range []string{
		`return 1u8;`,
		`fail "";`,
		`say ""; return 1u8;`,
		`return 1u8; return 2u8;`,
		`return 1u8; fail "";`,
		`if true { return 1u8; } else { return 2u8; }`,
		`if true { fail ""; } else { return 2u8; }`,
		`if true { return 2u8; } else { fail ""; }`,
		`if true { return 1u8; } else if true { return 2u8; } else { return 3u8; }`,
		`if true { return 1u8; } else if true { return 2u8; } else if true { fail ""; } else { return 3u8; }`,
		`if true { if true { return 1u8; } else { fail ""; } } else { say ""; return 2u8; }`,
		`if true { return 1u8; } else { if true { return 2u8; } else { fail ""; } }`,
		`if true { } else { } if true { return 1u8; } else { return 2u8; }`,
		`while true { } return 1u8;`,
		`let a = 1; fail "";`,
	} {
		wantMillFits(t, `fn f() -> u8 { `+block+` }`+millEnd)
		wantMillFits(t, `fn f() { `+strings.NewReplacer("return 1u8", "return", "return 2u8", "return", "return 3u8", "return").Replace(block)+` }`+millEnd)
	}
	for _, block := range []string{
		``,
		`say "";`,
		`return 1u8; say "";`,
		`return 1u8; let a = 1;`,
		`fail ""; none();`,
		`return 1u8; while true { return 2u8; }`,
		`return 1u8; if true { return 1u8; }`,
		`if true { return 1u8; }`,
		`if true { fail ""; }`,
		`if true { } else { }`,
		`if true { return 1u8; } else { }`,
		`if true { } else { return 1u8; }`,
		`if true { return 1u8; say ""; } else { return 1u8; }`,
		`if true { return 1u8; } else { return 1u8; say ""; }`,
		`if true { return 1u8; } else if true { return 2u8; }`,
		`if true { return 1u8; } else if true { return 2u8; } else { }`,
		`if true { return 1u8; } else if true { } else { return 3u8; }`,
		`if true { } else if true { return 2u8; } else { return 3u8; }`,
		`if true { return 1u8; } else if true { return 2u8; } else if true { return 3u8; }`,
		`if true { return 1u8; } else if true { say ""; } else if true { return 3u8; } else { return 1u8; }`,
		`if true { if true { return 1u8; } } else { return 2u8; }`,
		`if true { return 1u8; } else { if true { return 2u8; } }`,
		`if true { return 1u8; } else { return 2u8; } say "";`,
		`while true { return 1u8; }`,
		`while true { }`,
		`while true { fail ""; }`,
		`while true { if true { return 1u8; } else { fail ""; } }`,
		`if true { while true { return 1u8; } } else { return 2u8; }`,
		`if true { return 1u8; } else { while true { return 2u8; } }`,
		`none();`,
		`byte(1u8);`,
		`let a = 1;`,
		`while true { break; }`,
	} {
		wantMillWrong(t, millWrong{8, "fn f() -> u8", `fn f() -> u8 { ` + block + ` }` + millEnd})
		wantMillFits(t, `fn f() { `+strings.NewReplacer("return 1u8", "return", "return 2u8", "return", "return 3u8", "return").Replace(block)+` }`+millEnd)
	}
	for kind := 1; kind <= 10; kind++ {
		b := millWith(millGrowFn("f", kind, millGrowBlock()))
		if got := wantMillFitted(t, b.nodes()); got != (impl.MillFault{Code: 8, At: 1}) {
			t.Errorf("type %d: %+v", kind, got)
		}
	}
}

// Code 10: what main must be.
func TestMillCheckMain(t *testing.T) {
	for _, src := range []string{
		`fn main() -> text { return ""; }`,
		`fn main() -> text { fail ""; }`,
		`fn f() { } fn main() -> text { return ""; } fn g() { }`,
		`fn mai() { } fn main2(a u8) { } fn main() -> text { return ""; }`,
		`fn main() -> text { return main(); }`,
	} {
		wantMillFits(t, src)
	}
	for _, src := range []string{
		`fn f() { }`,
		`fn f() -> text { return ""; }`,
		`fn mai() -> text { return ""; }`,
		`fn main_() -> text { return ""; } fn mainn() -> text { return ""; }`,
		`fn f(main text) -> text { let main2 = main; return main; }`,
		`fn main() { }`,
		`fn main() { return; } fn f() -> text { return ""; }`,
		`fn main(a u8) { }`,
		`fn main(a text) -> text { return a; }`,
		`fn main(a u8, b u8) -> text { return ""; }`,
		`fn f() { } fn main() -> u8 { return 1u8; }`,
	} {
		wantMillWrong(t, millWrong{10, "program", src})
	}
	for kind := range 11 {
		b := millGrowProgram(millGrowFn("main", kind, millGrowBlock(millGrowFail(millOfType(2)))))
		want := impl.MillFault{Code: 10, At: 4}
		if kind == impl.MillTypeText {
			want = impl.MillFault{}
		}
		if got := wantMillFitted(t, b.nodes()); got != want {
			t.Errorf("main of type %d: %+v", kind, got)
		}
	}
	for _, w := range []millWrong{
		{1, "fn main() -> text#2", `fn main() -> text { return ""; } fn main() -> text { return ""; }`},
		{1, "fn main()", `fn main() -> text { return ""; } fn main() { }`},
		{1, "fn main() -> text", `fn main() { } fn main() -> text { return ""; }`},
		{1, "fn main(a u8)", `fn main() { } fn main(a u8) { }`},
		{4, "main()", `fn main(a u8) { } fn main() -> text { return main(); }`},
		{5, "say main();", `fn main() { } fn main() -> text { say main(); return ""; }`},
	} {
		wantMillWrong(t, w)
	}
}

// A few programs with the types of all nodes told.
func TestMillTypesInOrder(t *testing.T) {
	const text, i64, u8, boolean = impl.MillTypeText, impl.MillTypeI64, impl.MillTypeU8, impl.MillTypeBool
	for src, want := range map[string][]int{
		`fn main() -> text { return ""; }`:                                                                 {text, 0, 0, 0, 0},
		`fn main() -> text { main(); f(); return arg(); } fn f() { }`:                                      {text, 0, 0, 0, text, 0, 0, 0, 0, 0, 0},
		`fn main() -> text { let b = at("a", 0) << 1u8; while !(b == 2u8) { b = u8(len("")); } fail ""; }`: {text, i64, u8, u8, u8, 0, u8, u8, boolean, boolean, text, i64, u8, 0, 0, 0, text, 0, 0, 0, 0},
		`fn f(a u8, b text) -> u8 { return f(a, b); } fn main() -> text { return dec(f(1u8, "")) + "x"; }`: {0, 0, u8, text, u8, 0, 0, 0, u8, text, u8, text, text, text, 0, 0, 0, 0},
		`fn main() -> text { if has("a") { write "a", read("b"); } else if "a" < "b" { say list(""); } return tool("t", cut("abc", 0, find("a", "b"))) + chr(1u8); }`: {
			text, boolean, text, text, text, 0, 0, text, text, boolean, text, text, 0, 0, 0, 0, text, text, i64, text, text, i64, text, text, u8, text, text, 0, 0, 0, 0,
		},
	} {
		wantMillFits(t, src)
		if got := impl.MillTypes(millOf(t, src).tree()); !slices.Equal(got, want) {
			t.Errorf("%q: %v, want %v", src, got, want)
		}
	}
}

// Code 9: a tree that is not valid.
func TestMillCheckNotValid(t *testing.T) {
	want := func(what string, tree impl.MillTree) {
		t.Helper()
		if got := impl.MillCheck(tree); got != (impl.MillFault{Code: 9}) {
			t.Errorf("%s: %+v", what, got)
		}
		if got := impl.MillTypes(tree); len(got) != 0 {
			t.Errorf("%s: types %v", what, got)
		}
	}
	want("nil", impl.MillTree{})
	want("no nodes", impl.MillTree{Nodes: []impl.MillNode{}})
	want("a program of nothing", impl.MillTree{Nodes: []impl.MillNode{{Kind: impl.MillNodeProgram}}})
	fits := millOf(t, `fn f(a u8) -> u8 { let b = -a; while true { b = f(b); } return b; }`+millEnd).nodes()
	want("no program", impl.MillTree{Nodes: fits[:len(fits)-1]})
	want("two programs", impl.MillTree{Nodes: append(slices.Clone(fits), fits...)})
	for at := range fits {
		for what, bend := range map[string]func(n *impl.MillNode){
			"kind":         func(n *impl.MillNode) { n.Kind = 0 },
			"kind above":   func(n *impl.MillNode) { n.Kind = 25 },
			"op":           func(n *impl.MillNode) { n.Op = 19 },
			"type":         func(n *impl.MillNode) { n.Type = 11 },
			"type below":   func(n *impl.MillNode) { n.Type = -1 },
			"number":       func(n *impl.MillNode) { n.N = -1 },
			"kids":         func(n *impl.MillNode) { n.Kids = -1 },
			"too many":     func(n *impl.MillNode) { n.Kids = 1 << 62 },
			"one kid more": func(n *impl.MillNode) { n.Kids += 100 },
		} {
			nodes := slices.Clone(fits)
			bend(&nodes[at])
			want(what, impl.MillTree{Nodes: nodes})
		}
	}
	// Code 9 is looked for ahead of all, whatever else does not fit.
	for _, src := range []string{`fn f() { say x; }`, `fn f() { } fn f() { }`, `fn f(a u8, a u8) { break; }`, `fn f() -> u8 { }`} {
		nodes := millOf(t, src).nodes()
		nodes[len(nodes)-1].Text = "a"
		want(src, impl.MillTree{Nodes: nodes})
	}
	// Trees that are just too large or too deep.
	fn := func(i int) millBush { return millGrowFn("f"+strconv.Itoa(i), impl.MillTypeNone, millGrowBlock()) }
	want("61 functions", millGrowProgram(millMany(61, fn)...).tree())
	params := millMany(9, func(i int) millBush { return millGrowParam("a"+strconv.Itoa(i), impl.MillTypeU8) })
	want("9 parameters", millWith(millGrowFn("f", impl.MillTypeNone, append(params, millGrowBlock())...)).tree())
	want("9 kids", millStands(millGrowKind(impl.MillNodeDo, millGrowCall("none", millMany(9, func(int) millBush { return millGrowOne() })...))).tree())
	want("too deep", millStands(millGrowText(impl.MillNodeLet, "x", millNested(58))).tree())
	want("too many nodes", millOfSize(12002).tree())
}

// millNested is an E with so many nodes below its first.
func millNested(deep int) millBush {
	e := millGrowBool(1)
	for range deep {
		e = millGrowUn(impl.MillOpNot, e)
	}
	return e
}

// millOfSize is a program that fits of so many nodes.
func millOfSize(size int) millBush {
	size -= millStands().size()
	var statements []millBush
	if size%2 == 1 {
		statements = append(statements, millGrowKind(impl.MillNodeReturn))
		size--
	}
	for range size / 2 {
		statements = append(statements, millGrowKind(impl.MillNodeSay, millOfType(impl.MillTypeText)))
	}
	return millStands(statements...)
}

// The largest trees and the deepest ones are gone through, too.
func TestMillTypesOfLargeTrees(t *testing.T) {
	for _, size := range []int{12000, 12001} {
		b := millOfSize(size)
		types := impl.MillTypes(b.tree())
		if fault := impl.MillCheck(b.tree()); fault.Code != 0 || len(types) != size {
			t.Fatalf("%d nodes: %+v, %d types", size, fault, len(types))
		}
		texts := 0
		for at, n := range b.nodes() {
			want := impl.MillTypeNone
			if n.Kind == impl.MillNodeText {
				want = impl.MillTypeText
				texts++
			}
			if types[at] != want {
				t.Fatalf("node %d of %d has the type %d", at, size, types[at])
			}
		}
		if texts < 5990 {
			t.Errorf("%d texts", texts)
		}
	}
	// A fault at the end of a large tree.
	b := millOfSize(12001)
	b = millGrowProgram(b.kids[:len(b.kids)-1]...)
	if fault := impl.MillCheck(b.tree()); fault != (impl.MillFault{Code: 10, At: b.size() - 1}) {
		t.Errorf("no main at the end of a large tree: %+v", fault)
	}
	deep := millStands(millGrowText(impl.MillNodeLet, "x", millNested(56)))
	if fault := wantMillFitted(t, deep.nodes()); fault.Code != 0 {
		t.Errorf("deepest E: %+v", fault)
	}
	// Blocks in each other, each with a let; the innermost one sees all of them.
	inner := millGrowBlock(millGrowText(impl.MillNodeSet, "a0", millGrowName("a27")))
	for i := 27; i >= 0; i-- {
		let := millGrowText(impl.MillNodeLet, "a"+strconv.Itoa(i), millGrowOne())
		inner = millGrowBlock(let, millGrowKind(impl.MillNodeWhile, millGrowBool(1), inner))
	}
	b = millWith(millGrowFn("f", impl.MillTypeNone, inner))
	if fault := wantMillFitted(t, b.nodes()); fault.Code != 0 {
		t.Errorf("deepest block: %+v", fault)
	}
	b = millWith(millGrowFn("f", impl.MillTypeNone, millGrowBlock(inner.kids[1])))
	if fault := wantMillFitted(t, b.nodes()); fault.Code != 3 {
		t.Errorf("deepest block without the outermost let: %+v", fault)
	}
	// Sixty functions, each calling the next one; the last one calls the first.
	fns := millMany(58, func(i int) millBush {
		call := millGrowKind(impl.MillNodeDo, millGrowCall("f"+strconv.Itoa((i+1)%58)))
		return millGrowFn("f"+strconv.Itoa(i), impl.MillTypeNone, millGrowBlock(call))
	})
	if fault := wantMillFitted(t, millWith(fns...).nodes()); fault.Code != 0 {
		t.Errorf("sixty functions: %+v", fault)
	}
	fns[57].top.Text = "f0"
	if fault := wantMillFitted(t, millWith(fns...).nodes()); fault.Code != 4 {
		t.Errorf("sixty functions without one: %+v", fault)
	}
	fns[56] = millGrowFn("f56", impl.MillTypeNone, millGrowBlock())
	if fault := wantMillFitted(t, millWith(fns...).nodes()); fault.Code != 1 {
		t.Errorf("sixty functions with one twice: %+v", fault)
	}
}

// millTurns are statements of a few forms on one name, first the short ones, then those with blocks.
func millTurns() (short, long []millBush) {
	a, one := millGrowName("a"), millGrowOne()
	same := millGrowBin(impl.MillOpSame, a, one)
	short = []millBush{
		millGrowText(impl.MillNodeLet, "a", one), millGrowText(impl.MillNodeLet, "b", a), millGrowText(impl.MillNodeSet, "a", one),
		millGrowKind(impl.MillNodeBreak), millGrowKind(impl.MillNodeReturn), millGrowText(impl.MillNodeSet, "b", a),
	}
	blocks := []millBush{millGrowBlock()}
	for _, first := range short {
		blocks = append(blocks, millGrowBlock(first))
		for _, second := range short {
			blocks = append(blocks, millGrowBlock(first, second))
		}
	}
	yes := millGrowBool(1)
	for _, block := range blocks {
		long = append(long, millGrowKind(impl.MillNodeIf, yes, block), millGrowKind(impl.MillNodeWhile, same, block), millGrowKind(impl.MillNodeIf, same, millGrowBlock(), block))
	}
	for _, first := range blocks[:14] {
		for _, second := range blocks[:14] {
			long = append(long, millGrowKind(impl.MillNodeIf, yes, first, second), millGrowKind(impl.MillNodeIf, yes, first, millGrowKind(impl.MillNodeIf, same, second)))
		}
	}
	return short, long
}

// Promise 16, for all small blocks of these forms.
func TestMillCheckAllSmallBlocks(t *testing.T) {
	t.Parallel()
	short, long := millTurns()
	codes := map[int]int{}
	ask := func(statements ...millBush) {
		plain := millGrowFn("f", impl.MillTypeNone, millGrowBlock(statements...))
		typed := millGrowFn("f", impl.MillTypeI64, millGrowParam("b", impl.MillTypeI64), millGrowBlock(statements...))
		for _, fn := range []millBush{plain, typed} {
			codes[wantMillFitted(t, millWith(fn).nodes()).Code]++
		}
	}
	all := append(slices.Clone(short), long...)
	for _, one := range all {
		ask(one)
		for _, other := range short {
			ask(one, other)
			ask(other, one)
			for _, third := range short {
				ask(other, one, third)
			}
		}
		if t.Failed() {
			return
		}
	}
	for _, code := range []int{0, 2, 3, 6, 7, 8} {
		if codes[code] < 100 {
			t.Errorf("codes %v", codes)
		}
	}
}

// millHead is a function as it is seen from outside.
type millHead struct {
	name   string
	params []int
	gives  int
}

// millNamed is a name that is visible.
type millNamed struct {
	name string
	kind int
}

// millMaker puts together programs that fit, by a fixed rule.
type millMaker struct {
	*clayDice
	heads  []millHead
	names  []millNamed
	gives  int
	looped bool
}

// literal is a literal of a type.
func (m *millMaker) literal(kind int) millBush {
	switch kind {
	case impl.MillTypeBool:
		return millGrowBool(int64(m.below(2)))
	case impl.MillTypeText:
		return millGrowText(impl.MillNodeText, m.text())
	}
	return millGrowInt(kind, int64([]uint64{0, 1, 2, 10, millMostOf(kind)}[m.below(5)]))
}

// e is an E of a type that is at most so deep.
func (m *millMaker) e(kind, deep int) millBush {
	var names []millBush
	for _, named := range m.names {
		if named.kind == kind {
			names = append(names, millGrowName(named.name))
		}
	}
	if len(names) > 0 && m.below(3) == 0 {
		return names[m.below(len(names))]
	}
	if deep <= 0 || m.below(5) == 0 {
		return m.literal(kind)
	}
	if m.below(4) == 0 {
		if head, ok := m.head(func(head millHead) bool { return head.gives == kind }); ok {
			return m.call(head, deep-1)
		}
	}
	switch kind {
	case impl.MillTypeBool:
		return m.boolE(deep - 1)
	case impl.MillTypeText:
		return m.textE(deep - 1)
	}
	return m.intE(kind, deep-1)
}

// anyInt is one of the integer types.
func (m *millMaker) anyInt() int { return impl.MillTypeU8 + m.below(8) }

// both is an op of two kids of one type.
func (m *millMaker) both(op, kind, deep int) millBush {
	return millGrowBin(op, m.e(kind, deep), m.e(kind, deep))
}

func (m *millMaker) boolE(deep int) millBush {
	switch m.below(5) {
	case 0:
		return millGrowUn(impl.MillOpNot, m.e(impl.MillTypeBool, deep))
	case 1:
		return m.both(impl.MillOpOr+m.below(2), impl.MillTypeBool, deep)
	case 2:
		return m.both(impl.MillOpSame+m.below(2), 1+m.below(10), deep)
	case 3:
		return m.both(impl.MillOpLess+m.below(4), 2+m.below(9), deep)
	}
	return millGrowBuilt(impl.MillBuiltHas, m.e(impl.MillTypeText, deep))
}

func (m *millMaker) textE(deep int) millBush {
	text := func() millBush { return m.e(impl.MillTypeText, deep) }
	i64 := func() millBush { return m.e(impl.MillTypeI64, deep) }
	switch m.below(8) {
	case 0:
		return millGrowBin(impl.MillOpAdd, text(), text())
	case 1:
		return millGrowBuilt(impl.MillBuiltRead, text())
	case 2:
		return millGrowBuilt(impl.MillBuiltList, text())
	case 3:
		return millGrowBuilt(impl.MillBuiltTool, text(), text())
	case 4:
		return millGrowBuilt(impl.MillBuiltArg)
	case 5:
		return millGrowBuilt(impl.MillBuiltCut, text(), i64(), i64())
	case 6:
		return millGrowBuilt(impl.MillBuiltChr, m.e(impl.MillTypeU8, deep))
	}
	return millGrowBuilt(impl.MillBuiltDec, m.e(m.anyInt(), deep))
}

func (m *millMaker) intE(kind, deep int) millBush {
	text := func() millBush { return m.e(impl.MillTypeText, deep) }
	switch way := m.below(6); {
	case way == 0:
		return millGrowUn(impl.MillOpNeg+2*m.below(2), m.e(kind, deep))
	case way == 1:
		return millGrowConv(kind, m.e(m.anyInt(), deep))
	case way == 2 && kind == impl.MillTypeU8:
		return millGrowBuilt(impl.MillBuiltAt, text(), m.e(impl.MillTypeI64, deep))
	case way == 2 && kind == impl.MillTypeI64:
		return millGrowBuilt(impl.MillBuiltFind, text(), text())
	case way == 3 && kind == impl.MillTypeI64:
		return millGrowBuilt([]int{impl.MillBuiltLen, impl.MillBuiltNum}[m.below(2)], text())
	}
	return m.both(impl.MillOpAdd+m.below(10), kind, deep)
}

// head is a function for which something holds, if there is one.
func (m *millMaker) head(holds func(head millHead) bool) (millHead, bool) {
	var some []millHead
	for _, head := range m.heads {
		if holds(head) {
			some = append(some, head)
		}
	}
	if len(some) == 0 {
		return millHead{}, false
	}
	return some[m.below(len(some))], true
}

func (m *millMaker) call(head millHead, deep int) millBush {
	var kids []millBush
	for _, kind := range head.params {
		kids = append(kids, m.e(kind, deep))
	}
	return millGrowCall(head.name, kids...)
}

// fresh is a name that is not visible, among them names of functions.
func (m *millMaker) fresh() string {
	for i := 0; ; i++ {
		name := m.pick("a", "b", "c", "d", "f", "g", "main", "x", "y")
		if i > 5 {
			name += strconv.Itoa(i)
		}
		if !slices.ContainsFunc(m.names, func(named millNamed) bool { return named.name == name }) {
			return name
		}
	}
}

// block is a block of some statements with at most so many blocks below each other; what it makes is gone behind it.
func (m *millMaker) block(deep int, ends bool) millBush {
	names := len(m.names)
	statements := millMany(m.below(4), func(int) millBush { return m.statement(deep) })
	if ends {
		statements = append(statements, m.last(deep))
	}
	m.names = m.names[:names]
	return millGrowBlock(statements...)
}

// last is a statement that ends a block.
func (m *millMaker) last(deep int) millBush {
	switch {
	case deep > 0 && m.below(3) == 0:
		ask, yes := m.e(impl.MillTypeBool, 2), m.block(deep-1, true)
		no := m.block(deep-1, true)
		if m.below(3) == 0 {
			no = millGrowKind(impl.MillNodeIf, m.e(impl.MillTypeBool, 2), m.block(deep-1, true), m.block(deep-1, true))
		}
		return millGrowKind(impl.MillNodeIf, ask, yes, no)
	case m.below(5) == 0:
		return millGrowFail(m.e(impl.MillTypeText, 2))
	}
	return m.ret()
}

func (m *millMaker) ret() millBush {
	if m.gives == impl.MillTypeNone {
		return millGrowKind(impl.MillNodeReturn)
	}
	return millGrowKind(impl.MillNodeReturn, m.e(m.gives, 3))
}

func (m *millMaker) statement(deep int) millBush {
	text := func() millBush { return m.e(impl.MillTypeText, m.below(4)) }
	switch kind := impl.MillNodeLet + m.below(11); kind {
	case impl.MillNodeIf:
		if deep > 0 {
			return m.branch(deep - 1)
		}
	case impl.MillNodeWhile:
		if deep > 0 {
			ask, looped := m.e(impl.MillTypeBool, 2), m.looped
			m.looped = true
			b := millGrowKind(kind, ask, m.block(deep-1, false))
			m.looped = looped
			return b
		}
	case impl.MillNodeBreak, impl.MillNodeContinue:
		if m.looped {
			return millGrowKind(kind)
		}
	case impl.MillNodeSet:
		if len(m.names) > 0 {
			named := m.names[m.below(len(m.names))]
			return millGrowText(kind, named.name, m.e(named.kind, m.below(4)))
		}
	case impl.MillNodeReturn:
		return m.ret()
	case impl.MillNodeFail, impl.MillNodeSay:
		return millGrowKind(kind, text())
	case impl.MillNodeWrite:
		return millGrowKind(kind, text(), text())
	case impl.MillNodeDo:
		if head, ok := m.head(func(millHead) bool { return true }); ok {
			return millGrowKind(kind, m.call(head, 2))
		}
	}
	name, of := m.fresh(), 1+m.below(10)
	let := millGrowText(impl.MillNodeLet, name, m.e(of, m.below(4)))
	m.names = append(m.names, millNamed{name, of})
	return let
}

func (m *millMaker) branch(deep int) millBush {
	kids := []millBush{m.e(impl.MillTypeBool, 2), m.block(deep, false)}
	switch m.below(4) {
	case 0:
		kids = append(kids, m.branch(deep))
	case 1:
		kids = append(kids, m.block(deep, false))
	}
	return millGrowKind(impl.MillNodeIf, kids...)
}

// program is a program that fits, of so many functions beside main.
func (m *millMaker) program(fns, deep int) millBush {
	m.heads = nil
	for i := range fns {
		head := millHead{name: string(rune('f' + i)), gives: m.below(11)}
		for range m.below(4) {
			head.params = append(head.params, 1+m.below(10))
		}
		m.heads = append(m.heads, head)
	}
	m.heads = slices.Insert(m.heads, m.below(fns+1), millHead{name: "main", gives: impl.MillTypeText})
	return millGrowProgram(millMany(len(m.heads), func(i int) millBush {
		head := m.heads[i]
		m.names, m.gives, m.looped = nil, head.gives, false
		var kids []millBush
		for _, kind := range head.params {
			named := millNamed{m.fresh(), kind}
			m.names = append(m.names, named)
			kids = append(kids, millGrowParam(named.name, kind))
		}
		return millGrowFn(head.name, head.gives, append(kids, m.block(deep, head.gives != impl.MillTypeNone))...)
	})...)
}

// Promise 16, for programs of all kinds that are made to fit.
func TestMillCheckWhatIsMadeToFit(t *testing.T) {
	t.Parallel()
	dice := clayDice(23)
	m := &millMaker{clayDice: &dice}
	kinds := map[int]int{}
	for i := range 3000 {
		b := m.program(dice.below(4), i%4)
		if b.size() > 1500 {
			continue
		}
		if !isRightMillTree(b.tree()) {
			t.Fatalf("not valid: %+v", b.tree())
		}
		if fault := wantMillFitted(t, b.nodes()); fault.Code != 0 {
			t.Errorf("%s%+v", b.text(noBrackets), fault)
		}
		if t.Failed() {
			return
		}
		for _, n := range b.nodes() {
			kinds[n.Kind]++
		}
	}
	for kind := 1; kind <= 24; kind++ {
		if kinds[kind] < 100 {
			t.Errorf("kind %d: %d nodes", kind, kinds[kind])
		}
	}
}

// clone shares no kids with the bush.
func (b millBush) clone() millBush {
	b.kids = slices.Clone(b.kids)
	for i := range b.kids {
		b.kids[i] = b.kids[i].clone()
	}
	return b
}

// all are the bush and all below it for which something holds.
func (b *millBush) all(holds func(n impl.MillNode) bool) []*millBush {
	var some []*millBush
	if holds(b.top) {
		some = append(some, b)
	}
	for i := range b.kids {
		some = append(some, b.kids[i].all(holds)...)
	}
	return some
}

// millIs says whether a node is of one of the kinds.
func millIs(kinds ...int) func(n impl.MillNode) bool {
	return func(n impl.MillNode) bool { return slices.Contains(kinds, n.Kind) }
}

// millOne is one of some bushes; nil if there is none.
func (d *clayDice) millOne(some []*millBush) *millBush {
	if len(some) == 0 {
		return nil
	}
	return some[d.below(len(some))]
}

// millSpoil changes one thing of a bush, so that it may no longer fit.
func (d *clayDice) millSpoil(b *millBush) {
	isE := func(n impl.MillNode) bool { return n.Kind <= impl.MillNodeConv }
	switch d.below(10) {
	case 0:
		named := b.all(millIs(impl.MillNodeName, impl.MillNodeCall, impl.MillNodeLet, impl.MillNodeSet, impl.MillNodeParam, impl.MillNodeFn))
		d.millOne(named).top.Text = d.millOne(named).top.Text
	case 1:
		typed := d.millOne(b.all(millIs(impl.MillNodeParam, impl.MillNodeFn)))
		typed.top.Type = max(1+d.below(10)-(typed.top.Kind-impl.MillNodeParam), 0)
	case 2:
		if typed := d.millOne(b.all(millIs(impl.MillNodeInt, impl.MillNodeConv))); typed != nil {
			typed.top.Type, typed.top.N = impl.MillTypeU8+d.below(8), 0
		}
	case 3:
		if op := d.millOne(b.all(millIs(impl.MillNodeUn, impl.MillNodeBin))); op != nil {
			op.top.Op = 1 + d.below([]int{3, 18}[op.top.Kind-impl.MillNodeUn])
		}
	case 4:
		if e := d.millOne(b.all(isE)); e != nil && e.top.Kind != impl.MillNodeCall {
			*e = d.millOne(b.all(isE)).clone()
		}
	case 5:
		from, to := d.millOne(b.all(millIs(impl.MillNodeBlock))), d.millOne(b.all(millIs(impl.MillNodeBlock)))
		if len(from.kids) > 0 {
			statement := from.kids[d.below(len(from.kids))].clone()
			*to = millGrowBlock(slices.Insert(slices.Clone(to.kids), d.below(len(to.kids)+1), statement)...)
		}
	case 6:
		block := d.millOne(b.all(millIs(impl.MillNodeBlock)))
		if len(block.kids) > 0 {
			at := d.below(len(block.kids))
			*block = millGrowBlock(slices.Delete(slices.Clone(block.kids), at, at+1)...)
		}
	case 7:
		if over := d.millOne(b.all(millIs(impl.MillNodeCall, impl.MillNodeFn))); len(over.kids) > 1 {
			kids := slices.Clone(over.kids)
			at := d.below(len(kids) - 1)
			if d.below(2) == 0 {
				kids = slices.Delete(kids, at, at+1)
			} else {
				kids[0], kids[at] = kids[at], kids[0]
			}
			*over = millGrow(over.top, kids...)
		}
	case 8:
		fns := b.all(millIs(impl.MillNodeFn))
		d.millOne(fns).top.Text = d.millOne(fns).top.Text
	case 9:
		block := d.millOne(b.all(millIs(impl.MillNodeBlock)))
		leave := millGrowKind([]int{impl.MillNodeBreak, impl.MillNodeContinue, impl.MillNodeReturn}[d.below(3)])
		*block = millGrowBlock(slices.Insert(slices.Clone(block.kids), d.below(len(block.kids)+1), leave)...)
	}
}

// Promise 16, for programs that fit in which some things are changed.
func TestMillCheckSpoiltPrograms(t *testing.T) {
	t.Parallel()
	dice := clayDice(31)
	m := &millMaker{clayDice: &dice}
	codes := map[int]int{}
	for i := range 12000 {
		b := m.program(dice.below(4), i%4)
		if b.size() > 600 {
			continue
		}
		for range 1 + dice.below(3) {
			dice.millSpoil(&b)
		}
		if isRightMillTree(b.tree()) {
			codes[wantMillFitted(t, b.nodes()).Code]++
		}
		if t.Failed() {
			return
		}
	}
	for _, code := range []int{0, 1, 2, 3, 4, 5, 6, 7, 8, 10} {
		if codes[code] < 50 {
			t.Errorf("codes %v", codes)
		}
	}
}

// The same for trees of all kinds, few of which fit.
func TestMillCheckOfAnyTree(t *testing.T) {
	dice := clayDice(37)
	for i := range 5000 {
		wantMillFitted(t, dice.millProgram(1+dice.below(3), i%4).nodes())
		if t.Failed() {
			return
		}
	}
}

// What is printed, and read again, fits as before.
func TestMillTypesOfPrinted(t *testing.T) {
	dice := clayDice(41)
	m := &millMaker{clayDice: &dice}
	for i := range 500 {
		tree := m.program(dice.below(4), i%4).tree()
		text := impl.MillPrint(tree)
		if text == "" {
			continue
		}
		if again := millOf(t, text).tree(); !slices.Equal(impl.MillTypes(again), impl.MillTypes(tree)) {
			t.Errorf("%q: %v, %v", text, impl.MillTypes(again), impl.MillTypes(tree))
		}
	}
}

func TestMillTypesAnswersNewMemory(t *testing.T) {
	room := impl.MillNode{Kind: 99, Text: "room"}
	for _, src := range []string{`fn f(a u8) -> u8 { let b = -a; while true { b = f(b); } return b; }` + millEnd, `fn f() { say x; }`, `fn f() { }`} {
		nodes, long := withRoom(millOf(t, src).nodes(), room)
		kept := slices.Clone(long)
		tree := impl.MillTree{Nodes: nodes}
		fault := impl.MillCheck(tree)
		types := impl.MillTypes(tree)
		want := slices.Clone(types)
		other := impl.MillTypes(tree)
		for i := range types[:cap(types)] {
			types[:cap(types)][i] = 77
		}
		if again := impl.MillTypes(tree); !slices.Equal(again, want) || !slices.Equal(other, want) || impl.MillCheck(tree) != fault {
			t.Errorf("%q: asked again: %v, want %v", src, again, want)
		}
		if !slices.Equal(long, kept) {
			t.Errorf("%q: the argument was changed", src)
		}
	}
}

func FuzzMillCheck(f *testing.F) {
	f.Add(`fn g(a text, b u8) -> bool { if a == "" || !g(a, b) { b = -1u8 + at(a, 1); } else if u8(b) < 2u8 { return true; } let c = 1; while true { break; } g(a, 1u8); fail dec(c); } fn main() -> text { return ""; }`)
	f.Fuzz(func(t *testing.T, src string) {
		tree, fault := impl.MillParse(src)
		if fault.Code == 0 && len(tree.Nodes) < 500 {
			wantMillFitted(t, tree.Nodes)
		}
	})
}
