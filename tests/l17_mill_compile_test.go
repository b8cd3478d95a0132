package tests

import (
	"fmt"
	"reflect"
	"slices"
	"strconv"
	"strings"
	"testing"

	"loop.example/kilnyard/impl"
)

// millMadeRows are the rows of the document's table. K is all kids, K1 to K3 are one of them; L0 to L2 are places of the node, W0 and W1 those of the innermost NodeWhile.
const millMadeRows = `
int text bool = push
name = load
un = K ; un
conv = K ; conv
built = K ; built
call = K ; call
bin = K ; bin
|| = K1 ; unless L1 ; true ; jump L2 ; L1 ; K2 ; L2
&& = K1 ; unless L1 ; K2 ; jump L2 ; L1 ; false ; L2
let set = step ; K ; store
if2 = step ; K1 ; unless L1 ; K2 ; L1
if3 = step ; K1 ; unless L1 ; K2 ; jump L2 ; L1 ; K3 ; L2
while = step ; L0 ; step ; K1 ; unless L1 ; K2 ; jump L0 ; L1
break = step ; jump W1
continue = step ; jump W0
return = step ; K ; return
fail = step ; K ; fail
write = step ; K ; write
say = step ; K ; say
do = step ; K ; drop
block = K
`

// millMadeRow has the row of each word.
var millMadeRow = func() map[string][]string {
	rows := map[string][]string{}
	for line := range strings.Lines(strings.TrimSpace(millMadeRows)) {
		words, row, _ := strings.Cut(line, " = ")
		for word := range strings.FieldsSeq(words) {
			for item := range strings.SplitSeq(row, ";") {
				rows[word] = append(rows[word], strings.TrimSpace(item))
			}
		}
	}
	return rows
}()

// millKindWords has the word of each kind of node at its number.
var millKindWords = strings.Fields("? int text bool name un bin call built conv let set if while break continue return fail write say do block param fn program")

// millItem is an instruction, with the label that it goes on at if it has one; or it is a label alone.
type millItem struct {
	ins   impl.MillIns
	to    string
	label string
}

// rowOf is the row of a node.
func (f *millFamily) rowOf(at int) []string {
	n := f.nodes[at]
	word := millKindWords[n.Kind]
	switch {
	case n.Kind == impl.MillNodeIf:
		word += strconv.Itoa(n.Kids)
	case n.Kind == impl.MillNodeBin && n.Op <= impl.MillOpAnd:
		word = millOpMarks[n.Op]
	}
	return millMadeRow[word]
}

// items are those of a node, by its row.
func (f *millFamily) items(at int) []millItem {
	var items []millItem
	for _, one := range f.rowOf(at) {
		word, to, _ := strings.Cut(one, " ")
		switch {
		case word == "K":
			for _, kid := range f.kids[at] {
				items = append(items, f.items(kid)...)
			}
		case word[0] == 'K':
			items = append(items, f.items(f.kids[at][word[1]-'1'])...)
		case word[0] == 'L':
			items = append(items, millItem{label: f.label(at, word)})
		case to != "":
			items = append(items, millItem{ins: impl.MillIns{Op: slices.Index(millInsWords, word)}, to: f.label(at, to)})
		case word == "drop" && f.nodes[f.fn(f.nodes[f.kids[at][0]].Text)].Type == impl.MillTypeNone:
		default:
			items = append(items, millItem{ins: f.insOf(at, word)})
		}
	}
	return items
}

// label is the name of a place that no other node has.
func (f *millFamily) label(at int, place string) string {
	if place[0] == 'W' {
		at, place = f.over(at, impl.MillNodeWhile), "L"+place[1:]
	}
	return place + " of " + strconv.Itoa(at)
}

// insOf is the instruction that a node's row calls so.
func (f *millFamily) insOf(at int, word string) impl.MillIns {
	n := f.nodes[at]
	ins := impl.MillIns{Op: slices.Index(millInsWords, word)}
	switch word {
	case "true", "false":
		v := map[string]int64{"true": 1}[word]
		return impl.MillIns{Op: impl.MillInsPush, A: impl.MillTypeBool, N: v}
	case "push":
		ins.A = map[int]int{impl.MillNodeInt: n.Type, impl.MillNodeText: impl.MillTypeText, impl.MillNodeBool: impl.MillTypeBool}[n.Kind]
		ins.N, ins.Text = n.N, n.Text
	case "load", "store":
		ins.A = f.slotAt(at)
	case "un", "bin", "built":
		ins.A = n.Op
	case "conv":
		ins.A = n.Type
	case "call":
		for _, other := range f.nodes[:f.fn(n.Text)] {
			if other.Kind == impl.MillNodeFn {
				ins.A++
			}
		}
	case "return":
		ins.A = n.Kids
	}
	return ins
}

// slotAt is the slot of the name that a node speaks of: the number of names in front of the node that makes it.
func (f *millFamily) slotAt(at int) int {
	name, maker := f.nodes[at].Text, at
	if f.nodes[at].Kind != impl.MillNodeLet {
		for from, up := at, f.above[at]; up >= 0; from, up = up, f.above[up] {
			for _, before := range f.kids[up][:f.turn[from]] {
				if n := f.nodes[before]; n.Text == name && (n.Kind == impl.MillNodeLet || n.Kind == impl.MillNodeParam) {
					maker = before
				}
			}
		}
	}
	return len(f.seen(maker))
}

// millPlaced gives each instruction the place of its label.
func millPlaced(items []millItem) []impl.MillIns {
	places, next := map[string]int{}, 0
	for _, item := range items {
		if item.label != "" {
			places[item.label] = next
		} else {
			next++
		}
	}
	var all []impl.MillIns
	for _, item := range items {
		if item.label != "" {
			continue
		}
		if item.to != "" {
			place, there := places[item.to]
			if !there {
				panic("no " + item.to)
			}
			item.ins.A = place
		}
		all = append(all, item.ins)
	}
	return all
}

// millMadeByRules is the code of a tree that fits, by the rows of the table; places are told apart by labels, and slots are counted by climbing from each name.
func millMadeByRules(nodes []impl.MillNode) impl.MillCode {
	f := millFamilyOf(nodes)
	if _, fault := f.read(); fault.Code != 0 {
		return impl.MillCode{}
	}
	var c impl.MillCode
	slots := 0
	for at, n := range nodes {
		switch n.Kind {
		case impl.MillNodeLet, impl.MillNodeParam:
			slots = max(slots, len(f.seen(at))+1)
		case impl.MillNodeFn:
			fn := impl.MillFn{Name: n.Text, Params: f.params(at), Result: n.Type, Slots: slots}
			fn.Ins = millPlaced(f.items(at - 1))
			if n.Type == impl.MillTypeNone {
				fn.Ins = append(fn.Ins, impl.MillIns{Op: impl.MillInsReturn})
			}
			c.Fns = append(c.Fns, fn)
			slots = 0
		}
	}
	return c
}

// wantMillValidMade asks promise 23 of a tree: nothing if it does not fit, otherwise a valid code whose form is read back, if there is one.
func wantMillValidMade(t *testing.T, tree impl.MillTree) impl.MillCode {
	t.Helper()
	c := impl.MillCompile(tree)
	if impl.MillCheck(tree).Code != 0 {
		if !reflect.DeepEqual(c, impl.MillCode{}) {
			t.Errorf("%.900q does not fit, but: %s", impl.MillPrint(tree), millCodeShown(c))
		}
		return c
	}
	if got := millChecked(c); got != [3]int{} {
		t.Errorf("%.900q: %d, %s", impl.MillPrint(tree), got, millCodeShown(c))
	}
	wantMillForm(t, c, impl.MillWriteCode(c))
	return c
}

// wantMillMade asks for the code that the rows of the table give, and that it is valid.
func wantMillMade(t *testing.T, tree impl.MillTree) impl.MillCode {
	t.Helper()
	c := wantMillValidMade(t, tree)
	if want := millMadeByRules(tree.Nodes); !isSameMillCode(c, want) {
		t.Errorf("%.900q: %s, want %s", impl.MillPrint(tree), millCodeShown(c), millCodeShown(want))
	}
	return c
}

// millMade is a program, and what its code tells, by the words of millCoded.
type millMade struct {
	src  string
	code string
}

// millEndMade is the code of millEnd, behind one function.
const millEndMade = `
none -> ? 0: return 0
byte u8 -> u8 1: step; load 0; return 1
pair text i64 -> text 2: step; load 0; return 1
main -> text 0: step; push text; return 1`

// wantMillMades asks for the code of programs that are a function with millEnd behind it.
func wantMillMades(t *testing.T, all ...millMade) {
	t.Helper()
	for _, one := range all {
		wantMillMadeWhole(t, millMade{one.src + millEnd, one.code + millEndMade})
	}
}

// wantMillMadeWhole asks for the code of a whole program, here and by the second reading.
func wantMillMadeWhole(t *testing.T, one millMade) {
	t.Helper()
	b := millOf(t, one.src)
	want := millCoded(t, one.code)
	if fault := impl.MillCheck(b.tree()); fault.Code != 0 {
		t.Errorf("%q does not fit: %+v, %s", one.src, fault, b.labels()[fault.At])
		return
	}
	got := wantMillMade(t, b.tree())
	wantMillCode(t, got)
	if len(got.Fns) != len(want.Fns) {
		t.Errorf("%q: %d functions", one.src, len(got.Fns))
		return
	}
	for i, fn := range want.Fns {
		if !isSameMillCode(impl.MillCode{Fns: []impl.MillFn{fn}}, impl.MillCode{Fns: got.Fns[i : i+1]}) {
			t.Errorf("%q: function %d is %+v, want %+v", one.src, i, got.Fns[i], fn)
		}
	}
}

// The rows of each E but for OpOr and OpAnd, in a statement.
func TestMillCompileRowsOfE(t *testing.T) {
	wantMillMades(t,
		millMade{`fn f() { say "x"; }`, "f -> ? 0: step; push text x; say; return 0"},
		millMade{`fn f() { say ""; }`, "f -> ? 0: step; push text; say; return 0"},
		millMade{`fn f() { let x = true; }`, "f -> ? 1: step; push bool 1; store 0; return 0"},
		millMade{`fn f() { let x = false; }`, "f -> ? 1: step; push bool 0; store 0; return 0"},
		millMade{`fn f() { let x = 12; }`, "f -> ? 1: step; push i64 12; store 0; return 0"},
		millMade{`fn f(a text) { say a; }`, "f text -> ? 1: step; load 0; say; return 0"},
		millMade{`fn f(a u8, b text) { say b; }`, "f u8 text -> ? 2: step; load 1; say; return 0"},
		millMade{`fn f(a i8) { let x = -a; }`, "f i8 -> ? 2: step; load 0; un -; store 1; return 0"},
		millMade{`fn f(a bool) { let x = !a; }`, "f bool -> ? 2: step; load 0; un !; store 1; return 0"},
		millMade{`fn f(a u64) { let x = ~a; }`, "f u64 -> ? 2: step; load 0; un ~; store 1; return 0"},
		millMade{`fn f(a i8) { let x = -~-a; }`, "f i8 -> ? 2: step; load 0; un -; un ~; un -; store 1; return 0"},
		millMade{`fn f() { let x = 3 - 2; }`, "f -> ? 1: step; push i64 3; push i64 2; bin -; store 0; return 0"},
		millMade{`fn f() { let x = 1 + 2 * 3; }`, "f -> ? 1: step; push i64 1; push i64 2; push i64 3; bin *; bin +; store 0; return 0"},
		millMade{`fn f() { let x = (1 + 2) * 3; }`, "f -> ? 1: step; push i64 1; push i64 2; bin +; push i64 3; bin *; store 0; return 0"},
		millMade{`fn f() { let x = arg(); }`, "f -> ? 1: step; built arg; store 0; return 0"},
		millMade{`fn f() { say cut("a", 1, 2); }`, "f -> ? 0: step; push text a; push i64 1; push i64 2; built cut; say; return 0"},
		millMade{`fn f() { say tool("a", "b"); }`, "f -> ? 0: step; push text a; push text b; built tool; say; return 0"},
		millMade{`fn f(a u64) { let x = u8(a); }`, "f u64 -> ? 2: step; load 0; conv u8; store 1; return 0"},
		millMade{`fn f() { let x = byte(7u8); }`, "f -> ? 1: step; push u8 7; call 2; store 0; return 0"},
		millMade{`fn f() { say pair("a", 2); }`, "f -> ? 0: step; push text a; push i64 2; call 3; say; return 0"},
		millMade{`fn f() { say pair(pair("a", 1), len(pair("b", 2))); }`, "f -> ? 0: step; push text a; push i64 1; call 3; push text b; push i64 2; call 3; built len; call 3; say; return 0"},
		millMade{`fn f() { say main(); }`, "f -> ? 0: step; call 4; say; return 0"},
	)
}

// Each op, each built word, each type of a number and of a conv has its own number in the instruction.
func TestMillCompileEachOp(t *testing.T) {
	tops := millTops()
	for op := impl.MillBuiltRead; op <= impl.MillBuiltArg; op++ {
		tops = append(tops, impl.MillNode{Kind: impl.MillNodeBuilt, Op: op, Kids: millBuiltKids[op]})
	}
	word := map[int]int{impl.MillNodeUn: impl.MillInsUn, impl.MillNodeBin: impl.MillInsBin, impl.MillNodeBuilt: impl.MillInsBuilt, impl.MillNodeConv: impl.MillInsConv}
	seen := map[impl.MillIns]int{}
	for _, top := range tops {
		if top.Kind == impl.MillNodeBin && top.Op <= impl.MillOpAnd {
			continue
		}
		last := impl.MillIns{Op: word[top.Kind], A: top.Op + top.Type}
		millSigned(top, func(kinds []int, gives int) {
			kids := millMany(len(kinds), func(i int) millBush { return millOfType(kinds[i]) })
			want := []impl.MillIns{{Op: impl.MillInsStep}}
			for _, kind := range kinds {
				v := millOfType(kind).literalValue()
				want = append(want, impl.MillIns{Op: impl.MillInsPush, A: kind, N: v.N, Text: v.Text})
			}
			want = append(want, last, impl.MillIns{Op: impl.MillInsStore}, impl.MillIns{Op: impl.MillInsReturn})
			c := wantMillMade(t, millStands(millGrowText(impl.MillNodeLet, "x", millGrow(top, kids...))).tree())
			if len(c.Fns) != 3 || !slices.Equal(c.Fns[0].Ins, want) || c.Fns[0].Slots != 1 {
				t.Errorf("%+v of %v: %s, want %+v", top, kinds, millCodeShown(c), want)
			}
			seen[last]++
		})
	}
	if len(seen) != 3+16+12+8 {
		t.Errorf("%d ops: %v", len(seen), seen)
	}
	for kind := impl.MillTypeU8; kind <= impl.MillTypeI64; kind++ {
		for _, n := range []int64{0, 1, int64(millMostOf(kind))} {
			c := wantMillMade(t, millStands(millGrowText(impl.MillNodeLet, "x", millGrowInt(kind, n))).tree())
			if want := (impl.MillIns{Op: impl.MillInsPush, A: kind, N: n}); len(c.Fns) != 3 || c.Fns[0].Ins[1] != want {
				t.Errorf("%s, want %+v", millCodeShown(c), want)
			}
		}
	}
}

// Texts of any bytes are pushed as they are.
func TestMillCompileTexts(t *testing.T) {
	every := make([]byte, 256)
	for i := range every {
		every[i] = byte(i)
	}
	for _, text := range []string{"", "a", "a b", string(every), strings.Repeat("\x00", 3000), strings.Repeat("é", 1500)} {
		c := wantMillMade(t, millStands(millGrowKind(impl.MillNodeSay, millGrowText(impl.MillNodeText, text))).tree())
		if want := (impl.MillIns{Op: impl.MillInsPush, A: impl.MillTypeText, Text: text}); len(c.Fns) != 3 || c.Fns[0].Ins[1] != want {
			t.Errorf("%.100q: %s", text, millCodeShown(c))
		}
	}
}

// OpOr and OpAnd, and each inside the other.
func TestMillCompileAndOr(t *testing.T) {
	const head = "f bool bool bool -> ? 4: step; "
	const src = `fn f(a bool, b bool, c bool) { let x = `
	for _, one := range []millMade{
		{"a || b", "load 0; unless 5; push bool 1; jump 6; load 1; store 3; return 0"},
		{"a && b", "load 0; unless 5; load 1; jump 6; push bool 0; store 3; return 0"},
		{"a || b || c", "load 0; unless 5; push bool 1; jump 6; load 1; unless 9; push bool 1; jump 10; load 2; store 3; return 0"},
		{"a || (b || c)", "load 0; unless 5; push bool 1; jump 10; load 1; unless 9; push bool 1; jump 10; load 2; store 3; return 0"},
		{"a && b && c", "load 0; unless 5; load 1; jump 6; push bool 0; unless 9; load 2; jump 10; push bool 0; store 3; return 0"},
		{"a && (b && c)", "load 0; unless 9; load 1; unless 7; load 2; jump 8; push bool 0; jump 10; push bool 0; store 3; return 0"},
		{"a && b || c", "load 0; unless 5; load 1; jump 6; push bool 0; unless 9; push bool 1; jump 10; load 2; store 3; return 0"},
		{"a || b && c", "load 0; unless 5; push bool 1; jump 10; load 1; unless 9; load 2; jump 10; push bool 0; store 3; return 0"},
		{"(a || b) && c", "load 0; unless 5; push bool 1; jump 6; load 1; unless 9; load 2; jump 10; push bool 0; store 3; return 0"},
		{"a && (b || c)", "load 0; unless 9; load 1; unless 7; push bool 1; jump 8; load 2; jump 10; push bool 0; store 3; return 0"},
		{"!(a || b) == (a && c)", "load 0; unless 5; push bool 1; jump 6; load 1; un !; load 0; unless 11; load 2; jump 12; push bool 0; bin ==; store 3; return 0"},
		{"true || false", "push bool 1; unless 5; push bool 1; jump 6; push bool 0; store 3; return 0"},
		{"false && true", "push bool 0; unless 5; push bool 1; jump 6; push bool 0; store 3; return 0"},
	} {
		wantMillMades(t, millMade{src + one.src + "; }", head + one.code})
	}
	// What lies below stays there, whichever way is gone.
	wantMillMades(t,
		millMade{`fn f(a bool) -> bool { return a == (a || f(a && true)); }`, "f bool -> bool 1: step; load 0; load 0; unless 6; push bool 1; jump 12; load 0; unless 10; push bool 1; jump 11; push bool 0; call 0; bin ==; return 1"},
		millMade{`fn f(a bool) { while a || a { } }`, "f bool -> ? 1: step; step; load 0; unless 6; push bool 1; jump 7; load 0; unless 9; jump 1; return 0"},
		millMade{`fn f(a bool) { if a && a { } else { } }`, "f bool -> ? 1: step; load 0; unless 5; load 0; jump 6; push bool 0; unless 8; jump 8; return 0"},
	)
}

// The rows of each statement.
func TestMillCompileRowsOfStatements(t *testing.T) {
	wantMillMades(t,
		millMade{`fn f() { }`, "f -> ? 0: return 0"},
		millMade{`fn f() { let x = 1; }`, "f -> ? 1: step; push i64 1; store 0; return 0"},
		millMade{`fn f(a i64) { a = 1; }`, "f i64 -> ? 1: step; push i64 1; store 0; return 0"},
		millMade{`fn f(a u8, b u8) { b = a; a = b; }`, "f u8 u8 -> ? 2: step; load 0; store 1; step; load 1; store 0; return 0"},
		millMade{`fn f() { let x = 1; x = x + 2; }`, "f -> ? 1: step; push i64 1; store 0; step; load 0; push i64 2; bin +; store 0; return 0"},
		millMade{`fn f() { if true { } }`, "f -> ? 0: step; push bool 1; unless 3; return 0"},
		millMade{`fn f() { if true { say "a"; } }`, "f -> ? 0: step; push bool 1; unless 6; step; push text a; say; return 0"},
		millMade{`fn f() { if true { } else { } }`, "f -> ? 0: step; push bool 1; unless 4; jump 4; return 0"},
		millMade{`fn f() { if true { say "a"; } else { } }`, "f -> ? 0: step; push bool 1; unless 7; step; push text a; say; jump 7; return 0"},
		millMade{`fn f() { if true { } else { say "b"; } }`, "f -> ? 0: step; push bool 1; unless 4; jump 7; step; push text b; say; return 0"},
		millMade{`fn f() { if true { say "a"; } else { say "b"; say "c"; } say "d"; }`, "f -> ? 0: step; push bool 1; unless 7; step; push text a; say; jump 13; step; push text b; say; step; push text c; say; step; push text d; say; return 0"},
		millMade{`fn f() { while true { } }`, "f -> ? 0: step; step; push bool 1; unless 5; jump 1; return 0"},
		millMade{`fn f() { while true { say "a"; } say "b"; }`, "f -> ? 0: step; step; push bool 1; unless 8; step; push text a; say; jump 1; step; push text b; say; return 0"},
		millMade{`fn f() { while true { break; } }`, "f -> ? 0: step; step; push bool 1; unless 7; step; jump 7; jump 1; return 0"},
		millMade{`fn f() { while true { continue; } }`, "f -> ? 0: step; step; push bool 1; unless 7; step; jump 1; jump 1; return 0"},
		millMade{`fn f() { while true { return; } }`, "f -> ? 0: step; step; push bool 1; unless 7; step; return 0; jump 1; return 0"},
		millMade{`fn f() { return; }`, "f -> ? 0: step; return 0; return 0"},
		millMade{`fn f() -> u8 { return 1u8; }`, "f -> u8 0: step; push u8 1; return 1"},
		millMade{`fn f(a u8) -> u8 { return a; }`, "f u8 -> u8 1: step; load 0; return 1"},
		millMade{`fn f() { fail "a"; }`, "f -> ? 0: step; push text a; fail; return 0"},
		millMade{`fn f() -> u8 { fail "a"; }`, "f -> u8 0: step; push text a; fail"},
		millMade{`fn f() { write "a", "b"; }`, "f -> ? 0: step; push text a; push text b; write; return 0"},
		millMade{`fn f() { write "a" + "b", arg(); }`, "f -> ? 0: step; push text a; push text b; bin +; built arg; write; return 0"},
		millMade{`fn f() { say "a"; say "b"; }`, "f -> ? 0: step; push text a; say; step; push text b; say; return 0"},
		millMade{`fn f() { none(); }`, "f -> ? 0: step; call 1; return 0"},
		millMade{`fn f() { main(); }`, "f -> ? 0: step; call 4; drop; return 0"},
		millMade{`fn f() { byte(1u8); none(); }`, "f -> ? 0: step; push u8 1; call 2; drop; step; call 1; return 0"},
		millMade{`fn f() { pair(main(), len("a")); }`, "f -> ? 0: step; call 4; push text a; built len; call 3; drop; return 0"},
		millMade{`fn f() { f(); }`, "f -> ? 0: step; call 0; return 0"},
		millMade{`fn f() -> bool { f(); return f(); }`, "f -> bool 0: step; call 0; drop; step; call 0; return 1"},
	)
}

// A NodeIf behind else is a statement: it has a step of its own.
func TestMillCompileIfBehindElse(t *testing.T) {
	wantMillMades(t,
		millMade{`fn f() { if true { } else if false { } }`, "f -> ? 0: step; push bool 1; unless 4; jump 7; step; push bool 0; unless 7; return 0"},
		millMade{`fn f() { if true { say "a"; } else if false { say "b"; } }`, "f -> ? 0: step; push bool 1; unless 7; step; push text a; say; jump 13; step; push bool 0; unless 13; step; push text b; say; return 0"},
		millMade{`fn f() { if true { say "a"; } else if false { say "b"; } else { say "c"; } say "d"; }`,
			"f -> ? 0: step; push bool 1; unless 7; step; push text a; say; jump 17; step; push bool 0; unless 14; step; push text b; say; jump 17; step; push text c; say; step; push text d; say; return 0"},
		millMade{`fn f(a i64) -> i64 { if a == 0 { return 1; } else if a == 1 { return 2; } else if a == 2 { fail "x"; } else { return 3; } }`,
			"f i64 -> i64 1: step; load 0; push i64 0; bin ==; unless 9; step; push i64 1; return 1; jump 30; step; load 0; push i64 1; bin ==; unless 18; step; push i64 2; return 1; jump 30; step; load 0; push i64 2; bin ==; unless 27; step; push text x; fail; jump 30; step; push i64 3; return 1"},
		// An if in the block behind else has the same step.
		millMade{`fn f() { if true { } else { if false { } } }`, "f -> ? 0: step; push bool 1; unless 4; jump 7; step; push bool 0; unless 7; return 0"},
		millMade{`fn f() { if true { if false { } else { } } else { } }`, "f -> ? 0: step; push bool 1; unless 8; step; push bool 0; unless 7; jump 7; jump 8; return 0"},
	)
}

// A function with a Type may end with an if whose two ways end; the jump behind the first one goes to the end, where nothing stands, and no way leads to it.
func TestMillCompileEndsWithIf(t *testing.T) {
	wantMillMades(t,
		millMade{`fn f(a bool) -> u8 { if a { return 1u8; } else { return 2u8; } }`, "f bool -> u8 1: step; load 0; unless 7; step; push u8 1; return 1; jump 10; step; push u8 2; return 1"},
		millMade{`fn f(a bool) -> u8 { if a { if a { return 1u8; } else { fail ""; } } else { return 2u8; } }`,
			"f bool -> u8 1: step; load 0; unless 14; step; load 0; unless 10; step; push u8 1; return 1; jump 13; step; push text; fail; jump 17; step; push u8 2; return 1"},
		// In a function without one, and in a loop, a return stands there.
		millMade{`fn f(a bool) { if a { return; } else { return; } }`, "f bool -> ? 1: step; load 0; unless 6; step; return 0; jump 8; step; return 0; return 0"},
		millMade{`fn f(a bool) { while a { if a { break; } else { continue; } } }`, "f bool -> ? 1: step; step; load 0; unless 13; step; load 0; unless 10; step; jump 13; jump 12; step; jump 1; jump 1; return 0"},
	)
}

// Behind what ends, all that follows is made as well.
func TestMillCompileBehindTheEnd(t *testing.T) {
	wantMillMades(t,
		millMade{`fn f() { return; say "a"; }`, "f -> ? 0: step; return 0; step; push text a; say; return 0"},
		millMade{`fn f() -> u8 { return 1u8; let x = 2u8; x = x; return x; }`, "f -> u8 1: step; push u8 1; return 1; step; push u8 2; store 0; step; load 0; store 0; step; load 0; return 1"},
		millMade{`fn f() { fail "a"; none(); }`, "f -> ? 0: step; push text a; fail; step; call 1; return 0"},
		millMade{`fn f() { while true { break; let x = 1; x = x; } let y = ""; say y; }`, "f -> ? 1: step; step; push bool 1; unless 13; step; jump 13; step; push i64 1; store 0; step; load 0; store 0; jump 1; step; push text; store 0; step; load 0; say; return 0"},
		millMade{`fn f() { while true { continue; break; } }`, "f -> ? 0: step; step; push bool 1; unless 9; step; jump 1; step; jump 9; jump 1; return 0"},
	)
}

// break and continue are of the innermost loop, be it in an if of it, and of the outer one behind it.
func TestMillCompileLoops(t *testing.T) {
	wantMillMades(t,
		millMade{`fn f(a bool) { while a { while a { break; } } }`, "f bool -> ? 1: step; step; load 0; unless 12; step; step; load 0; unless 11; step; jump 11; jump 5; jump 1; return 0"},
		millMade{`fn f(a bool) { while a { while a { continue; } } }`, "f bool -> ? 1: step; step; load 0; unless 12; step; step; load 0; unless 11; step; jump 5; jump 5; jump 1; return 0"},
		millMade{`fn f(a bool) { while a { while a { } break; } }`, "f bool -> ? 1: step; step; load 0; unless 12; step; step; load 0; unless 9; jump 5; step; jump 12; jump 1; return 0"},
		millMade{`fn f(a bool) { while a { while a { } continue; } }`, "f bool -> ? 1: step; step; load 0; unless 12; step; step; load 0; unless 9; jump 5; step; jump 1; jump 1; return 0"},
		millMade{`fn f(a bool) { while a { break; while a { } } }`, "f bool -> ? 1: step; step; load 0; unless 12; step; jump 12; step; step; load 0; unless 11; jump 7; jump 1; return 0"},
		// In each of two loops both, in front of the inner one, in it and behind it.
		millMade{`fn f(a bool) { while a { break; continue; while a { break; continue; break; } break; continue; } say "x"; }`,
			"f bool -> ? 1: step; step; load 0; unless 24; step; jump 24; step; jump 1; " +
				"step; step; load 0; unless 19; step; jump 19; step; jump 9; step; jump 19; jump 9; " +
				"step; jump 24; step; jump 1; jump 1; step; push text x; say; return 0"},
		// In an if of a loop, in its else, in an if in it.
		millMade{`fn f(a bool) { while a { if a { break; } } }`, "f bool -> ? 1: step; step; load 0; unless 10; step; load 0; unless 9; step; jump 10; jump 1; return 0"},
		millMade{`fn f(a bool) { while a { if a { continue; } } }`, "f bool -> ? 1: step; step; load 0; unless 10; step; load 0; unless 9; step; jump 1; jump 1; return 0"},
		millMade{`fn f(a bool) { while a { if a { break; } else { continue; } } }`, "f bool -> ? 1: step; step; load 0; unless 13; step; load 0; unless 10; step; jump 13; jump 12; step; jump 1; jump 1; return 0"},
		millMade{`fn f(a bool) { while a { if a { } else if a { break; } else { if a { continue; } } } }`,
			"f bool -> ? 1: step; step; load 0; unless 20; step; load 0; unless 8; jump 19; step; load 0; unless 14; step; jump 20; jump 19; step; load 0; unless 19; step; jump 1; jump 1; return 0"},
		// A loop in an if of a loop, with what leaves the outer one behind it.
		millMade{`fn f(a bool) { while a { if a { while a { if a { break; } } break; } continue; } }`,
			"f bool -> ? 1: step; step; load 0; unless 22; step; load 0; unless 19; step; step; load 0; unless 17; step; load 0; unless 16; step; jump 17; jump 8; step; jump 22; step; jump 1; jump 1; return 0"},
		// Three loops, one behind the other and one inside the other.
		millMade{`fn f(a bool) { while a { break; } while a { continue; } while a { while a { while a { break; } break; } break; } }`,
			"f bool -> ? 1: step; step; load 0; unless 7; step; jump 7; jump 1; step; step; load 0; unless 14; step; jump 8; jump 8; " +
				"step; step; load 0; unless 35; step; step; load 0; unless 32; step; step; load 0; unless 29; step; jump 29; jump 23; step; jump 32; jump 19; step; jump 35; jump 15; return 0"},
	)
}

// The slot of a name is the number of those that are visible in front of it; behind a block those of the block are used again.
func TestMillCompileSlots(t *testing.T) {
	wantMillMades(t,
		// No name at all, parameters alone, a let alone, one that nobody speaks of.
		millMade{`fn f() { none(); }`, "f -> ? 0: step; call 1; return 0"},
		millMade{`fn f(a u8, b text, c bool) { }`, "f u8 text bool -> ? 3: return 0"},
		millMade{`fn f(a u8, b text, c bool) { let d = c; b = b; a = a; c = d; }`, "f u8 text bool -> ? 4: step; load 2; store 3; step; load 1; store 1; step; load 0; store 0; step; load 3; store 2; return 0"},
		millMade{`fn f() { let a = 1; let b = 2u8; let c = ""; say c; b = b; a = a; }`, "f -> ? 3: step; push i64 1; store 0; step; push u8 2; store 1; step; push text; store 2; step; load 2; say; step; load 1; store 1; step; load 0; store 0; return 0"},
		// At the end of a block, and of an inner one.
		millMade{`fn f(a u8) { let b = 1; }`, "f u8 -> ? 2: step; push i64 1; store 1; return 0"},
		millMade{`fn f(a bool) { if a { let b = 1; } }`, "f bool -> ? 2: step; load 0; unless 6; step; push i64 1; store 1; return 0"},
		// In blocks beside each other.
		millMade{`fn f(a bool) { if a { let b = 1; b = b; } else { let c = ""; say c; } }`,
			"f bool -> ? 2: step; load 0; unless 10; step; push i64 1; store 1; step; load 1; store 1; jump 16; step; push text; store 1; step; load 1; say; return 0"},
		millMade{`fn f(a bool) { if a { let b = 1; } else if a { let c = ""; let d = 2u8; } else { let e = a; } }`,
			"f bool -> ? 3: step; load 0; unless 7; step; push i64 1; store 1; jump 20; step; load 0; unless 17; step; push text; store 1; step; push u8 2; store 2; jump 20; step; load 0; store 1; return 0"},
		millMade{`fn f(a bool) { if a { let b = 1; } if a { let b = ""; say b; } while a { let b = a; a = b; } }`,
			"f bool -> ? 2: step; load 0; unless 6; step; push i64 1; store 1; step; load 0; unless 15; step; push text; store 1; step; load 1; say; " +
				"step; step; load 0; unless 26; step; load 0; store 1; step; load 1; store 0; jump 16; return 0"},
		// In a block inside a block, and behind it.
		millMade{`fn f(a bool) { let b = 1; if a { let c = 2; if a { let d = 3; b = c + d; } let e = 4; c = e; } let g = 5; b = g; }`,
			"f bool -> ? 4: step; push i64 1; store 1; step; load 0; unless 26; step; push i64 2; store 2; step; load 0; unless 20; step; push i64 3; store 3; step; load 2; load 3; bin +; store 1; " +
				"step; push i64 4; store 3; step; load 3; store 2; step; push i64 5; store 2; step; load 2; store 1; return 0"},
		millMade{`fn f(a bool) { while a { let b = 1; while a { let c = b; b = c; } let d = ""; say d; } let e = a; a = e; }`,
			"f bool -> ? 3: step; step; load 0; unless 25; step; push i64 1; store 1; step; step; load 0; unless 18; step; load 1; store 2; step; load 2; store 1; jump 8; " +
				"step; push text; store 2; step; load 2; say; jump 1; step; load 0; store 1; step; load 1; store 0; return 0"},
		// The same name again, with another type and another slot.
		millMade{`fn f(a bool) { if a { let b = 1; let c = b; c = b; } let c = ""; let b = c; say b + c; }`,
			"f bool -> ? 3: step; load 0; unless 12; step; push i64 1; store 1; step; load 1; store 2; step; load 1; store 2; " +
				"step; push text; store 1; step; load 1; store 2; step; load 2; load 1; bin +; say; return 0"},
		// The E of a let speaks of names of an outer block, of those in front of it, of a parameter.
		millMade{`fn f(a i64) { let b = a; if true { let c = b + a; let d = c * b; a = d; } }`,
			"f i64 -> ? 4: step; load 0; store 1; step; push bool 1; unless 19; step; load 1; load 0; bin +; store 2; step; load 2; load 1; bin *; store 3; step; load 3; store 0; return 0"},
		// The most names are visible in the middle.
		millMade{`fn f() { let a = 1; if true { let b = 1; while true { let c = 1; let d = 1; } } let e = 1; if true { let g = 1; } }`,
			"f -> ? 4: step; push i64 1; store 0; step; push bool 1; unless 20; step; push i64 1; store 1; step; step; push bool 1; unless 20; step; push i64 1; store 2; step; push i64 1; store 3; jump 10; " +
				"step; push i64 1; store 1; step; push bool 1; unless 29; step; push i64 1; store 2; return 0"},
	)
}

// Functions stand in their order, and are called by their number wherever they stand.
func TestMillCompileFunctions(t *testing.T) {
	for _, one := range []millMade{
		{`fn main() -> text { return ""; }`, "main -> text 0: step; push text; return 1"},
		{`fn main() -> text { return main(); }`, "main -> text 0: step; call 0; return 1"},
		{`fn z() { a(); z(); main(); } fn main() -> text { z(); a(); return main(); } fn a() { main(); a(); z(); }`, `
			z -> ? 0: step; call 2; step; call 0; step; call 1; drop; return 0
			main -> text 0: step; call 0; step; call 2; step; call 1; return 1
			a -> ? 0: step; call 1; drop; step; call 2; step; call 0; return 0`},
		{`fn b(x u8) -> u8 { return a(x); } fn a(y u8) -> u8 { return b(y) + a(y); } fn main() -> text { return dec(b(1u8)); }`, `
			b u8 -> u8 1: step; load 0; call 1; return 1
			a u8 -> u8 1: step; load 0; call 0; load 0; call 1; bin +; return 1
			main -> text 0: step; push u8 1; call 0; built dec; return 1`},
		// Parameters of each type, in their order, and each type of a result.
		{`fn f(a bool, b text, c u8, d u16, e u32, g u64, h i8, i i16) -> i32 { return 1i32; } fn g(j i32, k i64) -> i64 { return k; } fn main() -> text { return ""; }`, `
			f bool text u8 u16 u32 u64 i8 i16 -> i32 8: step; push i32 1; return 1
			g i32 i64 -> i64 2: step; load 1; return 1
			main -> text 0: step; push text; return 1`},
		// Names of one function are not those of another, and what a name is called does not matter.
		{`fn f(a u8, b u8) { let c = a; c = b; } fn g(b text) { let a = b; say a; } fn main() -> text { let main = ""; let f = main; return f; }`, `
			f u8 u8 -> ? 3: step; load 0; store 2; step; load 1; store 2; return 0
			g text -> ? 2: step; load 0; store 1; step; load 1; say; return 0
			main -> text 2: step; push text; store 0; step; load 0; store 1; step; load 1; return 1`},
		// A loop of one function is not that of another.
		{`fn f() { while true { break; } } fn g() { while true { continue; } } fn main() -> text { while true { break; } return ""; }`, `
			f -> ? 0: step; step; push bool 1; unless 7; step; jump 7; jump 1; return 0
			g -> ? 0: step; step; push bool 1; unless 7; step; jump 1; jump 1; return 0
			main -> text 0: step; step; push bool 1; unless 7; step; jump 7; jump 1; step; push text; return 1`},
		// InsReturn 0 stands behind each block without a Type, and behind none with one.
		{`fn f() { if true { return; } return; } fn g() -> bool { if true { return true; } return false; } fn h() { fail ""; } fn main() -> text { fail ""; }`, `
			f -> ? 0: step; push bool 1; unless 5; step; return 0; step; return 0; return 0
			g -> bool 0: step; push bool 1; unless 6; step; push bool 1; return 1; step; push bool 0; return 1
			h -> ? 0: step; push text; fail; return 0
			main -> text 0: step; push text; fail`},
	} {
		wantMillMadeWhole(t, one)
	}
}

// Nothing for a tree that is not valid, and for one that does not fit, by each code of chapter 12.
func TestMillCompileWrongTrees(t *testing.T) {
	wrong := map[string]impl.MillTree{
		"nil":                  {},
		"no nodes":             {Nodes: []impl.MillNode{}},
		"a program of nothing": {Nodes: []impl.MillNode{{Kind: impl.MillNodeProgram}}},
		"more kids than are":   {Nodes: []impl.MillNode{{Kind: impl.MillNodeProgram, Kids: 1}}},
		"less kids than none":  {Nodes: []impl.MillNode{{Kind: impl.MillNodeProgram, Kids: -1}}},
		"a very great number":  {Nodes: []impl.MillNode{{Kind: impl.MillNodeProgram, Kids: 1 << 62}}},
		"a literal alone":      {Nodes: []impl.MillNode{{Kind: impl.MillNodeBool, N: 1}}},
		"too many nodes":       millOfSize(12002).tree(),
		"too deep":             millStands(millGrowText(impl.MillNodeLet, "x", millNested(57))).tree(),
		"61 functions": millGrowProgram(append(millMany(60, func(i int) millBush {
			return millGrowFn("f"+strconv.Itoa(i), impl.MillTypeNone, millGrowBlock())
		}), millWith().kids[1])...).tree(),
		"a number below 0": millStands(millGrowText(impl.MillNodeLet, "x", millGrowInt(impl.MillTypeI64, -1))).tree(),
		"a text too long":  millStands(millGrowKind(impl.MillNodeSay, millGrowText(impl.MillNodeText, strings.Repeat("x", 3001)))).tree(),
		"9 parameters": millWith(millGrowFn("f", impl.MillTypeNone, append(millMany(9, func(i int) millBush {
			return millGrowParam("p"+strconv.Itoa(i), impl.MillTypeU8)
		}), millGrowBlock())...)).tree(),
	}
	for code, all := range map[int][]string{
		1:  {`fn f() { } fn f() { }` + millEnd, millEnd + `fn main() -> text { return ""; }`},
		2:  {`fn f() { let a = 1; let a = 2; }` + millEnd, `fn f(a u8, a u8) { }` + millEnd, `fn f(a u8) { if true { let a = 1; } }` + millEnd},
		3:  {`fn f() { say x; }` + millEnd, `fn f() { x = 1; }` + millEnd, `fn f() { if true { let a = 1; } a = 1; }` + millEnd, `fn f() { let a = a; }` + millEnd},
		4:  {`fn f() { g(); }` + millEnd, `fn f() { byte(); }` + millEnd, `fn f() { byte(1u8, 1u8); }` + millEnd},
		5:  {`fn f() { say 1; }` + millEnd, `fn f() { byte(1); }` + millEnd, `fn f() { let a = none(); }` + millEnd, `fn f() { let a = 1 + 1u8; }` + millEnd, `fn f() { if 1 { } }` + millEnd, `fn f() { while "" { } }` + millEnd, `fn f(a u8) { a = 1; }` + millEnd, `fn f() { let a = 1 || true; }` + millEnd},
		6:  {`fn f() { break; }` + millEnd, `fn f() { continue; }` + millEnd, `fn f() { while true { } break; }` + millEnd, `fn f() { while true { } if true { continue; } }` + millEnd},
		7:  {`fn f() { return 1; }` + millEnd, `fn f() -> u8 { return; }` + millEnd, `fn f() -> u8 { return 1; }` + millEnd},
		8:  {`fn f() -> u8 { }` + millEnd, `fn f() -> u8 { while true { return 1u8; } }` + millEnd, `fn f() -> u8 { if true { return 1u8; } }` + millEnd},
		10: {`fn f() { }`, `fn main() { }`, `fn main(a u8) -> text { return ""; }`, `fn main() -> bool { return true; }`},
		11: {`fn f() { ` + millLets("x", 201) + `}` + millEnd, `fn f(a u8) { ` + millLets("x", 199) + `if true { let y = 1; } }` + millEnd},
	} {
		for _, src := range all {
			tree := millOf(t, src).tree()
			if got := impl.MillCheck(tree); got.Code != code {
				t.Errorf("%.200q: %+v, want the code %d", src, got, code)
			}
			wrong[src] = tree
		}
	}
	for what, tree := range wrong {
		short, long := withRoom(tree.Nodes, impl.MillNode{Kind: 99, Text: "room"})
		kept := slices.Clone(long)
		if impl.MillCheck(tree).Code == 0 {
			t.Errorf("%.200s: fits", what)
		}
		if got := impl.MillCompile(impl.MillTree{Nodes: short}); !reflect.DeepEqual(got, impl.MillCode{}) {
			t.Errorf("%.200s: %s", what, millCodeShown(got))
		}
		if !slices.Equal(long, kept) {
			t.Errorf("%.200s: the argument was changed", what)
		}
	}
	// A node of a tree that fits, with a field bent.
	fits := millOf(t, `fn f(a u8) -> u8 { let b = -a; while true { b = f(b); if b == a { break; } } return b; }`+millEnd).nodes()
	wantMillMade(t, impl.MillTree{Nodes: fits})
	for at := range fits {
		for what, bend := range map[string]func(n *impl.MillNode){
			"kind": func(n *impl.MillNode) { n.Kind = 25 }, "kind below": func(n *impl.MillNode) { n.Kind = -1 }, "op": func(n *impl.MillNode) { n.Op = 19 }, "type": func(n *impl.MillNode) { n.Type = 11 }, "number": func(n *impl.MillNode) { n.N = -1 },
			"kids": func(n *impl.MillNode) { n.Kids++ }, "kids below": func(n *impl.MillNode) { n.Kids = -1 }, "many kids": func(n *impl.MillNode) { n.Kids = 1 << 62 },
		} {
			bent := slices.Clone(fits)
			bend(&bent[at])
			if got := impl.MillCompile(impl.MillTree{Nodes: bent}); !reflect.DeepEqual(got, impl.MillCode{}) {
				t.Errorf("%s of node %d: %s", what, at, millCodeShown(got))
			}
		}
	}
}

// wantMillSizes asks of the code of one function how many slots and instructions it has, and how high its stack is at most.
func wantMillSizes(t *testing.T, what string, fn impl.MillFn, shapes []impl.MillShape, slots, ins, high int) {
	t.Helper()
	most := 0
	for _, s := range shapes {
		most = max(most, len(s.Stack))
	}
	if fn.Slots != slots || len(fn.Ins) != ins || most != high {
		t.Errorf("%s: %d slots, %d instructions, %d high, want %d, %d, %d", what, fn.Slots, len(fn.Ins), most, slots, ins, high)
	}
}

// Promise 23, for trees of as many nodes as may be.
func TestMillCompileMostNodes(t *testing.T) {
	t.Parallel()
	room := 12001 - millStands().size()
	for _, size := range []int{12000, 12001} {
		c := wantMillValidMade(t, millOfSize(size).tree())
		// Where one node is left over a return stands in front of all.
		says, ret := (size-millStands().size())/2, (size-millStands().size())%2
		wantMillSizes(t, "says", c.Fns[0], impl.MillShapes(c, 0), 0, says*3+ret*2+1, 1-ret)
	}
	// Loops, of which a node has the most instructions: two nodes and a block make five.
	loop := millGrowKind(impl.MillNodeWhile, millGrowBool(1), millGrowBlock())
	c := wantMillValidMade(t, millStands(slices.Repeat([]millBush{loop}, room/3)...).tree())
	wantMillSizes(t, "loops", c.Fns[0], impl.MillShapes(c, 0), 0, room/3*5+1, 1)
	// One loop with nothing but ways out of it, all of which go to one place.
	leave := []millBush{millGrowKind(impl.MillNodeBreak), millGrowKind(impl.MillNodeContinue)}
	many := room/2 - 2
	c = wantMillValidMade(t, millStands(millGrowKind(impl.MillNodeWhile, millGrowBool(1), millGrowBlock(slices.Repeat(leave, many)...))).tree())
	wantMillSizes(t, "ways out", c.Fns[0], impl.MillShapes(c, 0), 0, many*4+6, 1)
	for i := range many {
		if out, back := c.Fns[0].Ins[4*i+5].A, c.Fns[0].Ins[4*i+7].A; out != many*4+5 || back != 1 {
			t.Fatalf("way out %d goes to %d, way back to %d", i, out, back)
		}
	}
	// Ifs, each with an if behind else; and ORs of ORs.
	branch := millGrowKind(impl.MillNodeIf, millGrowBool(1), millGrowBlock(), millGrowKind(impl.MillNodeIf, millGrowBool(0), millGrowBlock(), millGrowBlock()))
	c = wantMillValidMade(t, millStands(slices.Repeat([]millBush{branch}, room/7)...).tree())
	wantMillSizes(t, "ifs", c.Fns[0], impl.MillShapes(c, 0), 0, room/7*8+1, 1)
	or := millGrowBool(0)
	for range 10 {
		or = millGrowBin(impl.MillOpOr, or, or)
	}
	lets := millMany(5, func(i int) millBush { return millGrowText(impl.MillNodeLet, "x"+strconv.Itoa(i), or) })
	c = wantMillValidMade(t, millStands(lets...).tree())
	wantMillSizes(t, "ors", c.Fns[0], impl.MillShapes(c, 0), 5, 5*(1024+1023*3+2)+1, 1)
}

// Promise 23, for trees that are as deep as may be, and for the highest stack that a tree can ask for.
func TestMillCompileMostNest(t *testing.T) {
	t.Parallel()
	ask := func(what string, b millBush) impl.MillCode {
		t.Helper()
		if b.depth() != impl.MillMaxNest {
			t.Errorf("%s: %d deep", what, b.depth())
		}
		return wantMillMade(t, b.tree())
	}
	ask("marks", millStands(millGrowText(impl.MillNodeLet, "x", millNested(56))))
	for _, op := range []int{impl.MillOpOr, impl.MillOpAnd} {
		left, right, mixed := millGrowBool(1), millGrowBool(1), millGrowBool(0)
		for i := range 56 {
			left, right = millGrowBin(op, left, millGrowBool(0)), millGrowBin(op, millGrowBool(0), right)
			mixed = millGrowBin([]int{impl.MillOpOr, impl.MillOpAnd}[(i+op)%2], mixed, millGrowBool(1))
		}
		for _, e := range []millBush{left, right, mixed} {
			c := ask("ORs and ANDs", millStands(millGrowText(impl.MillNodeLet, "x", e)))
			wantMillSizes(t, "ORs and ANDs", c.Fns[0], impl.MillShapes(c, 0), 1, 57+56*3+3, 1)
		}
	}
	// Loops and ifs in each other, with what leaves the innermost one in each.
	nest := millGrowBlock(millGrowText(impl.MillNodeLet, "z", millGrowOne()), millGrowKind(impl.MillNodeBreak))
	for i := range 28 {
		name := "a" + strconv.Itoa(i)
		inner := millGrowKind(impl.MillNodeWhile, millGrowBool(1), nest)
		if i%3 == 1 {
			inner = millGrowKind(impl.MillNodeIf, millGrowBool(1), millGrowBlock(), nest)
		}
		statements := []millBush{millGrowText(impl.MillNodeLet, name, millGrowOne()), inner, millGrowText(impl.MillNodeSet, name, millGrowName(name))}
		if i < 27 {
			statements = append(statements, millGrowKind(impl.MillNodeBreak+i%2))
		}
		nest = millGrowBlock(statements...)
	}
	if c := ask("loops", millWith(millGrowFn("f", impl.MillTypeNone, nest))); c.Fns[0].Slots != 29 {
		t.Errorf("loops: %d slots", c.Fns[0].Slots)
	}
	// An if behind else, behind else, and so on.
	chain := millGrowKind(impl.MillNodeIf, millGrowBool(1), millGrowBlock(millGrowKind(impl.MillNodeReturn)))
	for chain.depth() < 57 {
		chain = millGrowKind(impl.MillNodeIf, millGrowBool(0), millGrowBlock(), chain)
	}
	ask("ifs behind else", millStands(chain))
	// Calls of eight kids, of which the last one is such a call again: seven values wait in each of 56.
	params := millMany(8, func(i int) millBush { return millGrowParam("p"+strconv.Itoa(i), impl.MillTypeI64) })
	call := millGrowName("p7")
	for range 56 {
		call = millGrowCall("f", append(millMany(7, func(i int) millBush { return millGrowName("p" + strconv.Itoa(i)) }), call)...)
	}
	fn := millGrowFn("f", impl.MillTypeI64, append(params, millGrowBlock(millGrowKind(impl.MillNodeReturn, call)))...)
	c := ask("calls", millWith(fn))
	wantMillSizes(t, "calls", c.Fns[0], impl.MillShapes(c, 0), 8, 56*8+3, 56*7+1)
	cut := millGrowCall("f")
	for range 28 {
		cut = millGrowBuilt(impl.MillBuiltCut, millOfType(impl.MillTypeText), millGrowOne(), millGrowBuilt(impl.MillBuiltLen, cut))
	}
	c = ask("cuts", millWith(millGrowFn("f", impl.MillTypeText, millGrowBlock(millGrowKind(impl.MillNodeReturn, cut)))))
	wantMillSizes(t, "cuts", c.Fns[0], impl.MillShapes(c, 0), 0, 28*4+3, 28*2+1)
}

// Promise 23, for as many names at one place as may be.
func TestMillCompileMostSlots(t *testing.T) {
	t.Parallel()
	const params = "a u8, b u8, c u8, d u8, e u8, f u8, g u8, h u8"
	for _, src := range []string{
		`fn f() { ` + millLets("x", 200) + `x199 = x0 + x198; }`,
		`fn f(` + params + `) { ` + millLets("x", 192) + `x191 = x0; h = a; }`,
		`fn f() { ` + millLets("x", 199) + `if true { let a = ""; say a; } else { let b = true; b = b; } while true { let c = 1u8; c = c; break; } let d = x198; d = x0; }`,
		`fn f() { if true { ` + millLets("x", 200) + `} else { ` + millLets("y", 200) + `} while true { ` + millLets("z", 200) + `} ` + millLets("x", 200) + `x7 = x199; }`,
		`fn f() { ` + millLets("x", 100) + `while true { ` + millLets("y", 50) + `while true { ` + millLets("z", 50) + `z49 = y49 + x99; continue; } break; } }`,
	} {
		c := wantMillMade(t, millOf(t, src+millEnd).tree())
		if len(c.Fns) != 5 || c.Fns[0].Slots != 200 {
			t.Errorf("%.100q: %s", src, millCodeShown(c))
		}
	}
	// Loops in each other whose slots are used again behind them with another type, with all names visible in the innermost.
	inner := millGrowBlock(millGrowKind(impl.MillNodeContinue))
	for i := 27; i >= 0; i-- {
		lets := millMany(7, func(n int) millBush {
			return millGrowText(impl.MillNodeLet, fmt.Sprintf("a%dn%d", i, n), millOfType(1+(i+n)%10))
		})
		after := millMany(4, func(n int) millBush {
			return millGrowText(impl.MillNodeLet, fmt.Sprintf("b%dn%d", i, n), millOfType(1+(i+n+3)%10))
		})
		blocks := []millBush{millGrowKind(impl.MillNodeWhile, millGrowBool(1), inner), millGrowKind(impl.MillNodeIf, millGrowBool(1), millGrowBlock(after...))}
		inner = millGrowBlock(append(lets, blocks...)...)
	}
	b := millWith(millGrowFn("f", impl.MillTypeNone, inner))
	c := wantMillMade(t, b.tree())
	if len(c.Fns) != 3 || c.Fns[0].Slots != 200 {
		t.Errorf("%s", millCodeShown(c))
	}
}

// Promise 23, for as many functions, parameters and kids of calls as may be.
func TestMillCompileMostFunctions(t *testing.T) {
	t.Parallel()
	const many = 59
	name := func(i int) string { return "f" + strconv.Itoa(i%many) }
	fns := millMany(many, func(i int) millBush {
		params := millMany(8, func(n int) millBush { return millGrowParam("p"+strconv.Itoa(n), 1+(i+n)%10) })
		pass := func(to int) []millBush {
			return millMany(8, func(n int) millBush {
				// The parameter of this function with the type that the other has there, or a literal of it.
				for own := range 8 {
					if (i+own)%10 == (to+n)%10 {
						return millGrowName("p" + strconv.Itoa(own))
					}
				}
				return millOfType(1 + (to+n)%10)
			})
		}
		gives := i % 11
		block := []millBush{millGrowKind(impl.MillNodeDo, millGrowCall(name(i+1), pass((i+1)%many)...)), millGrowKind(impl.MillNodeDo, millGrowCall(name(i+many-1), pass((i+many-1)%many)...))}
		if gives != impl.MillTypeNone {
			block = append(block, millGrowKind(impl.MillNodeReturn, millGrowCall(name(i), pass(i)...)))
		}
		return millGrowFn(name(i), gives, append(params, millGrowBlock(block...))...)
	})
	main := millGrowFn("main", impl.MillTypeText, millGrowBlock(millGrowKind(impl.MillNodeReturn, millGrowCall("main"))))
	for _, at := range []int{0, 30, many} {
		c := wantMillMade(t, millGrowProgram(slices.Insert(slices.Clone(fns), at, main)...).tree())
		if len(c.Fns) != 60 || c.Fns[at].Name != "main" {
			t.Fatalf("main at %d: %s", at, millCodeShown(c))
		}
		for i, fn := range c.Fns {
			if i == at {
				continue
			}
			if len(fn.Params) != 8 || fn.Slots != 8 || fn.Ins[1].Op != impl.MillInsLoad {
				t.Errorf("function %d: %+v", i, fn)
			}
		}
	}
}

// Promise 23: a code whose form would be too long is valid, but has none.
func TestMillCompileWithoutForm(t *testing.T) {
	say := func(bytes int) millBush {
		return millGrowKind(impl.MillNodeSay, millGrowText(impl.MillNodeText, strings.Repeat("x", bytes)))
	}
	ask := func(last int) string {
		c := wantMillValidMade(t, millStands(append(slices.Repeat([]millBush{say(3000)}, 66), say(last))...).tree())
		return impl.MillWriteCode(c)
	}
	short := len(ask(1000))
	if short == 0 || short > impl.MillMaxBytes {
		t.Fatalf("%d bytes", short)
	}
	most := 1000 + impl.MillMaxBytes - short
	if got := len(ask(most)); got != impl.MillMaxBytes {
		t.Errorf("%d bytes", got)
	}
	if got := len(ask(most + 1)); got != 0 {
		t.Errorf("%d bytes", got)
	}
}

// Promise 23, and the rows of the table, for all small blocks of some forms.
func TestMillCompileAllSmallBlocks(t *testing.T) {
	t.Parallel()
	short, long := millTurns()
	fits, not := 0, 0
	ask := func(statements ...millBush) {
		plain := millGrowFn("f", impl.MillTypeNone, millGrowBlock(statements...))
		loop := millGrowBlock(millGrowKind(impl.MillNodeWhile, millGrowBool(1), millGrowBlock(statements...)))
		one := millGrowFn("f", impl.MillTypeNone, millGrowParam("b", impl.MillTypeI64), loop)
		other := millGrowFn("f", impl.MillTypeNone, millGrowParam("a", impl.MillTypeI64), loop)
		for _, fn := range []millBush{plain, one, other} {
			if c := wantMillMade(t, millWith(fn).tree()); len(c.Fns) > 0 {
				fits++
			} else {
				not++
			}
		}
	}
	for _, one := range append(slices.Clone(short), long...) {
		ask(one)
		for _, other := range short {
			ask(one, other)
			ask(other, one)
			if other.top.Kind != impl.MillNodeLet {
				continue
			}
			for _, third := range short {
				ask(other, one, third)
			}
		}
		if t.Failed() {
			return
		}
	}
	if fits < 2000 || not < 2000 {
		t.Errorf("%d fit, %d do not", fits, not)
	}
}

// Promise 23, and the rows of the table, for programs that are drawn.
func TestMillCompileDrawnPrograms(t *testing.T) {
	t.Parallel()
	dice := clayDice(47)
	m := &millMaker{clayDice: &dice}
	ops, again := map[int]int{}, 0
	for i := range 3000 {
		b := m.program(dice.below(5), i%5)
		if b.size() > 1500 {
			continue
		}
		c := wantMillMade(t, b.tree())
		if len(c.Fns) != len(b.kids) {
			t.Errorf("%s%s", b.text(noBrackets), millCodeShown(c))
		}
		if i%8 == 0 {
			wantMillCode(t, c)
		}
		if t.Failed() {
			return
		}
		for _, fn := range c.Fns {
			stores := map[int]int{}
			for _, ins := range fn.Ins {
				ops[ins.Op]++
				if ins.Op == impl.MillInsStore {
					stores[ins.A]++
				}
			}
			for slot, many := range stores {
				if many > 1 && slot >= len(fn.Params) {
					again++
				}
			}
		}
	}
	for op := range impl.MillInsStep {
		if ops[op+1] < 100 {
			t.Errorf("%s: %d instructions", millInsWords[op+1], ops[op+1])
		}
	}
	if again < 500 {
		t.Errorf("%d slots are used again", again)
	}
}

// The same for programs in which some things were changed, most of which do not fit any more.
func TestMillCompileSpoiltPrograms(t *testing.T) {
	t.Parallel()
	dice := clayDice(53)
	m := &millMaker{clayDice: &dice}
	codes := map[int]int{}
	for i := range 6000 {
		b := m.program(dice.below(4), i%4)
		if b.size() > 600 {
			continue
		}
		for range 1 + dice.below(3) {
			dice.millSpoil(&b)
		}
		if !isRightMillTree(b.tree()) {
			continue
		}
		codes[impl.MillCheck(b.tree()).Code]++
		if wantMillMade(t, b.tree()); t.Failed() {
			return
		}
	}
	for _, code := range []int{0, 1, 2, 3, 4, 5, 6, 7, 8, 10} {
		if codes[code] < 20 {
			t.Errorf("codes %v", codes)
		}
	}
}

// What was folded is compiled as well, and what was printed and read is compiled to the same.
func TestMillCompileFoldedAndPrinted(t *testing.T) {
	t.Parallel()
	dice := clayDice(59)
	m := &millMaker{clayDice: &dice}
	for i := range 600 {
		b := m.program(dice.below(4), i%4)
		if b.size() > 1000 {
			continue
		}
		c := wantMillMade(t, b.tree())
		if folded := wantMillMade(t, impl.MillFold(b.tree())); len(folded.Fns) != len(c.Fns) {
			t.Errorf("%s%s", b.text(noBrackets), millCodeShown(folded))
		}
		if text := impl.MillPrint(b.tree()); text != "" && !isSameMillCode(impl.MillCompile(millOf(t, text).tree()), c) {
			t.Errorf("%q: printed and read it is another", text)
		}
		if t.Failed() {
			return
		}
	}
}

// The argument stays as it was; what is answered is new, and no two parts of it share memory.
func TestMillCompileAnswersNewMemory(t *testing.T) {
	src := `fn func(param text, other u8) -> text { let local = "some text"; local = "some text" + "a text"; if other == 1u8 || local == "third text" { while true { write "name", "fourth text"; break; } } func(local, other + 1u8); return param + "fifth text"; } fn proc(param text, other u8) { say "some text"; } fn third(param i64) { } fn main() -> text { return tool("sixth text", "sixth text"); }`
	nodes, long := withRoom(millOf(t, src).nodes(), impl.MillNode{Kind: 99, Text: "room"})
	shared := string([]byte("sixth text"))
	for i, n := range nodes {
		nodes[i].Text = string([]byte(n.Text))
		if n.Text == shared {
			// Two nodes may hold one text.
			nodes[i].Text = shared
		}
	}
	kept := slices.Clone(long)
	tree := impl.MillTree{Nodes: nodes}
	got := wantMillMade(t, tree)
	want := millCopied(got)
	texts := slices.DeleteFunc(millCodeTexts(got), func(text string) bool { return text == "" })
	if len(texts) < 14 {
		t.Errorf("only %d texts", len(texts))
	}
	for i, text := range texts {
		for _, n := range nodes {
			if sharesBytes(n.Text, text) || sharesBytes(text, n.Text) {
				t.Errorf("the text %q shares memory with the argument", text)
			}
		}
		for _, other := range texts[:i] {
			if sharesBytes(text, other) || sharesBytes(other, text) {
				t.Errorf("%q and %q share memory", text, other)
			}
		}
	}
	other := impl.MillCompile(tree)
	var params [][]int
	for _, fn := range got.Fns {
		params = append(params, fn.Params)
	}
	wantMillApart(t, "params", params)
	for i := range got.Fns {
		full := got.Fns[i].Ins[:cap(got.Fns[i].Ins)]
		for at := range full {
			full[at] = impl.MillIns{Op: 88}
		}
		for _, fn := range got.Fns[i+1:] {
			if slices.Contains(fn.Ins, impl.MillIns{Op: 88}) {
				t.Error("two functions share instructions")
			}
		}
	}
	for i := range got.Fns[:cap(got.Fns)] {
		got.Fns[:cap(got.Fns)][i] = impl.MillFn{Name: "other"}
	}
	if again := impl.MillCompile(tree); !isSameMillCode(again, want) || !isSameMillCode(other, want) {
		t.Error("asked again it is another")
	}
	if !slices.Equal(long, kept) {
		t.Error("the argument was changed")
	}
}

// Many at once: nothing is kept between calls.
func TestMillCompileKeepsNothing(t *testing.T) {
	var all []func() string
	for n := range 8 {
		tree := millOf(t, `fn f() { `+millLets("x", n)+strings.Repeat("while true { break; } ", n)+`}`+millEnd).tree()
		want := millMadeByRules(tree.Nodes)
		all = append(all, func() string {
			if got := impl.MillCompile(tree); !isSameMillCode(got, want) {
				return millCodeShown(got)
			}
			return ""
		})
	}
	wantAtOnce(t, all)
}

func FuzzMillCompile(f *testing.F) {
	f.Add(`fn g(a text, b u8) -> bool { if a == "" || !g(a, b) && true { b = -1u8 + at(a, 1); } else if u8(b) < 2u8 { return true; } let c = 1; while true { let d = c; if d == 2 { break; } else { continue; } while false { } } let e = ""; g(e, 1u8); fail dec(c); } fn h() { return; } fn main() -> text { h(); return ""; }`)
	f.Add(`fn main() -> text { while true { if true { let a = 1; } else { let b = ""; let c = b; } while false { break; } continue; } let d = arg(); write d, read(d); say tool(d, list(d)); return cut(d, 0, find(d, "x")); }`)
	f.Fuzz(func(t *testing.T, src string) {
		tree, fault := impl.MillParse(src)
		if fault.Code != 0 || len(tree.Nodes) > 500 {
			return
		}
		if c := wantMillMade(t, tree); len(c.Fns) > 0 && len(c.Fns) < 8 {
			wantMillCode(t, c)
		}
	})
}
