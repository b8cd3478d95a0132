package tests

import (
	"fmt"
	"math"
	"regexp"
	"slices"
	"strconv"
	"strings"
	"testing"

	"loop.example/kilnyard/impl"
)

// millOpMarks has the mark of each op of NodeBin at its number.
var millOpMarks = strings.Fields("? || && == != < <= > >= + - | ^ * / % & << >>")

// millOpRanks has its rank.
var millOpRanks = []int{0, 1, 2, 3, 3, 3, 3, 3, 3, 4, 4, 4, 4, 5, 5, 5, 5, 5, 5}

// millUnTexts has the mark of each op of NodeUn at its number.
var millUnTexts = strings.Fields("? - ! ~")

// millBuiltTexts has the word of each op of NodeBuilt at its number.
var millBuiltTexts = strings.Fields("? read has list tool arg len at cut find chr dec num")

// millBuiltKids has how many kids it has.
var millBuiltKids = []int{0, 1, 1, 1, 2, 0, 1, 2, 3, 2, 1, 1, 1}

// millTypeTexts has the word of each type at its number.
var millTypeTexts = strings.Fields("? " + millTypeWords)

// millBush is a node with its kids.
type millBush struct {
	top  impl.MillNode
	kids []millBush
}

func millGrow(top impl.MillNode, kids ...millBush) millBush {
	top.Kids = len(kids)
	return millBush{top, kids}
}

func millGrowKind(kind int, kids ...millBush) millBush {
	return millGrow(impl.MillNode{Kind: kind}, kids...)
}

func millGrowText(kind int, text string, kids ...millBush) millBush {
	return millGrow(impl.MillNode{Kind: kind, Text: text}, kids...)
}

func millGrowName(name string) millBush { return millGrowText(impl.MillNodeName, name) }

func millGrowInt(kind int, n int64) millBush {
	return millGrow(impl.MillNode{Kind: impl.MillNodeInt, Type: kind, N: n})
}

func millGrowOne() millBush { return millGrowInt(impl.MillTypeI64, 1) }

func millGrowBool(n int64) millBush {
	return millGrow(impl.MillNode{Kind: impl.MillNodeBool, N: n})
}

func millGrowUn(op int, kid millBush) millBush {
	return millGrow(impl.MillNode{Kind: impl.MillNodeUn, Op: op}, kid)
}

func millGrowBin(op int, left, right millBush) millBush {
	return millGrow(impl.MillNode{Kind: impl.MillNodeBin, Op: op}, left, right)
}

func millGrowCall(name string, kids ...millBush) millBush {
	return millGrowText(impl.MillNodeCall, name, kids...)
}

func millGrowBuilt(op int, kids ...millBush) millBush {
	return millGrow(impl.MillNode{Kind: impl.MillNodeBuilt, Op: op}, kids...)
}

func millGrowConv(kind int, kid millBush) millBush {
	return millGrow(impl.MillNode{Kind: impl.MillNodeConv, Type: kind}, kid)
}

func millGrowFail(e millBush) millBush { return millGrowKind(impl.MillNodeFail, e) }

func millGrowBlock(statements ...millBush) millBush {
	return millGrowKind(impl.MillNodeBlock, statements...)
}

func millGrowParam(name string, kind int) millBush {
	return millGrow(impl.MillNode{Kind: impl.MillNodeParam, Text: name, Type: kind})
}

func millGrowFn(name string, kind int, kids ...millBush) millBush {
	return millGrow(impl.MillNode{Kind: impl.MillNodeFn, Text: name, Type: kind}, kids...)
}

func millGrowProgram(fns ...millBush) millBush {
	return millGrowKind(impl.MillNodeProgram, fns...)
}

// millGrowIn is a program of a function f with these statements.
func millGrowIn(statements ...millBush) millBush {
	return millGrowProgram(millGrowFn("f", impl.MillTypeNone, millGrowBlock(statements...)))
}

func millMany(n int, grow func(i int) millBush) []millBush {
	var many []millBush
	for i := range n {
		many = append(many, grow(i))
	}
	return many
}

func (b millBush) nodes() []impl.MillNode { return b.nodesBehind(nil) }

func (b millBush) nodesBehind(nodes []impl.MillNode) []impl.MillNode {
	for _, kid := range b.kids {
		nodes = kid.nodesBehind(nodes)
	}
	return append(nodes, b.top)
}

func (b millBush) tree() impl.MillTree { return impl.MillTree{Nodes: b.nodes()} }

// text writes the bush by the forms of the document; extra tells how many needless brackets are round an E.
func (b millBush) text(extra func() int) string { return b.textIn(extra, 0) }

// textIn is the text with so many blocks around it.
func (b millBush) textIn(extra func() int, blocks int) string {
	indent := strings.Repeat("  ", blocks)
	e := func(i int) string {
		kid := b.kids[i]
		text := kid.textIn(extra, blocks)
		n := extra()
		if n == 0 && kid.top.Kind == impl.MillNodeBin && (b.top.Kind == impl.MillNodeBin || b.top.Kind == impl.MillNodeUn) {
			n = 1
		}
		return strings.Repeat("(", n) + text + strings.Repeat(")", n)
	}
	in := func(i int) string { return b.kids[i].textIn(extra, blocks) }
	parted := func(n int, one func(i int) string) string {
		var texts []string
		for i := range n {
			texts = append(texts, one(i))
		}
		return "(" + strings.Join(texts, ", ") + ")"
	}
	last := len(b.kids) - 1
	name := b.top.Text
	switch b.top.Kind {
	case impl.MillNodeInt:
		word := ""
		if b.top.Type != impl.MillTypeI64 {
			word = millTypeTexts[b.top.Type]
		}
		return strconv.FormatUint(uint64(b.top.N), 10) + word
	case impl.MillNodeText:
		return clayQuoted(name)
	case impl.MillNodeBool:
		return []string{"false", "true"}[b.top.N]
	case impl.MillNodeName:
		return name
	case impl.MillNodeUn:
		return millUnTexts[b.top.Op] + e(0)
	case impl.MillNodeBin:
		return e(0) + " " + millOpMarks[b.top.Op] + " " + e(1)
	case impl.MillNodeCall:
		return name + parted(last+1, e)
	case impl.MillNodeBuilt:
		return millBuiltTexts[b.top.Op] + parted(last+1, e)
	case impl.MillNodeConv:
		return millTypeTexts[b.top.Type] + parted(1, e)
	case impl.MillNodeLet:
		return "let " + name + " = " + e(0) + ";"
	case impl.MillNodeSet:
		return name + " = " + e(0) + ";"
	case impl.MillNodeIf:
		text := "if " + e(0) + " " + in(1)
		if last == 2 {
			text += " else " + in(2)
		}
		return text
	case impl.MillNodeWhile:
		return "while " + e(0) + " " + in(1)
	case impl.MillNodeBreak:
		return "break;"
	case impl.MillNodeContinue:
		return "continue;"
	case impl.MillNodeReturn:
		if last == 0 {
			return "return " + e(0) + ";"
		}
		return "return;"
	case impl.MillNodeFail:
		return "fail " + e(0) + ";"
	case impl.MillNodeWrite:
		return "write " + e(0) + ", " + e(1) + ";"
	case impl.MillNodeSay:
		return "say " + e(0) + ";"
	case impl.MillNodeDo:
		return in(0) + ";"
	case impl.MillNodeBlock:
		text := "{\n"
		for _, kid := range b.kids {
			text += indent + "  " + kid.textIn(extra, blocks+1) + "\n"
		}
		return text + indent + "}"
	case impl.MillNodeParam:
		return name + " " + millTypeTexts[b.top.Type]
	case impl.MillNodeFn:
		gives := " "
		if b.top.Type != impl.MillTypeNone {
			gives = " -> " + millTypeTexts[b.top.Type] + " "
		}
		return "fn " + name + parted(last, in) + gives + in(last)
	}
	text := ""
	for i := range b.kids {
		text += in(i) + "\n"
	}
	return text
}

// millForms tells for each kind what its kids are: e an E, c a call, s a statement, i an if, b a block, p a parameter, f a function, x a program.
var millForms = [...]string{
	"x^", "", "", "", "", "[ec]", "[ec][ec]", "[ec]{0,8}", "[ec]*", "[ec]", "[ec]", "[ec]", "[ec]b[bi]?", "[ec]b", "", "", "[ec]?", "[ec]", "[ec][ec]", "[ec]", "c",
	"[si]*", "", "p{0,8}b", "f{1,60}",
}

// millKidLetters has the letter of each kind, at its number.
var millKidLetters = strings.Split("? e e e e e e c e e s s i s s s s s s s s b p f x", " ")

// millFormed are the forms, ready to be asked.
var millFormed = func() []*regexp.Regexp {
	var formed []*regexp.Regexp
	for _, form := range millForms {
		formed = append(formed, regexp.MustCompile("^("+form+")$"))
	}
	return formed
}()

// millUsed has the fields that each kind uses: o for Op, t for Type, n for N, x for Text.
var millUsed = strings.Split("- tn x n x o o x o t x x - - - - - - - - - - tx tx -", " ")

var millNameForm = regexp.MustCompile(`^[a-z][a-z0-9_]{0,29}$`)

func isMillName(text string) bool {
	return millNameForm.MatchString(text) && !slices.Contains(millWordList(), text)
}

// millMostOf is the greatest number of each integer type, as the number with the same bits without sign.
func millMostOf(kind int) uint64 {
	for _, k := range millIntKinds() {
		if k.kind == kind {
			most, _ := strconv.ParseUint(k.most, 10, 64)
			return most
		}
	}
	return 0
}

// millBushOf takes the last node of a list with all below it, and gives what is left.
func millBushOf(nodes []impl.MillNode) (b millBush, rest []impl.MillNode, ok bool) {
	if len(nodes) == 0 {
		return millBush{}, nil, false
	}
	b.top, rest = nodes[len(nodes)-1], nodes[:len(nodes)-1]
	for i := 0; i < b.top.Kids; i++ {
		var kid millBush
		if kid, rest, ok = millBushOf(rest); !ok {
			return millBush{}, nil, false
		}
		b.kids = append(b.kids, kid)
	}
	slices.Reverse(b.kids)
	return b, rest, b.top.Kids >= 0
}

// isRight says whether the bush is right by the document's words, where it has so many nodes above it.
func (b millBush) isRight(above int) bool {
	n, letters := b.top, ""
	if above > 60 || n.Kind < 1 || n.Kind > 24 {
		return false
	}
	for _, kid := range b.kids {
		if !kid.isRight(above + 1) {
			return false
		}
		letters += millKidLetters[kid.top.Kind]
	}
	uses := millUsed[n.Kind]
	for letter, none := range map[string]bool{"o": n.Op == 0, "t": n.Type == 0, "n": n.N == 0, "x": n.Text == ""} {
		if !none && !strings.Contains(uses, letter) {
			return false
		}
	}
	right := true
	switch n.Kind {
	case impl.MillNodeInt:
		right = n.Type >= 3 && n.Type <= 10 && uint64(n.N) <= millMostOf(n.Type)
	case impl.MillNodeText:
		right = len(n.Text) <= 3000
	case impl.MillNodeBool:
		right = n.N == 0 || n.N == 1
	case impl.MillNodeName, impl.MillNodeCall, impl.MillNodeLet, impl.MillNodeSet:
		right = isMillName(n.Text)
	case impl.MillNodeUn:
		right = n.Op >= 1 && n.Op <= 3
	case impl.MillNodeBin:
		right = n.Op >= 1 && n.Op <= 18
	case impl.MillNodeBuilt:
		right = n.Op >= 1 && n.Op <= 12 && len(b.kids) == millBuiltKids[n.Op]
	case impl.MillNodeConv:
		right = n.Type >= 3 && n.Type <= 10
	case impl.MillNodeParam:
		right = isMillName(n.Text) && n.Type >= 1 && n.Type <= 10
	case impl.MillNodeFn:
		right = isMillName(n.Text) && n.Type >= 0 && n.Type <= 10
	}
	return right && millFormed[n.Kind].MatchString(letters)
}

func isRightMillTree(t impl.MillTree) bool {
	if len(t.Nodes) > 12001 {
		return false
	}
	b, rest, ok := millBushOf(t.Nodes)
	return ok && len(rest) == 0 && b.top.Kind == impl.MillNodeProgram && b.isRight(0)
}

// wantMillRead asks that src is read as the bush.
func wantMillRead(t *testing.T, src string, b millBush) {
	t.Helper()
	tree, fault := impl.MillParse(src)
	if fault != (impl.MillFault{}) {
		t.Errorf("%.300q: fault %+v", src, fault)
	} else if !slices.Equal(tree.Nodes, b.nodes()) {
		t.Errorf("%.300q: got %+v, want %+v", src, tree.Nodes, b.nodes())
	}
}

// wantMillPrinted asks that the bush is valid, written as text, and that text read as the bush.
func wantMillPrinted(t *testing.T, b millBush, text string) {
	t.Helper()
	if !impl.MillValidTree(b.tree()) {
		t.Errorf("not valid: %.300q", text)
	}
	if got := impl.MillPrint(b.tree()); got != text {
		t.Errorf("printed %.300q, want %.300q", got, text)
	}
	wantMillRead(t, text, b)
}

// wantMillStatement asks the same of a statement, alone in a function.
func wantMillStatement(t *testing.T, b millBush, text string) {
	t.Helper()
	wantMillPrinted(t, millGrowIn(b), "fn f() {\n  "+strings.ReplaceAll(text, "\n", "\n  ")+"\n}\n")
}

// wantMillE asks the same of an E, alone in a statement.
func wantMillE(t *testing.T, e millBush, text string) {
	t.Helper()
	wantMillStatement(t, millGrowFail(e), "fail "+text+";")
}

// wantMillReadE asks that the text of an E is read as it.
func wantMillReadE(t *testing.T, text string, e millBush) {
	t.Helper()
	wantMillRead(t, "fn f() { fail "+text+"; }", millGrowIn(millGrowFail(e)))
}

func wantMillNotValid(t *testing.T, what string, tree impl.MillTree) {
	t.Helper()
	if impl.MillValidTree(tree) {
		t.Errorf("%s: valid", what)
	}
	if text := impl.MillPrint(tree); text != "" {
		t.Errorf("%s: printed %.200q", what, text)
	}
}

func wantMillParseFault(t *testing.T, src string, code, at int) {
	t.Helper()
	tree, fault := impl.MillParse(src)
	if fault != (impl.MillFault{Code: code, At: at}) {
		t.Errorf("%.300q: got %+v, want code %d at %d", src, fault, code, at)
	}
	if len(tree.Nodes) != 0 {
		t.Errorf("%.300q: %d nodes beside a fault", src, len(tree.Nodes))
	}
}

// wantMillStop asks for a fault of code 6 at the place of the first @ in src, which is taken out.
func wantMillStop(t *testing.T, src string) {
	t.Helper()
	at := strings.Index(src, "@")
	wantMillParseFault(t, src[:at]+src[at+1:], 6, at)
}

// wantMillStopIn asks the same of statements in a function; a text with @ at its end ends there.
func wantMillStopIn(t *testing.T, statements string) {
	t.Helper()
	for _, front := range []string{"fn f() { ", "fn g(a u8) { say 1; }\nfn f() -> u8 { break; while true { "} {
		wantMillStop(t, front+statements)
		if !strings.HasSuffix(statements, "@") {
			// What comes behind does not count.
			wantMillStop(t, front+statements+" } }")
			wantMillStop(t, front+statements+" ( 1 ) = } else fn fn")
		}
	}
}

func TestMillTreeConstants(t *testing.T) {
	limits := [4]int{impl.MillMaxNodes, impl.MillMaxNest, impl.MillMaxFns, impl.MillMaxArgs}
	if limits != [4]int{12001, 60, 60, 8} {
		t.Errorf("limits %v", limits)
	}
	kinds := []int{
		impl.MillNodeInt, impl.MillNodeText, impl.MillNodeBool, impl.MillNodeName, impl.MillNodeUn, impl.MillNodeBin, impl.MillNodeCall, impl.MillNodeBuilt,
		impl.MillNodeConv, impl.MillNodeLet, impl.MillNodeSet, impl.MillNodeIf, impl.MillNodeWhile, impl.MillNodeBreak, impl.MillNodeContinue, impl.MillNodeReturn,
		impl.MillNodeFail, impl.MillNodeWrite, impl.MillNodeSay, impl.MillNodeDo, impl.MillNodeBlock, impl.MillNodeParam, impl.MillNodeFn, impl.MillNodeProgram,
	}
	ops := []int{
		impl.MillOpOr, impl.MillOpAnd, impl.MillOpSame, impl.MillOpOther, impl.MillOpLess, impl.MillOpMost, impl.MillOpMore, impl.MillOpLeast, impl.MillOpAdd,
		impl.MillOpSub, impl.MillOpSet, impl.MillOpXor, impl.MillOpMul, impl.MillOpDiv, impl.MillOpRem, impl.MillOpMask, impl.MillOpLeft, impl.MillOpRight,
	}
	uns := []int{impl.MillOpNeg, impl.MillOpNot, impl.MillOpInv}
	builts := []int{
		impl.MillBuiltRead, impl.MillBuiltHas, impl.MillBuiltList, impl.MillBuiltTool, impl.MillBuiltArg, impl.MillBuiltLen, impl.MillBuiltAt, impl.MillBuiltCut,
		impl.MillBuiltFind, impl.MillBuiltChr, impl.MillBuiltDec, impl.MillBuiltNum,
	}
	for size, numbers := range map[int][]int{24: kinds, 18: ops, 3: uns, 12: builts} {
		if len(numbers) != size {
			t.Errorf("%d numbers, want %d", len(numbers), size)
		}
		for i, n := range numbers {
			if n != i+1 {
				t.Errorf("number %d of %d is %d", i+1, size, n)
			}
		}
	}
}

// Promise 14, each kind by itself, and how it is written.
func TestMillTreeEachKind(t *testing.T) {
	a, b, c, one := millGrowName("a"), millGrowName("b"), millGrowName("c"), millGrowOne()
	wantMillE(t, millGrowInt(impl.MillTypeI64, 0), "0")
	wantMillE(t, millGrowInt(impl.MillTypeU8, 7), "7u8")
	wantMillE(t, millGrowText(impl.MillNodeText, ""), `""`)
	wantMillE(t, millGrowText(impl.MillNodeText, "if (a)"), `"if (a)"`)
	wantMillE(t, millGrowBool(0), "false")
	wantMillE(t, millGrowBool(1), "true")
	wantMillE(t, millGrowName("z_9a"), "z_9a")
	for op := 1; op <= 3; op++ {
		wantMillE(t, millGrowUn(op, a), millUnTexts[op]+"a")
	}
	for op := 1; op <= 18; op++ {
		wantMillE(t, millGrowBin(op, a, one), "a "+millOpMarks[op]+" 1")
	}
	wantMillE(t, millGrowCall("g"), "g()")
	wantMillE(t, millGrowCall("g", a), "g(a)")
	wantMillE(t, millGrowCall("g", a, one, millGrowCall("g")), "g(a, 1, g())")
	for op := 1; op <= 12; op++ {
		n := millBuiltKids[op]
		kids := []millBush{a, b, c}[:n]
		wantMillE(t, millGrowBuilt(op, kids...), millBuiltTexts[op]+"("+strings.Join([]string{"a", "b", "c"}[:n], ", ")+")")
	}
	for kind := impl.MillTypeU8; kind <= impl.MillTypeI64; kind++ {
		wantMillE(t, millGrowConv(kind, a), millTypeTexts[kind]+"(a)")
	}
	wantMillStatement(t, millGrowText(impl.MillNodeLet, "x", a), "let x = a;")
	wantMillStatement(t, millGrowText(impl.MillNodeSet, "x", a), "x = a;")
	set := millGrowText(impl.MillNodeSet, "x", one)
	yes, no := millGrowBlock(set), millGrowBlock(set, set)
	wantMillStatement(t, millGrowKind(impl.MillNodeIf, a, yes), "if a {\n  x = 1;\n}")
	wantMillStatement(t, millGrowKind(impl.MillNodeIf, a, yes, no), "if a {\n  x = 1;\n} else {\n  x = 1;\n  x = 1;\n}")
	wantMillStatement(t, millGrowKind(impl.MillNodeIf, a, yes, millGrowKind(impl.MillNodeIf, b, no)), "if a {\n  x = 1;\n} else if b {\n  x = 1;\n  x = 1;\n}")
	wantMillStatement(t, millGrowKind(impl.MillNodeWhile, a, yes), "while a {\n  x = 1;\n}")
	wantMillStatement(t, millGrowKind(impl.MillNodeBreak), "break;")
	wantMillStatement(t, millGrowKind(impl.MillNodeContinue), "continue;")
	wantMillStatement(t, millGrowKind(impl.MillNodeReturn), "return;")
	wantMillStatement(t, millGrowKind(impl.MillNodeReturn, a), "return a;")
	wantMillStatement(t, millGrowFail(a), "fail a;")
	wantMillStatement(t, millGrowKind(impl.MillNodeWrite, a, b), "write a, b;")
	wantMillStatement(t, millGrowKind(impl.MillNodeSay, a), "say a;")
	wantMillStatement(t, millGrowKind(impl.MillNodeDo, millGrowCall("g", a, b)), "g(a, b);")
	for kind := impl.MillTypeBool; kind <= impl.MillTypeI64; kind++ {
		word := millTypeTexts[kind]
		wantMillPrinted(t, millGrowProgram(millGrowFn("f", kind, millGrowParam("a", kind), millGrowBlock())), "fn f(a "+word+") -> "+word+" {\n}\n")
	}
	wantMillPrinted(t, millGrowProgram(
		millGrowFn("f", impl.MillTypeNone, millGrowBlock()),
		millGrowFn("f", impl.MillTypeText, millGrowParam("a", impl.MillTypeText), millGrowParam("a", impl.MillTypeBool), millGrowBlock(set)),
	), "fn f() {\n}\nfn f(a text, a bool) -> text {\n  x = 1;\n}\n")
}

// Each form that the chapter names, byte by byte.
func TestMillPrintForms(t *testing.T) {
	a, b, c, x := millGrowName("a"), millGrowName("b"), millGrowName("c"), millGrowName("x")
	text := millGrowText(impl.MillNodeText, "a")
	wantMillStatement(t, millGrowText(impl.MillNodeLet, "x", millGrowBin(impl.MillOpAdd, a, millGrowBin(impl.MillOpMul, b, millGrowUn(impl.MillOpNeg, c)))), "let x = a + (b * -c);")
	wantMillStatement(t, millGrowKind(impl.MillNodeWrite, text, millGrowCall("f", x, millGrowInt(impl.MillTypeU8, 1))), `write "a", f(x, 1u8);`)
	wantMillStatement(t, millGrowKind(impl.MillNodeReturn), "return;")
	iff := func(ask millBush, kids ...millBush) millBush {
		return millGrowKind(impl.MillNodeIf, append([]millBush{ask}, kids...)...)
	}
	while := func(ask millBush, block millBush) millBush { return millGrowKind(impl.MillNodeWhile, ask, block) }
	say := func(e millBush) millBush { return millGrowKind(impl.MillNodeSay, e) }
	stop, on := millGrowKind(impl.MillNodeBreak), millGrowKind(impl.MillNodeContinue)
	empty := millGrowBlock()
	wantMillStatement(t, iff(a, empty), "if a {\n}")
	wantMillStatement(t, iff(a, empty, empty), "if a {\n} else {\n}")
	wantMillStatement(t, iff(a, empty, iff(b, empty)), "if a {\n} else if b {\n}")
	wantMillStatement(t, iff(a, empty, iff(b, empty, iff(c, empty, empty))), "if a {\n} else if b {\n} else if c {\n} else {\n}")
	// An if that is alone in a block behind else is another tree.
	wantMillStatement(t, iff(a, empty, millGrowBlock(iff(b, empty, empty))), "if a {\n} else {\n  if b {\n  } else {\n  }\n}")
	wantMillStatement(t, while(a, empty), "while a {\n}")
	wantMillStatement(t, while(a, millGrowBlock(while(b, millGrowBlock(iff(c, millGrowBlock(stop), millGrowBlock(on)), stop)), on)),
		"while a {\n  while b {\n    if c {\n      break;\n    } else {\n      continue;\n    }\n    break;\n  }\n  continue;\n}")
	wantMillStatement(t, iff(a, millGrowBlock(iff(b, millGrowBlock(say(a)))), iff(b, millGrowBlock(while(c, millGrowBlock(say(b)))), millGrowBlock(say(c)))),
		"if a {\n  if b {\n    say a;\n  }\n} else if b {\n  while c {\n    say b;\n  }\n} else {\n  say c;\n}")
	wantMillPrinted(t, millGrowProgram(millGrowFn("f", impl.MillTypeNone, empty)), "fn f() {\n}\n")
	wantMillPrinted(t, millGrowProgram(
		millGrowFn("main", impl.MillTypeText, millGrowBlock(millGrowKind(impl.MillNodeReturn, text))),
		millGrowFn("g", impl.MillTypeNone, millGrowParam("a", impl.MillTypeU16), empty),
		millGrowFn("h", impl.MillTypeI8, millGrowParam("a", impl.MillTypeText), millGrowParam("b", impl.MillTypeBool), millGrowParam("c", impl.MillTypeU64), millGrowBlock(stop, on)),
	), "fn main() -> text {\n  return \"a\";\n}\nfn g(a u16) {\n}\nfn h(a text, b bool, c u64) -> i8 {\n  break;\n  continue;\n}\n")
}

// A NodeBin in a NodeBin or NodeUn stands in brackets, no other E does.
func TestMillPrintBrackets(t *testing.T) {
	a, b, c := millGrowName("a"), millGrowName("b"), millGrowName("c")
	bin := millGrowBin(impl.MillOpSet, a, b)
	for out := 1; out <= 18; out++ {
		o := millOpMarks[out]
		for in := 1; in <= 18; in++ {
			i := millOpMarks[in]
			wantMillE(t, millGrowBin(out, millGrowBin(in, a, b), c), "(a "+i+" b) "+o+" c")
			wantMillE(t, millGrowBin(out, a, millGrowBin(in, b, c)), "a "+o+" (b "+i+" c)")
		}
		for un := 1; un <= 3; un++ {
			u := millUnTexts[un]
			wantMillE(t, millGrowUn(un, millGrowBin(out, a, b)), u+"(a "+o+" b)")
			wantMillE(t, millGrowBin(out, millGrowUn(un, a), millGrowUn(un, b)), u+"a "+o+" "+u+"b")
			wantMillE(t, millGrowBin(out, millGrowUn(un, bin), millGrowUn(un, bin)), u+"(a | b) "+o+" "+u+"(a | b)")
		}
		// Everywhere else none.
		bare, text := millGrowBin(out, a, b), "a "+o+" b"
		wantMillE(t, bare, text)
		wantMillE(t, millGrowCall("g", bare, bare), "g("+text+", "+text+")")
		wantMillE(t, millGrowBuilt(impl.MillBuiltCut, bare, bare, bare), "cut("+text+", "+text+", "+text+")")
		wantMillE(t, millGrowConv(impl.MillTypeI8, bare), "i8("+text+")")
		wantMillStatement(t, millGrowText(impl.MillNodeLet, "x", bare), "let x = "+text+";")
		wantMillStatement(t, millGrowText(impl.MillNodeSet, "x", bare), "x = "+text+";")
		wantMillStatement(t, millGrowKind(impl.MillNodeReturn, bare), "return "+text+";")
		wantMillStatement(t, millGrowKind(impl.MillNodeSay, bare), "say "+text+";")
		wantMillStatement(t, millGrowKind(impl.MillNodeWrite, bare, bare), "write "+text+", "+text+";")
		wantMillStatement(t, millGrowKind(impl.MillNodeDo, millGrowCall("g", bare)), "g("+text+");")
		wantMillStatement(t, millGrowKind(impl.MillNodeIf, bare, millGrowBlock(), millGrowKind(impl.MillNodeIf, bare, millGrowBlock())), "if "+text+" {\n} else if "+text+" {\n}")
		wantMillStatement(t, millGrowKind(impl.MillNodeWhile, bare, millGrowBlock()), "while "+text+" {\n}")
	}
	for out := 1; out <= 3; out++ {
		for in := 1; in <= 3; in++ {
			wantMillE(t, millGrowUn(out, millGrowUn(in, a)), millUnTexts[out]+millUnTexts[in]+"a")
		}
		for text, e := range map[string]millBush{
			"1": millGrowOne(), `"x"`: millGrowText(impl.MillNodeText, "x"), "true": millGrowBool(1), "g(a)": millGrowCall("g", a),
			"arg()": millGrowBuilt(impl.MillBuiltArg), "u8(a)": millGrowConv(impl.MillTypeU8, a),
		} {
			wantMillE(t, millGrowUn(out, e), millUnTexts[out]+text)
			wantMillE(t, millGrowBin(impl.MillOpRight, e, e), text+" >> "+text)
		}
	}
}

func TestMillTreeNumbers(t *testing.T) {
	in := func(kind int, n int64) impl.MillTree { return millGrowIn(millGrowFail(millGrowInt(kind, n))).tree() }
	for _, k := range millIntKinds() {
		if k.word == "" {
			continue
		}
		word := k.word
		if k.kind == impl.MillTypeI64 {
			word = ""
		}
		most := millMostOf(k.kind)
		for _, n := range []uint64{0, 1, 9, 10, 99, most/2 + 1, most - 1, most} {
			wantMillE(t, millGrowInt(k.kind, int64(n)), strconv.FormatUint(n, 10)+word)
		}
		if k.kind == impl.MillTypeU64 {
			wantMillE(t, millGrowInt(k.kind, -1), "18446744073709551615u64")
			wantMillE(t, millGrowInt(k.kind, math.MinInt64), "9223372036854775808u64")
			wantMillE(t, millGrowInt(k.kind, math.MaxInt64), "9223372036854775807u64")
			continue
		}
		for _, n := range []int64{-1, -2, math.MinInt64, -int64(most), -int64(most) - 1} {
			wantMillNotValid(t, k.word+" below 0", in(k.kind, n))
		}
		if k.kind != impl.MillTypeI64 {
			wantMillNotValid(t, k.word+" above its greatest", in(k.kind, int64(most)+1))
			wantMillNotValid(t, k.word+" far above", in(k.kind, math.MaxInt64))
			wantMillNotValid(t, k.word+" with the same low bits", in(k.kind, 1<<32))
		}
	}
	for _, kind := range []int{impl.MillTypeNone, impl.MillTypeBool, impl.MillTypeText, 11, -1, math.MaxInt, math.MinInt} {
		wantMillNotValid(t, "no integer type", in(kind, 0))
		wantMillNotValid(t, "no integer type", in(kind, 1))
	}
	// The word of i64 may be written, but is not printed.
	wantMillReadE(t, "7i64", millGrowInt(impl.MillTypeI64, 7))
}

func TestMillTreeTextBytes(t *testing.T) {
	all := make([]byte, 256)
	for i := range all {
		all[i] = byte(i)
		one := string(all[i : i+1])
		want := `"` + one + `"`
		if i < 32 || i > 126 || one == `"` || one == `\` {
			want = fmt.Sprintf(`"\%02x"`, i)
		}
		wantMillE(t, millGrowText(impl.MillNodeText, one), want)
	}
	wantMillE(t, millGrowText(impl.MillNodeText, string(all)), clayQuoted(string(all)))
	wantMillReadE(t, `"\41\62 \22"`, millGrowText(impl.MillNodeText, `Ab "`))
	for _, n := range []int{impl.MillMaxText - 1, impl.MillMaxText} {
		long := strings.Repeat("\n", n)
		wantMillE(t, millGrowText(impl.MillNodeText, long), `"`+strings.Repeat(`\0a`, n)+`"`)
	}
	wantMillNotValid(t, "long text", millGrowIn(millGrowFail(millGrowText(impl.MillNodeText, strings.Repeat("x", impl.MillMaxText+1)))).tree())
}

// millByRanks puts E with marks between them together by the words on ranks: the bush, or the number of the mark with which nothing goes on.
func millByRanks(es []millBush, marks []int) (b millBush, stops int) {
	sides := 0
	for i, op := range marks {
		switch {
		case millOpRanks[op] < 3:
			sides = 0
		case millOpRanks[op] == 3:
			sides++
		}
		if sides == 2 {
			return millBush{}, i
		}
	}
	if len(marks) == 0 {
		return es[0], -1
	}
	// The mark that holds last is that of least rank, the one most to the right of these.
	last := 0
	for i, op := range marks {
		if millOpRanks[op] <= millOpRanks[marks[last]] {
			last = i
		}
	}
	left, _ := millByRanks(es[:last+1], marks[:last])
	right, _ := millByRanks(es[last+1:], marks[last+1:])
	return millGrowBin(marks[last], left, right), -1
}

// wantMillByRanks asks for how the E a, b, c .. with these marks between them are read, each with a text in front of it.
func wantMillByRanks(t *testing.T, marks []int, front string, over func(e millBush) millBush) {
	t.Helper()
	var es []millBush
	var ats []int
	src := "fn f() { fail "
	for i := range len(marks) + 1 {
		name := string(rune('a' + i))
		if i > 0 {
			src += " "
			ats = append(ats, len(src))
			src += millOpMarks[marks[i-1]] + " "
		}
		src += front + name
		es = append(es, over(millGrowName(name)))
	}
	src += "; }"
	if b, stops := millByRanks(es, marks); stops >= 0 {
		wantMillParseFault(t, src, 6, ats[stops])
	} else {
		wantMillRead(t, src, millGrowIn(millGrowFail(b)))
	}
}

func millAsItIs(e millBush) millBush { return e }

// Ranks: each two and each three marks beside each other, and five of different ranks.
func TestMillParseRanks(t *testing.T) {
	for first := 1; first <= 18; first++ {
		wantMillByRanks(t, []int{first}, "", millAsItIs)
		for second := 1; second <= 18; second++ {
			wantMillByRanks(t, []int{first, second}, "", millAsItIs)
			for third := 1; third <= 18; third++ {
				wantMillByRanks(t, []int{first, second, third}, "", millAsItIs)
			}
		}
	}
	some := []int{impl.MillOpOr, impl.MillOpAnd, impl.MillOpLess, impl.MillOpSub, impl.MillOpRem}
	for n := range 5 * 5 * 5 * 5 * 5 {
		var marks []int
		for range 5 {
			marks = append(marks, some[n%5])
			n /= 5
		}
		wantMillByRanks(t, marks, "", millAsItIs)
	}
}

// The same with brackets round the first or the second two, needless or not.
func TestMillParseRanksInBrackets(t *testing.T) {
	a, b, c := millGrowName("a"), millGrowName("b"), millGrowName("c")
	for first := 1; first <= 18; first++ {
		for second := 1; second <= 18; second++ {
			o, p := millOpMarks[first], millOpMarks[second]
			left, right := millGrowBin(second, millGrowBin(first, a, b), c), millGrowBin(first, a, millGrowBin(second, b, c))
			wantMillReadE(t, "(a "+o+" b) "+p+" c", left)
			wantMillReadE(t, "a "+o+" (b "+p+" c)", right)
			wantMillReadE(t, "((a)"+o+"((b)))"+p+"(c)", left)
			wantMillReadE(t, "(((a))"+o+"(b"+p+"(c)))", right)
			if b, stops := millByRanks([]millBush{a, b, c}, []int{first, second}); stops < 0 {
				wantMillReadE(t, "((a "+o+" b "+p+" c))", b)
			} else {
				wantMillStopIn(t, "fail (a "+o+" b @"+p+" c);")
			}
		}
	}
}

// Marks of NodeUn in front of each E, twice in a row, and in front of brackets.
func TestMillParseUn(t *testing.T) {
	a, b := millGrowName("a"), millGrowName("b")
	for un := 1; un <= 3; un++ {
		u := millUnTexts[un]
		once := func(e millBush) millBush { return millGrowUn(un, e) }
		for op := 1; op <= 18; op++ {
			o := millOpMarks[op]
			for second := 1; second <= 18; second++ {
				wantMillByRanks(t, []int{op, second}, u, once)
			}
			for other := 1; other <= 3; other++ {
				v := millUnTexts[other]
				twice := func(e millBush) millBush { return millGrowUn(un, millGrowUn(other, e)) }
				wantMillByRanks(t, []int{op}, u+v, twice)
				wantMillByRanks(t, []int{op}, u+" "+v+" ", twice)
				wantMillReadE(t, u+v+"(a "+o+" b)", twice(millGrowBin(op, a, b)))
				wantMillReadE(t, u+"("+v+"a "+o+" b)", once(millGrowBin(op, millGrowUn(other, a), b)))
				wantMillReadE(t, u+"("+v+"(a))"+o+"b", millGrowBin(op, twice(a), b))
			}
			wantMillReadE(t, u+"a "+o+" b", millGrowBin(op, once(a), b))
			wantMillReadE(t, "a "+o+" "+u+"b", millGrowBin(op, a, once(b)))
			wantMillReadE(t, u+"(a "+o+" b)", once(millGrowBin(op, a, b)))
			wantMillReadE(t, u+"(a) "+o+" b", millGrowBin(op, once(a), b))
			wantMillReadE(t, "("+u+"a) "+o+" ("+u+"b)", millGrowBin(op, once(a), once(b)))
			wantMillReadE(t, "a "+o+" "+u+"(b)", millGrowBin(op, a, once(b)))
			if op != impl.MillOpSub {
				wantMillStopIn(t, "fail "+u+" @"+o+" b;")
			}
		}
		wantMillReadE(t, u+"g(a)", once(millGrowCall("g", a)))
		wantMillReadE(t, u+"len(a)", once(millGrowBuilt(impl.MillBuiltLen, a)))
		wantMillReadE(t, u+"u8(a)", once(millGrowConv(impl.MillTypeU8, a)))
		wantMillReadE(t, "u8("+u+"a)", millGrowConv(impl.MillTypeU8, once(a)))
		wantMillReadE(t, u+"1u8", once(millGrowInt(impl.MillTypeU8, 1)))
		wantMillStopIn(t, "fail "+u+"@;")
		if un != impl.MillOpNeg {
			wantMillStopIn(t, "fail a @"+u+" b;")
			wantMillStopIn(t, "fail a @"+u+";")
		}
	}
	wantMillReadE(t, "a--b", millGrowBin(impl.MillOpSub, a, millGrowUn(impl.MillOpNeg, b)))
	wantMillReadE(t, "a&&!b", millGrowBin(impl.MillOpAnd, a, millGrowUn(impl.MillOpNot, b)))
	wantMillReadE(t, "a!=!b", millGrowBin(impl.MillOpOther, a, millGrowUn(impl.MillOpNot, b)))
}

// Of the marks of rank 3 only one may stand between marks of lower rank.
func TestMillParseSides(t *testing.T) {
	for first := impl.MillOpSame; first <= impl.MillOpLeast; first++ {
		for second := impl.MillOpSame; second <= impl.MillOpLeast; second++ {
			o, p := millOpMarks[first], millOpMarks[second]
			wantMillStopIn(t, "fail a "+o+" b @"+p+" c;")
			wantMillStopIn(t, "fail a "+o+" b @"+p+" c == d;")
			wantMillStopIn(t, "fail a + 1 "+o+" -b * 2 | 3 @"+p+" c;")
			wantMillStopIn(t, "fail a && b "+o+" c @"+p+" d;")
			wantMillStopIn(t, "fail a || b "+o+" c @"+p+" d || e;")
			wantMillStopIn(t, "fail a "+o+" b && c "+p+" d @< e;")
			wantMillStopIn(t, "fail a "+o+" b || c "+p+" d + e @!= 1;")
			wantMillStopIn(t, "if (a "+o+" b @"+p+" c) { }")
			wantMillStopIn(t, "say g(1, a "+o+" b @"+p+" c);")
			wantMillStopIn(t, "say (a "+o+" b) "+p+" c @>= d;")
			for _, low := range []int{impl.MillOpOr, impl.MillOpAnd} {
				wantMillByRanks(t, []int{first, low, second}, "", millAsItIs)
				wantMillByRanks(t, []int{low, first, low, second, low}, "", millAsItIs)
				wantMillByRanks(t, []int{first, impl.MillOpAdd, second}, "", millAsItIs)
				wantMillByRanks(t, []int{first, low, second, first}, "", millAsItIs)
			}
			a, b, c, d := millGrowName("a"), millGrowName("b"), millGrowName("c"), millGrowName("d")
			wantMillReadE(t, "(a "+o+" b) "+p+" c", millGrowBin(second, millGrowBin(first, a, b), c))
			wantMillReadE(t, "a "+o+" (b "+p+" c)", millGrowBin(first, a, millGrowBin(second, b, c)))
			wantMillReadE(t, "(a "+o+" b) "+p+" (c "+o+" d)", millGrowBin(second, millGrowBin(first, a, b), millGrowBin(first, c, d)))
			wantMillReadE(t, "((a "+o+" b) "+p+" c) "+o+" d", millGrowBin(first, millGrowBin(second, millGrowBin(first, a, b), c), d))
			wantMillReadE(t, "g(a "+o+" b) "+p+" c", millGrowBin(second, millGrowCall("g", millGrowBin(first, a, b)), c))
		}
	}
}

// The token with which nothing goes on, for each row of the table.
func TestMillParseStops(t *testing.T) {
	for _, src := range []string{
		"@x;", "@;", "@1", "@\"fn\" f() { }", "@let x = 1;", "@{ }", "@f() { }", "@if true { }", "@return;", "@say 1; fn f() { }", "@else", "@u8", "@(",
		"fn@", "fn @(", "fn @1() { }", "fn @\"f\"() { }", "fn @if() { }", "fn @u8() { }", "fn @read() { }", "fn @fn f() { }",
		"fn f@", "fn f @{ }", "fn f @;", "fn f @a() { }", "fn f(@", "fn f(@,) { }", "fn f(@1) { }", "fn f(@u8) { }", "fn f(@text a) { }", "fn f(@(a u8)) { }", "fn f(@fn u8) { }",
		"fn f(a@", "fn f(a@) { }", "fn f(a@, b u8) { }", "fn f(a @b) { }", "fn f(a @fn) { }", "fn f(a @true) { }", "fn f(a @\"u8\") { }", "fn f(a @= 1) { }", "fn f(a @read) { }", "fn f(a @1u8) { }",
		"fn f(a u8@", "fn f(a u8 @b u8) { }", "fn f(a u8,@", "fn f(a u8, @) { }", "fn f(a u8,@, b u8) { }", "fn f(a u8 @u8) { }", "fn f(a u8 @{ }", "fn f(a u8 @; b u8) { }",
		"fn f()@", "fn f() @fn g() { }", "fn f() @u8 { }", "fn f() @;", "fn f() @- > u8 { }", "fn f() @) { }", "fn f() ->@", "fn f() -> @{ }", "fn f() -> @fn { }", "fn f() -> @x { }",
		"fn f() -> @\"u8\" { }", "fn f() -> @true { }", "fn f() -> @read { }", "fn f() -> @-> u8 { }", "fn f() -> u8@", "fn f() -> u8 @u8 { }", "fn f() -> u8 @;", "fn f() -> u8@, u8 { }",
		"fn f() {@", "fn f() { }@}", "fn f() { }@;", "fn f() { } @x", "fn f() { } @1", "fn f() { } @{ }", "fn f() { } @let x = 1;", "fn f() { } @\"\"", "fn f() { } @f();", "fn f() { } fn@", "fn f() { } @else { }",
		"fn f() { @fn g() { } }", "fn f() { say 1; @fn g() { } }",
	} {
		wantMillStop(t, src)
		wantMillStop(t, "fn g(a u8) -> u8 { } "+src)
		if at := strings.Index(src, "@"); at < len(src)-1 {
			wantMillStop(t, src+" ) fn = ; 1")
		}
	}
}

func TestMillParseStopsInFunctions(t *testing.T) {
	for _, in := range []string{
		// What no statement begins with.
		"@;", "say 1;@;", "@{ }", "@{ say 1; }", "@else { }", "@else", "@1;", "@\"x\";", "@true;", "@(x);", "@(g());", "@-x;", "@!g();", "@read(\"x\");", "@arg();", "@u8(1);", "@text(1);",
		"@u8 x;", "@)", "@=", "@->", "@,", "@has(x);", "@\"let\" x = 1;", "@+ 1;", "@i64;",
		// NodeLet, NodeSet and NodeDo.
		"let @= 1;", "let @1 = 1;", "let @if = 1;", "let @u8 = 1;", "let @at = 1;", "let @\"x\" = 1;", "let @(x) = 1;", "let @let x = 1;", "let x @;", "let x @1;", "let x @== 1;", "let x @u8 = 1;", "let x = @;", "let x = 1@",
		"let x = 1 @let y = 1;", "let x = y @= 1;", "let x @, y = 1;", "let x = 1 @, 2;",
		"x@;", "x @+ 1;", "x @x;", "x @1;", "x @== 1;", "x @{ }", "x @\"=\" 1;", "x @u8;", "x = @;", "x = 1@", "x = y @= 1;", "x = 1 @x = 2;", "x @, y = 1;", "@u8 = 1;", "@len = 1;",
		"g()@", "g() @+ 1;", "g() @= 1;", "g() @();", "g() @g();", "g()@, g();", "g() @{ }", "g(@;", "g(@,);", "g(1@;", "g(1 @2);", "g(1,@);", "g(1,@,2);", "g(1, 2@;", "g(@let);", "g(@text);", "g(1 @}", "g(1)@);", "g(a @u8);", "g(a @= 1);",
		// NodeIf and NodeWhile.
		"if @{ }", "if@", "if true@", "if true @;", "if true @say 1;", "if true @x = 1;", "if true @}", "if (true @{ }", "if true {@", "if true { } else@", "if true { } else @x",
		"if true { } else @;", "if true { } else @while true { }", "if true { } else @say 1;", "if true { } else @else { }", "if true { } else if@", "if true { } else if @{ }", "if true { } else if true @;",
		"if true { } else { } @else { }", "if true { } else if true { } else { } @else { }", "if true { }@;", "if true@, x { }", "if x @= 1 { }", "if true { } else { @else", "if @let x = 1 { }", "if true @then { }", "if @if { }",
		"while@", "while @{ }", "while true@", "while true @;", "while true { } @else { }", "while true { }@;", "while true @say 1;", "while true {@", "while @if true { }", "while true @if true { }",
		// NodeBreak, NodeContinue, NodeReturn.
		"break@", "break @1;", "break @}", "break @break;", "break @x;", "continue@", "continue;@;", "continue @1;", "continue @}", "return@", "return @}", "return 1@", "return 1 @2;", "return @return;", "return 1@, 2;", "return @if;", "return @=;", "return x @= 1;", "return @{ }",
		// NodeFail, NodeWrite, NodeSay.
		"fail@", "fail @;", "fail 1@", "fail 1@, 2;", "fail 1 @fail 2;", "say@", "say @;", "say 1@", "say 1@, 2;", "say @say 1;", "say 1 @}", "write@", "write @;", "write @, 1;", "write 1@;", "write 1@", "write 1 @2;", "write 1,@", "write 1, @;", "write 1, 2@", "write 1, 2@, 3;", "write 1, 2@)", "write (1@, 2);", "write 1, @, 2;",
	} {
		wantMillStopIn(t, in)
	}
}

func TestMillParseStopsInE(t *testing.T) {
	for _, e := range []string{
		// What no E begins with.
		"@)", "@}", "@;", "@,", "@=", "@->", "@* 1", "@+1", "@== 1", "@&& a", "@fn", "@let", "@if true", "@else", "@while", "@break", "@return 1", "@fail", "@say", "@write", "@{ }",
		// What goes on behind no E.
		"1 @1", "1 @a", "a @b", "a @\"b\"", "\"a\" @\"b\"", "a @true", "true @false", "a @!b", "a @~b", "a @{ }", "a @= b", "a @-> b", "a @fn", "a @else b", "a @if b", "a @)", "a @}", "a @, b",
		"1 @(2)", "\"f\" @()", "true@(1)", "(f)@(1)", "f()@()", "f()@(1)", "1u8@(1)", "a @\"+\" b", "a @u8", "a @len(b)",
		// Marks without an E.
		"1 +@", "1 + @;", "1 + @* 2", "1 && @&& 2", "a < @= b", "a < @< b", "-@", "-@;", "(1 +@)", "a || @|| b", "a | @| b", "- @;", "a - @)",
		// Brackets.
		"(@)", "(@;", "(1@;", "(1 @2)", "(1@, 2)", "(@", "(1@", "((1)@;", "(1)@)", "(@,)", "(1 @}", "(a @= 1)",
		// Calls.
		"f(@;", "f(@,)", "f(1@;", "f(1, @)", "f(1 @2)", "f(1,@,2)", "f(@", "f(1@", "f(1,@", "f(@fn)", "f(g(1)@;", "f(1@;)", "f(a @b)", "f(a @= 1)", "f(1)@)", "f @{ }",
		// text and bool begin no E.
		"@text", "@bool", "@text(1)", "@bool(1)", "@text(\"a\")", "1 + @text(1)", "f(@bool(true))", "(@text(a))", "-@bool(1)", "u8(@text(1))", "len(@text(1))",
		// NodeConv.
		"u8@", "u8 @;", "u8@)", "u8 @1", "u8(@", "u8(@)", "u8(1@", "u8(1@;", "u8(1@, 2)", "u8(1 @2)", "u8(@,", "u8@+ 1", "i64 @a", "u8 @= 1", "u8(1)@(2)", "u8(1@;)",
	} {
		wantMillStopIn(t, "say "+e)
		if !strings.HasSuffix(e, "@") {
			wantMillStopIn(t, "say "+e+";")
			wantMillStopIn(t, "x = 1 + "+e+";")
		}
	}
}

// A NodeBuilt has just as many E as its Op says.
func TestMillParseBuiltKids(t *testing.T) {
	for op := 1; op <= 12; op++ {
		word, n := millBuiltTexts[op], millBuiltKids[op]
		kids := []string{"a", "b + 1", "(c)", "-d"}
		for many := range 5 {
			parts := strings.Join(kids[:many], ", ")
			switch {
			case many < n:
				wantMillStopIn(t, "say "+word+"("+parts+"@);")
			case many > n && n == 0:
				wantMillStopIn(t, "say "+word+"(@"+parts+");")
			case many > n:
				wantMillStopIn(t, "say "+word+"("+strings.Join(kids[:n], ", ")+"@, "+strings.Join(kids[n:], ", ")+");")
			}
		}
		right := strings.Join(kids[:n], " , ")
		wantMillStopIn(t, "say "+word+"@")
		wantMillStopIn(t, "say "+word+" @;")
		wantMillStopIn(t, "say "+word+" @a;")
		wantMillStopIn(t, "say "+word+" @= a;")
		wantMillStopIn(t, "say "+word+"(@")
		wantMillStopIn(t, "say "+word+"(@,);")
		wantMillStopIn(t, "say "+word+"("+right+"@")
		wantMillStopIn(t, "say "+word+"("+right+"@, );")
		wantMillStopIn(t, "say "+word+"("+right+")@(a);")
		wantMillStopIn(t, "@"+word+"("+right+");")
		wantMillStopIn(t, "let @"+word+" = 1;")
		wantMillStopIn(t, "@"+word+" = 1;")
		wantMillStop(t, "fn @"+word+"() { }")
		wantMillStop(t, "fn f(@"+word+" u8) { }")
	}
}

// Each word that is taken is no name, wherever a name must stand, and a name is no word.
func TestMillParseNamesAndWords(t *testing.T) {
	for _, word := range millWordList() {
		wantMillStop(t, "fn @"+word+"() { }")
		wantMillStop(t, "fn f(@"+word+" u8) { }")
		wantMillStop(t, "fn f(a u8, @"+word+" u8) { }")
		wantMillStopIn(t, "let @"+word+" = 1;")
		long := word + "_"
		wantMillRead(t, "fn "+long+"("+long+" u8) { "+long+" = "+long+"("+long+"); "+long+"(); }", millGrowProgram(millGrowFn(long, impl.MillTypeNone, millGrowParam(long, impl.MillTypeU8),
			millGrowBlock(millGrowText(impl.MillNodeSet, long, millGrowCall(long, millGrowName(long))), millGrowKind(impl.MillNodeDo, millGrowCall(long))))))
		if slices.Contains(strings.Fields(millTypeWords), word) {
			continue
		}
		wantMillStop(t, "fn f(a @"+word+") { }")
		wantMillStop(t, "fn f() -> @"+word+" { }")
		if !slices.Contains(append(slices.Clone(millBuiltTexts), "true", "false"), word) {
			wantMillStopIn(t, "say @"+word+"(1);")
		}
	}
	wantMillStop(t, "@fn_ f() { }")
	wantMillStopIn(t, "let_ @x = 1;")
	wantMillStopIn(t, "if_ @true { }")
	wantMillStopIn(t, "if true { } else_ @{ }")
	wantMillStopIn(t, "while_ @true { }")
	wantMillStopIn(t, "break_@;")
	wantMillStopIn(t, "continue_@;")
	wantMillStopIn(t, "return_ @1;")
	wantMillStopIn(t, "return_@;")
	wantMillStopIn(t, "fail_ @1;")
	wantMillStopIn(t, "write_ @1, 2;")
	wantMillStopIn(t, "say_ @1;")
	wantMillStop(t, "fn f(a @u9) { }")
	wantMillStop(t, "fn f() -> @texts { }")
}

// millGrammar is the document's table with its ranks, each line what a thing may be; the mark | is BAR here.
const millGrammar = `
PROGRAM: FN | PROGRAM FN
FN: fn NAME ( ) B | fn NAME ( PS ) B | fn NAME ( ) -> TYPE B | fn NAME ( PS ) -> TYPE B
PS: P | PS , P
P: NAME TYPE
TYPE: bool | text | INTTYPE
INTTYPE: u8 | u16 | u32 | u64 | i8 | i16 | i32 | i64
B: { } | { SS }
SS: S | SS S
S: let NAME = E ; | NAME = E ; | IF | while E B | break ; | continue ; | return ; | return E ; | fail E ; | write E , E ; | say E ; | CALL ;
IF: if E B | if E B else B | if E B else IF
CALL: NAME ( ) | NAME ( ES )
ES: E | ES , E
E: E || E2 | E2
E2: E2 && E3 | E3
E3: E4 == E4 | E4 != E4 | E4 < E4 | E4 <= E4 | E4 > E4 | E4 >= E4 | E4
E4: E4 + E5 | E4 - E5 | E4 BAR E5 | E4 ^ E5 | E5
E5: E5 * E6 | E5 / E6 | E5 % E6 | E5 & E6 | E5 << E6 | E5 >> E6 | E6
E6: - E6 | ! E6 | ~ E6 | E7
E7: INT | TEXT | true | false | NAME | CALL | ( E ) | INTTYPE ( E ) | BUILT
BUILT: read ( E ) | has ( E ) | list ( E ) | tool ( E , E ) | arg ( ) | len ( E ) | at ( E , E ) | cut ( E , E , E ) | find ( E , E ) | chr ( E ) | dec ( E ) | num ( E )
`

// millThing is what the grammar calls a token.
func millThing(token impl.MillToken) string {
	switch token.Kind {
	case impl.MillTokName:
		return "NAME"
	case impl.MillTokInt:
		return "INT"
	case impl.MillTokText:
		return "TEXT"
	}
	if token.Text == "|" {
		return "BAR"
	}
	return token.Text
}

// millStopByGrammar is the fault of code 6 by the grammar, whose first tokens may have been read.
func millStopByGrammar(c *chart, src string, tokens []impl.MillToken) impl.MillFault {
	for _, token := range tokens[len(c.sets)-1:] {
		if !c.goes(millThing(token)) {
			return impl.MillFault{Code: 6, At: token.At}
		}
	}
	if !c.ended() {
		return impl.MillFault{Code: 6, At: len(src)}
	}
	return impl.MillFault{}
}

// wantMillAsByGrammar asks that Parse stops where the grammar does, and that what it reads is a right tree, which it also reads from what Print makes of it.
func wantMillAsByGrammar(t *testing.T, src string, want impl.MillFault) {
	t.Helper()
	tree, got := impl.MillParse(src)
	if got != want && (want.Code != 0 || got != impl.MillFault{Code: 7}) {
		t.Fatalf("%q: got %+v, want %+v", src, got, want)
	}
	if got.Code != 0 {
		if len(tree.Nodes) != 0 {
			t.Fatalf("%q: %d nodes beside a fault", src, len(tree.Nodes))
		}
		return
	}
	if !isRightMillTree(tree) || !impl.MillValidTree(tree) {
		t.Fatalf("%q: not valid: %+v", src, tree)
	}
	text := impl.MillPrint(tree)
	if again, fault := impl.MillParse(text); text != "" && (fault.Code != 0 || !slices.Equal(again.Nodes, tree.Nodes)) {
		t.Fatalf("%q: printed %q, which is %+v %+v", src, text, fault, again)
	}
}

// millEveryRow has each row of the table, with each of its forms.
const millEveryRow = `fn g ( a text , b u8 ) -> bool { let c = 1 + - 2 * ( 3u8 << ~ c ) ; c = "x" ; if a == b { } if ! c { say a ; } else { break ; }
if true && false { } else if a { } else if b { } else { } while a || b { continue ; return ; } return cut ( a , 1 , len ( b ) ) ; fail arg ( ) ;
write at ( a , 0 ) , u16 ( b ) ; say g ( ) ; g ( a , 1 | 2 ) ; h ( ) ; } fn h ( ) { } fn main ( d i64 ) { }`

// The text ended behind each token.
func TestMillParseEndedTexts(t *testing.T) {
	tokens, ends, _ := millScanByRules(millRules(), millEveryRow)
	blocks := 0
	for i, token := range tokens {
		if token.Kind == impl.MillTokMark {
			blocks += strings.Count(token.Text, "{") - strings.Count(token.Text, "}")
		}
		whole := blocks == 0 && token.Text == "}"
		for _, behind := range []string{"", " ", "\n", "# a remark", "  \n# }\n", "\n#;\n# fn"} {
			src := millEveryRow[:ends[i]] + behind
			if whole {
				if _, fault := impl.MillParse(src); fault.Code != 0 {
					t.Errorf("%q: %+v", src, fault)
				}
			} else {
				wantMillParseFault(t, src, 6, len(src))
			}
		}
	}
}

// Another token in the place of each, one too many in front of each, and each left out.
func TestMillParseAnotherToken(t *testing.T) {
	t.Parallel()
	c := newChart(millGrammar)
	tokens, ends, _ := millScanByRules(millRules(), millEveryRow)
	pieces := append(millWordList(), strings.Fields(millMarkList)...)
	pieces = append(pieces, "n", "7", "9u8", `"x"`, "")
	for i, token := range tokens {
		read := len(c.sets)
		for _, piece := range pieces {
			for _, behind := range []string{millEveryRow[ends[i]:], " " + millEveryRow[token.At:]} {
				src := millEveryRow[:token.At] + piece + behind
				changed, fault := impl.MillScan(src)
				if fault.Code != 0 {
					t.Fatalf("%q: %+v", src, fault)
				}
				wantMillAsByGrammar(t, src, millStopByGrammar(c, src, changed))
				c.sets = c.sets[:read]
			}
		}
		if !c.goes(millThing(token)) {
			t.Fatalf("%+v", token)
		}
	}
}

// millAlphabet has a token of each sort that the grammar tells apart.
const millAlphabet = `NAME INT TEXT true text u8 read at arg - ! + * == && || BAR ( ) { } , ; = -> fn let if else while break return write say`

// readMillOnByGrammar asks for each text that goes on behind src, by so many tokens, whether Parse stops where the grammar does.
func readMillOnByGrammar(t *testing.T, c *chart, src string, left int) {
	if c.ended() {
		wantMillAsByGrammar(t, src, impl.MillFault{})
	} else {
		wantMillAsByGrammar(t, src, impl.MillFault{Code: 6, At: len(src)})
	}
	if left == 0 {
		return
	}
	depth := len(c.sets)
	for thing := range strings.FieldsSeq(millAlphabet) {
		piece := strings.NewReplacer("NAME", "a"+strconv.Itoa(depth), "INT", "7", "TEXT", `"t"`, "BAR", "|").Replace(thing)
		if c.goes(thing) {
			readMillOnByGrammar(t, c, src+piece+" ", left-1)
			c.sets = c.sets[:depth]
		} else {
			wantMillAsByGrammar(t, src+piece+" ; 1", impl.MillFault{Code: 6, At: len(src)})
		}
	}
}

// The token with which nothing goes on, by a second reading of the forms.
func TestMillParseAsByGrammar(t *testing.T) {
	c := newChart(millGrammar)
	for src, left := range map[string]int{
		"": 5, "fn f ( a ": 4, "fn f ( ) ": 4, "fn f ( ) { ": 3, "fn f ( ) { } ": 4, "fn f ( ) { if a ": 2, "fn f ( ) { if a { } ": 3, "fn f ( ) { if a { } else ": 3, "fn f ( ) { while a { } ": 2,
		"fn f ( ) { say ": 3, "fn f ( ) { say a ": 3, "fn f ( ) { say a == b ": 3, "fn f ( ) { say a + b ": 2, "fn f ( ) { say - a ": 2, "fn f ( ) { say a && b == c + d ": 3, "fn f ( ) { say a * b == c || d ": 2,
		"fn f ( ) { say ( a ": 3, "fn f ( ) { say g ( ": 2, "fn f ( ) { say at ( a ": 3, "fn f ( ) { say arg ": 4, "fn f ( ) { say u8 ": 3, "fn f ( ) { return ": 2, "fn f ( ) { write a ": 3, "fn f ( ) { x ": 3, "fn f ( ) { x ( a ": 3,
		"fn f ( ) { let ": 3,
	} {
		tokens, _ := impl.MillScan(src)
		c.sets = c.sets[:1]
		millStopByGrammar(c, src, tokens)
		if len(c.sets) != len(tokens)+1 {
			t.Fatalf("%q does not go on", src)
		}
		readMillOnByGrammar(t, c, src, left)
	}
}

// wantMillMost asks that what grow makes of most is read and printed, and that of one more is not valid, and is read with code 7.
func wantMillMost(t *testing.T, what string, most int, grow func(n int) millBush) {
	t.Helper()
	for _, n := range []int{most - 1, most} {
		b := grow(n)
		wantMillPrinted(t, b, b.text(noBrackets))
	}
	b := grow(most + 1)
	wantMillNotValid(t, what, b.tree())
	wantMillParseFault(t, b.text(noBrackets), 7, 0)
}

func TestMillTreeMostKids(t *testing.T) {
	ones := func(n int) []millBush { return millMany(n, func(int) millBush { return millGrowOne() }) }
	fns := func(n int) millBush {
		return millGrowProgram(millMany(n, func(int) millBush { return millGrowFn("f", impl.MillTypeNone, millGrowBlock()) })...)
	}
	params := func(n int) millBush {
		names := millMany(n, func(i int) millBush { return millGrowParam("a"+strconv.Itoa(i), 1+i%10) })
		return millGrowProgram(millGrowFn("f", impl.MillTypeBool, append(names, millGrowBlock())...))
	}
	call := func(n int) millBush { return millGrowIn(millGrowFail(millGrowCall("g", ones(n)...))) }
	do := func(n int) millBush { return millGrowIn(millGrowKind(impl.MillNodeDo, millGrowCall("g", ones(n)...))) }
	wantMillMost(t, "functions", 60, fns)
	wantMillMost(t, "parameters", 8, params)
	wantMillMost(t, "kids of a call", 8, call)
	wantMillMost(t, "kids of a call that is done", 8, do)
	// Far too many.
	for _, b := range []millBush{fns(1000), params(1000), call(2000), do(2000)} {
		wantMillNotValid(t, "far too many", b.tree())
		wantMillParseFault(t, b.text(noBrackets), 7, 0)
	}
	// A block may have any number of statements.
	b := millGrowIn(millMany(1300, func(int) millBush { return millGrowKind(impl.MillNodeBreak) })...)
	wantMillPrinted(t, b, b.text(noBrackets))
	wantMillRead(t, "fn f(){"+strings.Repeat("g();", 2990)+"}", millGrowIn(millMany(2990, func(int) millBush { return millGrowKind(impl.MillNodeDo, millGrowCall("g")) })...))
}

// No function at all is written so, but no valid tree.
func TestMillParseNoFunction(t *testing.T) {
	for _, src := range []string{"", " ", "\n", "#", "# fn f() { }", "\n#\n  # a\n", strings.Repeat(" ", impl.MillMaxSrc), strings.Repeat("\n#", impl.MillMaxSrc/2)} {
		wantMillParseFault(t, src, 7, 0)
	}
	wantMillParseFault(t, strings.Repeat(" ", impl.MillMaxSrc+1), 1, 0)
	wantMillNotValid(t, "no function", millGrowProgram().tree())
}

// millOver are texts that are written so, each with too much of something.
func millOver() map[string]string {
	return map[string]string{
		"functions":  strings.Repeat("fn f() { } ", 61),
		"parameters": "fn f(a u8, b u8, c u8, d u8, e u8, f u8, g u8, h u8, i u8) { } ",
		"kids":       "fn f() { f(1, 2, 3, 4, 5, 6, 7, 8, 9); } ",
		"deep":       "fn f() { say " + strings.Repeat("-", 57) + "1; } ",
		"all":        strings.Repeat("fn f(a u8, b u8, c u8, d u8, e u8, f u8, g u8, h u8, i u8) { say f(1, 2, 3, 4, 5, 6, 7, 8, "+strings.Repeat("-", 60)+"9); } ", 61),
	}
}

// The codes 1 to 6 come ahead of 7, and 1 to 5 ahead of 6.
func TestMillParseFirstCode(t *testing.T) {
	for what, src := range millOver() {
		wantMillParseFault(t, src, 7, 0)
		wantMillParseFault(t, "# "+what+"\n"+src+"\n", 7, 0)
		n := len(src)
		wantMillParseFault(t, src+strings.Repeat(" ", impl.MillMaxSrc), 1, 0)
		for code, token := range []string{2: "@", 3: "01", 4: "\"", 5: strings.Repeat("n", 31)} {
			if code < 2 {
				continue
			}
			wantMillParseFault(t, src+token, code, n)
			wantMillParseFault(t, src+"; fn "+token, code, n+5)
			wantMillParseFault(t, "; "+token+" "+src, code, 2)
		}
		for _, behind := range []string{"@;", "@}", "fn@", "fn f() { @fn", "fn f() { return a == b @== c; }", "fn f() { x@; }"} {
			wantMillStop(t, src+behind)
		}
		wantMillStop(t, "@x "+src)
		wantMillStop(t, "fn f() { @"+src)
	}
	wantMillParseFault(t, strings.Repeat("@", impl.MillMaxSrc+1), 1, 0)
	wantMillParseFault(t, "fn f() { say 1 == 2 == 3; } 256u8", 3, 28)
}

func TestMillParseHandsOnScanFaults(t *testing.T) {
	wantMillParseFault(t, "fn f() { say 1@; }", 2, 14)
	wantMillParseFault(t, "fn _f() { }", 2, 3)
	wantMillParseFault(t, "fn f() { say 01; }", 3, 13)
	wantMillParseFault(t, "fn f() { say 256u8; }", 3, 13)
	wantMillParseFault(t, "fn f() { say 9223372036854775808; }", 3, 13)
	wantMillParseFault(t, "fn f() { say \"a; }", 4, 13)
	wantMillParseFault(t, "fn f() { say \"\\4\"; }", 4, 13)
	wantMillParseFault(t, "fn "+strings.Repeat("n", 31)+"() { }", 5, 3)
	wantMillParseFault(t, "fn f() { say \""+strings.Repeat("n", 3001)+"\"; }", 5, 13)
	long := strings.Repeat("n", 30)
	wantMillRead(t, "fn "+long+"() { }", millGrowProgram(millGrowFn(long, 0, millGrowBlock())))
}

// The deepest node has just so many nodes above it, and then one more.
func TestMillTreeMostNest(t *testing.T) {
	one, empty := millGrowOne(), millGrowBlock()
	for what, round := range map[string]func(e millBush) millBush{
		"un":     func(e millBush) millBush { return millGrowUn(impl.MillOpInv, e) },
		"left":   func(e millBush) millBush { return millGrowBin(impl.MillOpSub, e, one) },
		"right":  func(e millBush) millBush { return millGrowBin(impl.MillOpSub, one, e) },
		"call":   func(e millBush) millBush { return millGrowCall("g", one, e) },
		"read":   func(e millBush) millBush { return millGrowBuilt(impl.MillBuiltRead, e) },
		"cut":    func(e millBush) millBush { return millGrowBuilt(impl.MillBuiltCut, one, one, e) },
		"conv":   func(e millBush) millBush { return millGrowConv(impl.MillTypeI16, e) },
		"middle": func(e millBush) millBush { return millGrowBin(impl.MillOpAnd, millGrowUn(1, one), e) },
	} {
		// The program, the function, the block and the statement are above the E.
		deep := func(above int) millBush {
			e := one
			if what == "middle" {
				// The last round has a kid that is deeper than e.
				above--
			}
			for range above - 4 {
				e = round(e)
			}
			return e
		}
		wantMillMost(t, what, 60, func(above int) millBush { return millGrowIn(millGrowFail(deep(above))) })
		wantMillMost(t, what+" behind", 60, func(above int) millBush {
			return millGrowIn(millGrowFail(one), millGrowKind(impl.MillNodeWrite, one, deep(above)), millGrowFail(one))
		})
	}
	// An if behind else is one node deeper; what it asks is one more.
	wantMillMost(t, "ifs in else", 60, func(above int) millBush {
		s := millGrowKind(impl.MillNodeIf, one, empty)
		for range above - 4 {
			s = millGrowKind(impl.MillNodeIf, one, empty, s)
		}
		return millGrowIn(s)
	})
	wantMillMost(t, "blocks in else", 60, func(above int) millBush {
		s := millGrowKind(impl.MillNodeIf, one, empty, empty)
		for range above - 4 {
			s = millGrowKind(impl.MillNodeIf, one, empty, s)
		}
		return millGrowIn(s)
	})
	for what, round := range map[string]func(s millBush) millBush{
		"while":      func(s millBush) millBush { return millGrowKind(impl.MillNodeWhile, one, millGrowBlock(s)) },
		"if":         func(s millBush) millBush { return millGrowKind(impl.MillNodeIf, one, millGrowBlock(s)) },
		"else block": func(s millBush) millBush { return millGrowKind(impl.MillNodeIf, one, empty, millGrowBlock(s)) },
	} {
		wantMillMost(t, what, 60, func(above int) millBush {
			// A statement has 3 nodes above it, each round has two, and an odd one is an E in it.
			s := millGrowKind(impl.MillNodeBreak)
			if (above-3)%2 == 1 {
				s = millGrowFail(one)
			}
			for range (above - 3) / 2 {
				s = round(s)
			}
			return millGrowIn(s)
		})
	}
}

// Brackets are no nodes, and a text that is not written so is that, however deep.
func TestMillParseDeepTexts(t *testing.T) {
	one := millGrowOne()
	say := func(e string) string { return "fn f() { say " + e + "; }" }
	told := func(e millBush) millBush { return millGrowIn(millGrowKind(impl.MillNodeSay, e)) }
	for _, n := range []int{1, 59, 60, 61, 200, 5980} {
		open, close := strings.Repeat("(", n), strings.Repeat(")", n)
		wantMillRead(t, say(open+"1"+close), told(one))
		wantMillStop(t, say(open+"1"+close+"@)"))
		wantMillStop(t, say(open+"1"+close[1:]+"@"))
	}
	// With the brackets it is not deeper.
	deep := one
	for range 56 {
		deep = millGrowUn(impl.MillOpNeg, deep)
	}
	wantMillRead(t, say(strings.Repeat("(-", 56)+"((1))"+strings.Repeat(")", 56)), told(deep))
	wantMillParseFault(t, say(strings.Repeat("(-", 57)+"1"+strings.Repeat(")", 57)), 7, 0)
	for front, behind := range map[string]string{"-": "", "(-": ")", "g(": ")", "1 + (": ")", "len(": ")", "u8(": ")", "!~": ""} {
		n := (impl.MillMaxSrc - 100) / (len(front) + len(behind))
		wantMillParseFault(t, say(strings.Repeat(front, n)+"1"+strings.Repeat(behind, n)), 7, 0)
		wantMillStop(t, say(strings.Repeat(front, n)+"1"+strings.Repeat(behind, n)+" @1"))
		wantMillStop(t, "fn f() { say "+strings.Repeat(front, n)+"@")
		wantMillStop(t, "fn f() { say "+strings.Repeat(front, n)+"@}")
	}
	for _, mark := range []string{"+", "||", ">>"} {
		n := 3000
		wantMillParseFault(t, say("1"+strings.Repeat(mark+"1", n)), 7, 0)
		wantMillStop(t, say("1"+strings.Repeat(mark+"1", n)+mark+"@"))
		wantMillStop(t, say("1"+strings.Repeat(mark+"1", n)+"<1@<1"))
	}
	for front, behind := range map[string]string{"while x {": "}", "if x {": "}", "if x {} else ": "", "if x {} else {": "}"} {
		n := (impl.MillMaxSrc - 100) / (len(front) + len(behind))
		last := "say x;"
		if behind == "" {
			last = "{}"
		}
		wantMillParseFault(t, "fn f() {"+strings.Repeat(front, n)+last+strings.Repeat(behind, n)+"}", 7, 0)
		wantMillStop(t, "fn f() {"+strings.Repeat(front, n)+last+strings.Repeat(behind, n)+"}@}")
		wantMillStop(t, "fn f() {"+strings.Repeat(front, n)+"@")
		wantMillStop(t, "fn f() {"+strings.Repeat(front, n)+"@;")
	}
	for _, n := range []int{impl.MillMaxSrc - 1, impl.MillMaxSrc} {
		wantMillParseFault(t, strings.Repeat("(", n), 6, 0)
		wantMillParseFault(t, "fn f() { say "+strings.Repeat("(", n-13), 6, n)
		wantMillParseFault(t, "fn f() { say "+strings.Repeat("(", n-14)+")", 6, n-1)
		wantMillParseFault(t, "fn f() { say "+strings.Repeat("-", n-13), 6, n)
		wantMillParseFault(t, strings.Repeat("{", n), 6, 0)
	}
	wantMillParseFault(t, "fn f() { say "+strings.Repeat("(", impl.MillMaxSrc-12), 1, 0)
}

func TestMillTreeMostNodes(t *testing.T) {
	build := func(n int) impl.MillTree {
		return millGrowIn(millMany(n-3, func(int) millBush { return millGrowKind(impl.MillNodeContinue) })...).tree()
	}
	for _, n := range []int{12000, 12001} {
		tree := build(n)
		if len(tree.Nodes) != n || !impl.MillValidTree(tree) {
			t.Errorf("%d nodes: not valid", len(tree.Nodes))
		}
		if text := impl.MillPrint(tree); text != "" {
			t.Errorf("printed %d bytes", len(text))
		}
	}
	wantMillNotValid(t, "nodes", build(12002))
	wantMillNotValid(t, "many nodes", impl.MillTree{Nodes: make([]impl.MillNode, 1000000)})
	wantMillNotValid(t, "no nodes", impl.MillTree{})
	wantMillNotValid(t, "no nodes", impl.MillTree{Nodes: []impl.MillNode{}})
	// The least tree.
	wantMillPrinted(t, millGrowIn(), "fn f() {\n}\n")
}

func TestMillPrintMostSrc(t *testing.T) {
	// Lines with texts, of which the last fills up what is left.
	build := func(size int) millBush {
		left := size - len("fn f() {\n}\n")
		var statements []millBush
		for left > 0 {
			here := min(left, 2000)
			if left-here > 0 && left-here < 100 {
				here -= 100
			}
			statements = append(statements, millGrowKind(impl.MillNodeSay, millGrowText(impl.MillNodeText, strings.Repeat("x", here-len("  say \"\";\n")))))
			left -= here
		}
		return millGrowIn(statements...)
	}
	for _, n := range []int{11998, 11999, 12000} {
		b := build(n)
		text := b.text(noBrackets)
		if len(text) != n {
			t.Fatalf("%d bytes, want %d", len(text), n)
		}
		wantMillPrinted(t, b, text)
	}
	wide := func(n int) millBush {
		return millGrowIn(millMany(n, func(int) millBush { return millGrowFail(millGrowText(impl.MillNodeText, strings.Repeat("\n", 3000))) })...)
	}
	wantMillPrinted(t, wide(1), wide(1).text(noBrackets))
	for _, b := range []millBush{build(12001), build(12002), build(13000), wide(2), wide(5000)} {
		if text := impl.MillPrint(b.tree()); text != "" || !impl.MillValidTree(b.tree()) {
			t.Errorf("printed %d bytes", len(text))
		}
	}
	// What stands behind the text may be what is too much.
	for n := 11980; n <= 12020; n++ {
		b := build(n)
		if text := impl.MillPrint(b.tree()); len(text) != n && (n <= 12000 || text != "") {
			t.Errorf("printed %d bytes of %d", len(text), n)
		}
	}
	src := "fn f() { }" + strings.Repeat(" ", impl.MillMaxSrc-10)
	wantMillRead(t, src, millGrowIn())
	wantMillParseFault(t, src+" ", 1, 0)
	wantMillParseFault(t, "x"+src, 1, 0)
}

// millRows has a right bush for each kind, but for the program.
func millRows() map[int]millBush {
	a, one, block := millGrowName("a"), millGrowOne(), millGrowBlock()
	return map[int]millBush{
		impl.MillNodeInt: one, impl.MillNodeText: millGrowText(impl.MillNodeText, "x"), impl.MillNodeBool: millGrowBool(1), impl.MillNodeName: a,
		impl.MillNodeUn: millGrowUn(1, a), impl.MillNodeBin: millGrowBin(1, a, one), impl.MillNodeCall: millGrowCall("g", a), impl.MillNodeBuilt: millGrowBuilt(impl.MillBuiltAt, a, one),
		impl.MillNodeConv: millGrowConv(impl.MillTypeU8, a), impl.MillNodeLet: millGrowText(impl.MillNodeLet, "x", a), impl.MillNodeSet: millGrowText(impl.MillNodeSet, "x", a),
		impl.MillNodeIf: millGrowKind(impl.MillNodeIf, a, block, block), impl.MillNodeWhile: millGrowKind(impl.MillNodeWhile, a, block),
		impl.MillNodeBreak: millGrowKind(impl.MillNodeBreak), impl.MillNodeContinue: millGrowKind(impl.MillNodeContinue), impl.MillNodeReturn: millGrowKind(impl.MillNodeReturn, a),
		impl.MillNodeFail: millGrowFail(a), impl.MillNodeWrite: millGrowKind(impl.MillNodeWrite, a, one), impl.MillNodeSay: millGrowKind(impl.MillNodeSay, a),
		impl.MillNodeDo: millGrowKind(impl.MillNodeDo, millGrowCall("g", a)), impl.MillNodeBlock: millGrowBlock(millGrowFail(a)),
		impl.MillNodeParam: millGrowParam("x", impl.MillTypeText), impl.MillNodeFn: millGrowFn("g", impl.MillTypeText, millGrowParam("x", impl.MillTypeBool), block),
	}
}

// millAround puts a bush where one of its kind may stand.
func millAround(b millBush) millBush {
	switch kind := b.top.Kind; {
	case kind == impl.MillNodeProgram:
		return b
	case kind == impl.MillNodeFn:
		return millGrowProgram(b)
	case kind == impl.MillNodeParam:
		return millGrowProgram(millGrowFn("f", impl.MillTypeNone, b, millGrowBlock()))
	case kind == impl.MillNodeBlock:
		return millGrowIn(millGrowKind(impl.MillNodeWhile, millGrowOne(), b))
	case kind >= impl.MillNodeLet && kind <= impl.MillNodeDo:
		return millGrowIn(b)
	}
	return millGrowIn(millGrowFail(b))
}

// Each field that a kind does not use is 0 or empty, each that it uses is as the document says.
func TestMillValidTreeFields(t *testing.T) {
	rows := millRows()
	rows[impl.MillNodeProgram] = millGrowIn()
	for kind := 1; kind <= 24; kind++ {
		b := rows[kind]
		if b.top.Kind != kind {
			t.Fatalf("kind %d is not there", kind)
		}
		wantMillPrinted(t, millAround(b), millAround(b).text(noBrackets))
		uses := millUsed[kind]
		for _, v := range []int{-1, 1, 2, 11, 1 << 40, math.MaxInt, math.MinInt} {
			for letter, bend := range map[string]func(n *impl.MillNode){
				"o": func(n *impl.MillNode) { n.Op = v },
				"t": func(n *impl.MillNode) { n.Type = v },
				"n": func(n *impl.MillNode) { n.N = int64(v) },
				"x": func(n *impl.MillNode) { n.Text = strings.Repeat("x", 1+v&15) },
			} {
				if strings.Contains(uses, letter) {
					continue
				}
				bent := b
				bend(&bent.top)
				wantMillNotValid(t, fmt.Sprintf("kind %d with %s", kind, letter), millAround(bent).tree())
			}
		}
	}
}

func TestMillValidTreeOps(t *testing.T) {
	a := millGrowName("a")
	in := func(b millBush) impl.MillTree { return millGrowIn(millGrowFail(b)).tree() }
	for _, op := range []int{math.MinInt, -1, 0, 1, 2, 3, 4, 5, 11, 12, 13, 14, 17, 18, 19, 20, 1 << 32, 1<<32 + 1, math.MaxInt} {
		if got := impl.MillValidTree(in(millGrowUn(op, a))); got != (op >= 1 && op <= 3) {
			t.Errorf("op %d of NodeUn: valid %v", op, got)
		}
		if got := impl.MillValidTree(in(millGrowBin(op, a, a))); got != (op >= 1 && op <= 18) {
			t.Errorf("op %d of NodeBin: valid %v", op, got)
		}
		for n := range 6 {
			kids := millMany(n, func(int) millBush { return a })
			if got := impl.MillValidTree(in(millGrowBuilt(op, kids...))); got != (op >= 1 && op <= 12 && millBuiltKids[max(0, min(op, 12))] == n) {
				t.Errorf("op %d of NodeBuilt with %d kids: valid %v", op, n, got)
			}
		}
	}
	for _, n := range []int64{math.MinInt64, -1, 0, 1, 2, 1 << 32, 1<<32 + 1, math.MaxInt64} {
		if got := impl.MillValidTree(in(millGrowBool(n))); got != (n == 0 || n == 1) {
			t.Errorf("NodeBool with %d: valid %v", n, got)
		}
	}
}

func TestMillValidTreeTypes(t *testing.T) {
	a := millGrowName("a")
	for _, kind := range []int{math.MinInt, -1, 0, 1, 2, 3, 4, 5, 6, 7, 8, 9, 10, 11, 12, 1 << 32, 1<<32 + 3, math.MaxInt} {
		if got := impl.MillValidTree(millGrowIn(millGrowFail(millGrowConv(kind, a))).tree()); got != (kind >= 3 && kind <= 10) {
			t.Errorf("NodeConv with type %d: valid %v", kind, got)
		}
		if got := impl.MillValidTree(millGrowIn(millGrowFail(millGrowInt(kind, 1))).tree()); got != (kind >= 3 && kind <= 10) {
			t.Errorf("NodeInt with type %d: valid %v", kind, got)
		}
		if got := impl.MillValidTree(millAround(millGrowParam("a", kind)).tree()); got != (kind >= 1 && kind <= 10) {
			t.Errorf("NodeParam with type %d: valid %v", kind, got)
		}
		if got := impl.MillValidTree(millGrowProgram(millGrowFn("f", kind, millGrowBlock())).tree()); got != (kind >= 0 && kind <= 10) {
			t.Errorf("NodeFn with type %d: valid %v", kind, got)
		}
	}
}

func TestMillValidTreeNames(t *testing.T) {
	names := map[string]bool{
		"": false, "a": true, "z": true, "a_": true, "a9": true, "_": false, "_a": false, "9": false, "9a": false, "A": false, "aB": false, "a b": false, "a ": false, " a": false, "a.b": false, "a-b": false,
		"a\x00": false, "a\n": false, "é": false, "aé": false, "a\xff": false, "\"a\"": false, "a(": false, "#": false, "main": true, "iff": true, "u88": true, "texts": true, "none": true, "and": true,
		strings.Repeat("n", 29): true, strings.Repeat("n", 30): true, strings.Repeat("n", 31): false, strings.Repeat("n", 5000): false, "n" + strings.Repeat("_", 29): true,
	}
	for _, word := range millWordList() {
		names[word] = false
		names[word+"x"] = true
	}
	rows := millRows()
	for _, kind := range []int{impl.MillNodeName, impl.MillNodeCall, impl.MillNodeLet, impl.MillNodeSet, impl.MillNodeParam, impl.MillNodeFn} {
		for name, right := range names {
			b := rows[kind]
			b.top.Text = name
			b = millAround(b)
			if right {
				wantMillPrinted(t, b, b.text(noBrackets))
			} else {
				wantMillNotValid(t, fmt.Sprintf("kind %d named %q", kind, name), b.tree())
			}
		}
	}
	// A text may be anything.
	for name := range names {
		if len(name) <= impl.MillMaxText {
			b := millAround(millGrowText(impl.MillNodeText, name))
			wantMillPrinted(t, b, b.text(noBrackets))
		}
	}
}

func TestMillValidTreeOfWrongNodes(t *testing.T) {
	a := millGrowName("a")
	right := millGrowIn(millGrowFail(a)).nodes()
	bent := func(bend func(nodes []impl.MillNode)) impl.MillTree {
		nodes := slices.Clone(right)
		bend(nodes)
		return impl.MillTree{Nodes: nodes}
	}
	for _, kind := range []int{math.MinInt, -1, 0, 25, 26, 1 << 32, 1<<32 + 1, math.MaxInt} {
		for at := range right {
			wantMillNotValid(t, "kind", bent(func(nodes []impl.MillNode) { nodes[at].Kind = kind }))
			wantMillNotValid(t, "bare kind", bent(func(nodes []impl.MillNode) { nodes[at] = impl.MillNode{Kind: kind} }))
		}
		wantMillNotValid(t, "kind alone", impl.MillTree{Nodes: []impl.MillNode{{Kind: kind}}})
	}
	for _, kids := range []int{math.MinInt, -2, -1, 0, 1, 2, 3, 5, 6, 1 << 32, 1<<32 + 1, math.MaxInt} {
		for at := range right {
			if kids != right[at].Kids {
				wantMillNotValid(t, "kids", bent(func(nodes []impl.MillNode) { nodes[at].Kids = kids }))
			}
		}
	}
	leaf := impl.MillNode{Kind: impl.MillNodeBreak}
	for at := range right {
		// A node that is below no other.
		wantMillNotValid(t, "a node more", impl.MillTree{Nodes: slices.Insert(slices.Clone(right), at, leaf)})
		wantMillNotValid(t, "a node less", impl.MillTree{Nodes: slices.Delete(slices.Clone(right), at, at+1)})
		wantMillNotValid(t, "cut short", impl.MillTree{Nodes: right[:at]})
		if at > 0 {
			wantMillNotValid(t, "without its beginning", impl.MillTree{Nodes: right[at:]})
		}
	}
	for _, root := range []impl.MillNode{leaf, {Kind: impl.MillNodeBlock}, {Kind: impl.MillNodeProgram}, {Kind: impl.MillNodeProgram, Kids: 1}, {Kind: impl.MillNodeBlock, Kids: 1}, {Kind: impl.MillNodeFn, Text: "f", Kids: 1}} {
		wantMillNotValid(t, "another root", impl.MillTree{Nodes: append(slices.Clone(right), root)})
	}
	wantMillNotValid(t, "two programs", impl.MillTree{Nodes: append(slices.Clone(right), right...)})
	for kind, b := range millRows() {
		wantMillNotValid(t, fmt.Sprintf("kind %d as the root", kind), b.tree())
		if kind != impl.MillNodeFn {
			wantMillNotValid(t, fmt.Sprintf("kind %d in a program", kind), millGrowProgram(b).tree())
		}
	}
}

// Each kind over each few kids is valid just where the document's words say so.
func TestMillValidTreeOfAllKids(t *testing.T) {
	t.Parallel()
	rows := millRows()
	sorts := []millBush{
		rows[impl.MillNodeName], rows[impl.MillNodeCall], rows[impl.MillNodeBreak], rows[impl.MillNodeIf], rows[impl.MillNodeBlock], rows[impl.MillNodeParam], rows[impl.MillNodeFn], millGrowIn(),
	}
	rows[impl.MillNodeProgram] = millGrowIn()
	rights := 0
	var kids []millBush
	var ask func(top impl.MillNode, left int)
	ask = func(top impl.MillNode, left int) {
		b := millAround(millGrow(top, kids...))
		if isRightMillTree(b.tree()) {
			rights++
			wantMillPrinted(t, b, b.text(noBrackets))
		} else {
			wantMillNotValid(t, "kids", b.tree())
		}
		for i := 0; left > 0 && i < len(sorts); i++ {
			kids = append(kids, sorts[i])
			ask(top, left-1)
			kids = kids[:len(kids)-1]
		}
	}
	for kind := 1; kind <= 24; kind++ {
		if kind != impl.MillNodeBuilt {
			ask(rows[kind].top, 4)
		}
	}
	for op := 1; op <= 12; op++ {
		ask(impl.MillNode{Kind: impl.MillNodeBuilt, Op: op}, 3)
	}
	if rights < 100 {
		t.Errorf("only %d were right", rights)
	}
	// Each kind in the place of each kid of each other, and one kid more and one less.
	for _, b := range rows {
		for i := range b.kids {
			for _, other := range rows {
				bent := millGrow(b.top, slices.Clone(b.kids)...)
				bent.kids[i] = other
				tree := millAround(bent).tree()
				if right := isRightMillTree(tree); impl.MillValidTree(tree) != right {
					t.Errorf("valid %v: %+v", !right, tree)
				}
				tree = millAround(millGrow(b.top, slices.Insert(slices.Clone(b.kids), i, other)...)).tree()
				if right := isRightMillTree(tree); impl.MillValidTree(tree) != right {
					t.Errorf("valid %v: %+v", !right, tree)
				}
			}
			tree := millAround(millGrow(b.top, slices.Delete(slices.Clone(b.kids), i, i+1)...)).tree()
			if right := isRightMillTree(tree); impl.MillValidTree(tree) != right {
				t.Errorf("valid %v: %+v", !right, tree)
			}
		}
	}
}

func (d *clayDice) millName() string {
	return d.pick("a", "b", "x", "main", "z9_", "iff", "u", strings.Repeat("n", 30))
}

// millE makes an E that is at most so deep.
func (d *clayDice) millE(deep int) millBush {
	kind := 1 + d.below(9)
	if deep == 0 {
		kind = 1 + d.below(4)
	}
	less := func() millBush { return d.millE(deep - 1) }
	several := func(n int) []millBush { return millMany(n, func(int) millBush { return less() }) }
	switch kind {
	case impl.MillNodeInt:
		of := impl.MillTypeU8 + d.below(8)
		return millGrowInt(of, int64([]uint64{0, 1, 10, millMostOf(of)}[d.below(4)]))
	case impl.MillNodeText:
		return millGrowText(kind, d.text())
	case impl.MillNodeBool:
		return millGrowBool(int64(d.below(2)))
	case impl.MillNodeUn:
		return millGrowUn(1+d.below(3), less())
	case impl.MillNodeBin:
		return millGrowBin(1+d.below(18), less(), less())
	case impl.MillNodeCall:
		return millGrowCall(d.millName(), several(d.below(4))...)
	case impl.MillNodeBuilt:
		op := 1 + d.below(12)
		return millGrowBuilt(op, several(millBuiltKids[op])...)
	case impl.MillNodeConv:
		return millGrowConv(impl.MillTypeU8+d.below(8), less())
	}
	return millGrowName(d.millName())
}

func (d *clayDice) millBlock(deep int) millBush {
	return millGrowBlock(millMany(d.below(4), func(int) millBush { return d.millStatement(deep - 1) })...)
}

// millStatement makes a statement that has at most so many blocks below each other.
func (d *clayDice) millStatement(deep int) millBush {
	kind := impl.MillNodeLet + d.below(11)
	for deep <= 0 && (kind == impl.MillNodeIf || kind == impl.MillNodeWhile) {
		kind = impl.MillNodeLet + d.below(11)
	}
	e := func() millBush { return d.millE(d.below(4)) }
	switch kind {
	case impl.MillNodeLet, impl.MillNodeSet:
		return millGrowText(kind, d.millName(), e())
	case impl.MillNodeIf:
		kids := []millBush{e(), d.millBlock(deep)}
		switch d.below(3) {
		case 0:
			kids = append(kids, d.millBlock(deep))
		case 1:
			no := d.millStatement(deep)
			for no.top.Kind != impl.MillNodeIf {
				no = d.millStatement(deep)
			}
			kids = append(kids, no)
		}
		return millGrowKind(kind, kids...)
	case impl.MillNodeWhile:
		return millGrowKind(kind, e(), d.millBlock(deep))
	case impl.MillNodeBreak, impl.MillNodeContinue:
		return millGrowKind(kind)
	case impl.MillNodeReturn:
		return millGrowKind(kind, millMany(d.below(2), func(int) millBush { return e() })...)
	case impl.MillNodeWrite:
		return millGrowKind(kind, e(), e())
	case impl.MillNodeDo:
		return millGrowKind(kind, millGrowCall(d.millName(), millMany(d.below(3), func(int) millBush { return e() })...))
	}
	return millGrowKind(kind, e())
}

func (d *clayDice) millProgram(fns, deep int) millBush {
	return millGrowProgram(millMany(fns, func(int) millBush {
		kids := millMany(d.below(4), func(int) millBush { return millGrowParam(d.millName(), 1+d.below(10)) })
		return millGrowFn(d.millName(), d.below(11), append(kids, d.millBlock(deep))...)
	})...)
}

// millSpread writes the tokens of src with other gaps between them.
func (d *clayDice) millSpread(rules []millRule, src string) string {
	tokens, ends, _ := millScanByRules(rules, src)
	out, last := d.pick("", " ", "# remark ( { \n", "\n"), ""
	for i, token := range tokens {
		piece := src[token.At:ends[i]]
		// Without a gap only where the two pieces are still read as two.
		if joined, _, _ := millScanByRules(rules, last+piece); last != "" && len(joined) != 2 || d.below(2) == 0 {
			out += d.pick(" ", "\n", "  ", "# a \"remark\"\n", "\n#\n#(\n ")
		}
		out, last = out+piece, piece
	}
	return out + d.pick("", " ", "\n", "#", "# }")
}

// Promises 14 and 15, for trees of all kinds that are put together by a fixed rule, as written, with needless brackets and with other gaps.
func TestMillTreeThereAndBack(t *testing.T) {
	t.Parallel()
	dice := clayDice(9)
	rules := millRules()
	kinds := map[int]int{}
	for i := range 3000 {
		b := dice.millProgram(1+dice.below(3), i%5)
		for _, n := range b.nodes() {
			kinds[n.Kind]++
		}
		text := b.text(noBrackets)
		if len(text) > impl.MillMaxSrc {
			continue
		}
		wantMillPrinted(t, b, text)
		loose := b.text(func() int { return max(0, dice.below(5)-2) })
		if len(loose) > 2000 {
			continue
		}
		wantMillRead(t, loose, b)
		src := dice.millSpread(rules, loose)
		tree, fault := impl.MillParse(src)
		if again := impl.MillPrint(tree); fault.Code != 0 || again != text {
			t.Errorf("%q: %+v, printed %q, want %q", src, fault, again, text)
		}
		if t.Failed() {
			return
		}
	}
	for kind := 1; kind <= 24; kind++ {
		if kinds[kind] < 100 {
			t.Errorf("kind %d: %d nodes", kind, kinds[kind])
		}
	}
}

// Longer texts in which a token is changed, taken out, doubled or put in.
func TestMillParseSpoiltTexts(t *testing.T) {
	dice := clayDice(4)
	c := newChart(millGrammar)
	rules := millRules()
	pieces := append(millWordList(), strings.Fields(millMarkList)...)
	pieces = append(pieces, "n", "7", "9u8", `"x"`)
	codes := map[int]int{}
	for i := range 2000 {
		text := dice.millProgram(1+dice.below(2), 1+i%3).text(func() int { return dice.below(4) / 3 })
		if len(text) > 400 {
			continue
		}
		tokens, ends, _ := millScanByRules(rules, text)
		var parts []string
		for i, token := range tokens {
			parts = append(parts, text[token.At:ends[i]])
		}
		for range dice.below(3) {
			at := dice.below(len(parts))
			piece := pieces[dice.below(len(pieces))]
			switch dice.below(4) {
			case 0:
				parts[at] = piece
			case 1:
				parts = slices.Insert(parts, at, piece)
			case 2:
				parts = slices.Insert(parts, at, parts[dice.below(len(parts))])
			case 3:
				parts = slices.Delete(parts, at, at+1)
			}
		}
		src := strings.Join(parts, " ")
		tokens, fault := impl.MillScan(src)
		if fault.Code != 0 {
			t.Fatalf("%q: %+v", src, fault)
		}
		c.sets = c.sets[:1]
		want := millStopByGrammar(c, src, tokens)
		codes[want.Code]++
		wantMillAsByGrammar(t, src, want)
	}
	if codes[0] < 300 || codes[6] < 300 {
		t.Errorf("codes %v", codes)
	}
}

// Trees of which a node is changed, taken out, doubled or put elsewhere are valid just where the document's words say so.
func TestMillValidTreeOfBentTrees(t *testing.T) {
	dice := clayDice(6)
	rights := 0
	for i := range 20000 {
		nodes := dice.millProgram(dice.below(3), i%4).nodes()
		for range 1 + dice.below(2) {
			at := dice.below(len(nodes))
			if len(nodes) > 1 && dice.below(4) == 0 {
				switch dice.below(3) {
				case 0:
					nodes = slices.Delete(nodes, at, at+1)
				case 1:
					nodes = slices.Insert(nodes, at, nodes[dice.below(len(nodes))])
				case 2:
					other := dice.below(len(nodes))
					nodes[at], nodes[other] = nodes[other], nodes[at]
				}
				continue
			}
			switch dice.below(6) {
			case 0:
				nodes[at].Kind = dice.below(27) - 1
			case 1:
				nodes[at].Op = dice.below(21) - 1
			case 2:
				nodes[at].N = int64(dice.below(4) - 1)
			case 3:
				nodes[at].Text = dice.pick(dice.millName(), dice.text())
			case 4:
				nodes[at].Kids += dice.below(3) - 1
			case 5:
				nodes[at].Type = dice.below(13) - 1
			}
		}
		tree := impl.MillTree{Nodes: nodes}
		right := isRightMillTree(tree)
		if impl.MillValidTree(tree) != right {
			t.Fatalf("valid %v: %+v", !right, nodes)
		}
		if right {
			rights++
			got, _, _ := millBushOf(nodes)
			if text := got.text(noBrackets); len(text) <= impl.MillMaxSrc {
				wantMillPrinted(t, got, text)
			}
		} else {
			wantMillNotValid(t, "bent", tree)
		}
		if t.Failed() {
			return
		}
	}
	if rights < 1000 {
		t.Errorf("only %d were right", rights)
	}
}

func FuzzMillParse(f *testing.F) {
	f.Add("fn g(a text, b u8) -> bool { if a == b || !c { x = -1 + cut(a, 1, 2u8); } else if u8(b) < 2 { return; } else { write \"a\", g(); } while true { break; } g(1); }")
	c := newChart(millGrammar)
	f.Fuzz(func(t *testing.T, src string) {
		tokens, fault := impl.MillScan(src)
		if len(tokens) > 100 {
			return
		}
		if fault.Code == 0 {
			c.sets = c.sets[:1]
			fault = millStopByGrammar(c, src, tokens)
		}
		wantMillAsByGrammar(t, src, fault)
	})
}

func TestMillTreeAnswersNewMemory(t *testing.T) {
	src := string([]byte("fn first(abc text, def u8) -> text { let ghi = abc + \"text\"; ghi = first(\"more\", 1u8); first(); while ghi == abc { say \"\\0a\"; } }"))
	first, _ := impl.MillParse(src)
	if len(first.Nodes) != 22 {
		t.Fatalf("%d nodes", len(first.Nodes))
	}
	for _, n := range first.Nodes {
		if sharesBytes(src, n.Text) {
			t.Errorf("%+v shares memory with src", n)
		}
	}
	want := slices.Clone(first.Nodes)
	text := impl.MillPrint(first)
	for i := range first.Nodes {
		first.Nodes[i] = impl.MillNode{Kind: -1}
	}
	_ = append(first.Nodes, impl.MillNode{Kind: -2})
	if second, fault := impl.MillParse(src); fault.Code != 0 || !slices.Equal(second.Nodes, want) {
		t.Errorf("read again: %+v %+v", second, fault)
	}
	// Nothing is written into the argument, nor behind its end.
	room := append(slices.Clone(want), make([]impl.MillNode, 50)...)
	for i := len(want); i < len(room); i++ {
		room[i] = impl.MillNode{Kind: 99, Text: "room"}
	}
	kept := slices.Clone(room)
	given := impl.MillTree{Nodes: room[:len(want)]}
	if !impl.MillValidTree(given) || impl.MillPrint(given) != text || !slices.Equal(room, kept) {
		t.Errorf("the argument was changed")
	}
	for _, n := range given.Nodes {
		if sharesBytes(n.Text, text) || sharesBytes(text, n.Text) {
			t.Errorf("the text shares memory with %+v", n)
		}
	}
}
