package tests

import (
	"regexp"
	"slices"
	"strconv"
	"strings"
	"testing"

	"loop.example/kilnyard/impl"
)

// clayOpTexts has the text of each op of NodeBin at its number.
var clayOpTexts = strings.Fields("? or and == != < <= > >= has + - * / %")

// clayOpRanks has its rank.
var clayOpRanks = []int{0, 1, 2, 4, 4, 4, 4, 4, 4, 4, 5, 5, 6, 6, 6}

// clayBush is a node with its kids.
type clayBush struct {
	top  impl.ClayNode
	kids []clayBush
}

func clayGrow(top impl.ClayNode, kids ...clayBush) clayBush {
	top.Kids = len(kids)
	return clayBush{top, kids}
}

func clayGrowKind(kind int, kids ...clayBush) clayBush {
	return clayGrow(impl.ClayNode{Kind: kind}, kids...)
}

func clayGrowText(kind int, text string, kids ...clayBush) clayBush {
	return clayGrow(impl.ClayNode{Kind: kind, Text: text}, kids...)
}

func clayGrowName(name string) clayBush { return clayGrowText(impl.ClayNodeName, name) }

func clayGrowInt(n int64) clayBush {
	return clayGrow(impl.ClayNode{Kind: impl.ClayNodeInt, N: n})
}

func clayGrowUn(op int, kid clayBush) clayBush {
	return clayGrow(impl.ClayNode{Kind: impl.ClayNodeUn, Op: op}, kid)
}

func clayGrowBin(op int, left, right clayBush) clayBush {
	return clayGrow(impl.ClayNode{Kind: impl.ClayNodeBin, Op: op}, left, right)
}

func clayGrowEmit(kid clayBush) clayBush { return clayGrowKind(impl.ClayNodeEmit, kid) }

func clayGrowFile(statements ...clayBush) clayBush {
	return clayGrowKind(impl.ClayNodeFile, statements...)
}

func (b clayBush) nodes() []impl.ClayNode {
	var nodes []impl.ClayNode
	for _, kid := range b.kids {
		nodes = append(nodes, kid.nodes()...)
	}
	return append(nodes, b.top)
}

func (b clayBush) tree() impl.ClayTree { return impl.ClayTree{Nodes: b.nodes()} }

func (b clayBush) isE() bool { return b.top.Kind <= 16 }

func (b clayBush) rank() int {
	switch b.top.Kind {
	case impl.ClayNodeIf, impl.ClayNodeLet, impl.ClayNodeFn:
		return 0
	case impl.ClayNodeBin:
		return clayOpRanks[b.top.Op]
	case impl.ClayNodeUn:
		return []int{0, 3, 7}[b.top.Op]
	case impl.ClayNodeIndex, impl.ClayNodeDot, impl.ClayNodeCall:
		return 8
	}
	return 9
}

// clayQuoted is a text in quotes.
func clayQuoted(text string) string {
	out := "\""
	for _, b := range []byte(text) {
		if b >= 32 && b <= 126 && b != '"' && b != '\\' {
			out += string(rune(b))
		} else {
			out += "\\" + strconv.FormatInt(int64(b)+256, 16)[1:]
		}
	}
	return out + "\""
}

var clayNameForm = regexp.MustCompile(`^[a-z_][a-z0-9_]{0,29}$`)

func isClayName(text string) bool {
	return clayNameForm.MatchString(text) && !slices.Contains(strings.Fields(clayWordList), text)
}

// text writes the bush by the forms of the document; extra tells how many needless brackets are round an E.
func (b clayBush) text(extra func() int) string {
	e := func(i, least int) string {
		kid := b.kids[i]
		text := kid.text(extra)
		if !kid.isE() || b.top.Kind == impl.ClayNodeLoad {
			return text
		}
		n := extra()
		if n == 0 && kid.rank() < least {
			n = 1
		}
		return strings.Repeat("(", n) + text + strings.Repeat(")", n)
	}
	parted := func(from, to int) string {
		var texts []string
		for i := from; i < to; i++ {
			texts = append(texts, e(i, 0))
		}
		return strings.Join(texts, ", ")
	}
	last := len(b.kids) - 1
	name := b.top.Text
	switch b.top.Kind {
	case impl.ClayNodeNone:
		return "none"
	case impl.ClayNodeBool:
		return []string{"false", "true"}[b.top.N]
	case impl.ClayNodeInt:
		return strconv.FormatInt(b.top.N, 10)
	case impl.ClayNodeText:
		return clayQuoted(name)
	case impl.ClayNodeName:
		return name
	case impl.ClayNodeUn:
		return []string{"", "not ", "-"}[b.top.Op] + e(0, []int{0, 3, 7}[b.top.Op])
	case impl.ClayNodeBin:
		rank := clayOpRanks[b.top.Op]
		first := rank
		if rank == 4 {
			first = 5
		}
		return e(0, first) + " " + clayOpTexts[b.top.Op] + " " + e(1, rank+1)
	case impl.ClayNodeList:
		return "[" + parted(0, last+1) + "]"
	case impl.ClayNodeRecord:
		return "{" + parted(0, last+1) + "}"
	case impl.ClayNodeIndex:
		return e(0, 8) + "[" + e(1, 0) + "]"
	case impl.ClayNodeDot:
		return e(0, 8) + "." + name
	case impl.ClayNodeCall:
		return e(0, 8) + "(" + parted(1, last+1) + ")"
	case impl.ClayNodeIf:
		return "if " + e(0, 0) + " then " + e(1, 0) + " else " + e(2, 0)
	case impl.ClayNodeLet:
		return "let " + name + " = " + e(0, 0) + " in " + e(1, 0)
	case impl.ClayNodeFn:
		return "fn(" + parted(0, last) + ") => " + e(last, 0)
	case impl.ClayNodeEach:
		// The kids are E1, E2, E3; E2 is written first.
		second, first, only := e(1, 0), e(0, 0), ""
		if last == 2 {
			only = " if " + e(2, 0)
		}
		return "[" + second + " for " + name + " in " + first + only + "]"
	case impl.ClayNodeField:
		if !isClayName(name) {
			name = clayQuoted(name)
		}
		return name + ": " + e(0, 0)
	case impl.ClayNodeNamed:
		return name + " = " + e(0, 0)
	case impl.ClayNodeParam:
		if last == 0 {
			return name + " = " + e(0, 0)
		}
		return name
	case impl.ClayNodeDef:
		return "def " + name + "(" + parted(0, last) + ") = " + e(last, 0) + ";\n"
	case impl.ClayNodeSet:
		return "let " + name + " = " + e(0, 0) + ";\n"
	case impl.ClayNodeEmit:
		return "emit " + e(0, 0) + ";\n"
	case impl.ClayNodeLoad:
		return "load " + clayQuoted(name) + ": " + parted(0, last+1) + ";\n"
	}
	out := ""
	for _, kid := range b.kids {
		out += kid.text(extra)
	}
	return out
}

func noBrackets() int { return 0 }

// clayForms tells for each kind what its kids are: n a NodeName, e another E, f a field, a an argument with a name, p a parameter, s a statement, x a file.
var clayForms = [...]string{
	"x^", "", "", "", "", "", "[en]", "[en][en]", "[en]*", "f*", "[en][en]", "[en]", "[en][en]*a*", "[en][en][en]", "[en][en]", "p*[en]", "[en][en][en]?",
	"[en]", "[en]", "[en]?", "p*[en]", "[en]", "[en]", "nn*", "s*",
}

// clayLetters has the letter of each kind.
const clayLetters = "?eeeeneeeeeeeeeeefapssssx"

// clayFormed are the forms, ready to be asked.
var clayFormed = func() []*regexp.Regexp {
	var formed []*regexp.Regexp
	for _, form := range clayForms {
		formed = append(formed, regexp.MustCompile("^("+form+")$"))
	}
	return formed
}()

// clayBushOf takes the last node of a list with all below it, and gives what is left.
func clayBushOf(nodes []impl.ClayNode) (b clayBush, rest []impl.ClayNode, ok bool) {
	if len(nodes) == 0 {
		return clayBush{}, nil, false
	}
	b.top, rest = nodes[len(nodes)-1], nodes[:len(nodes)-1]
	for i := 0; i < b.top.Kids; i++ {
		var kid clayBush
		if kid, rest, ok = clayBushOf(rest); !ok {
			return clayBush{}, nil, false
		}
		b.kids = append(b.kids, kid)
	}
	slices.Reverse(b.kids)
	return b, rest, b.top.Kids >= 0
}

var clayPackageForm = regexp.MustCompile(`^[a-z0-9_./-]{1,30}$`)

// isRight says whether the bush is right by the document's words, where it has so many nodes above it.
func (b clayBush) isRight(above int) bool {
	n, letters := b.top, ""
	if above > 50 || n.Kind < 1 || n.Kind > 24 {
		return false
	}
	texts := map[string]int{}
	for _, kid := range b.kids {
		if !kid.isRight(above + 1) {
			return false
		}
		letters += clayLetters[kid.top.Kind : kid.top.Kind+1]
		if kid.top.Kind == 17 || kid.top.Kind == 18 {
			texts[kid.top.Text]++
			if texts[kid.top.Text] > 1 {
				return false
			}
		}
	}
	most := 200
	if n.Kind == 12 || n.Kind == 15 || n.Kind == 20 {
		most = 9
	}
	used := impl.ClayNode{Kind: n.Kind, Kids: n.Kids}
	right := true
	switch n.Kind {
	case 2:
		used.N, right = n.N, n.N == 0 || n.N == 1
	case 3:
		used.N, right = n.N, n.N >= 0
	case 4, 17:
		used.Text, right = n.Text, len(n.Text) <= 1000
	case 5, 11, 14, 16, 18, 19, 20, 21:
		used.Text, right = n.Text, isClayName(n.Text)
	case 23:
		used.Text, right = n.Text, clayPackageForm.MatchString(n.Text)
	case 6:
		used.Op, right = n.Op, n.Op >= 1 && n.Op <= 2
	case 7:
		used.Op, right = n.Op, n.Op >= 1 && n.Op <= 14
	}
	return right && n == used && len(b.kids) <= most && clayFormed[n.Kind].MatchString(letters)
}

func isRightClayTree(t impl.ClayTree) bool {
	if len(t.Nodes) > 5000 {
		return false
	}
	b, rest, ok := clayBushOf(t.Nodes)
	return ok && len(rest) == 0 && b.top.Kind == 24 && b.isRight(0)
}

// wantRead asks that src is read as the bush.
func wantRead(t *testing.T, src string, b clayBush) {
	t.Helper()
	tree, fault := impl.ClayParse(src)
	if fault != (impl.ClayFault{}) {
		t.Errorf("%.200q: fault %+v", src, fault)
	} else if !slices.Equal(tree.Nodes, b.nodes()) {
		t.Errorf("%.200q: got %+v, want %+v", src, tree.Nodes, b.nodes())
	}
}

// wantPrinted asks that the bush is valid, written as text, and that text read as the bush.
func wantPrinted(t *testing.T, b clayBush, text string) {
	t.Helper()
	if !impl.ClayValidTree(b.tree()) {
		t.Errorf("not valid: %.200q", text)
	}
	if got := impl.ClayPrint(b.tree()); got != text {
		t.Errorf("printed %.200q, want %.200q", got, text)
	}
	wantRead(t, text, b)
}

// wantE asks the same of an E, alone in a statement.
func wantE(t *testing.T, e clayBush, text string) {
	t.Helper()
	wantPrinted(t, clayGrowFile(clayGrowEmit(e)), "emit "+text+";\n")
}

func wantNotValid(t *testing.T, what string, tree impl.ClayTree) {
	t.Helper()
	if impl.ClayValidTree(tree) {
		t.Errorf("%s: valid", what)
	}
	if text := impl.ClayPrint(tree); text != "" {
		t.Errorf("%s: printed %.200q", what, text)
	}
}

func wantParseFault(t *testing.T, src string, code, at int) {
	t.Helper()
	tree, fault := impl.ClayParse(src)
	if fault != (impl.ClayFault{Code: code, At: at}) {
		t.Errorf("%.200q: got %+v, want code %d at %d", src, fault, code, at)
	}
	if len(tree.Nodes) != 0 {
		t.Errorf("%.200q: %d nodes beside a fault", src, len(tree.Nodes))
	}
}

// wantStop asks for a fault of code 6 at the place of the first @ in src, which is taken out.
func wantStop(t *testing.T, src string) {
	t.Helper()
	at := strings.Index(src, "@")
	wantParseFault(t, src[:at]+src[at+1:], 6, at)
}

func TestClayTreeConstants(t *testing.T) {
	limits := [4]int{impl.ClayMaxNodes, impl.ClayMaxNest, impl.ClayMaxArgs, impl.ClayMaxList}
	if limits != [4]int{5000, 50, 8, 200} {
		t.Errorf("limits %v", limits)
	}
	kinds := []int{
		impl.ClayNodeNone, impl.ClayNodeBool, impl.ClayNodeInt, impl.ClayNodeText, impl.ClayNodeName, impl.ClayNodeUn, impl.ClayNodeBin, impl.ClayNodeList,
		impl.ClayNodeRecord, impl.ClayNodeIndex, impl.ClayNodeDot, impl.ClayNodeCall, impl.ClayNodeIf, impl.ClayNodeLet, impl.ClayNodeFn, impl.ClayNodeEach,
		impl.ClayNodeField, impl.ClayNodeNamed, impl.ClayNodeParam, impl.ClayNodeDef, impl.ClayNodeSet, impl.ClayNodeEmit, impl.ClayNodeLoad, impl.ClayNodeFile,
	}
	ops := []int{
		impl.ClayOpOr, impl.ClayOpAnd, impl.ClayOpSame, impl.ClayOpOther, impl.ClayOpLess, impl.ClayOpMost, impl.ClayOpMore, impl.ClayOpLeast, impl.ClayOpHas,
		impl.ClayOpAdd, impl.ClayOpSub, impl.ClayOpMul, impl.ClayOpDiv, impl.ClayOpRem,
	}
	for _, numbers := range [][]int{kinds, ops, {impl.ClayOpNot, impl.ClayOpNeg}} {
		for i, n := range numbers {
			if n != i+1 {
				t.Errorf("number %d of %d is %d", i+1, len(numbers), n)
			}
		}
	}
	if len(kinds) != 24 || len(ops) != 14 {
		t.Errorf("%d kinds, %d ops", len(kinds), len(ops))
	}
}

// Promise 2, each kind by itself.
func TestClayTreeEachKind(t *testing.T) {
	a, b, c := clayGrowName("a"), clayGrowName("b"), clayGrowName("c")
	one := clayGrowInt(1)
	field, named, param := impl.ClayNodeField, impl.ClayNodeNamed, impl.ClayNodeParam
	wantE(t, clayGrowKind(impl.ClayNodeNone), "none")
	wantE(t, clayGrow(impl.ClayNode{Kind: impl.ClayNodeBool}), "false")
	wantE(t, clayGrow(impl.ClayNode{Kind: impl.ClayNodeBool, N: 1}), "true")
	wantE(t, clayGrowInt(0), "0")
	wantE(t, clayGrowInt(9223372036854775807), "9223372036854775807")
	wantE(t, clayGrowText(impl.ClayNodeText, ""), `""`)
	wantE(t, clayGrowText(impl.ClayNodeText, "a\"\\\n\x00\xff~\x7f b"), `"a\22\5c\0a\00\ff~\7f b"`)
	wantE(t, clayGrowText(impl.ClayNodeName, "_x9"), "_x9")
	wantE(t, clayGrowUn(impl.ClayOpNot, a), "not a")
	wantE(t, clayGrowUn(impl.ClayOpNeg, one), "-1")
	wantE(t, clayGrowBin(impl.ClayOpHas, a, b), "a has b")
	wantE(t, clayGrowKind(impl.ClayNodeList, a, one, clayGrowKind(impl.ClayNodeList)), "[a, 1, []]")
	wantE(t, clayGrowKind(impl.ClayNodeRecord, clayGrowText(field, "a", one), clayGrowText(field, "b c", clayGrowKind(impl.ClayNodeRecord))), `{a: 1, "b c": {}}`)
	wantE(t, clayGrowKind(impl.ClayNodeIndex, a, b), "a[b]")
	wantE(t, clayGrowText(impl.ClayNodeDot, "b", a), "a.b")
	wantE(t, clayGrowKind(impl.ClayNodeCall, a, b, one, clayGrowText(named, "b", c), clayGrowText(named, "c", one)), "a(b, 1, b = c, c = 1)")
	wantE(t, clayGrowKind(impl.ClayNodeCall, a), "a()")
	wantE(t, clayGrowKind(impl.ClayNodeCall, a, clayGrowText(named, "b", c)), "a(b = c)")
	wantE(t, clayGrowKind(impl.ClayNodeIf, a, b, c), "if a then b else c")
	wantE(t, clayGrowText(impl.ClayNodeLet, "x", a, b), "let x = a in b")
	wantE(t, clayGrowKind(impl.ClayNodeFn, clayGrowText(param, "a"), clayGrowText(param, "b", one), clayGrowText(param, "a"), c), "fn(a, b = 1, a) => c")
	wantE(t, clayGrowKind(impl.ClayNodeFn, c), "fn() => c")
	wantE(t, clayGrowText(impl.ClayNodeEach, "x", a, b), "[b for x in a]")
	wantE(t, clayGrowText(impl.ClayNodeEach, "x", a, b, c), "[b for x in a if c]")
	wantPrinted(t, clayGrowFile(), "")
	wantPrinted(t, clayGrowFile(
		clayGrowText(impl.ClayNodeDef, "f", one),
		clayGrowText(impl.ClayNodeDef, "g", clayGrowText(param, "a"), clayGrowText(param, "b", a), clayGrowText(param, "c"), b),
		clayGrowText(impl.ClayNodeSet, "v", a),
		clayGrowEmit(a),
		clayGrowText(impl.ClayNodeLoad, "p", a),
		clayGrowText(impl.ClayNodeLoad, "p/q-1.r_", a, b, a),
	), "def f() = 1;\ndef g(a, b = a, c) = b;\nlet v = a;\nemit a;\nload \"p\": a;\nload \"p/q-1.r_\": a, b, a;\n")
}

// Promise 2, and brackets just where the rank asks: each op beside each other one, as first and as second kid.
func TestClayTreeOpsBesideOps(t *testing.T) {
	a, b, c := clayGrowName("a"), clayGrowName("b"), clayGrowName("c")
	for out := 1; out <= 14; out++ {
		for in := 1; in <= 14; in++ {
			o, i := clayOpTexts[out], clayOpTexts[in]
			first, second := "a "+i+" b "+o+" c", "a "+o+" b "+i+" c"
			if clayOpRanks[in] < clayOpRanks[out] || clayOpRanks[in] == 4 && clayOpRanks[out] == 4 {
				first = "(a " + i + " b) " + o + " c"
			}
			if clayOpRanks[in] <= clayOpRanks[out] {
				second = "a " + o + " (b " + i + " c)"
			}
			wantE(t, clayGrowBin(out, clayGrowBin(in, a, b), c), first)
			wantE(t, clayGrowBin(out, a, clayGrowBin(in, b, c)), second)
			if clayOpRanks[in] == 4 && clayOpRanks[out] == 4 {
				wantStop(t, "emit a "+i+" b @"+o+" c;")
				wantStop(t, "emit not a "+i+" b @"+o+" c;")
				wantStop(t, "emit a and b + 1 "+i+" -b @"+o+" c;")
			}
		}
	}
	wantStop(t, "let x = a < b @< c;")
	for op := 1; op <= 14; op++ {
		o, bin := clayOpTexts[op], clayGrowBin(op, a, b)
		for un, sign := range []string{1: "not ", 2: "-"} {
			if un == 0 {
				continue
			}
			least := []int{0, 3, 7}[un]
			over, first, second := sign+"a "+o+" b", sign+"a "+o+" b", "a "+o+" "+sign+"b"
			if clayOpRanks[op] < least {
				over = sign + "(a " + o + " b)"
			}
			if least < clayOpRanks[op] || least == 4 {
				first = "(" + sign + "a) " + o + " b"
			}
			if least <= clayOpRanks[op] {
				second = "a " + o + " (" + sign + "b)"
				wantStop(t, "emit a "+o+" @"+sign+"b;")
			}
			wantE(t, clayGrowUn(un, bin), over)
			wantE(t, clayGrowBin(op, clayGrowUn(un, a), b), first)
			wantE(t, clayGrowBin(op, a, clayGrowUn(un, b)), second)
		}
		wantE(t, clayGrowKind(impl.ClayNodeIndex, bin, bin), "(a "+o+" b)[a "+o+" b]")
		wantE(t, clayGrowText(impl.ClayNodeDot, "x", bin), "(a "+o+" b).x")
		wantE(t, clayGrowKind(impl.ClayNodeCall, bin, bin), "(a "+o+" b)(a "+o+" b)")
	}
}

func TestClayTreeNotAndMinus(t *testing.T) {
	a, b := clayGrowName("a"), clayGrowName("b")
	not := func(e clayBush) clayBush { return clayGrowUn(impl.ClayOpNot, e) }
	neg := func(e clayBush) clayBush { return clayGrowUn(impl.ClayOpNeg, e) }
	wantE(t, not(not(a)), "not not a")
	wantE(t, neg(neg(neg(a))), "---a")
	wantE(t, not(neg(a)), "not -a")
	wantE(t, neg(not(a)), "-(not a)")
	wantStop(t, "emit -@not a;")
	for _, u := range []struct {
		un   func(clayBush) clayBush
		sign string
	}{{not, "not "}, {neg, "-"}} {
		wantE(t, u.un(clayGrowKind(impl.ClayNodeIndex, a, b)), u.sign+"a[b]")
		wantE(t, u.un(clayGrowText(impl.ClayNodeDot, "x", a)), u.sign+"a.x")
		wantE(t, u.un(clayGrowKind(impl.ClayNodeCall, a, b)), u.sign+"a(b)")
		wantE(t, clayGrowKind(impl.ClayNodeIndex, u.un(a), u.un(b)), "("+u.sign+"a)["+u.sign+"b]")
		wantE(t, clayGrowText(impl.ClayNodeDot, "x", u.un(a)), "("+u.sign+"a).x")
		wantE(t, clayGrowKind(impl.ClayNodeCall, u.un(a), u.un(b)), "("+u.sign+"a)("+u.sign+"b)")
	}
	index := clayGrowKind(impl.ClayNodeIndex, clayGrowInt(1), clayGrowInt(2))
	wantE(t, clayGrowText(impl.ClayNodeDot, "x", clayGrowKind(impl.ClayNodeCall, index)), "1[2]().x")
}

// Promise 2: let, if and fn take brackets in ops and before index, dot and call, and nowhere else.
func TestClayTreeFarE(t *testing.T) {
	a, b := clayGrowName("a"), clayGrowName("b")
	for text, far := range map[string]clayBush{
		"if a then b else a": clayGrowKind(impl.ClayNodeIf, a, b, a),
		"let x = a in b":     clayGrowText(impl.ClayNodeLet, "x", a, b),
		"fn(x = a) => b":     clayGrowKind(impl.ClayNodeFn, clayGrowText(impl.ClayNodeParam, "x", a), b),
	} {
		in := "(" + text + ")"
		for op := 1; op <= 14; op++ {
			o := clayOpTexts[op]
			wantE(t, clayGrowBin(op, far, b), in+" "+o+" b")
			wantE(t, clayGrowBin(op, a, far), "a "+o+" "+in)
			wantStop(t, "emit a "+o+" @"+text+";")
		}
		wantE(t, clayGrowUn(impl.ClayOpNot, far), "not "+in)
		wantE(t, clayGrowUn(impl.ClayOpNeg, far), "-"+in)
		wantStop(t, "emit not @"+text+";")
		wantStop(t, "emit -@"+text+";")
		wantE(t, clayGrowKind(impl.ClayNodeIndex, far, far), in+"["+text+"]")
		wantE(t, clayGrowText(impl.ClayNodeDot, "x", far), in+".x")
		wantE(t, clayGrowKind(impl.ClayNodeCall, far, far, clayGrowText(impl.ClayNodeNamed, "y", far)), in+"("+text+", y = "+text+")")
		wantE(t, clayGrowKind(impl.ClayNodeList, far, far), "["+text+", "+text+"]")
		wantE(t, clayGrowKind(impl.ClayNodeRecord, clayGrowText(impl.ClayNodeField, "y", far)), "{y: "+text+"}")
		wantE(t, clayGrowKind(impl.ClayNodeIf, far, far, far), "if "+text+" then "+text+" else "+text)
		wantE(t, clayGrowText(impl.ClayNodeLet, "y", far, far), "let y = "+text+" in "+text)
		wantE(t, clayGrowKind(impl.ClayNodeFn, clayGrowText(impl.ClayNodeParam, "y", far), far), "fn(y = "+text+") => "+text)
		wantE(t, clayGrowText(impl.ClayNodeEach, "y", far, far, far), "["+text+" for y in "+text+" if "+text+"]")
		wantE(t, clayGrowText(impl.ClayNodeEach, "y", far, far), "["+text+" for y in "+text+"]")
	}
	// The last E goes as far as it can.
	wantE(t, clayGrowText(impl.ClayNodeLet, "x", a, clayGrowBin(impl.ClayOpOr, a, b)), "let x = a in a or b")
	wantE(t, clayGrowKind(impl.ClayNodeIf, a, b, clayGrowBin(impl.ClayOpLess, a, b)), "if a then b else a < b")
	wantE(t, clayGrowKind(impl.ClayNodeFn, clayGrowKind(impl.ClayNodeCall, a)), "fn() => a()")
}

// clayMany has n copies of what grow makes.
func clayMany(n int, grow func(i int) clayBush) []clayBush {
	var many []clayBush
	for i := range n {
		many = append(many, grow(i))
	}
	return many
}

// wantMost asks that what grow makes of most is read and printed, and that of one more is not valid, and is read with code 7.
func wantMost(t *testing.T, what string, most int, grow func(n int) clayBush) {
	t.Helper()
	for _, n := range []int{most - 1, most} {
		b := grow(n)
		wantPrinted(t, b, b.text(noBrackets))
	}
	b := grow(most + 1)
	wantNotValid(t, what, b.tree())
	wantParseFault(t, b.text(noBrackets), 7, 0)
}

func TestClayTreeMostKids(t *testing.T) {
	one := clayGrowInt(1)
	ones := func(n int) []clayBush { return clayMany(n, func(int) clayBush { return one }) }
	texted := func(kind, n int) []clayBush {
		return clayMany(n, func(i int) clayBush { return clayGrowText(kind, "k"+strconv.Itoa(i), one) })
	}
	e := func(b clayBush) clayBush { return clayGrowFile(clayGrowEmit(b)) }
	wantMost(t, "list", 200, func(n int) clayBush { return e(clayGrowKind(impl.ClayNodeList, ones(n)...)) })
	wantMost(t, "record", 200, func(n int) clayBush { return e(clayGrowKind(impl.ClayNodeRecord, texted(impl.ClayNodeField, n)...)) })
	wantMost(t, "load", 200, func(n int) clayBush {
		return clayGrowFile(clayGrowText(impl.ClayNodeLoad, "p", clayMany(n, func(int) clayBush { return clayGrowName("a") })...))
	})
	wantMost(t, "file", 200, func(n int) clayBush {
		return clayGrowFile(clayMany(n, func(int) clayBush { return clayGrowEmit(one) })...)
	})
	wantMost(t, "call", 8, func(n int) clayBush { return e(clayGrowKind(impl.ClayNodeCall, ones(n+1)...)) })
	wantMost(t, "call with names", 8, func(n int) clayBush {
		return e(clayGrowKind(impl.ClayNodeCall, append([]clayBush{one}, texted(impl.ClayNodeNamed, n)...)...))
	})
	wantMost(t, "call of both", 8, func(n int) clayBush {
		return e(clayGrowKind(impl.ClayNodeCall, append(ones(4), texted(impl.ClayNodeNamed, n-3)...)...))
	})
	wantMost(t, "fn", 8, func(n int) clayBush {
		return e(clayGrowKind(impl.ClayNodeFn, append(texted(impl.ClayNodeParam, n), one)...))
	})
	wantMost(t, "def", 8, func(n int) clayBush {
		return clayGrowFile(clayGrowText(impl.ClayNodeDef, "f", append(texted(impl.ClayNodeParam, n), one)...))
	})
}

func TestClayTreeNothingInside(t *testing.T) {
	a := clayGrowName("a")
	e := func(b clayBush) impl.ClayTree { return clayGrowFile(clayGrowEmit(b)).tree() }
	wantRead(t, "emit [ ] ;", clayGrowFile(clayGrowEmit(clayGrowKind(impl.ClayNodeList))))
	wantRead(t, "emit{\n};", clayGrowFile(clayGrowEmit(clayGrowKind(impl.ClayNodeRecord))))
	wantRead(t, "emit a(#\n);", clayGrowFile(clayGrowEmit(clayGrowKind(impl.ClayNodeCall, a))))
	wantRead(t, "emit fn()=>a;", clayGrowFile(clayGrowEmit(clayGrowKind(impl.ClayNodeFn, a))))
	wantRead(t, "def a()=a;", clayGrowFile(clayGrowText(impl.ClayNodeDef, "a", a)))
	for _, src := range []string{"", " ", "\n#\n", "# emit 1;"} {
		wantRead(t, src, clayGrowFile())
	}
	wantStop(t, `load "p": @;`)
	wantStop(t, `load "p"@;`)
	wantNotValid(t, "load of nothing", clayGrowFile(clayGrowText(impl.ClayNodeLoad, "p")).tree())
	wantNotValid(t, "call of nothing", e(clayGrowKind(impl.ClayNodeCall)))
	wantNotValid(t, "fn without an E", e(clayGrowKind(impl.ClayNodeFn)))
	wantNotValid(t, "fn with parameters alone", e(clayGrowKind(impl.ClayNodeFn, clayGrowText(impl.ClayNodeParam, "a"))))
	wantNotValid(t, "def without an E", clayGrowFile(clayGrowText(impl.ClayNodeDef, "f")).tree())
	wantNotValid(t, "no nodes", impl.ClayTree{})
	wantNotValid(t, "no nodes", impl.ClayTree{Nodes: []impl.ClayNode{}})
}

// clayNegs is an E with n times - before it.
func clayNegs(n int, e clayBush) clayBush {
	for range n {
		e = clayGrowUn(impl.ClayOpNeg, e)
	}
	return e
}

func TestClayTreeMostNodes(t *testing.T) {
	// A statement has 2 nodes more than signs; 200 of them and the file are 5000 with 4599 signs.
	build := func(nodes int) clayBush {
		left := nodes - 1
		var statements []clayBush
		for i := 200; i > 0; i-- {
			here := left / i
			left -= here
			statements = append(statements, clayGrowEmit(clayNegs(here-2, clayGrowInt(1))))
		}
		return clayGrowFile(statements...)
	}
	for _, n := range []int{4999, 5000, 5001} {
		if got := len(build(n).nodes()); got != n {
			t.Fatalf("%d nodes, want %d", got, n)
		}
	}
	wantMost(t, "nodes", 5000, build)
	wantNotValid(t, "many nodes", impl.ClayTree{Nodes: make([]impl.ClayNode, 1000000)})
}

func TestClayTreeMostNest(t *testing.T) {
	one := clayGrowInt(1)
	// What round makes has so many nodes from the file down to the deepest one's parent.
	for what, round := range map[string]func(e clayBush) (clayBush, int){
		"un":     func(e clayBush) (clayBush, int) { return clayGrowUn(impl.ClayOpNeg, e), 1 },
		"not":    func(e clayBush) (clayBush, int) { return clayGrowUn(impl.ClayOpNot, e), 1 },
		"first":  func(e clayBush) (clayBush, int) { return clayGrowBin(impl.ClayOpAdd, e, one), 1 },
		"second": func(e clayBush) (clayBush, int) { return clayGrowBin(impl.ClayOpLess, one, e), 1 },
		"list":   func(e clayBush) (clayBush, int) { return clayGrowKind(impl.ClayNodeList, one, e, one), 1 },
		"record": func(e clayBush) (clayBush, int) {
			return clayGrowKind(impl.ClayNodeRecord, clayGrowText(impl.ClayNodeField, "a", e)), 2
		},
		"dot":  func(e clayBush) (clayBush, int) { return clayGrowText(impl.ClayNodeDot, "a", e), 1 },
		"call": func(e clayBush) (clayBush, int) { return clayGrowKind(impl.ClayNodeCall, e), 1 },
		"named": func(e clayBush) (clayBush, int) {
			return clayGrowKind(impl.ClayNodeCall, one, clayGrowText(impl.ClayNodeNamed, "a", e)), 2
		},
		"if":  func(e clayBush) (clayBush, int) { return clayGrowKind(impl.ClayNodeIf, one, e, one), 1 },
		"let": func(e clayBush) (clayBush, int) { return clayGrowText(impl.ClayNodeLet, "a", one, e), 1 },
		"fn": func(e clayBush) (clayBush, int) {
			return clayGrowKind(impl.ClayNodeFn, clayGrowText(impl.ClayNodeParam, "a", e), one), 2
		},
		"each": func(e clayBush) (clayBush, int) { return clayGrowText(impl.ClayNodeEach, "a", one, one, e), 1 },
	} {
		build := func(above int) clayBush {
			e, here := one, 2
			for here < above {
				more, n := round(e)
				if here+n > above {
					more, n = clayGrowUn(impl.ClayOpNeg, e), 1
				}
				e, here = more, here+n
			}
			return clayGrowFile(clayGrowEmit(e))
		}
		wantMost(t, what, 50, build)
	}
	// Brackets are no nodes.
	deep := "emit " + strings.Repeat("(", 3990) + "1" + strings.Repeat(")", 3990) + ";"
	wantRead(t, deep, clayGrowFile(clayGrowEmit(one)))
	wantParseFault(t, "emit "+strings.Repeat("-", 7990)+"1;", 7, 0)
	wantParseFault(t, "emit 1"+strings.Repeat("+1", 3990)+";", 7, 0)
	wantParseFault(t, "emit "+strings.Repeat("[", 8000-5), 6, 8000)
	wantParseFault(t, "emit "+strings.Repeat("(", 8000-6)+")", 6, 7999)
}

func TestClayTreeMostSrc(t *testing.T) {
	src := "emit 1;" + strings.Repeat(" ", impl.ClayMaxSrc-7)
	wantRead(t, src, clayGrowFile(clayGrowEmit(clayGrowInt(1))))
	wantParseFault(t, src+" ", 1, 0)
	wantParseFault(t, "x"+src, 1, 0)
	// Texts of 1000 bytes, seven of them and one that fills up what is left.
	build := func(size int) clayBush {
		var texts []clayBush
		left := size - len("emit [];\n")
		for i := 0; left > 0; i++ {
			if i > 0 {
				left -= len(", ")
			}
			n := min(left-2, 1000)
			texts = append(texts, clayGrowText(impl.ClayNodeText, strings.Repeat("x", n)))
			left -= n + 2
		}
		return clayGrowFile(clayGrowEmit(clayGrowKind(impl.ClayNodeList, texts...)))
	}
	for _, n := range []int{impl.ClayMaxSrc - 1, impl.ClayMaxSrc} {
		b := build(n)
		text := b.text(noBrackets)
		if len(text) != n {
			t.Fatalf("%d bytes, want %d", len(text), n)
		}
		wantPrinted(t, b, text)
	}
	over := build(impl.ClayMaxSrc + 1)
	if text := impl.ClayPrint(over.tree()); text != "" || !impl.ClayValidTree(over.tree()) {
		t.Errorf("printed %d bytes", len(text))
	}
	// Bytes that take three to write.
	var wide []clayBush
	for range 3 {
		wide = append(wide, clayGrowText(impl.ClayNodeText, strings.Repeat("\n", 1000)))
	}
	e := func(texts []clayBush) clayBush {
		return clayGrowFile(clayGrowEmit(clayGrowKind(impl.ClayNodeList, texts...)))
	}
	wantPrinted(t, e(wide[:2]), e(wide[:2]).text(noBrackets))
	if text := impl.ClayPrint(e(wide).tree()); text != "" || !impl.ClayValidTree(e(wide).tree()) {
		t.Errorf("printed %d bytes", len(text))
	}
}

func TestClayTreeFields(t *testing.T) {
	one := clayGrowInt(1)
	record := func(texts ...string) clayBush {
		return clayGrowKind(impl.ClayNodeRecord, clayMany(len(texts), func(i int) clayBush { return clayGrowText(impl.ClayNodeField, texts[i], one) })...)
	}
	long := strings.Repeat("n", 30)
	for text, written := range map[string]string{
		"a": "a", "_": "_", "a9_z": "a9_z", long: long, long + "n": `"` + long + `n"`, "": `""`, "9a": `"9a"`, "0": `"0"`, "a b": `"a b"`, "A": `"A"`, "a-b": `"a-b"`,
		"a.b": `"a.b"`, "é": `"\c3\a9"`, "\x00": `"\00"`, "\"": `"\22"`, "a\n": `"a\0a"`, "#": `"#"`, ":": `":"`, "iff": "iff", "built": "built",
	} {
		wantE(t, record(text), "{"+written+": 1}")
		wantRead(t, "emit {"+clayQuoted(text)+":1};", clayGrowFile(clayGrowEmit(record(text))))
	}
	for _, word := range strings.Fields(clayWordList) {
		wantE(t, record(word), `{"`+word+`": 1}`)
		wantStop(t, "emit {@"+word+": 1};")
	}
	wantE(t, record(strings.Repeat("x", 1000)), `{"`+strings.Repeat("x", 1000)+`": 1}`)
	wantNotValid(t, "field of 1001 bytes", clayGrowFile(clayGrowEmit(record(strings.Repeat("x", 1001)))).tree())
	for _, texts := range [][]string{{"a", "a"}, {"", ""}, {"b c", "a", "b c"}, {"if", "x", "if"}} {
		b := clayGrowFile(clayGrowEmit(record(texts...)))
		wantNotValid(t, "two fields of one text", b.tree())
		wantParseFault(t, b.text(noBrackets), 7, 0)
	}
	wantParseFault(t, `emit {a: 1, b: 2, "a": 3};`, 7, 0)
	wantParseFault(t, `emit {"\61": 1, a: 3};`, 7, 0)
	wantE(t, clayGrowKind(impl.ClayNodeList, record("a"), record("a")), "[{a: 1}, {a: 1}]")
	wantE(t, clayGrowKind(impl.ClayNodeRecord, clayGrowText(impl.ClayNodeField, "a", record("a"))), "{a: {a: 1}}")
}

func TestClayTreeNamedArguments(t *testing.T) {
	f, one := clayGrowName("f"), clayGrowInt(1)
	named := func(name string) clayBush { return clayGrowText(impl.ClayNodeNamed, name, one) }
	call := func(kids ...clayBush) clayBush { return clayGrowKind(impl.ClayNodeCall, kids...) }
	wantE(t, call(f, clayGrowName("a"), named("a"), named("b")), "f(a, a = 1, b = 1)")
	wantE(t, call(call(f, named("a")), named("a")), "f(a = 1)(a = 1)")
	wantE(t, call(f, call(f, named("a")), clayGrowText(impl.ClayNodeNamed, "a", call(f, named("a")))), "f(f(a = 1), a = f(a = 1))")
	for _, kids := range [][]clayBush{{f, named("a"), named("a")}, {f, one, named("a"), named("b"), named("a")}} {
		b := clayGrowFile(clayGrowEmit(call(kids...)))
		wantNotValid(t, "two arguments of one name", b.tree())
		wantParseFault(t, b.text(noBrackets), 7, 0)
	}
	for _, kids := range [][]clayBush{{f, named("a"), one}, {named("a")}, {named("a"), f}, {f, named("a"), one, named("b")}} {
		wantNotValid(t, "named arguments not last", clayGrowFile(clayGrowEmit(call(kids...))).tree())
	}
	wantStop(t, "emit f(a = 1, @1);")
	wantStop(t, "emit f(a = 1, b@);")
	wantStop(t, "emit f(a = 1, b@, c = 2);")
	wantStop(t, "emit f(a = 1, b @+ 2);")
	wantStop(t, "emit f(a = 1, @(b) = 2);")
	wantStop(t, "emit f((a) @= 1);")
	wantStop(t, "emit f(a + b @= 1);")
	wantStop(t, "emit f(a.b @= 1);")
	wantStop(t, "emit f(if @= 1);")
	wantStop(t, `emit f("a" @= 1);`)
	wantStop(t, "emit f(a = b @= 1);")
	wantStop(t, "emit f(a @=> 1);")
	wantStop(t, "emit f(a@")
	wantStop(t, "emit f(a =@")
	wantStop(t, "emit f(a = 1@")
}

func TestClayTreePackages(t *testing.T) {
	a := clayGrowName("a")
	load := func(from string) clayBush { return clayGrowFile(clayGrowText(impl.ClayNodeLoad, from, a)) }
	want := func(from string, right bool) {
		t.Helper()
		src := "load " + clayQuoted(from) + ": a;\n"
		if right {
			wantPrinted(t, load(from), src)
			return
		}
		wantNotValid(t, "package "+from, load(from).tree())
		wantParseFault(t, src, 7, 0)
	}
	for b := range 256 {
		s := string([]byte{byte(b)})
		right := strings.Contains("abcdefghijklmnopqrstuvwxyz0123456789_-./", s)
		want(s, right)
		want("p"+s+"q", right)
		want("p"+s, right)
	}
	want("", false)
	want(strings.Repeat("p", 30), true)
	want(strings.Repeat("p", 31), false)
	want("if", true)
	want("..", true)
	want("é", false)
	wantRead(t, `load "\61/b" : a , a;`, clayGrowFile(clayGrowText(impl.ClayNodeLoad, "a/b", a, a)))
	wantStop(t, "load @p: a;")
	wantStop(t, `load "p": a, @;`)
	wantStop(t, `load "p": a @b;`)
	wantStop(t, `load "p" @a;`)
	wantStop(t, `load "p": @"a";`)
	wantStop(t, `load "p": @if;`)
	wantStop(t, `load "p": @(a);`)
	wantStop(t, `load "p": a@.b;`)
}

func TestClayParseHandsOnScanFaults(t *testing.T) {
	wantParseFault(t, strings.Repeat(" ", impl.ClayMaxSrc+1), 1, 0)
	wantParseFault(t, "emit 1 @;", 2, 7)
	wantParseFault(t, "emit 01;", 3, 5)
	wantParseFault(t, "emit \"a;", 4, 5)
	wantParseFault(t, "emit "+strings.Repeat("n", 31)+";", 5, 5)
	wantParseFault(t, "emit \""+strings.Repeat("n", 1001)+"\";", 5, 5)
	// Scan reads all of it first.
	wantParseFault(t, "x x x; @", 2, 7)
	wantParseFault(t, "emit {a: 1, a: 1}; \"", 4, 19)
	wantParseFault(t, "load \"X\": x; x", 6, 13)
}

func TestClayParseStops(t *testing.T) {
	for _, src := range []string{
		"@x;", "@;", "emit 1;@;", "@in;", "@1;", "@\"emit\" 1;", "@file;", "emit@", "emit @;", "emit 1@", "emit 1 @emit 1;", "emit 1 @1;", "emit a @b;",
		"let@", "let @1 = 1;", "let @if = 1;", "let a@;", "let a @== 1;", "let a =@", "let a = @;", "let a = 1@", "let a = 1 @in 2;", "let a = let b = 1 in 2 @in 3;",
		"def@", "def @(a) = 1;", "def f@", "def f @= 1;", "def f(@", "def f(@,) = 1;", "def f(a@", "def f(a @b) = 1;", "def f(a, @) = 1;", "def f(@1) = 1;", "def f(a = @) = 1;", "def f(a) @=> 1;", "def f(a) = @;", "def f(a@.b) = 1;", "def @if() = 1;", "def f(@(a)) = 1;",
		"emit fn @a => 1;", "emit fn(a) @= 1;", "emit fn(a, @) => 1;", "emit fn(a) => @;", "emit fn@", "emit fn(a = 1@; ) => 1;", "emit fn(@\"a\") => 1;",
		"emit if a @;", "emit if a then b @;", "emit if a then b else @;", "emit if @then", "emit if a @else b;", "emit if a then b@", "emit if a then b else c @else d;", "emit if a then b else c @then d;",
		"emit let @1 = 2 in 3;", "emit let a @in 3;", "emit let a = 2 @;", "emit let a = 2 in @;", "emit let a = 2 @= 3 in 4;",
		"emit [@", "emit [@,];", "emit [1 @2];", "emit [1, @];", "emit [1@;", "emit [1 @) ;", "emit [1 @: 2];", "emit [@for x in y];", "emit [x for @1 in y];", "emit [x for x @= y];", "emit [x for x in @];", "emit [x for x in y@, z];", "emit [x, y @for x in z];", "emit [x for x in y if @];", "emit [x for x in y if z @if z];", "emit [x for x in y @for x in y];", "emit [x for @if in y];", "emit [x for x in y if z@, 1];",
		"emit {@", "emit {@1: 2};", "emit {a @= 1};", "emit {a: @};", "emit {a: 1, @};", "emit {a: 1 @b: 2};", "emit {@[]: 1};", "emit {a: 1@];", "emit {\"a\" @+ \"b\": 1};", "emit {@(", "emit {@,};", "emit {a@};",
		"emit a.@", "emit a.@1;", "emit a.@if;", "emit a.@\"b\";", "emit a.@.b;", "emit a[@];", "emit a[1@, 2];", "emit a[1@;", "emit a(@,);", "emit a(1, @);", "emit a(1@;", "emit a(1@];", "emit a(@", "emit a(1 @for x in y);", "emit a[@",
		"emit (@);", "emit (1@;", "emit (1@, 2);", "emit (1 @]", "emit (@",
		"emit @* 2;", "emit 1 + @;", "emit 1 + @* 2;", "emit a @not b;", "emit a has @has b;", "emit a or @or b;", "emit a and @or b;", "emit not @;", "emit -@;", "emit - - @;", "emit @+1;", "emit a @= 1;", "emit a @=> 1;", "emit a == @not b;", "emit a + @not b;", "emit a has @let", "emit a has b @== c;", "emit 1 < -2 @> 3;",
		"emit a @\"b\";", "emit a @none;", "emit none @true;", "emit @then;", "emit @else;", "emit @in;", "emit @for;", "emit @def;", "emit @emit;", "emit @load;", "emit @or;", "emit @and;", "emit @has;", "emit @:;", "emit @.a;", "emit @=;", "emit @);", "emit @];", "emit @};",
	} {
		wantStop(t, src)
		// What comes behind does not count.
		at := strings.Index(src, "@")
		if strings.Trim(src[at:], "@") != "" {
			wantStop(t, src+" 1 ) = {a: 1, a: 2};")
		}
		wantStop(t, "load \"p\": x;\n"+src)
	}
	wantParseFault(t, "emit 1  # no more\n", 6, 18)
	wantParseFault(t, "emit", 6, 4)
	wantParseFault(t, "emit 1 +\n\n", 6, 10)
	// Texts are not the words and marks that they look like.
	wantStop(t, "emit 1 @\"+\" 2;")
	wantStop(t, "emit \"x\" @\"y\";")
	wantStop(t, "emit [1 @\",\" 2];")
	wantStop(t, "emit a @\"(\" 2);")
	wantRead(t, "emit [\"not\", \"(\", \"]\"];", clayGrowFile(clayGrowEmit(clayGrowKind(impl.ClayNodeList,
		clayGrowText(impl.ClayNodeText, "not"), clayGrowText(impl.ClayNodeText, "("), clayGrowText(impl.ClayNodeText, "]")))))
	wantStop(t, "emit f(a @\"=\" 1);")
}

func TestClayParseCode7(t *testing.T) {
	for _, src := range []string{
		`load "X": a;`, `load "": a;`, "emit {a: 1, a: 2};", "emit f(a = 1, a = 2);", "emit f(1, 2, 3, 4, 5, 6, 7, 8, 9);", "emit fn(a, b, c, d, e, f, g, h, i) => 1;",
	} {
		wantParseFault(t, src, 7, 0)
		wantParseFault(t, "emit 1;\n"+src+"emit 2;", 7, 0)
		// A token at which no tree can go on counts first.
		wantParseFault(t, src+";", 6, len(src))
		wantParseFault(t, src+"emit 1", 6, len(src)+6)
	}
}

func TestClayValidTreeOfWrongNodes(t *testing.T) {
	a, one := clayGrowName("a"), clayGrowInt(1)
	e := func(b clayBush) impl.ClayTree { return clayGrowFile(clayGrowEmit(b)).tree() }
	bare := func(n impl.ClayNode) impl.ClayTree { return e(clayGrow(n)) }
	for _, kind := range []int{-1, 0, 25, 1 << 40, -1 << 63, 24} {
		wantNotValid(t, "kind", bare(impl.ClayNode{Kind: kind}))
		wantNotValid(t, "kind over kids", e(clayGrowKind(kind, a)))
		wantNotValid(t, "kind alone", impl.ClayTree{Nodes: []impl.ClayNode{{Kind: kind}, {Kind: kind, Kids: 1}}})
	}
	for _, n := range []impl.ClayNode{
		{Kind: impl.ClayNodeNone, Op: 1}, {Kind: impl.ClayNodeNone, N: 1}, {Kind: impl.ClayNodeNone, Text: "a"}, {Kind: impl.ClayNodeBool, N: 2}, {Kind: impl.ClayNodeBool, N: -1},
		{Kind: impl.ClayNodeBool, Text: "true"}, {Kind: impl.ClayNodeInt, N: -1}, {Kind: impl.ClayNodeInt, N: -1 << 63}, {Kind: impl.ClayNodeInt, N: 1, Text: "1"},
		{Kind: impl.ClayNodeText, Text: strings.Repeat("x", 1001)}, {Kind: impl.ClayNodeText, N: 1}, {Kind: impl.ClayNodeName}, {Kind: impl.ClayNodeName, Text: "A"},
		{Kind: impl.ClayNodeName, Text: "if"}, {Kind: impl.ClayNodeName, Text: "1a"}, {Kind: impl.ClayNodeName, Text: "a b"}, {Kind: impl.ClayNodeName, Text: "a "},
		{Kind: impl.ClayNodeName, Text: strings.Repeat("n", 31)}, {Kind: impl.ClayNodeName, Text: "a", N: 1}, {Kind: impl.ClayNodeName, Text: "a", Op: 1},
	} {
		wantNotValid(t, "leaf", bare(n))
	}
	for _, op := range []int{-1, 0, 3, 15, 1 << 32} {
		wantNotValid(t, "un", e(clayGrowUn(op, a)))
		if op != 3 {
			wantNotValid(t, "bin", e(clayGrowBin(op, a, a)))
		}
	}
	for _, kind := range []int{impl.ClayNodeDot, impl.ClayNodeLet, impl.ClayNodeEach} {
		for _, name := range []string{"", "A", "in", "0", "a.b", strings.Repeat("n", 31)} {
			kids := []clayBush{a, one}
			if kind == impl.ClayNodeDot {
				kids = kids[:1]
			}
			wantNotValid(t, "text", e(clayGrowText(kind, name, kids...)))
		}
	}
	for _, kids := range []int{-1, 1, 2, 1 << 62, -1 << 63, 1<<63 - 1} {
		tree := bare(impl.ClayNode{Kind: impl.ClayNodeNone})
		tree.Nodes[0].Kids = kids
		wantNotValid(t, "kids", tree)
		tree = bare(impl.ClayNode{Kind: impl.ClayNodeNone})
		tree.Nodes[2].Kids = kids + 1
		wantNotValid(t, "kids of the file", tree)
	}
	right := e(a).Nodes
	wantNotValid(t, "a node before", impl.ClayTree{Nodes: append([]impl.ClayNode{{Kind: impl.ClayNodeNone}}, right...)})
	wantNotValid(t, "a file before", impl.ClayTree{Nodes: append([]impl.ClayNode{{Kind: impl.ClayNodeFile}}, right...)})
	wantNotValid(t, "a file in a file", impl.ClayTree{Nodes: append(slices.Clone(right), impl.ClayNode{Kind: impl.ClayNodeFile, Kids: 1})})
	wantNotValid(t, "a node behind", impl.ClayTree{Nodes: append(slices.Clone(right), impl.ClayNode{Kind: impl.ClayNodeNone})})
	wantNotValid(t, "two files", impl.ClayTree{Nodes: append(slices.Clone(right), right...)})
	wantNotValid(t, "no file", impl.ClayTree{Nodes: right[:2]})
	wantNotValid(t, "an E alone", impl.ClayTree{Nodes: right[:1]})
	wantNotValid(t, "an E in a file", clayGrowFile(a).tree())
}

// clayAround puts a bush where one of its kind may stand.
func clayAround(b clayBush) clayBush {
	one := clayGrowInt(1)
	switch b.top.Kind {
	case impl.ClayNodeField:
		b = clayGrowKind(impl.ClayNodeRecord, b)
	case impl.ClayNodeNamed:
		b = clayGrowKind(impl.ClayNodeCall, one, b)
	case impl.ClayNodeParam:
		b = clayGrowKind(impl.ClayNodeFn, b, one)
	case impl.ClayNodeDef, impl.ClayNodeSet, impl.ClayNodeEmit, impl.ClayNodeLoad:
		return clayGrowFile(b)
	case impl.ClayNodeFile:
		return b
	}
	return clayGrowFile(clayGrowEmit(b))
}

// Each kind over each few kids is valid just where the document's words say so.
func TestClayValidTreeOfAllKids(t *testing.T) {
	t.Parallel()
	one := clayGrowInt(1)
	sorts := []clayBush{
		clayGrowName("a"), one, clayGrowText(impl.ClayNodeField, "b", one), clayGrowText(impl.ClayNodeNamed, "c", one), clayGrowText(impl.ClayNodeParam, "d"),
		clayGrowText(impl.ClayNodeLoad, "p", clayGrowName("e")), clayGrowFile(),
	}
	uses := map[int]impl.ClayNode{impl.ClayNodeUn: {Op: 2}, impl.ClayNodeBin: {Op: 5}}
	for _, kind := range []int{4, 5, 11, 14, 16, 17, 18, 19, 20, 21, 23} {
		uses[kind] = impl.ClayNode{Text: "x"}
	}
	var kids []clayBush
	var ask func(kind, left int)
	ask = func(kind, left int) {
		top := uses[kind]
		top.Kind = kind
		b := clayAround(clayGrow(top, kids...))
		if right := isRightClayTree(b.tree()); right {
			wantPrinted(t, b, b.text(noBrackets))
		} else {
			wantNotValid(t, "kids", b.tree())
		}
		for i := 0; left > 0 && i < len(sorts); i++ {
			kids = append(kids, sorts[i])
			ask(kind, left-1)
			kids = kids[:len(kids)-1]
		}
	}
	for kind := 0; kind <= 25; kind++ {
		ask(kind, 4)
	}
}

// clayDice gives numbers by a fixed rule.
type clayDice uint32

func (d *clayDice) below(n int) int {
	*d = *d*1664525 + 1013904223
	return int(*d>>8) % n
}

func (d *clayDice) pick(texts ...string) string { return texts[d.below(len(texts))] }

func (d *clayDice) name() string { return d.pick("a", "b", "c", "x", "_", "z9_", "iff", "len") }

func (d *clayDice) text() string {
	return d.pick("", "a", "if", "x y", "\"", "\\", "\n\x00\xff", "#", "a\"b", "9", "é")
}

// e makes an E that is at most so deep.
func (d *clayDice) e(deep int) clayBush {
	kind := 1 + d.below(16)
	if deep == 0 {
		kind = 1 + d.below(5)
	}
	less := func() clayBush { return d.e(deep - 1) }
	several := func(most int) []clayBush { return clayMany(d.below(most+1), func(int) clayBush { return less() }) }
	switch kind {
	case impl.ClayNodeBool:
		return clayGrow(impl.ClayNode{Kind: kind, N: int64(d.below(2))})
	case impl.ClayNodeInt:
		return clayGrowInt([]int64{0, 1, 10, 1<<63 - 1}[d.below(4)])
	case impl.ClayNodeText:
		return clayGrowText(kind, d.text())
	case impl.ClayNodeName:
		return clayGrowName(d.name())
	case impl.ClayNodeUn:
		return clayGrowUn(1+d.below(2), less())
	case impl.ClayNodeBin:
		return clayGrowBin(1+d.below(14), less(), less())
	case impl.ClayNodeList:
		return clayGrowKind(kind, several(3)...)
	case impl.ClayNodeRecord:
		return clayGrowKind(kind, d.differ(impl.ClayNodeField, several(3), d.text)...)
	case impl.ClayNodeIndex:
		return clayGrowKind(kind, less(), less())
	case impl.ClayNodeDot:
		return clayGrowText(kind, d.name(), less())
	case impl.ClayNodeCall:
		kids := append([]clayBush{less()}, several(2)...)
		return clayGrowKind(kind, append(kids, d.differ(impl.ClayNodeNamed, several(2), d.name)...)...)
	case impl.ClayNodeIf:
		return clayGrowKind(kind, less(), less(), less())
	case impl.ClayNodeLet:
		return clayGrowText(kind, d.name(), less(), less())
	case impl.ClayNodeFn:
		return clayGrowKind(kind, append(d.params(deep-1), less())...)
	case impl.ClayNodeEach:
		kids := []clayBush{less(), less(), less()}
		return clayGrowText(kind, d.name(), kids[:2+d.below(2)]...)
	}
	return clayGrowKind(impl.ClayNodeNone)
}

// differ puts nodes of a kind over the kids, each with another text.
func (d *clayDice) differ(kind int, kids []clayBush, text func() string) []clayBush {
	var over []clayBush
	var used []string
	for _, kid := range kids {
		s := text()
		if !slices.Contains(used, s) {
			used = append(used, s)
			over = append(over, clayGrowText(kind, s, kid))
		}
	}
	return over
}

func (d *clayDice) params(deep int) []clayBush {
	return clayMany(d.below(3), func(int) clayBush {
		if d.below(2) == 0 {
			return clayGrowText(impl.ClayNodeParam, d.name())
		}
		return clayGrowText(impl.ClayNodeParam, d.name(), d.e(max(deep, 0)))
	})
}

func (d *clayDice) file(statements, deep int) clayBush {
	return clayGrowFile(clayMany(statements, func(int) clayBush {
		switch d.below(4) {
		case 0:
			return clayGrowText(impl.ClayNodeDef, d.name(), append(d.params(deep), d.e(deep))...)
		case 1:
			return clayGrowText(impl.ClayNodeSet, d.name(), d.e(deep))
		case 2:
			return clayGrowText(impl.ClayNodeLoad, d.pick("p", "a/b", "x-1.y_"), clayMany(1+d.below(3), func(int) clayBush { return clayGrowName(d.name()) })...)
		}
		return clayGrowEmit(d.e(deep))
	})...)
}

// spread writes the tokens of src with other gaps between them.
func (d *clayDice) spread(t *testing.T, src string) string {
	rules := clayRules()
	tokens, ends, fault := scanByRules(rules, src)
	if fault != (impl.ClayFault{}) {
		t.Fatalf("%q: %+v", src, fault)
	}
	out := d.pick("", " ", "# note ( [ \n", "\n")
	for i, token := range tokens {
		piece := src[token.At:ends[i]]
		// Without a gap only where the two pieces are still read as two.
		joined, _, _ := scanByRules(rules, out+piece)
		apart, _, _ := scanByRules(rules, out+" "+piece)
		if len(joined) != len(apart) || d.below(2) == 0 {
			out += d.pick(" ", "\n", "  ", "# a \"note\"\n", "\n#\n#(\n ")
		}
		out += piece
	}
	return out + d.pick("", " ", "\n", "#", "# }")
}

// Promise 2, for trees of all kinds that are put together by a fixed rule, as written, with needless brackets and with other gaps.
func TestClayTreeThereAndBack(t *testing.T) {
	dice := clayDice(7)
	for i := range 3000 {
		b := dice.file(1+dice.below(3), i%5)
		text := b.text(noBrackets)
		if len(text) > impl.ClayMaxSrc {
			continue
		}
		wantPrinted(t, b, text)
		loose := b.text(func() int { return max(0, dice.below(5)-2) })
		if len(loose) > impl.ClayMaxSrc {
			continue
		}
		wantRead(t, loose, b)
		if i%10 == 0 && len(loose) < 500 {
			src := dice.spread(t, loose)
			tree, fault := impl.ClayParse(src)
			if again := impl.ClayPrint(tree); fault.Code != 0 || again != text {
				t.Errorf("%q: %+v, printed %q, want %q", src, fault, again, text)
			}
		}
		if t.Failed() {
			return
		}
	}
}

// An E stands in brackets only where they are needed: without them it is another tree, or none.
func TestClayPrintNoNeedlessBrackets(t *testing.T) {
	dice := clayDice(11)
	tried := 0
	for i := range 400 {
		b := clayGrowFile(clayGrowEmit(dice.e(i % 4)))
		text := impl.ClayPrint(b.tree())
		tokens, _ := impl.ClayScan(text)
		for open, token := range tokens {
			if token.Kind != impl.ClayTokMark || token.Text != "(" {
				continue
			}
			close, depth := open, 0
			for ; ; close++ {
				if tokens[close].Kind == impl.ClayTokMark && tokens[close].Text == "(" {
					depth++
				} else if tokens[close].Kind == impl.ClayTokMark && tokens[close].Text == ")" {
					depth--
				}
				if depth == 0 {
					break
				}
			}
			without := text[:token.At] + " " + text[token.At+1:tokens[close].At] + " " + text[tokens[close].At+1:]
			tried++
			tree, fault := impl.ClayParse(without)
			if fault.Code == 0 && slices.Equal(tree.Nodes, b.nodes()) {
				t.Fatalf("needless brackets: %q, as %q", text, without)
			}
		}
	}
	if tried < 100 {
		t.Errorf("only %d brackets", tried)
	}
}

// clayGrammar is the document's table with its ranks, each line what a thing may be.
const clayGrammar = `
FILE: S | FILE S
S: def NAME ( ) = E ; | def NAME ( PS ) = E ; | let NAME = E ; | emit E ; | load TEXT : NS ;
NS: NAME | NS , NAME
PS: P | PS , P
P: NAME | NAME = E
E: let NAME = E in E | if E then E else E | fn ( ) => E | fn ( PS ) => E | E1
E1: E1 or E2 | E2
E2: E2 and E3 | E3
E3: not E3 | E4
E4: E5 == E5 | E5 != E5 | E5 < E5 | E5 <= E5 | E5 > E5 | E5 >= E5 | E5 has E5 | E5
E5: E5 + E6 | E5 - E6 | E6
E6: E6 * E7 | E6 / E7 | E6 % E7 | E7
E7: - E7 | E8
E8: E8 [ E ] | E8 . NAME | E8 ( ) | E8 ( AS ) | E8 ( AS , BS ) | E8 ( BS ) | E9
AS: E | AS , E
BS: B | BS , B
B: NAME = E
E9: none | false | true | INT | TEXT | NAME | [ ] | [ AS ] | { } | { FS } | ( E ) | [ E for NAME in E ] | [ E for NAME in E if E ]
FS: F | FS , F
F: NAME : E | TEXT : E
`

// chartLine is a thing with one of the ways to write it, of which so many parts are read, from a place on.
type chartLine struct {
	thing string
	way   string
	read  int
	from  int
}

// chart holds for each place between tokens what may be under way there, by a grammar whose first line is the whole.
type chart struct {
	whole string
	ways  map[string][]string
	parts map[string][]string
	sets  [][]chartLine
}

func newChart(grammar string) *chart {
	c := &chart{ways: map[string][]string{}, parts: map[string][]string{}}
	for line := range strings.Lines(strings.TrimSpace(grammar)) {
		thing, ways, _ := strings.Cut(strings.TrimSpace(line), ": ")
		if c.whole == "" {
			c.whole = thing
		}
		c.ways[thing] = strings.Split(ways, " | ")
		for _, way := range c.ways[thing] {
			c.parts[way] = strings.Fields(way)
		}
	}
	var first []chartLine
	for _, way := range c.ways[c.whole] {
		first = append(first, chartLine{c.whole, way, 0, 0})
	}
	c.sets = [][]chartLine{c.closed(first)}
	return c
}

// closed adds to what is under way all that follows from it without a token.
func (c *chart) closed(set []chartLine) []chartLine {
	here := len(c.sets)
	seen := map[chartLine]struct{}{}
	add := func(l chartLine) {
		if _, ok := seen[l]; !ok {
			seen[l] = struct{}{}
			set = append(set, l)
		}
	}
	for _, l := range set {
		seen[l] = struct{}{}
	}
	for i := 0; i < len(set); i++ {
		l := set[i]
		parts := c.parts[l.way]
		if l.read < len(parts) {
			for _, way := range c.ways[parts[l.read]] {
				add(chartLine{parts[l.read], way, 0, here})
			}
			continue
		}
		for _, m := range c.sets[l.from] {
			if parts := c.parts[m.way]; m.read < len(parts) && parts[m.read] == l.thing {
				add(chartLine{m.thing, m.way, m.read + 1, m.from})
			}
		}
	}
	return set
}

// goes reads a token, if the whole can go on with it.
func (c *chart) goes(token string) bool {
	var next []chartLine
	for _, l := range c.sets[len(c.sets)-1] {
		if parts := c.parts[l.way]; l.read < len(parts) && parts[l.read] == token {
			next = append(next, chartLine{l.thing, l.way, l.read + 1, l.from})
		}
	}
	if len(next) == 0 {
		return false
	}
	c.sets = append(c.sets, c.closed(next))
	return true
}

// ended says whether the whole may end here; where there is nothing at all it may.
func (c *chart) ended() bool {
	if len(c.sets) == 1 {
		return true
	}
	return slices.ContainsFunc(c.sets[len(c.sets)-1], func(l chartLine) bool {
		return l.thing == c.whole && l.from == 0 && l.read == len(c.parts[l.way])
	})
}

// clayStopByGrammar is the fault of code 6 by the grammar.
func clayStopByGrammar(c *chart, src string, tokens []impl.ClayToken) impl.ClayFault {
	c.sets = c.sets[:1]
	for _, token := range tokens {
		what := token.Text
		switch token.Kind {
		case impl.ClayTokName:
			what = "NAME"
		case impl.ClayTokInt:
			what = "INT"
		case impl.ClayTokText:
			what = "TEXT"
		}
		if !c.goes(what) {
			return impl.ClayFault{Code: 6, At: token.At}
		}
	}
	if !c.ended() {
		return impl.ClayFault{Code: 6, At: len(src)}
	}
	return impl.ClayFault{}
}

// clayAlphabet has each token that the grammar tells apart.
const clayAlphabet = `NAME INT TEXT none true not - + * < == or and has ( ) [ ] { } , ; : . = => if then else let in fn for def emit load`

// readOnByGrammar asks for each text that goes on behind src, by so many tokens, whether Parse stops where the grammar does.
func readOnByGrammar(t *testing.T, c *chart, src string, left int) {
	if fault := (impl.ClayFault{Code: 6, At: len(src)}); c.ended() {
		if _, got := impl.ClayParse(src); got.Code == 6 {
			t.Errorf("%q: %+v, though it can end", src, got)
		}
	} else if _, got := impl.ClayParse(src); got != fault {
		t.Errorf("%q: %+v, want %+v", src, got, fault)
	}
	if left == 0 {
		return
	}
	depth := len(c.sets)
	for token := range strings.FieldsSeq(clayAlphabet) {
		piece := token
		switch token {
		case "NAME":
			piece = "a" + strconv.Itoa(depth)
		case "INT":
			piece = "7"
		case "TEXT":
			piece = `"t` + strconv.Itoa(depth) + `"`
		}
		if c.goes(token) {
			readOnByGrammar(t, c, src+piece+" ", left-1)
			c.sets = c.sets[:depth]
		} else {
			wantParseFault(t, src+piece+" ; 1", 6, len(src))
		}
		if t.Failed() {
			return
		}
	}
}

// The token at which nothing goes on, by a second reading of the forms.
func TestClayParseAsByGrammar(t *testing.T) {
	t.Parallel()
	c := newChart(clayGrammar)
	for src, left := range map[string]int{
		"": 4, "emit ": 4, "emit [ ": 3, "emit a ( ": 3, "emit a < b ": 3, "emit not a ": 3, "emit fn ( a ": 3, "emit { ": 4, "emit [ a for ": 4, "emit a ( b = c , ": 3,
		"emit if a then b else ": 2, "emit let a = b ": 3, "def f ( a ": 3, "load \"p\" : ": 4, "emit - a ": 3, "emit ( ": 3, "emit a * ": 3, "emit 1 ; ": 3,
	} {
		tokens, _ := impl.ClayScan(src)
		clayStopByGrammar(c, src, tokens)
		readOnByGrammar(t, c, src, left)
	}
}

// The same for longer texts in which a token is changed, taken out, doubled or put in.
func TestClayParseSpoiltTexts(t *testing.T) {
	t.Parallel()
	dice := clayDice(3)
	c := newChart(clayGrammar)
	pieces := strings.Fields(clayAlphabet)
	for i := range 3000 {
		text := dice.file(1+dice.below(2), 1+i%3).text(func() int { return dice.below(4) / 3 })
		if len(text) > 300 {
			continue
		}
		tokens, ends, _ := scanByRules(clayRules(), text)
		var parts []string
		for i, token := range tokens {
			parts = append(parts, text[token.At:ends[i]])
		}
		for range dice.below(3) {
			at := dice.below(len(parts))
			piece := strings.NewReplacer("NAME", "n", "INT", "5", "TEXT", `""`).Replace(pieces[dice.below(len(pieces))])
			switch dice.below(4) {
			case 0:
				parts[at] = piece
			case 1:
				parts = slices.Insert(parts, at, piece)
			case 2:
				parts = slices.Insert(parts, at, parts[dice.below(len(parts))])
			case 3:
				if len(parts) > 1 {
					parts = slices.Delete(parts, at, at+1)
				}
			}
		}
		src := strings.Join(parts, " ")
		tokens, fault := impl.ClayScan(src)
		if fault.Code != 0 {
			t.Fatalf("%q: %+v", src, fault)
		}
		want := clayStopByGrammar(c, src, tokens)
		tree, got := impl.ClayParse(src)
		if got != want && (want.Code != 0 || got != impl.ClayFault{Code: 7}) {
			t.Fatalf("%q: got %+v, want %+v", src, got, want)
		}
		if got.Code == 0 && !isRightClayTree(tree) || got.Code != 0 && len(tree.Nodes) != 0 {
			t.Fatalf("%q: %+v", src, tree)
		}
	}
}

// Trees of which a node is changed, taken out, doubled or put elsewhere are valid just where the document's words say so.
func TestClayValidTreeOfBentTrees(t *testing.T) {
	dice := clayDice(5)
	rights := 0
	for i := range 30000 {
		b := dice.file(dice.below(3), i%4)
		nodes := b.nodes()
		for range 1 + dice.below(2) {
			at := dice.below(len(nodes))
			if len(nodes) > 1 && dice.below(4) == 0 {
				switch dice.below(3) {
				case 0:
					nodes = slices.Delete(nodes, at, at+1)
				case 1:
					nodes = slices.Insert(nodes, at, nodes[dice.below(len(nodes))])
				case 2:
					other := dice.below(len(nodes))
					nodes[at], nodes[other] = nodes[other], nodes[at]
				}
				continue
			}
			switch dice.below(5) {
			case 0:
				nodes[at].Kind = dice.below(27) - 1
			case 1:
				nodes[at].Op = dice.below(17) - 1
			case 2:
				nodes[at].N = int64(dice.below(4) - 1)
			case 3:
				nodes[at].Text = dice.pick(dice.name(), dice.text())
			case 4:
				nodes[at].Kids += dice.below(3) - 1
			}
		}
		tree := impl.ClayTree{Nodes: nodes}
		right := isRightClayTree(tree)
		if impl.ClayValidTree(tree) != right {
			t.Fatalf("valid %v: %+v", !right, nodes)
		}
		if right {
			rights++
			got, _, _ := clayBushOf(nodes)
			if text := got.text(noBrackets); len(text) <= impl.ClayMaxSrc {
				wantPrinted(t, got, text)
			}
		} else {
			wantNotValid(t, "bent", tree)
		}
		if t.Failed() {
			return
		}
	}
	if rights < 3000 {
		t.Errorf("only %d were right", rights)
	}
}

func FuzzClayParse(f *testing.F) {
	f.Add("load \"p\": a, b; def f(x, y = 1) = if x then -y.z else [y[1] for q in {a: 1} if not q()]; emit let a = fn() => 1 in a == 2;")
	c := newChart(clayGrammar)
	f.Fuzz(func(t *testing.T, src string) {
		tokens, fault := impl.ClayScan(src)
		if len(tokens) > 100 {
			return
		}
		if fault.Code == 0 {
			fault = clayStopByGrammar(c, src, tokens)
		}
		tree, got := impl.ClayParse(src)
		if got != fault && (fault.Code != 0 || got != impl.ClayFault{Code: 7}) {
			t.Fatalf("%q: got %+v, want %+v", src, got, fault)
		}
		if got.Code != 0 {
			return
		}
		b, _, ok := clayBushOf(tree.Nodes)
		if !ok || !isRightClayTree(tree) {
			t.Fatalf("%q: %+v", src, tree)
		}
		if text := b.text(noBrackets); len(text) <= impl.ClayMaxSrc {
			wantPrinted(t, b, text)
		}
	})
}

func TestClayTreeAnswersNewMemory(t *testing.T) {
	src := string([]byte("load \"pack\": abc; def f(x) = {abc: \"text\", \"b c\": x.abc}; emit f(x = 1);"))
	first, _ := impl.ClayParse(src)
	for _, n := range first.Nodes {
		if sharesBytes(src, n.Text) {
			t.Errorf("%+v shares memory with src", n)
		}
	}
	want := slices.Clone(first.Nodes)
	text := impl.ClayPrint(first)
	for i := range first.Nodes {
		first.Nodes[i] = impl.ClayNode{Kind: -1}
	}
	_ = append(first.Nodes, impl.ClayNode{Kind: -2})
	if second, fault := impl.ClayParse(src); fault.Code != 0 || !slices.Equal(second.Nodes, want) {
		t.Errorf("read again: %+v %+v", second, fault)
	}
	// Nothing is written into the argument, nor behind its end.
	room := append(slices.Clone(want), make([]impl.ClayNode, 50)...)
	for i := len(want); i < len(room); i++ {
		room[i] = impl.ClayNode{Kind: 99, Text: "room"}
	}
	kept := slices.Clone(room)
	given := impl.ClayTree{Nodes: room[:len(want)]}
	if !impl.ClayValidTree(given) || impl.ClayPrint(given) != text || !slices.Equal(room, kept) {
		t.Errorf("the argument was changed")
	}
	for _, n := range given.Nodes {
		if sharesBytes(n.Text, text) {
			t.Errorf("the text shares memory with %+v", n)
		}
	}
}
