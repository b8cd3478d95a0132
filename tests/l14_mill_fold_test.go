package tests

import (
	"fmt"
	"math/big"
	"slices"
	"strconv"
	"strings"
	"testing"

	"loop.example/kilnyard/impl"
)

func (b millBush) isLiteral() bool { return b.top.Kind <= impl.MillNodeBool }

// literalValue is the value of a literal.
func (b millBush) literalValue() impl.MillValue {
	switch b.top.Kind {
	case impl.MillNodeInt:
		return millValueOf(b.top.Type, b.top.N)
	case impl.MillNodeText:
		return millTextValue(b.top.Text)
	}
	return millBoolValue(b.top.N == 1)
}

// millGrowValue is the literal of a value, if there is one.
func millGrowValue(v impl.MillValue) (b millBush, ok bool) {
	switch v.Type {
	case impl.MillTypeBool:
		return millGrowBool(v.N), true
	case impl.MillTypeText:
		return millGrowText(impl.MillNodeText, v.Text), true
	}
	return millGrowInt(v.Type, v.N), millNumberIs(v).Sign() >= 0
}

// folded is what a bush becomes as the document says it, word by word.
func (b millBush) folded() millBush {
	var kids []millBush
	var values []impl.MillValue
	for _, kid := range b.kids {
		kid = kid.folded()
		kids = append(kids, kid)
		if kid.isLiteral() {
			values = append(values, kid.literalValue())
		}
	}
	made := millGrow(b.top, kids...)
	literals := len(values) == len(kids)
	switch n := b.top; {
	case n.Kind == impl.MillNodeBin && n.Op == impl.MillOpAnd && kids[0].isLiteral():
		if kids[0].top.N == 1 {
			return kids[1]
		}
		return millGrowBool(0)
	case n.Kind == impl.MillNodeBin && n.Op == impl.MillOpOr && kids[0].isLiteral():
		if kids[0].top.N == 1 {
			return millGrowBool(1)
		}
		return kids[1]
	case n.Kind == impl.MillNodeBin && n.Op <= impl.MillOpAnd:
	case literals && (n.Kind == impl.MillNodeUn || n.Kind == impl.MillNodeBin || n.Kind == impl.MillNodeConv || n.Kind == impl.MillNodeBuilt && n.Op >= impl.MillBuiltLen):
		v, word := millDoByRules(millWhat(n), values)
		if word != "" {
			return made
		}
		if literal, ok := millGrowValue(v); ok {
			return literal
		}
	}
	return made
}

// wantMillFolded folds a tree that fits, holds it against the second reading, and asks for promise 18.
func wantMillFolded(t *testing.T, tree impl.MillTree) impl.MillTree {
	t.Helper()
	kept := slices.Clone(tree.Nodes)
	got := impl.MillFold(tree)
	b, _, _ := millBushOf(kept)
	if want := b.folded(); !slices.Equal(got.Nodes, want.nodes()) {
		t.Errorf("%.1500q: got %.1500q, want %.1500q", impl.MillPrint(tree), impl.MillPrint(got), impl.MillPrint(want.tree()))
	}
	if !slices.Equal(tree.Nodes, kept) {
		t.Errorf("%.1500q: the argument was changed", impl.MillPrint(tree))
	}
	if fault := impl.MillCheck(got); fault.Code != 0 || len(got.Nodes) > len(tree.Nodes) || !isRightMillTree(got) {
		t.Errorf("%.1500q: folded to %d nodes from %d, %+v", impl.MillPrint(tree), len(got.Nodes), len(tree.Nodes), fault)
	}
	if again := impl.MillFold(got); !slices.Equal(again.Nodes, got.Nodes) {
		t.Errorf("%.1500q: folded again: %.1500q", impl.MillPrint(got), impl.MillPrint(again))
	}
	return got
}

// millFoldFront and millFoldBack stand around an E whose names have all types.
const (
	millFoldFront = `fn f(s text, b bool, n i64, c u8, m u64, k i8, j u32) -> text { let l = "l"; let t = true; let one = 1; let v = `
	millFoldBack  = `; return s; } fn flag(a bool, n i64) -> bool { return a; } fn count() -> i64 { return 1; }` + millEnd
)

// wantMillFolds holds each E against what it is folded to; the empty text stands for the E itself.
func wantMillFolds(t *testing.T, pairs ...string) {
	t.Helper()
	if len(pairs)%2 != 0 {
		t.Fatalf("%d texts are no pairs", len(pairs))
	}
	for i := 0; i < len(pairs); i += 2 {
		e, want := pairs[i], pairs[i+1]
		if want == "" {
			want = e
		}
		wantMillFoldsIn(t, millFoldFront+e+millFoldBack, millFoldFront+want+millFoldBack)
	}
}

// wantMillFoldsIn asks that the program of a text is folded to that of another.
func wantMillFoldsIn(t *testing.T, src, want string) {
	t.Helper()
	tree, wanted := millOf(t, src).tree(), millOf(t, want).tree()
	if fault := impl.MillCheck(tree); fault.Code != 0 {
		t.Fatalf("%.500q: %+v", src, fault)
	}
	if got := wantMillFolded(t, tree); !slices.Equal(got.Nodes, wanted.Nodes) {
		t.Errorf("%.500q: folded to %.500q, want %.500q", impl.MillPrint(tree), impl.MillPrint(got), want)
	}
}

// millNameOf is the name of a frame that has a type.
func millNameOf(kind int) string { return "p_" + millTypeTexts[kind] }

// millGiverOf is the function of a frame that gives a type.
func millGiverOf(kind int) string { return "give_" + millTypeTexts[kind] }

// millFrame is a program in which each E is set to a name of its type; a name and a function of each type are there.
func millFrame(es []millBush, kinds []int) millBush {
	var statements, fns []millBush
	for kind := 1; kind <= 10; kind++ {
		statements = append(statements, millGrowText(impl.MillNodeLet, millNameOf(kind), millOfType(kind)))
		fns = append(fns, millGrowFn(millGiverOf(kind), kind, millGrowBlock(millGrowFail(millOfType(impl.MillTypeText)))))
	}
	for i, e := range es {
		statements = append(statements, millGrowText(impl.MillNodeSet, millNameOf(kinds[i]), e))
	}
	return millWith(append(fns, millGrowFn("f", impl.MillTypeNone, millGrowBlock(statements...)))...)
}

// wantMillAllFolded asks the same of many E, and gives what each of them became.
func wantMillAllFolded(t *testing.T, es []millBush, kinds []int) []millBush {
	t.Helper()
	var became []millBush
	for from := 0; from < len(es); from += 100 {
		to := min(from+100, len(es))
		frame := millFrame(es[from:to], kinds[from:to])
		if fault := impl.MillCheck(frame.tree()); fault.Code != 0 {
			t.Fatalf("%.500q: %+v", frame.text(noBrackets), fault)
		}
		b, _, ok := millBushOf(wantMillFolded(t, frame.tree()).Nodes)
		if !ok || len(b.kids) != len(frame.kids) {
			t.Fatal("no program")
		}
		for i, statement := range b.kids[10].kids[0].kids[10:] {
			if statement.top.Text != millNameOf(kinds[from+i]) {
				t.Errorf("%+v", statement.top)
			}
			became = append(became, statement.kids[0])
		}
	}
	if len(became) != len(es) {
		t.Fatalf("%d of %d", len(became), len(es))
	}
	return became
}

func (b millBush) isSame(other millBush) bool { return slices.Equal(b.nodes(), other.nodes()) }

// millNoLiterals are E of a type that are no literals and stay as they are.
func millNoLiterals(kind int) []millBush {
	some := []millBush{millGrowName(millNameOf(kind)), millGrowCall(millGiverOf(kind))}
	switch kind {
	case impl.MillTypeBool:
		return append(some, millGrowBuilt(impl.MillBuiltHas, millGrowText(impl.MillNodeText, "x")))
	case impl.MillTypeText:
		return append(some, millGrowBuilt(impl.MillBuiltArg), millGrowBuilt(impl.MillBuiltRead, millGrowText(impl.MillNodeText, "x")))
	}
	zero := millGrowInt(kind, 0)
	some = append(some, millGrowBin(impl.MillOpDiv, zero, zero))
	if _, sign := millWide(kind); sign {
		some = append(some, millGrowUn(impl.MillOpNeg, millGrowInt(kind, 1)))
	}
	return some
}

// millFewLiterals are literals of a type, its ends among them.
func millFewLiterals(kind int) []millBush {
	switch kind {
	case impl.MillTypeBool:
		return []millBush{millGrowBool(0), millGrowBool(1)}
	case impl.MillTypeText:
		var texts []millBush
		for _, text := range []string{"", "a", "abc", "12", "-3", "9223372036854775807", "\x00\xff", strings.Repeat("x", 1500), strings.Repeat("x", 1501), strings.Repeat("y", 3000)} {
			texts = append(texts, millGrowText(impl.MillNodeText, text))
		}
		return texts
	}
	bits, _ := millWide(kind)
	_, most := millEnds(kind)
	var numbers []millBush
	for _, n := range []*big.Int{
		new(big.Int), big.NewInt(1), big.NewInt(2), big.NewInt(7), big.NewInt(int64(bits) - 1), big.NewInt(int64(bits)), new(big.Int).Rsh(most, 1),
		new(big.Int).Add(new(big.Int).Rsh(most, 1), big.NewInt(1)), new(big.Int).Sub(most, big.NewInt(1)), most,
	} {
		numbers = append(numbers, millGrowInt(kind, millCounts(kind, n).N))
	}
	return numbers
}

// millTops are the nodes that do something with values alone.
func millTops() []impl.MillNode {
	var tops []impl.MillNode
	for op := impl.MillOpNeg; op <= impl.MillOpInv; op++ {
		tops = append(tops, impl.MillNode{Kind: impl.MillNodeUn, Op: op, Kids: 1})
	}
	for op := impl.MillOpOr; op <= impl.MillOpRight; op++ {
		tops = append(tops, impl.MillNode{Kind: impl.MillNodeBin, Op: op, Kids: 2})
	}
	for kind := impl.MillTypeU8; kind <= impl.MillTypeI64; kind++ {
		tops = append(tops, impl.MillNode{Kind: impl.MillNodeConv, Type: kind, Kids: 1})
	}
	for op := impl.MillBuiltLen; op <= impl.MillBuiltNum; op++ {
		tops = append(tops, impl.MillNode{Kind: impl.MillNodeBuilt, Op: op, Kids: millBuiltKids[op]})
	}
	return tops
}

// millEachList hands out each list that has one of some in each place.
func millEachList(some [][]millBush, ask func(kids []millBush)) {
	kids := make([]millBush, len(some))
	var put func(at int)
	put = func(at int) {
		if at == len(some) {
			ask(slices.Clone(kids))
			return
		}
		for _, kid := range some[at] {
			kids[at] = kid
			put(at + 1)
		}
	}
	put(0)
}

// millSigned hands out each list of types that fits a node, with the type that it gives.
func millSigned(top impl.MillNode, ask func(kinds []int, gives int)) {
	millEachKinds(top.Kids, func(kinds []int) {
		key := millWhat(top)
		for _, kind := range kinds {
			key += " " + millTypeTexts[kind]
		}
		if gives, fits := millSigns[key]; fits {
			ask(slices.Clone(kinds), gives)
		}
	})
}

// Each op and each built word with literals of each type that fits: it becomes the literal of the answer, or stays.
func TestMillFoldEachOpOfLiterals(t *testing.T) {
	stays := map[string]int{}
	for _, top := range millTops() {
		folds := 0
		millSigned(top, func(kinds []int, gives int) {
			var some [][]millBush
			for _, kind := range kinds {
				some = append(some, millFewLiterals(kind))
			}
			if top.Kind == impl.MillNodeBuilt && top.Kids > 1 && kinds[1] == impl.MillTypeI64 {
				some[1] = millMany(5, func(i int) millBush { return millGrowInt(impl.MillTypeI64, int64(i)) })
				some[len(some)-1] = append(millMany(5, func(i int) millBush { return millGrowInt(impl.MillTypeI64, int64(i)) }), millGrowInt(impl.MillTypeI64, 3000), millGrowInt(impl.MillTypeI64, 3001))
			}
			var es []millBush
			millEachList(some, func(kids []millBush) { es = append(es, millGrow(top, kids...)) })
			for i, got := range wantMillAllFolded(t, es, slices.Repeat([]int{gives}, len(es))) {
				var values []impl.MillValue
				for _, kid := range es[i].kids {
					values = append(values, kid.literalValue())
				}
				v, word := millDoByRules(millWhat(top), values)
				want, ok := es[i], false
				if word == "" {
					want, ok = millGrowValue(v)
				}
				switch {
				case ok:
					folds++
				case word == "":
					stays["below 0"]++
					want = es[i]
				default:
					stays[word]++
				}
				if !got.isSame(want) {
					t.Errorf("%.200q: became %.200q, want %.200q", es[i].text(noBrackets), got.text(noBrackets), want.text(noBrackets))
				}
			}
		})
		if folds < 2 {
			t.Errorf("%s: only %d folds", millWhat(top), folds)
		}
		if t.Failed() {
			return
		}
	}
	for _, why := range []string{"divide", "range", "number", "long", "below 0"} {
		if stays[why] < 5 {
			t.Errorf("stays: %v", stays)
		}
	}
}

// With one kid that is no literal all of it stays, but for OpAnd and OpOr by their first kid.
func TestMillFoldEachOpWithOneThatIsNoLiteral(t *testing.T) {
	asked := map[string]int{}
	for _, top := range millTops() {
		millSigned(top, func(kinds []int, gives int) {
			var es []millBush
			for at := range kinds {
				some := make([][]millBush, len(kinds))
				for i, kind := range kinds {
					some[i] = millFewLiterals(kind)[:2]
				}
				some[at] = millNoLiterals(kinds[at])
				millEachList(some, func(kids []millBush) {
					if top.Kind == impl.MillNodeBin && top.Op <= impl.MillOpAnd && kids[0].isLiteral() {
						return
					}
					es = append(es, millGrow(top, kids...))
				})
			}
			for i, got := range wantMillAllFolded(t, es, slices.Repeat([]int{gives}, len(es))) {
				if !got.isSame(es[i]) {
					t.Errorf("%q: became %q", es[i].text(noBrackets), got.text(noBrackets))
				}
				asked[millWhat(top)]++
			}
		})
		if asked[millWhat(top)] < 3 {
			t.Errorf("%s: %d", millWhat(top), asked[millWhat(top)])
		}
	}
}

func TestMillFoldMarksOfOne(t *testing.T) {
	wantMillFolds(t,
		"-0", "0", "-1", "", "-(1u8)", "255u8", "-1u8", "255u8", "-255u8", "1u8", "-128u8", "128u8", "-0u8", "0u8", "-1u16", "65535u16", "-1u32", "4294967295u32", "-1u64", "18446744073709551615u64", "-18446744073709551615u64", "1u64", "-9223372036854775808u64", "9223372036854775808u64",
		"-0i8", "0i8", "-127i8", "", "-0i16", "0i16", "-1i32", "", "--1", "", "--0", "0", "--1u8", "1u8", "---1u8", "255u8", "---1", "", "-n", "", "-c", "", "-count()", "", "-len(s)", "", "-byte(1u8)", "",
		"!true", "false", "!false", "true", "!!true", "true", "!!!true", "false", "!b", "", "!!b", "", "!has(\"x\")", "", "!(1 == 1)", "false", "!(n == 1)", "", "!t", "",
		"~0u8", "255u8", "~255u8", "0u8", "~1u8", "254u8", "~0u16", "65535u16", "~0u32", "4294967295u32", "~0u64", "18446744073709551615u64", "~18446744073709551615u64", "0u64", "~0", "", "~0i8", "", "~127i8", "", "~~0", "", "~~0u8", "0u8", "~~5u32", "5u32", "~c", "", "~-1", "", "~-1u8", "0u8", "-~0u8", "1u8", "-~0", "",
	)
}

func TestMillFoldMarksOfTwo(t *testing.T) {
	wantMillFolds(t,
		"1 + 2 * 3", "7", "(1 + 2) * 3", "9", "1 + 2", "3", "2 - 1", "1", "1 - 2", "", "1 - 1", "0", "2 * 3", "6", "7 / 2", "3", "7 % 2", "1", "6 | 3", "7", "6 ^ 3", "5", "6 & 3", "2", "1 << 4", "16", "16 >> 3", "2", "0 / 5", "0", "0 % 5", "0", "5 / 5", "1",
		"200u8 + 100u8", "44u8", "1u8 - 2u8", "255u8", "16u8 * 16u8", "0u8", "255u8 / 2u8", "127u8", "255u8 % 16u8", "15u8", "1u8 << 7u8", "128u8", "1u8 << 8u8", "0u8", "255u8 << 255u8", "0u8", "255u8 >> 4u8", "15u8", "255u8 >> 8u8", "0u8", "240u8 | 15u8", "255u8", "240u8 & 15u8", "0u8", "255u8 ^ 15u8", "240u8",
		"100i8 + 27i8", "127i8", "100i8 + 28i8", "", "16i8 * 16i8", "0i8", "16i8 * 8i8", "", "1i8 << 6i8", "64i8", "1i8 << 7i8", "", "1i8 << 8i8", "0i8", "127i8 << 1i8", "", "127i8 >> 7i8", "0i8", "127i8 ^ 127i8", "0i8",
		"1 == 1", "true", "1 == 2", "false", "1 != 1", "false", "1 != 2", "true", "1 < 2", "true", "2 < 1", "false", "1 <= 1", "true", "2 <= 1", "false", "2 > 1", "true", "1 > 1", "false", "1 >= 1", "true", "1 >= 2", "false",
		"true == true", "true", "true == false", "false", "true != false", "true", "false != false", "false", "\"a\" == \"a\"", "true", "\"a\" == \"b\"", "false", "\"a\" != \"b\"", "true", "\"a\" < \"ab\"", "true", "\"b\" < \"ab\"", "false", "\"\" <= \"\"", "true", "\"b\" > \"ab\"", "true", "\"a\" >= \"b\"", "false", "\"\\ff\" > \"a\"", "true",
		"200u8 > 100u8", "true", "18446744073709551615u64 > 1u64", "true", "9223372036854775808u64 < 9223372036854775807u64", "false", "18446744073709551615u64 == 0u64 - 1u64", "true",
		"\"a\" + \"b\"", "\"ab\"", "\"\" + \"\"", "\"\"", "\"a\" + \"b\" + \"c\"", "\"abc\"", "\"a\" + (\"b\" + \"c\")", "\"abc\"", "\"\\00\" + \"\\ff\"", "\"\\00\\ff\"", "\"1\" + \"2\"", "\"12\"",
		// Only literals beside each other, not those with something between them.
		"n + 1 + 2", "", "1 + 2 + n", "3 + n", "1 + (2 + n)", "", "n * 0", "", "0 * n", "", "n - n", "", "n == n", "", "n + 0", "", "s + \"\"", "", "s + \"a\" + \"b\"", "", "s + (\"a\" + \"b\")", "s + \"ab\"", "c & 0u8", "", "n + (1 - 1)", "n + 0", "(n + 1) + (2 + 3)", "(n + 1) + 5", "one + one", "", "l + l", "", "t == true", "",
	)
}

func TestMillFoldConv(t *testing.T) {
	wantMillFolds(t,
		"u8(300)", "44u8", "u8(255)", "255u8", "u8(256)", "0u8", "i8(127)", "127i8", "i8(128)", "", "i8(255)", "", "i8(256)", "0i8", "i8(300)", "44i8", "i64(255u8)", "255", "u64(9223372036854775807)", "9223372036854775807u64", "i64(9223372036854775807u64)", "9223372036854775807", "i64(9223372036854775808u64)", "", "i64(18446744073709551615u64)", "", "u8(18446744073709551615u64)", "255u8", "i32(18446744073709551615u64)", "", "u32(18446744073709551615u64)", "4294967295u32", "i16(32768u16)", "", "i16(32767u16)", "32767i16", "i16(65536u32)", "0i16", "u16(65536u32)", "0u16", "i32(2147483648)", "", "u64(255u8)", "255u64", "u8(0i8)", "0u8", "i8(255u8)", "", "i64(0i8)", "0", "i64(5)", "5", "u8(5u8)", "5u8",
		"u8(u16(u32(u64(i8(1)))))", "1u8", "u8(300) == 44u8", "true", "u8(-1)", "", "u64(-1)", "", "u64(0 - 1)", "", "i64(-1i8)", "", "u8(n)", "", "u8(c)", "", "i64(byte(1u8))", "", "u8(i8(255))", "", "u8(n + (1 + 1))", "u8(n + 2)", "i64(len(\"abc\"))", "3", "u8(1 / 0)", "", "u8(1 + 1)", "2u8", "i64(u8(200) + u8(100))", "44",
	)
}

func TestMillFoldBuilts(t *testing.T) {
	wantMillFolds(t,
		`len("")`, "0", `len("abc")`, "3", `len("a\00\ffb")`, "4", `len(s)`, "", `len(arg())`, "", `len("a" + "b")`, "2", `len("a" + s)`, "",
		`at("a", 0)`, "97u8", `at("ab\ff", 2)`, "255u8", `at("a", 1)`, "", `at("", 0)`, "", `at("a", 9223372036854775807)`, "", `at("abc", 1 + 1)`, "99u8", `at("abc", 0 - 1)`, "", `at(s, 0)`, "", `at("abc", n)`, "", `at("a" + "b", n + (1 + 1))`, `at("ab", n + 2)`,
		`cut("hello", 1, 3)`, `"el"`, `cut("hello", 0, 5)`, `"hello"`, `cut("hello", 0, 0)`, `""`, `cut("hello", 5, 5)`, `""`, `cut("", 0, 0)`, `""`, `cut("hello", 3, 2)`, "", `cut("hello", 0, 6)`, "", `cut("hello", 6, 6)`, "", `cut("hello", 0 - 1, 2)`, "", `cut("out", 0, len("ou") + 1)`, `"out"`, `cut(s, 0, 0)`, "", `cut("a", n, 1)`, "", `cut("a", 0, n)`, "", `cut(s, 1 - 1, 1 + 1)`, "cut(s, 0, 2)",
		`find("abc", "c")`, "2", `find("abc", "a")`, "0", `find("abcabc", "bc")`, "1", `find("abc", "")`, "0", `find("", "")`, "0", `find("abc", "d")`, "", `find("", "a")`, "", `find("ab", "abc")`, "", `find(s, "")`, "", `find("", s)`, "", `find("a" + "b", "b" + "")`, "1", `find("a" + "b", s)`, `find("ab", s)`,
		`chr(0u8)`, `"\00"`, `chr(97u8)`, `"a"`, `chr(255u8)`, `"\ff"`, `chr(c)`, "", `chr(u8(97))`, `"a"`, `chr(at("abc", 1))`, `"b"`, `chr(250u8 + 10u8)`, `"\04"`,
		`dec(0)`, `"0"`, `dec(44u8)`, `"44"`, `dec(18446744073709551615u64)`, `"18446744073709551615"`, `dec(9223372036854775807)`, `"9223372036854775807"`, `dec(-1)`, "", `dec(0 - 1)`, "", `dec(-1u8)`, `"255"`, `dec(200u8 + 100u8)`, `"44"`, `dec(127i8)`, `"127"`, `dec(n)`, "", `dec(i8(128))`, "",
		`num("0")`, "0", `num("12")`, "12", `num("9223372036854775807")`, "9223372036854775807", `num("9223372036854775808")`, "", `num("")`, "", `num("01")`, "", `num("-0")`, "", `num("-1")`, "", `num("-9223372036854775808")`, "", `num("+1")`, "", `num("x")`, "", `num(" 1")`, "", `num("1u8")`, "", `num("1" + "2")`, "12", `num("-" + "2")`, `num("-2")`, `num(dec(5u8))`, "5", `num(dec(18446744073709551615u64))`, `num("18446744073709551615")`, `num(s)`, "",
		// What looks outside, and what calls.
		`read("x")`, "", `has("x")`, "", `list("x")`, "", `tool("x", "y")`, "", `arg()`, "", `pair("a", 1)`, "", `flag(true, 1)`, "", `count()`, "", `byte(1u8)`, "", `main()`, "", `s`, "", `one`, "", `l`, "",
		`read("a" + "b")`, `read("ab")`, `has(dec(1 + 1))`, `has("2")`, `list(chr(97u8))`, `list("a")`, `tool("a" + "b", "c" + "d")`, `tool("ab", "cd")`, `tool(s, "c" + "d")`, `tool(s, "cd")`, `tool("a" + "b", s)`, `tool("ab", s)`, `pair("a" + "b", 1 + 1)`, `pair("ab", 2)`, `flag(!true, 2 * 3)`, "flag(false, 6)", `byte(byte(1u8 + 1u8) + (2u8 + 3u8))`, "byte(byte(2u8) + 5u8)",
		`len(arg() + "")`, "", `has("x") == true`, "", `read("x") + "a" + "b"`, "", `"a" + "b" + read("x")`, `"ab" + read("x")`,
	)
}

// Numbers that no NodeInt has, and the greatest that one has, for each type.
func TestMillFoldNumbersOfEachType(t *testing.T) {
	for kind := impl.MillTypeU8; kind <= impl.MillTypeI64; kind++ {
		bits, sign := millWide(kind)
		_, end := millEnds(kind)
		w := millTypeTexts[kind]
		most, less := end.String()+w, new(big.Int).Sub(end, big.NewInt(1)).String()+w
		zero, one, two, top := "0"+w, "1"+w, "2"+w, fmt.Sprintf("%d%s", bits-1, w)
		wantMillFolds(t,
			less+" + "+one, most, most+" + "+zero, most, most+" - "+zero, most, most+" * "+one, most, most+" / "+one, most, most+" | "+zero, most, most+" ^ "+zero, most, most+" & "+most, most, most+" << "+zero, most, most+" >> "+zero, most,
			most+" - "+most, zero, most+" - "+less, one, most+" % "+most, zero, most+" / "+most, one, most+" ^ "+most, zero, zero+" - "+zero, zero, "-"+zero, zero, most+" * "+most, one, w+"("+most+")", most, w+"("+end.String()+"u64)", most, "dec("+most+")", strconv.Quote(end.String()),
			most+" / "+zero, "", most+" % "+zero, "", zero+" / "+zero, "", zero+" % "+zero, "",
		)
		below := []string{"-" + one, zero + " - " + one, most + " + " + one, "~" + zero, "~" + most, "-" + most, one + " << " + top, most + " + " + most, w + "(18446744073709551615u64)", one + " - " + two}
		if sign {
			for _, e := range below {
				wantMillFolds(t, e, "", "-("+e+")", "", "("+e+") + "+one, "", one+" + ("+e+")", "", "("+e+") == "+zero, "", "u64("+e+")", "", "dec("+e+")", "", "("+e+") + ("+one+" + "+one+")", "("+e+") + "+two, "("+one+" + "+one+") * ("+e+")", two+" * ("+e+")")
			}
			wantMillFolds(t, "-"+most+" - "+one, "", "("+most+" + "+one+") / (-"+one+")", "", w+"("+new(big.Int).Add(end, big.NewInt(1)).String()+"u64)", "")
			continue
		}
		half := new(big.Int).Lsh(big.NewInt(1), bits-1).String() + w
		for i, want := range []string{most, most, zero, most, zero, one, half, less, most, most} {
			wantMillFolds(t, below[i], want)
		}
		wantMillFolds(t, half+" + "+half, zero, half+" * "+two, zero, half+" >> "+top, one, half+" > "+less, "false", half+" > "+one, "true", "dec("+zero+" - "+one+")", strconv.Quote(end.String()))
	}
	// Numbers of u64 that no i64 has are numbers of a NodeInt.
	wantMillFolds(t,
		"9223372036854775807u64 + 1u64", "9223372036854775808u64", "9223372036854775808u64 + 1u64", "9223372036854775809u64", "4294967296u64 * 4294967295u64", "18446744069414584320u64", "18446744073709551615u64 / 1u64", "18446744073709551615u64", "18446744073709551615u64 / 2u64", "9223372036854775807u64", "18446744073709551615u64 % 10u64", "5u64", "1u64 << 63u64", "9223372036854775808u64", "18446744073709551614u64 | 1u64", "18446744073709551615u64", "m + 18446744073709551615u64", "", "m + (0u64 - 1u64)", "m + 18446744073709551615u64", "u64(0u8 - 1u8)", "255u64",
	)
	got := impl.MillFold(millOf(t, `fn main() -> text { let a = ~0u64; let b = 1u64 << 63u64; return ""; }`).tree())
	u64 := func(n int64) impl.MillNode {
		return impl.MillNode{Kind: impl.MillNodeInt, Type: impl.MillTypeU64, N: n}
	}
	if len(got.Nodes) != 9 || got.Nodes[0] != u64(-1) || got.Nodes[2] != u64(-9223372036854775808) {
		t.Errorf("%+v", got.Nodes)
	}
}

// A node that stays leaves what is around it and beside it to be folded.
func TestMillFoldAroundWhatStays(t *testing.T) {
	wantMillFolds(t,
		"(0 - 1) + (2 + 3)", "(0 - 1) + 5", "(1 + 1) * (0 - (1 + 2))", "2 * (0 - 3)", "-(1 + 1)", "-2", "-(1 - 1)", "0", "2 - 1 - 2", "1 - 2", "1 + 2 - 4 + (2 + 3)", "3 - 4 + 5", "-1 + 1", "", "-1 * -1", "", "(1 - 2) * (1 - 2)", "", "-1 == -1", "", "-1 < 0", "",
		`cut("a" + "b", 0 - 1, 1 + 1)`, `cut("ab", 0 - 1, 2)`, `pair("a" + "b", 1 - 2)`, `pair("ab", 1 - 2)`, `dec(1 - 2) + ("a" + "b")`, `dec(1 - 2) + "ab"`, `num("-" + "1") + (1 + 1)`, `num("-1") + 2`, `find("a" + "b", "c") + (1 + 1)`, `find("ab", "c") + 2`,
		"0 - 1 < 1 && 1 < 2", "0 - 1 < 1 && true", "1 < 2 && 0 - 1 < 1", "0 - 1 < 1", "1 / 0 == 2 + 3", "1 / 0 == 5", "(1 + 1) / (1 - 1)", "2 / 0", "(4 - 2) % (2 * 0) + (3 + 4)", "2 % 0 + 7", `at("a" + "b", 1 + 1)`, `at("ab", 2)`, `cut("a" + "bc", 1 + 1, 1 * 1)`, `cut("abc", 2, 1)`, `num("x" + "y") * (2 * 3)`, `num("xy") * 6`, "flag(1 / 0 == 1, 1 - 2)", "", "flag(1 - 2 == 1 - 1, 1 - 2)", "flag(1 - 2 == 0, 1 - 2)",
	)
}

// A sum of two texts that is as long as may be, and one that is longer.
func TestMillFoldLongTexts(t *testing.T) {
	x := func(size int) string { return `"` + strings.Repeat("x", size) + `"` }
	wantMillFolds(t,
		x(1500)+" + "+x(1500), x(3000), x(1500)+" + "+x(1501), "", x(1501)+" + "+x(1500), "", x(3000)+" + \"\"", x(3000), "\"\" + "+x(3000), x(3000), x(3000)+" + \"a\"", "", "\"a\" + "+x(3000), "", x(2999)+" + \"x\"", x(3000), "\"x\" + "+x(2999), x(3000),
		x(1500)+" + "+x(1500)+" + \"a\"", x(3000)+" + \"a\"", "\"a\" + ("+x(1500)+" + "+x(1500)+")", "\"a\" + "+x(3000), x(1500)+" + "+x(1501)+" + \"a\"", "", x(1500)+" + ("+x(1000)+" + "+x(500)+")", x(3000),
		"len("+x(1500)+" + "+x(1500)+")", "3000", "len("+x(1500)+" + "+x(1501)+")", "", "len(\"a\" + "+x(3000)+") + (1 + 1)", "len(\"a\" + "+x(3000)+") + 2", "at("+x(3000)+", 2999)", "120u8", "at("+x(3000)+", 3000)", "", "cut("+x(3000)+", 1, 3000)", x(2999), "cut("+x(3000)+", 0, 3001)", "", x(1500)+" + "+x(1501)+" == \"\"", "",
	)
}

// The first kid of OpAnd and OpOr decides; the second may be anything.
func TestMillFoldAndOr(t *testing.T) {
	for _, pair := range [][2]string{
		{"true", "true"}, {"false", "false"}, {"b", "b"}, {"t", "t"}, {"flag(b, n)", "flag(b, n)"}, {"flag(true, 1 + 1)", "flag(true, 2)"}, {`has("x")`, `has("x")`}, {`has("a" + "b")`, `has("ab")`},
		{"n < 1 + 1", "n < 2"}, {"1 / 0 == 1", "1 / 0 == 1"}, {"0 - 1 < 0", "0 - 1 < 0"}, {"!b", "!b"}, {"!!true", "true"}, {"1 < 2", "true"}, {`read("x") == arg()`, `read("x") == arg()`}, {`tool("x", s) < "a" + "b"`, `tool("x", s) < "ab"`},
		{"b && true", "b && true"}, {"b || flag(b, 1)", "b || flag(b, 1)"}, {"true && b", "b"}, {"false || b", "b"}, {"false && b", "false"}, {"true || b", "true"}, {"len(s) == count() + (2 + 3)", "len(s) == count() + 5"},
	} {
		e, becomes := "("+pair[0]+")", "("+pair[1]+")"
		wantMillFolds(t,
			"true && "+e, becomes, "false && "+e, "false", "true || "+e, "true", "false || "+e, becomes,
			"1 == 1 && "+e, becomes, "1 < 0 && "+e, "false", "1 == 1 || "+e, "true", "1 < 0 || "+e, becomes, "!true && "+e, "false", "!false && "+e, becomes, "\"a\" < \"b\" || "+e, "true",
			"b && "+e, "b && "+becomes, "b || "+e, "b || "+becomes, "flag(b, 1) && "+e, "flag(b, 1) && "+becomes, "has(\"y\") || "+e, "has(\"y\") || "+becomes, "t && "+e, "t && "+becomes, "t || "+e, "t || "+becomes, "1 / 0 == 1 && "+e, "1 / 0 == 1 && "+becomes,
			"true && (true && "+e+")", becomes, "true && true && "+e, becomes, "false || (false || "+e+")", becomes, "false || true && "+e, becomes, "(false || true) && "+e, becomes, "(true && false) || "+e, becomes, "true && (false && "+e+")", "false", "false || (true || "+e+")", "true", "true || (false && "+e+")", "true", "false && (true || "+e+")", "false",
			"(true || "+e+") && (false || "+e+")", becomes, "(false && "+e+") || (true && "+e+")", becomes, "b && (false && "+e+")", "b && false", "b && (true && "+e+")", "b && "+becomes, "b || (true || "+e+")", "b || true",
		)
		if pair[1] != "true" && pair[1] != "false" {
			wantMillFolds(t, e+" && true", becomes+" && true", e+" && false", becomes+" && false", e+" || true", becomes+" || true", e+" || false", becomes+" || false", "(true && "+e+") && false", becomes+" && false", "(false || "+e+") || (1 == 1)", becomes+" || true", e+" && "+e, becomes+" && "+becomes, e+" && (1 < 2 && b)", becomes+" && b")
		}
	}
	wantMillFolds(t,
		"true && true", "true", "true && false", "false", "false && true", "false", "false && false", "false", "true || true", "true", "true || false", "true", "false || true", "true", "false || false", "false",
		"b && true && true", "", "b && (true && true)", "b && true", "true && b && true", "b && true", "b || true || b", "", "has(\"z\") || true", "", "2 == 2 || has(\"w\")", "true", "u8(300) == 44u8 && n < 3", "n < 3",
		// What becomes a literal so is one for what stands above it.
		"!(true && false)", "true", "!(false || true)", "false", "!(b && true)", "", "!(true && b)", "!b", "(false && b) == false", "true", "(true || b) != (false && b)", "true", "(false && b) || (true || b)", "true", "(true || b) && (true || b) && b", "b", "flag(true || b, 1)", "flag(true, 1)", "(false && b) == b", "false == b", "(true && 1 < 2) == true", "true", "!(false && flag(b, n)) && b", "b", "(true && b) == (false || b)", "b == b",
	)
}

// millSumOf is a tree of sums of so many levels, with a leaf at each end.
func millSumOf(levels int, leaf millBush) millBush {
	if levels == 0 {
		return leaf
	}
	half := millSumOf(levels-1, leaf)
	return millGrowBin(impl.MillOpAdd, half, half)
}

// Deep and wide trees become one literal, from the inside out.
func TestMillFoldFromTheInside(t *testing.T) {
	wantMillFolds(t,
		"((((((((1 + 1) * 2) + 1) * 2) + 1) * 2) + 1) * 2)", "46", "num(dec(num(dec(num(dec(1 + 1)) + 1)) + 1))", "4", "len(dec(len(dec(len(\"a\" + \"b\") + 8)) + 98))", "3", "dec(len(cut(\"abc\" + dec(find(\"xyz\", chr(at(\"zy\", 1)))), 1 + 0, len(\"abcd\"))))", `"3"`, "u8(u16(300u32 + 1u32) - 1u16) == 44u8 && !(dec(1) == \"2\")", "true", "((((((((n + 1) * 2) + 1) * 2) + 1) * 2) + 1) * 2)", "",
	)
	let := func(e millBush) impl.MillTree { return millStands(millGrowText(impl.MillNodeLet, "x", e)).tree() }
	for deep := range 57 {
		got := wantMillFolded(t, let(millNested(deep)))
		if got.Nodes[0] != (impl.MillNode{Kind: impl.MillNodeBool, N: int64(1 - deep%2)}) || got.Nodes[1].Kind != impl.MillNodeLet {
			t.Errorf("%d deep: %+v", deep, got.Nodes[:2])
		}
	}
	if got := impl.MillFold(let(millNested(57))); len(got.Nodes) != 0 {
		t.Errorf("too deep, but %d nodes", len(got.Nodes))
	}
	for levels := range 13 {
		tree := let(millSumOf(levels, millGrowOne()))
		got := wantMillFolded(t, tree)
		if got.Nodes[0] != (impl.MillNode{Kind: impl.MillNodeInt, Type: impl.MillTypeI64, N: 1 << levels}) || len(got.Nodes)+2<<levels-2 != len(tree.Nodes) {
			t.Errorf("%d levels: %d nodes of %d", levels, len(got.Nodes), len(tree.Nodes))
		}
	}
	// One that is no literal at the very end keeps those above it alone.
	e := millGrowCall("main")
	text := func(s string) millBush { return millGrowText(impl.MillNodeText, s) }
	for range 20 {
		e = millGrowBin(impl.MillOpAdd, millGrowBin(impl.MillOpAdd, text("a"), text("b")), e)
	}
	got := wantMillFolded(t, let(e))
	for at := range 20 {
		if got.Nodes[at] != (impl.MillNode{Kind: impl.MillNodeText, Text: "ab"}) {
			t.Errorf("node %d: %+v", at, got.Nodes[at])
		}
	}
	if len(got.Nodes) != len(let(e).Nodes)-40 || got.Nodes[20].Kind != impl.MillNodeCall {
		t.Errorf("%d nodes", len(got.Nodes))
	}
}

// Fold goes into statements of each kind, which stay themselves, and so do their blocks.
func TestMillFoldStatements(t *testing.T) {
	for src, want := range map[string]string{
		`let x = 1 + 1;`:                       `let x = 2;`,
		`let x = 1; x = 2 * 3;`:                `let x = 1; x = 6;`,
		`let x = 1; x = x + (2 + 3);`:          `let x = 1; x = x + 5;`,
		`let x = 1 + 1; let y = x + 1;`:        `let x = 2; let y = x + 1;`,
		`fail "a" + "b";`:                      `fail "ab";`,
		`say "a" + dec(1 + 1);`:                `say "a2";`,
		`write "a" + "b", "c" + "d";`:          `write "ab", "cd";`,
		`write s, "c" + "d";`:                  `write s, "cd";`,
		`write "a" + "b", s;`:                  `write "ab", s;`,
		`return;`:                              `return;`,
		`none();`:                              `none();`,
		`byte(1u8 + 2u8);`:                     `byte(3u8);`,
		`pair("a" + "b", 2 - 1);`:              `pair("ab", 1);`,
		`pair(pair("a" + "b", 1 + 1), 1 - 2);`: `pair(pair("ab", 2), 1 - 2);`,
		`if true { }`:                          `if true { }`,
		`if false { }`:                         `if false { }`,
		`if true { say "a" + "b"; } else { say "c" + "d"; }`:                          `if true { say "ab"; } else { say "cd"; }`,
		`if false { say "a" + "b"; } else { say "c" + "d"; }`:                         `if false { say "ab"; } else { say "cd"; }`,
		`if 1 < 2 { } else if 2 < 1 { } else if b { } else { }`:                       `if true { } else if false { } else if b { } else { }`,
		`if 1 < 2 && b { } else if b && 2 < 1 { say "x"; }`:                           `if b { } else if b && false { say "x"; }`,
		`if b { if true || b { let x = 1 + 1; } } else { if false && b { return; } }`: `if b { if true { let x = 2; } } else { if false { return; } }`,
		`while true { }`:  `while true { }`,
		`while false { }`: `while false { }`,
		`while 1 < 2 { say "a" + "b"; if !true { break; } continue; }`:                        `while true { say "ab"; if false { break; } continue; }`,
		`while !(b && 1 < 2) { while false { break; } }`:                                      `while !(b && true) { while false { break; } }`,
		`while true || b { let x = 1 + 1; while x < 1 + 1 { x = x - (0 + 1); } break; }`:      `while true { let x = 2; while x < 2 { x = x - 1; } break; }`,
		`return; say "a" + "b"; return;`:                                                      `return; say "ab"; return;`,
		`if true { return; } say "a" + "b";`:                                                  `if true { return; } say "ab";`,
		`let x = 1; if x == 1 { x = 1 + 1; } say dec(x);`:                                     `let x = 1; if x == 1 { x = 2; } say dec(x);`,
		`let f = 1 + 1; let main = "a" + main(); let none = f; none();`:                       `let f = 2; let main = "a" + main(); let none = f; none();`,
		`say "a"; say "a" + ""; say "" + "a"; say s; say "a" + s;`:                            `say "a"; say "a"; say "a"; say s; say "a" + s;`,
		`let x = -1; let y = 1 / 0; let z = num("x"); write dec(-1), cut("a", 1 + 0, 0 + 0);`: `let x = -1; let y = 1 / 0; let z = num("x"); write dec(-1), cut("a", 1, 0);`,
	} {
		in := func(statements string) string { return "fn f(s text, b bool) { " + statements + " }" + millEnd }
		wantMillFoldsIn(t, in(src), in(want))
		in = func(statements string) string {
			return "fn g() { } fn f(s text, b bool) { while b { if b { } else { " + statements + " } } }" + millEnd
		}
		wantMillFoldsIn(t, in(src), in(want))
	}
	// All functions, in their order, with their parameters and types.
	wantMillFoldsIn(t,
		`fn a(x u8, y text) -> u8 { return x + (1u8 + 1u8); } fn main() -> text { return dec(a(1u8 * 2u8, "a" + "b")); } fn z() -> bool { if 1 == 1 { return 1 < 2; } else { fail "a" + "b"; } } fn y() -> i64 { return 1 - 2; }`,
		`fn a(x u8, y text) -> u8 { return x + 2u8; } fn main() -> text { return dec(a(2u8, "ab")); } fn z() -> bool { if true { return true; } else { fail "ab"; } } fn y() -> i64 { return 1 - 2; }`,
	)
	wantMillFoldsIn(t, `fn main() -> text { return ""; }`, `fn main() -> text { return ""; }`)
}

// All fields of the nodes that are made, and of those that stay.
func TestMillFoldNodes(t *testing.T) {
	tree := millOf(t, `fn main() -> text { let a = 1u8 + 2u8; let b = "x" + "y"; let c = 1 < 2; let d = 2 < 1; let e = u16(5); let g = len("abc"); let h = -1; let i = true && has("q" + "r"); let j = true || has("q"); return cut("abc", 0, 1); }`).tree()
	let := func(name string) impl.MillNode {
		return impl.MillNode{Kind: impl.MillNodeLet, Text: name, Kids: 1}
	}
	number := func(kind int, n int64) impl.MillNode {
		return impl.MillNode{Kind: impl.MillNodeInt, Type: kind, N: n}
	}
	text := func(text string) impl.MillNode { return impl.MillNode{Kind: impl.MillNodeText, Text: text} }
	truth := func(n int64) impl.MillNode { return impl.MillNode{Kind: impl.MillNodeBool, N: n} }
	want := []impl.MillNode{
		number(impl.MillTypeU8, 3), let("a"), text("xy"), let("b"), truth(1), let("c"), truth(0), let("d"), number(impl.MillTypeU16, 5), let("e"), number(impl.MillTypeI64, 3), let("g"),
		number(impl.MillTypeI64, 1), {Kind: impl.MillNodeUn, Op: impl.MillOpNeg, Kids: 1}, let("h"),
		text("qr"), {Kind: impl.MillNodeBuilt, Op: impl.MillBuiltHas, Kids: 1}, let("i"), truth(1), let("j"),
		text("a"), {Kind: impl.MillNodeReturn, Kids: 1}, {Kind: impl.MillNodeBlock, Kids: 10}, {Kind: impl.MillNodeFn, Text: "main", Type: impl.MillTypeText, Kids: 1}, {Kind: impl.MillNodeProgram, Kids: 1},
	}
	if got := wantMillFolded(t, tree); !slices.Equal(got.Nodes, want) {
		t.Errorf("%+v, want %+v", got.Nodes, want)
	}
}

// Nothing for a tree that is not valid, or does not fit, also where what does not fit would be left out.
func TestMillFoldWrongTrees(t *testing.T) {
	valid := millOf(t, `fn f(a u8) { let b = 1 + 1; while true { say "a" + "b"; } }`+millEnd)
	nodes := valid.nodes()
	wrong := map[string]impl.MillTree{
		"nil":                   {},
		"no nodes":              {Nodes: []impl.MillNode{}},
		"a program of nothing":  {Nodes: []impl.MillNode{{Kind: impl.MillNodeProgram}}},
		"no program":            {Nodes: nodes[:len(nodes)-1]},
		"a literal alone":       {Nodes: []impl.MillNode{{Kind: impl.MillNodeBool, N: 1}}},
		"a sum alone":           {Nodes: nodes[1:4]},
		"two programs":          {Nodes: append(slices.Clone(nodes), nodes...)},
		"a number below 0":      millStands(millGrowText(impl.MillNodeLet, "x", millGrowBin(impl.MillOpAdd, millGrowInt(impl.MillTypeI64, -1), millGrowOne()))).tree(),
		"a number too great":    millStands(millGrowText(impl.MillNodeLet, "x", millGrowUn(impl.MillOpNeg, millGrowInt(impl.MillTypeU8, 256)))).tree(),
		"a bool of 2":           millStands(millGrowText(impl.MillNodeLet, "x", millGrowBin(impl.MillOpOr, millGrowBool(2), millGrowBool(1)))).tree(),
		"a text too long":       millStands(millGrowKind(impl.MillNodeSay, millGrowText(impl.MillNodeText, strings.Repeat("x", 3001)))).tree(),
		"another op":            millStands(millGrowText(impl.MillNodeLet, "x", millGrowBin(19, millGrowOne(), millGrowOne()))).tree(),
		"another built":         millStands(millGrowText(impl.MillNodeLet, "x", millGrowBuilt(13, millGrowOne()))).tree(),
		"a conv to text":        millStands(millGrowText(impl.MillNodeLet, "x", millGrowConv(impl.MillTypeText, millGrowOne()))).tree(),
		"a literal as a do":     millStands(millGrowKind(impl.MillNodeDo, millGrowOne())).tree(),
		"too many nodes":        millOfSize(12002).tree(),
		"no name":               millStands(millGrowText(impl.MillNodeLet, "let", millGrowOne())).tree(),
		"a field in a literal":  millStands(millGrowKind(impl.MillNodeSay, millGrow(impl.MillNode{Kind: impl.MillNodeText, Text: "x", N: 1}))).tree(),
		"more kids than are":    {Nodes: []impl.MillNode{{Kind: impl.MillNodeProgram, Kids: 1}}},
		"less kids than none":   {Nodes: []impl.MillNode{{Kind: impl.MillNodeProgram, Kids: -1}}},
		"a very great number":   {Nodes: []impl.MillNode{{Kind: impl.MillNodeProgram, Kids: 1 << 62}}},
		"something left beside": {Nodes: append([]impl.MillNode{{Kind: impl.MillNodeBool}}, nodes...)},
	}
	for _, src := range []string{
		`fn main() -> text { return 1; }`, `fn main() -> text { return 1 + 1; }`, `fn f() { }`, `fn main() { }`, `fn main() -> text { }`,
		`fn f() { let a = true || x; }` + millEnd, `fn f() { let a = false && x; }` + millEnd, `fn f() { let a = true || 1; }` + millEnd, `fn f() { let a = false && ""; }` + millEnd, `fn f() { let a = true && 1; }` + millEnd, `fn f() { let a = 1 && true; }` + millEnd, `fn f() { let a = true || g(); }` + millEnd, `fn f() { let a = true || none(); }` + millEnd,
		`fn f() { let a = 1 + 1u8; }` + millEnd, `fn f() { let a = -true; }` + millEnd, `fn f() { let a = !1; }` + millEnd, `fn f() { let a = "a" - "b"; }` + millEnd, `fn f() { let a = u8("1"); }` + millEnd, `fn f() { let a = len(1); }` + millEnd, `fn f() { let a = true < false; }` + millEnd, `fn f() { let a = at("a", 0u8); }` + millEnd,
		`fn f() { let a = 1; let a = 1 + 1; }` + millEnd, `fn f(a u8, a u8) { }` + millEnd, `fn f() { a = 1; }` + millEnd, `fn f() { break; }` + millEnd, `fn f() { return 1; }` + millEnd, `fn f() -> u8 { }` + millEnd, `fn f() -> u8 { if true { return 1u8; } }` + millEnd, `fn f() -> u8 { while true { return 1u8; } }` + millEnd, `fn f() { } fn f() { }` + millEnd, `fn f() { if false { say x; } }` + millEnd, `fn f() { if 1 { } }` + millEnd, `fn f() { ` + millLets("x", 201) + ` }` + millEnd,
	} {
		wrong[src] = millOf(t, src).tree()
	}
	for what, tree := range wrong {
		if impl.MillCheck(tree).Code == 0 {
			t.Errorf("%.200s: fits", what)
		}
		short, long := withRoom(tree.Nodes, impl.MillNode{Kind: 99, Text: "room"})
		kept := slices.Clone(long)
		if got := impl.MillFold(impl.MillTree{Nodes: short}); len(got.Nodes) != 0 {
			t.Errorf("%.200s: folded to %+v", what, got)
		}
		if !slices.Equal(long, kept) {
			t.Errorf("%.200s: the argument was changed", what)
		}
	}
	// Each node of a tree that fits and is folded, with a field bent.
	for at := range nodes {
		for what, bend := range map[string]func(n *impl.MillNode){
			"kind": func(n *impl.MillNode) { n.Kind = 25 }, "op": func(n *impl.MillNode) { n.Op = 19 }, "type": func(n *impl.MillNode) { n.Type = 11 }, "number": func(n *impl.MillNode) { n.N = -1 }, "kids": func(n *impl.MillNode) { n.Kids++ },
		} {
			bent := slices.Clone(nodes)
			bend(&bent[at])
			if got := impl.MillFold(impl.MillTree{Nodes: bent}); isRightMillTree(impl.MillTree{Nodes: bent}) || len(got.Nodes) != 0 {
				t.Errorf("%s of node %d: folded to %+v", what, at, got)
			}
		}
	}
}

// Trees that are as large as they may be.
func TestMillFoldLargeTrees(t *testing.T) {
	for _, size := range []int{12000, 12001} {
		tree := millOfSize(size).tree()
		if got := wantMillFolded(t, tree); !slices.Equal(got.Nodes, tree.Nodes) {
			t.Errorf("%d nodes of %d", len(got.Nodes), size)
		}
	}
	// Statements of eight nodes that become two, as many as there may be.
	sum := millGrowBuilt(impl.MillBuiltDec, millGrowBin(impl.MillOpAdd, millGrowInt(impl.MillTypeU8, 200), millGrowUn(impl.MillOpNeg, millGrowUn(impl.MillOpInv, millGrowInt(impl.MillTypeU8, 55)))))
	many := (12001 - millStands().size()) / (sum.size() + 1)
	tree := millStands(millMany(many, func(int) millBush { return millGrowKind(impl.MillNodeSay, sum) })...).tree()
	got := wantMillFolded(t, tree)
	if len(got.Nodes) != millStands().size()+2*many || got.Nodes[2*many-2] != (impl.MillNode{Kind: impl.MillNodeText, Text: "0"}) {
		t.Errorf("%d nodes of %d", len(got.Nodes), len(tree.Nodes))
	}
	// A text in many places that is as long as may be.
	long := millGrowText(impl.MillNodeText, strings.Repeat("x", 1500))
	tree = millStands(millMany(1000, func(int) millBush {
		return millGrowKind(impl.MillNodeSay, millGrowBin(impl.MillOpAdd, long, long))
	})...).tree()
	if got := wantMillFolded(t, tree); len(got.Nodes) != millStands().size()+2000 || len(got.Nodes[1998].Text) != 3000 {
		t.Errorf("%d nodes of %d", len(got.Nodes), len(tree.Nodes))
	}
	// Sixty functions.
	fns := millMany(58, func(i int) millBush {
		ret := millGrowKind(impl.MillNodeReturn, millGrowBin(impl.MillOpMul, millGrowOne(), millGrowInt(impl.MillTypeI64, int64(i))))
		return millGrowFn("f"+strconv.Itoa(i), impl.MillTypeI64, millGrowBlock(ret))
	})
	tree = millWith(fns...).tree()
	if got := wantMillFolded(t, tree); len(got.Nodes) != len(tree.Nodes)-2*58 || got.Nodes[4*57].N != 57 {
		t.Errorf("%d nodes of %d", len(got.Nodes), len(tree.Nodes))
	}
}

// millSmall has, for some types, the E of each of three sizes: a literal or a name, a node over those, and a node over one of these.
func millSmall() [3]map[int][]millBush {
	text := func(text string) millBush { return millGrowText(impl.MillNodeText, text) }
	var small [3]map[int][]millBush
	small[0] = map[int][]millBush{
		impl.MillTypeBool: {millGrowBool(0), millGrowBool(1), millGrowName(millNameOf(impl.MillTypeBool))},
		impl.MillTypeText: {text(""), text("1"), millGrowName(millNameOf(impl.MillTypeText))},
		impl.MillTypeU8:   {millGrowInt(impl.MillTypeU8, 0), millGrowInt(impl.MillTypeU8, 200), millGrowName(millNameOf(impl.MillTypeU8))},
		impl.MillTypeI64:  {millGrowInt(impl.MillTypeI64, 0), millGrowInt(impl.MillTypeI64, 2), millGrowName(millNameOf(impl.MillTypeI64))},
	}
	tops := millTops()
	for size := 1; size < 3; size++ {
		small[size] = map[int][]millBush{}
		for _, top := range tops {
			millSigned(top, func(kinds []int, gives int) {
				for at := range kinds {
					if at > 0 && size == 1 {
						return
					}
					var some [][]millBush
					for i, kind := range kinds {
						some = append(some, small[0][kind])
						if i == at {
							some[i] = small[size-1][kind]
						}
					}
					millEachList(some, func(kids []millBush) { small[size][gives] = append(small[size][gives], millGrow(top, kids...)) })
				}
			})
		}
	}
	return small
}

// Promise 18, for all small E of some types.
func TestMillFoldAllSmallTrees(t *testing.T) {
	asked, smaller, literals := 0, 0, 0
	for _, small := range millSmall() {
		for kind, es := range small {
			if kind == impl.MillTypeNone {
				t.Fatal("an E without a type")
			}
			for i, got := range wantMillAllFolded(t, es, slices.Repeat([]int{kind}, len(es))) {
				asked++
				if got.size() < es[i].size() {
					smaller++
				}
				if got.isLiteral() {
					literals++
				}
			}
			if t.Failed() {
				return
			}
		}
	}
	if asked < 20000 || smaller < 5000 || literals < 3000 || smaller > asked*3/4 {
		t.Errorf("%d asked, %d smaller, %d literals", asked, smaller, literals)
	}
}

// Promise 18, for programs of all kinds that are put together by a fixed rule.
func TestMillFoldDrawnPrograms(t *testing.T) {
	t.Parallel()
	dice := clayDice(43)
	m := &millMaker{clayDice: &dice}
	asked, smaller, kinds := 0, 0, map[int]int{}
	for i := range 2500 {
		b := m.program(dice.below(4), i%4)
		if b.size() > 1500 {
			continue
		}
		got := wantMillFolded(t, b.tree())
		if len(got.Nodes) < 800 {
			if _, fault := millFamilyOf(got.Nodes).read(); fault.Code != 0 {
				t.Errorf("%+v", fault)
			}
		}
		if text := impl.MillPrint(got); text != "" {
			if again, fault := impl.MillParse(text); fault.Code != 0 || !slices.Equal(again.Nodes, got.Nodes) {
				t.Errorf("%.500q is read as another tree, or %+v", text, fault)
			}
		}
		asked++
		if len(got.Nodes) < b.size() {
			smaller++
		}
		for _, n := range got.Nodes {
			kinds[n.Kind]++
		}
		if t.Failed() {
			return
		}
	}
	if asked < 1500 || smaller < 800 {
		t.Errorf("%d programs, %d are smaller", asked, smaller)
	}
	for kind := 1; kind <= 24; kind++ {
		if kinds[kind] < 50 {
			t.Errorf("kind %d: %d nodes", kind, kinds[kind])
		}
	}
}

// The same for programs in which something may not fit, and for trees of any kinds of nodes.
func TestMillFoldSpoiltPrograms(t *testing.T) {
	t.Parallel()
	dice := clayDice(47)
	m := &millMaker{clayDice: &dice}
	fits, not := 0, 0
	ask := func(tree impl.MillTree) {
		if impl.MillCheck(tree).Code == 0 {
			wantMillFolded(t, tree)
			fits++
			return
		}
		not++
		if got := impl.MillFold(tree); len(got.Nodes) != 0 {
			t.Errorf("%.500q does not fit, but: %+v", impl.MillPrint(tree), got)
		}
	}
	for i := range 4000 {
		b := m.program(dice.below(4), i%4)
		if b.size() > 600 {
			continue
		}
		for range 1 + dice.below(3) {
			dice.millSpoil(&b)
		}
		ask(b.tree())
		ask(dice.millProgram(1+dice.below(3), i%4).tree())
		nodes := b.nodes()
		bent := &nodes[dice.below(len(nodes))]
		*[]*int{&bent.Kind, &bent.Op, &bent.Type, &bent.Kids}[dice.below(4)] += dice.below(3) - 1
		ask(impl.MillTree{Nodes: nodes})
		if t.Failed() {
			return
		}
	}
	if fits < 300 || not < 3000 {
		t.Errorf("%d fit, %d do not", fits, not)
	}
}

func TestMillFoldAnswersNewMemory(t *testing.T) {
	room := impl.MillNode{Kind: 99, Text: "room"}
	src := `fn func(param text, other u8) -> text { let local = "some text"; local = "a text" + ""; local = "" + "another text"; say cut("whole text", 0, len("whole text")); say cut("some text of many bytes", 5, 9); if true && local == "third text" { write "name", "fourth" + " text"; } func(local, other + 1u8); return param + "fifth text"; } fn main() -> text { return tool("sixth" + " text", "seventh text"); }`
	nodes, long := withRoom(millOf(t, src).nodes(), room)
	for i, n := range nodes {
		nodes[i].Text = string([]byte(n.Text))
	}
	kept := slices.Clone(long)
	tree := impl.MillTree{Nodes: nodes}
	got := wantMillFolded(t, tree)
	texts := 0
	for at, n := range got.Nodes {
		texts += min(len(n.Text), 1)
		for _, other := range nodes {
			if sharesBytes(other.Text, n.Text) {
				t.Errorf("the text of %d, %q, shares memory with the argument", at, n.Text)
			}
		}
		for _, other := range got.Nodes[at+1:] {
			if sharesBytes(other.Text, n.Text) || sharesBytes(n.Text, other.Text) {
				t.Errorf("the text of %d, %q, stands in two nodes", at, n.Text)
			}
		}
	}
	if texts < 20 {
		t.Errorf("only %d texts", texts)
	}
	want := slices.Clone(got.Nodes)
	other := impl.MillFold(tree)
	for i := range got.Nodes[:cap(got.Nodes)] {
		got.Nodes[:cap(got.Nodes)][i] = room
	}
	if again := impl.MillFold(tree); !slices.Equal(again.Nodes, want) || !slices.Equal(other.Nodes, want) || !slices.Equal(long, kept) {
		t.Error("folded again it is another, or the argument was changed")
	}
}

func FuzzMillFold(f *testing.F) {
	f.Add(`fn g(a text, b u8) -> bool { if a == "" + "x" || !g(a, b) { b = -1u8 + at("a", 0); } else if u8(300) < 2u8 && true { return true; } let c = 1 - 2; while true || g(a, b) { break; } g(a, 1u8 << 7u8); fail dec(c / 0); } fn main() -> text { return cut("abc", 0, len("ab")); }`)
	f.Add(`fn main() -> text { let a = ~0u64; let b = false || has(dec(num("1" + "2"))); return chr(200u8 * 2u8); }`)
	f.Fuzz(func(t *testing.T, src string) {
		tree, fault := impl.MillParse(src)
		if fault.Code != 0 || len(tree.Nodes) > 2000 {
			return
		}
		if impl.MillCheck(tree).Code != 0 {
			if got := impl.MillFold(tree); len(got.Nodes) != 0 {
				t.Errorf("%q does not fit, but: %+v", src, got)
			}
			return
		}
		wantMillFolded(t, tree)
	})
}
