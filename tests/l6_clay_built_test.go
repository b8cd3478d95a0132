package tests

import (
	"bytes"
	"maps"
	"math"
	"math/big"
	"regexp"
	"slices"
	"strconv"
	"strings"
	"testing"

	"loop.example/kilnyard/impl"
)

// clayPlain is what a value is with each number an int64.
func clayPlain(v any) any {
	switch v := v.(type) {
	case int:
		return int64(v)
	case ls:
		list := ls{}
		for _, item := range v {
			list = append(list, clayPlain(item))
		}
		return list
	case rc:
		record := rc{}
		for name, is := range v {
			record[name] = clayPlain(is)
		}
		return record
	}
	return v
}

func isSameClay(a, b any) bool { return bytes.Equal(clayRankOf(a), clayRankOf(b)) }

// claySized is a value, or the word for one that is too large.
func claySized(v any) (any, string) {
	if isClayLarge(v) {
		return nil, "large"
	}
	return v, ""
}

// clayOpByRules does an op of two values as the document says it.
func clayOpByRules(op int, a, b any) (any, string) {
	kindA, kindB := clayRankOf(a)[0], clayRankOf(b)[0]
	order := bytes.Compare(clayRankOf(a), clayRankOf(b))
	switch op {
	case impl.ClayOpSame:
		return order == 0, ""
	case impl.ClayOpOther:
		return order != 0, ""
	case impl.ClayOpHas:
		return clayHasByRules(a, b)
	}
	if kindA != kindB {
		return nil, "type"
	}
	isCompared := op >= impl.ClayOpLess && op <= impl.ClayOpLeast && kindA >= 2 && kindA <= 5
	switch a := a.(type) {
	case bool:
		if op == impl.ClayOpOr {
			return a || b.(bool), ""
		} else if op == impl.ClayOpAnd {
			return a && b.(bool), ""
		}
	case int64:
		if op >= impl.ClayOpAdd && op <= impl.ClayOpRem {
			return clayCountByRules(op, a, b.(int64))
		}
	case string:
		if op == impl.ClayOpAdd {
			return claySized(a + b.(string))
		}
	case ls:
		if op == impl.ClayOpAdd {
			return claySized(slices.Concat(a, b.(ls)))
		}
	case rc:
		if op == impl.ClayOpAdd {
			both := maps.Clone(a)
			maps.Copy(both, b.(rc))
			return claySized(both)
		}
	}
	if !isCompared {
		return nil, "type"
	}
	return [4]bool{order < 0, order <= 0, order > 0, order >= 0}[op-impl.ClayOpLess], ""
}

func clayHasByRules(a, b any) (any, string) {
	if list, ok := a.(ls); ok {
		return slices.ContainsFunc(list, func(item any) bool { return isSameClay(item, b) }), ""
	}
	text, ok := b.(string)
	if !ok {
		return nil, "type"
	}
	switch a := a.(type) {
	case string:
		for i := 0; i+len(text) <= len(a); i++ {
			if a[i:i+len(text)] == text {
				return true, ""
			}
		}
		return false, ""
	case rc:
		_, has := a[text]
		return has, ""
	}
	return nil, "type"
}

// clayCountByRules does an op of two numbers, with numbers of any size.
func clayCountByRules(op int, a, b int64) (any, string) {
	x, y, out := big.NewInt(a), big.NewInt(b), new(big.Int)
	if b == 0 && op >= impl.ClayOpDiv {
		return nil, "divide"
	}
	// The greatest number that is not above the true quotient.
	floor := func() *big.Int {
		q := new(big.Int).Quo(x, y)
		q.Add(q, big.NewInt(1))
		for new(big.Rat).SetInt(q).Cmp(new(big.Rat).SetFrac(x, y)) > 0 {
			q.Sub(q, big.NewInt(1))
		}
		return q
	}
	switch op {
	case impl.ClayOpAdd:
		out.Add(x, y)
	case impl.ClayOpSub:
		out.Sub(x, y)
	case impl.ClayOpMul:
		out.Mul(x, y)
	case impl.ClayOpDiv:
		out = floor()
	case impl.ClayOpRem:
		out.Sub(x, out.Mul(floor(), y))
	}
	if !out.IsInt64() {
		return nil, "range"
	}
	return out.Int64(), ""
}

func clayUnByRules(op int, a any) (any, string) {
	switch a := a.(type) {
	case bool:
		if op == impl.ClayOpNot {
			return !a, ""
		}
	case int64:
		if op == impl.ClayOpNeg {
			return clayCountByRules(impl.ClayOpSub, 0, a)
		}
	}
	return nil, "type"
}

// clayTaken says for each built name which kinds each of its args may have.
var clayTaken = map[string][]string{
	"len": {"456"}, "text": {"123456"}, "int": {"4"}, "range": {"3"}, "sorted": {"5"}, "unique": {"5"}, "join": {"5", "4"}, "split": {"4", "4"},
	"keys": {"6"}, "record": {"5"}, "without": {"6", "4"}, "begins": {"4", "4"}, "cut": {"45", "3", "3"},
}

var clayDecimal = regexp.MustCompile(`^(0|-?[1-9][0-9]*)$`)

// clayBuiltByRules does what a built name does as the document's table says it.
func clayBuiltByRules(name string, args ls) (any, string) {
	taken, ok := clayTaken[name]
	if !ok || len(taken) != len(args) {
		return nil, "type"
	}
	for i, arg := range args {
		if !strings.Contains(taken[i], strconv.Itoa(int(clayRankOf(arg)[0]))) {
			return nil, "type"
		}
	}
	switch name {
	case "len":
		switch of := args[0].(type) {
		case string:
			return int64(len(of)), ""
		case ls:
			return int64(len(of)), ""
		}
		return int64(len(args[0].(rc))), ""
	case "text":
		if _, ok := args[0].(string); ok {
			return args[0], ""
		}
		return claySized(clayWritten(args[0]))
	case "int":
		n, _ := new(big.Int).SetString(args[0].(string), 10)
		if !clayDecimal.MatchString(args[0].(string)) || !n.IsInt64() {
			return nil, "range"
		}
		return n.Int64(), ""
	case "range":
		list := ls{}
		if args[0].(int64) < 0 {
			return nil, "range"
		}
		for n := int64(0); n < min(args[0].(int64), 1000); n++ {
			list = append(list, n)
		}
		return claySized(list)
	case "sorted", "unique", "join":
		return clayListByRules(name, args)
	case "split", "begins", "cut":
		return clayPiecesByRules(name, args)
	}
	return clayRecordByRules(name, args)
}

func clayListByRules(name string, args ls) (any, string) {
	list := args[0].(ls)
	switch name {
	case "sorted":
		// Each item is put ahead of the first one that is above it.
		sorted := ls{}
		for _, item := range list {
			at := slices.IndexFunc(sorted, func(other any) bool { return bytes.Compare(clayRankOf(other), clayRankOf(item)) > 0 })
			if at < 0 {
				at = len(sorted)
			}
			sorted = slices.Insert(sorted, at, item)
		}
		return sorted, ""
	case "unique":
		once := ls{}
		for i, item := range list {
			if !slices.ContainsFunc(list[:i], func(other any) bool { return isSameClay(other, item) }) {
				once = append(once, item)
			}
		}
		return once, ""
	}
	joined := ""
	for i, item := range list {
		text, ok := item.(string)
		if !ok {
			return nil, "type"
		}
		if i > 0 {
			joined += args[1].(string)
		}
		joined += text
	}
	return claySized(joined)
}

func clayPiecesByRules(name string, args ls) (any, string) {
	if name == "cut" {
		first, second := args[1].(int64), args[2].(int64)
		text, isText := args[0].(string)
		list, _ := args[0].(ls)
		if first < 0 || first > second || second > int64(len(text)+len(list)) {
			return nil, "range"
		}
		if isText {
			return text[first:second], ""
		}
		return list[first:second:second], ""
	}
	text, second := args[0].(string), args[1].(string)
	if name == "begins" {
		return len(second) <= len(text) && text[:len(second)] == second, ""
	}
	if second == "" {
		return nil, "range"
	}
	pieces := ls{}
	piece := ""
	for text != "" {
		if len(second) <= len(text) && text[:len(second)] == second {
			pieces, piece, text = append(pieces, piece), "", text[len(second):]
		} else {
			piece, text = piece+text[:1], text[1:]
		}
	}
	return claySized(append(pieces, piece))
}

func clayRecordByRules(name string, args ls) (any, string) {
	switch name {
	case "keys":
		names := ls{}
		for _, name := range slices.Sorted(maps.Keys(args[0].(rc))) {
			names = append(names, name)
		}
		return names, ""
	case "without":
		record := maps.Clone(args[0].(rc))
		delete(record, args[1].(string))
		return record, ""
	}
	record := rc{}
	for _, item := range args[0].(ls) {
		pair, ok := item.(ls)
		if !ok || len(pair) != 2 {
			return nil, "type"
		}
		name, ok := pair[0].(string)
		if !ok {
			return nil, "type"
		}
		record[name] = pair[1]
	}
	if len(record) < len(args[0].(ls)) {
		return nil, "key"
	}
	return record, ""
}

// wantAnswer holds a value and a word against those that are wanted.
func wantAnswer(t *testing.T, what string, got impl.ClayValue, gotWord string, want any, word string) {
	t.Helper()
	switch {
	case gotWord != word:
		t.Errorf("%.300s: word %q, want %q (%.200s)", what, gotWord, word, impl.ClayFormValue(got))
	case word != "" && len(got.Atoms) != 0:
		t.Errorf("%.300s: a value beside %q", what, word)
	case word == "" && !slices.Equal(got.Atoms, clayAtomsOf(want)):
		t.Errorf("%.300s: %.300v, want %.300s", what, got.Atoms, clayWritten(want))
	}
}

func wantOpByRules(t *testing.T, op int, a, b any) {
	t.Helper()
	a, b = clayPlain(a), clayPlain(b)
	want, word := clayOpByRules(op, a, b)
	got, gotWord := impl.ClayOp(op, clayVal(a), clayVal(b))
	wantAnswer(t, clayWritten(a)+" op "+strconv.Itoa(op)+" "+clayWritten(b), got, gotWord, want, word)
}

func wantUnByRules(t *testing.T, op int, a any) {
	t.Helper()
	want, word := clayUnByRules(op, clayPlain(a))
	got, gotWord := impl.ClayUn(op, clayVal(a))
	wantAnswer(t, "op "+strconv.Itoa(op)+" of "+clayWritten(a), got, gotWord, want, word)
}

func wantBuiltByRules(t *testing.T, name string, args ...any) {
	t.Helper()
	args = clayPlain(args).(ls)
	want, word := clayBuiltByRules(name, args)
	var values []impl.ClayValue
	for _, arg := range args {
		values = append(values, clayVal(arg))
	}
	got, gotWord := impl.ClayBuilt(name, values)
	wantAnswer(t, name+" of "+clayWritten(args), got, gotWord, want, word)
}

// clayWordOf marks a word that is wanted in a value's place.
type clayWordOf string

// wantOp says what an op gives, and that the rules say so, too.
func wantOp(t *testing.T, op int, a, b, want any) {
	t.Helper()
	word, isWord := want.(clayWordOf)
	if isWord {
		want = nil
	}
	got, gotWord := impl.ClayOp(op, clayVal(a), clayVal(b))
	wantAnswer(t, clayWritten(a)+" op "+strconv.Itoa(op)+" "+clayWritten(b), got, gotWord, want, string(word))
	wantOpByRules(t, op, a, b)
}

// wantBuilt says what a built name gives, and that the rules say so, too.
func wantBuilt(t *testing.T, name string, args ls, want any) {
	t.Helper()
	word, isWord := want.(clayWordOf)
	if isWord {
		want = nil
	}
	var values []impl.ClayValue
	for _, arg := range args {
		values = append(values, clayVal(arg))
	}
	got, gotWord := impl.ClayBuilt(name, values)
	wantAnswer(t, name+" of "+clayWritten(args), got, gotWord, want, string(word))
	wantBuiltByRules(t, name, args...)
}

// Ops at each pair of values of each kind, and ops that are none.
func TestClayOpOfEachTwo(t *testing.T) {
	t.Parallel()
	list := clayPlain(ls(clayAscending())).(ls)
	for _, a := range list {
		for _, b := range list {
			for op := -1; op <= 16; op++ {
				wantOpByRules(t, op, a, b)
			}
		}
		for op := -2; op <= 15; op++ {
			wantUnByRules(t, op, a)
		}
	}
	for _, op := range []int{math.MinInt, -100, 100, 1 << 32, 1<<32 + 1, math.MaxInt} {
		for _, v := range []any{nil, true, 1, "a", ls{}, rc{}} {
			wantOp(t, op, v, v, clayWordOf("type"))
			wantUnByRules(t, op, v)
		}
	}
}

func TestClayOpByHand(t *testing.T) {
	kind, span, least, most := clayWordOf("type"), clayWordOf("range"), int64(math.MinInt64), int64(math.MaxInt64)
	for _, c := range []struct {
		op         int
		a, b, want any
	}{
		{impl.ClayOpOr, true, false, true}, {impl.ClayOpOr, false, false, false}, {impl.ClayOpAnd, true, true, true}, {impl.ClayOpAnd, true, false, false}, {impl.ClayOpOr, true, 1, kind}, {impl.ClayOpAnd, false, nil, kind}, {impl.ClayOpAnd, 1, 1, kind},
		{impl.ClayOpSame, nil, nil, true}, {impl.ClayOpSame, 1, "1", false}, {impl.ClayOpSame, 0, false, false}, {impl.ClayOpSame, ls{}, rc{}, false}, {impl.ClayOpOther, rc{"a": 1}, rc{"a": 1}, false}, {impl.ClayOpOther, rc{"a": 1}, rc{"a": 2}, true},
		{impl.ClayOpLess, 1, 2, true}, {impl.ClayOpLess, 2, 2, false}, {impl.ClayOpMost, 2, 2, true}, {impl.ClayOpMost, 3, 2, false}, {impl.ClayOpMore, 3, 2, true}, {impl.ClayOpMore, 2, 2, false}, {impl.ClayOpLeast, 2, 2, true}, {impl.ClayOpLeast, 1, 2, false},
		{impl.ClayOpLess, false, true, true}, {impl.ClayOpLess, "a", "ab", true}, {impl.ClayOpMore, ls{1, 2}, ls{1}, true}, {impl.ClayOpLess, ls{nil}, ls{rc{}}, true}, {impl.ClayOpLess, rc{}, rc{"a": 1}, kind}, {impl.ClayOpMost, nil, nil, kind}, {impl.ClayOpLeast, 1, true, kind}, {impl.ClayOpLess, 1, ls{1}, kind},
		{impl.ClayOpHas, "abc", "bc", true}, {impl.ClayOpHas, "abc", "ac", false}, {impl.ClayOpHas, "", "", true}, {impl.ClayOpHas, "abc", "", true}, {impl.ClayOpHas, "a", "aa", false}, {impl.ClayOpHas, "\xc3\xa9", "\xa9", true},
		{impl.ClayOpHas, ls{}, nil, false}, {impl.ClayOpHas, ls{""}, "", true}, {impl.ClayOpHas, ls{"ab"}, "a", false}, {impl.ClayOpHas, ls{1, ls{2}}, ls{2}, true}, {impl.ClayOpHas, ls{1, ls{2}}, 2, false}, {impl.ClayOpHas, ls{rc{"a": 1}}, rc{"a": 1}, true},
		{impl.ClayOpHas, rc{"a": 1, "b": 2, "c": 3}, "b", true}, {impl.ClayOpHas, rc{"a": 1}, "", false}, {impl.ClayOpHas, rc{"": 1}, "", true}, {impl.ClayOpHas, rc{"ab": 1}, "a", false}, {impl.ClayOpHas, rc{"a": 1}, 1, kind}, {impl.ClayOpHas, "1", 1, kind}, {impl.ClayOpHas, 1, 1, kind}, {impl.ClayOpHas, nil, "a", kind},
		{impl.ClayOpAdd, 1, -2, -1}, {impl.ClayOpAdd, "a", "", "a"}, {impl.ClayOpAdd, ls{1}, ls{1}, ls{1, 1}}, {impl.ClayOpAdd, ls{}, ls{}, ls{}}, {impl.ClayOpAdd, rc{"a": 1, "c": 3}, rc{"b": 2, "c": 4}, rc{"a": 1, "b": 2, "c": 4}}, {impl.ClayOpAdd, rc{"a": nil}, rc{}, rc{"a": nil}},
		{impl.ClayOpAdd, true, true, kind}, {impl.ClayOpAdd, "a", 1, kind}, {impl.ClayOpAdd, ls{}, 1, kind}, {impl.ClayOpAdd, ls{}, rc{}, kind}, {impl.ClayOpSub, "a", "a", kind}, {impl.ClayOpSub, rc{}, rc{}, kind}, {impl.ClayOpMul, ls{}, 2, kind}, {impl.ClayOpDiv, true, true, kind}, {impl.ClayOpRem, "a", 0, kind},
		{impl.ClayOpAdd, most, 1, span}, {impl.ClayOpAdd, least, -1, span}, {impl.ClayOpAdd, least, most, -1}, {impl.ClayOpAdd, most - 1, 1, most}, {impl.ClayOpAdd, least + 1, -1, least}, {impl.ClayOpAdd, least, least, span}, {impl.ClayOpAdd, most, most, span}, {impl.ClayOpAdd, most, 0, most}, {impl.ClayOpAdd, least, 0, least},
		{impl.ClayOpSub, least, 1, span}, {impl.ClayOpSub, most, -1, span}, {impl.ClayOpSub, 0, least, span}, {impl.ClayOpSub, -1, least, most}, {impl.ClayOpSub, -2, most, span}, {impl.ClayOpSub, -1, most, least}, {impl.ClayOpSub, least, least, 0}, {impl.ClayOpSub, most, 0, most},
		{impl.ClayOpMul, most, -1, least + 1}, {impl.ClayOpMul, least, -1, span}, {impl.ClayOpMul, -1, least, span}, {impl.ClayOpMul, least, 1, least}, {impl.ClayOpMul, 1, least, least}, {impl.ClayOpMul, least, 0, 0}, {impl.ClayOpMul, 0, least, 0}, {impl.ClayOpMul, least / 2, 2, least}, {impl.ClayOpMul, least / 2, -2, span}, {impl.ClayOpMul, most/2 + 1, 2, span}, {impl.ClayOpMul, most, most, span}, {impl.ClayOpMul, least, least, span}, {impl.ClayOpMul, int64(1) << 32, int64(1) << 32, span}, {impl.ClayOpMul, int64(1) << 32, -(int64(1) << 31), least},
		{impl.ClayOpDiv, 7, 2, 3}, {impl.ClayOpDiv, 7, -2, -4}, {impl.ClayOpDiv, -7, 2, -4}, {impl.ClayOpDiv, -7, -2, 3}, {impl.ClayOpDiv, 6, -2, -3}, {impl.ClayOpDiv, -6, 2, -3}, {impl.ClayOpDiv, 0, -5, 0}, {impl.ClayOpDiv, 1, -5, -1}, {impl.ClayOpDiv, -1, 5, -1}, {impl.ClayOpDiv, -1, -5, 0},
		{impl.ClayOpRem, 7, 2, 1}, {impl.ClayOpRem, 7, -2, -1}, {impl.ClayOpRem, -7, 2, 1}, {impl.ClayOpRem, -7, -2, -1}, {impl.ClayOpRem, 6, -2, 0}, {impl.ClayOpRem, -6, 2, 0}, {impl.ClayOpRem, 0, -5, 0}, {impl.ClayOpRem, 1, -5, -4}, {impl.ClayOpRem, -1, 5, 4}, {impl.ClayOpRem, -1, -5, -1},
		{impl.ClayOpDiv, least, -1, span}, {impl.ClayOpRem, least, -1, 0}, {impl.ClayOpDiv, least, 1, least}, {impl.ClayOpDiv, most, -1, least + 1}, {impl.ClayOpDiv, least, least, 1}, {impl.ClayOpRem, least, most, most - 1}, {impl.ClayOpDiv, least, most, -2}, {impl.ClayOpDiv, most, least, -1}, {impl.ClayOpRem, most, least, -1}, {impl.ClayOpDiv, least, 2, least / 2},
		{impl.ClayOpDiv, 1, 0, clayWordOf("divide")}, {impl.ClayOpRem, 1, 0, clayWordOf("divide")}, {impl.ClayOpDiv, 0, 0, clayWordOf("divide")}, {impl.ClayOpRem, least, 0, clayWordOf("divide")}, {impl.ClayOpMul, 1, 0, 0},
	} {
		wantOp(t, c.op, c.a, c.b, c.want)
	}
	for _, c := range []struct {
		op      int
		a, want any
		word    string
	}{
		{impl.ClayOpNot, true, false, ""}, {impl.ClayOpNot, false, true, ""}, {impl.ClayOpNot, 0, nil, "type"}, {impl.ClayOpNot, nil, nil, "type"}, {impl.ClayOpNeg, 5, -5, ""}, {impl.ClayOpNeg, -5, 5, ""}, {impl.ClayOpNeg, 0, 0, ""},
		{impl.ClayOpNeg, most, least + 1, ""}, {impl.ClayOpNeg, least + 1, most, ""}, {impl.ClayOpNeg, least, nil, "range"}, {impl.ClayOpNeg, true, nil, "type"}, {impl.ClayOpNeg, "1", nil, "type"}, {impl.ClayOpNeg, ls{}, nil, "type"}, {0, 1, nil, "type"}, {3, true, nil, "type"}, {impl.ClayOpSub, 1, nil, "type"},
	} {
		got, word := impl.ClayUn(c.op, clayVal(c.a))
		wantAnswer(t, "op "+strconv.Itoa(c.op)+" of "+clayWritten(c.a), got, word, c.want, c.word)
	}
}

// clayNumbers are numbers at which something changes.
func clayNumbers() []int64 {
	var numbers []int64
	for _, middle := range []int64{0, 7, 10, 1 << 31, 1 << 32, 3037000499, 1 << 62, math.MaxInt64 / 2, math.MaxInt64 / 3, math.MaxInt64 - 2} {
		for near := int64(-2); near <= 2; near++ {
			numbers = append(numbers, middle+near, -(middle + near))
		}
	}
	return append(numbers, math.MinInt64, math.MinInt64+1, math.MinInt64+2, math.MinInt64/2-1)
}

// Promise 6: (a / b) * b + a % b is a where there is a quotient and nothing ends with range.
func TestClayOpQuotientAndRest(t *testing.T) {
	wholes, spans := 0, 0
	for _, a := range clayNumbers() {
		for _, b := range clayNumbers() {
			for op := impl.ClayOpAdd; op <= impl.ClayOpRem; op++ {
				wantOpByRules(t, op, a, b)
			}
			x, y := clayVal(a), clayVal(b)
			quotient, word := impl.ClayOp(impl.ClayOpDiv, x, y)
			if word != "" {
				continue
			}
			rest, restWord := impl.ClayOp(impl.ClayOpRem, x, y)
			product, productWord := impl.ClayOp(impl.ClayOpMul, quotient, y)
			if restWord != "" || productWord == "range" {
				spans++
				continue
			}
			whole, word := impl.ClayOp(impl.ClayOpAdd, product, rest)
			wantAnswer(t, strconv.FormatInt(a, 10)+" by "+strconv.FormatInt(b, 10), whole, word, a, "")
			if n := rest.Atoms[0].N; n != 0 && (n < 0) != (b < 0) || n == b {
				t.Errorf("%d by %d leaves %d", a, b, n)
			}
			wholes++
		}
	}
	if wholes < 5000 || spans == 0 {
		t.Errorf("%d were put together, %d not", wholes, spans)
	}
}

// Promise 6: + of texts and lists is associative where it is not too large.
func TestClayOpAddBothWays(t *testing.T) {
	dice := clayDice(61)
	larges := 0
	add := func(a, b impl.ClayValue, word string) (impl.ClayValue, string) {
		if word != "" {
			return impl.ClayValue{}, word
		}
		return impl.ClayOp(impl.ClayOpAdd, a, b)
	}
	texts := []any{"", "a", "bc", "\x00", strings.Repeat("x", 300), strings.Repeat("y", 400), strings.Repeat("z", 1000)}
	lists := []any{ls{}, ls{1}, ls{nil, "a"}, ls{ls{}, rc{"a": 1}}, slices.Repeat(ls{0}, 60), slices.Repeat(ls{ls{1, 2, 3}}, 80), slices.Repeat(ls{""}, 200)}
	for range 2000 {
		list := [][]any{texts, lists}[dice.below(2)]
		a, b, c := clayVal(list[dice.below(7)]), clayVal(list[dice.below(7)]), clayVal(list[dice.below(7)])
		ab, word := add(a, b, "")
		left, leftWord := add(ab, c, word)
		bc, word := add(b, c, "")
		right, rightWord := add(a, bc, word)
		if leftWord != rightWord || !slices.Equal(left.Atoms, right.Atoms) {
			t.Fatalf("%.200v, %.200v, %.200v: %q, %q", a, b, c, leftWord, rightWord)
		}
		if leftWord == "large" {
			larges++
		} else if leftWord != "" || len(left.Atoms) == 0 {
			t.Fatalf("%.200v, %.200v, %.200v: %q", a, b, c, leftWord)
		}
	}
	if larges < 200 || larges > 1800 {
		t.Errorf("%d were too large", larges)
	}
}

func clayMergedByHand(first, second rc) rc {
	maps.Copy(first, second)
	return first
}

func TestClayOpAddMost(t *testing.T) {
	large := clayWordOf("large")
	x := func(n int) string { return strings.Repeat("x", n) }
	wantOp(t, impl.ClayOpAdd, x(600), x(400), x(1000))
	wantOp(t, impl.ClayOpAdd, x(600), x(401), large)
	wantOp(t, impl.ClayOpAdd, x(1000), "", x(1000))
	wantOp(t, impl.ClayOpAdd, "y", x(1000), large)
	items := func(n int) ls { return slices.Repeat(ls{7}, n) }
	wantOp(t, impl.ClayOpAdd, items(120), items(80), items(200))
	wantOp(t, impl.ClayOpAdd, items(120), items(81), large)
	wantOp(t, impl.ClayOpAdd, items(200), ls{}, items(200))
	wantOp(t, impl.ClayOpAdd, ls{}, items(200), items(200))
	wantOp(t, impl.ClayOpAdd, items(200), ls{nil}, large)
	// Two lists of 499 and 502 atoms have one of 1000 together.
	part := func(atoms int) ls { return clayAtomsMany(atoms, false).(ls) }
	wantOp(t, impl.ClayOpAdd, part(499), part(502), slices.Concat(part(499), part(502)))
	wantOp(t, impl.ClayOpAdd, part(500), part(502), large)
	wantOp(t, impl.ClayOpAdd, part(1000), ls{}, part(1000))
	wantOp(t, impl.ClayOpAdd, part(1000), ls{1}, large)
	// Records: their names are counted once, and what the second names counts.
	names := func(from, to int) rc {
		record := rc{}
		for i := from; i < to; i++ {
			record["n"+strconv.Itoa(i)] = i
		}
		return record
	}
	wantOp(t, impl.ClayOpAdd, names(0, 120), names(120, 200), names(0, 200))
	wantOp(t, impl.ClayOpAdd, names(0, 120), names(120, 201), large)
	wantOp(t, impl.ClayOpAdd, names(0, 150), names(50, 200), names(0, 200))
	wantOp(t, impl.ClayOpAdd, names(0, 200), names(0, 200), names(0, 200))
	wantOp(t, impl.ClayOpAdd, names(0, 200), rc{"n7": "other"}, clayMergedByHand(names(0, 200), rc{"n7": "other"}))
	wantOp(t, impl.ClayOpAdd, clayNamesOf(200, "first"), clayNamesOf(200, "second"), clayNamesOf(200, "second"))
	wantOp(t, impl.ClayOpAdd, clayNamesOf(200, 2), clayNamesOf(150, 1), clayMergedByHand(clayNamesOf(200, 2), clayNamesOf(150, 1)))
	wantOp(t, impl.ClayOpAdd, names(0, 200), rc{"": 1}, large)
	wide := func(n int) rc { return rc{"w": slices.Repeat(ls{ls{1, 1, 1}}, 124), "v": slices.Repeat(ls{1}, n)} }
	wantOp(t, impl.ClayOpAdd, rc{"a": slices.Repeat(ls{ls{1, 1, 1}}, 100)}, wide(97), rc{"a": slices.Repeat(ls{ls{1, 1, 1}}, 100), "v": slices.Repeat(ls{1}, 97), "w": slices.Repeat(ls{ls{1, 1, 1}}, 124)})
	wantOp(t, impl.ClayOpAdd, rc{"a": slices.Repeat(ls{ls{1, 1, 1}}, 100)}, wide(98), large)
	wantOp(t, impl.ClayOpAdd, rc{"w": slices.Repeat(ls{ls{1, 1, 1}}, 200)}, wide(98), wide(98))
	// What is as deep as may be stays so.
	deep := clayNestOf(impl.ClayMaxDeep, func(int) bool { return false }, nil)
	wantOp(t, impl.ClayOpAdd, deep, deep, ls{deep.(ls)[0], deep.(ls)[0]})
	inRecord := clayNestOf(impl.ClayMaxDeep, func(int) bool { return true }, nil)
	wantOp(t, impl.ClayOpAdd, inRecord, rc{"b": inRecord.(rc)["a"]}, rc{"a": inRecord.(rc)["a"], "b": inRecord.(rc)["a"]})
}

func TestClayBuiltByHand(t *testing.T) {
	kind, span, large, least, most := clayWordOf("type"), clayWordOf("range"), clayWordOf("large"), int64(math.MinInt64), int64(math.MaxInt64)
	x := func(n int) string { return strings.Repeat("x", n) }
	for _, c := range []struct {
		name string
		args ls
		want any
	}{
		{"len", ls{""}, 0}, {"len", ls{"a\x00\xff"}, 3}, {"len", ls{x(1000)}, 1000}, {"len", ls{ls{}}, 0}, {"len", ls{ls{ls{1, 2}}}, 1}, {"len", ls{slices.Repeat(ls{1}, 200)}, 200}, {"len", ls{rc{}}, 0}, {"len", ls{rc{"a": 1, "b": 2}}, 2}, {"len", ls{clayNamesOf(200, 1)}, 200}, {"len", ls{5}, kind}, {"len", ls{nil}, kind}, {"len", ls{true}, kind},
		{"text", ls{"a b"}, "a b"}, {"text", ls{""}, ""}, {"text", ls{x(1000)}, x(1000)}, {"text", ls{nil}, "none"}, {"text", ls{true}, "true"}, {"text", ls{-5}, "-5"}, {"text", ls{least}, "-9223372036854775807 - 1"}, {"text", ls{ls{}}, "[]"}, {"text", ls{ls{"a", rc{"if": 1}}}, `["a", {"if": 1}]`},
		{"text", ls{ls{x(996)}}, "[\"" + x(996) + "\"]"}, {"text", ls{ls{x(997)}}, large}, {"text", ls{ls{x(1000)}}, large}, {"text", ls{slices.Repeat(ls{1}, 200)}, "[" + strings.Repeat("1, ", 199) + "1]"}, {"text", ls{slices.Repeat(ls{11111}, 200)}, large}, {"text", ls{clayAtomsMany(1000, true)}, large},
		{"text", ls{rc{x(995): 1}}, large}, {"text", ls{rc{x(994): 1}}, large}, {"text", ls{rc{x(993): 1}}, "{\"" + x(993) + "\": 1}"},
		{"int", ls{"0"}, 0}, {"int", ls{"7"}, 7}, {"int", ls{"-7"}, -7}, {"int", ls{"9223372036854775807"}, most}, {"int", ls{"-9223372036854775808"}, least}, {"int", ls{"9223372036854775808"}, span}, {"int", ls{"-9223372036854775809"}, span}, {"int", ls{"99999999999999999999"}, span}, {"int", ls{strings.Repeat("9", 1000)}, span},
		{"int", ls{""}, span}, {"int", ls{"-"}, span}, {"int", ls{"-0"}, span}, {"int", ls{"00"}, span}, {"int", ls{"01"}, span}, {"int", ls{"-01"}, span}, {"int", ls{"+1"}, span}, {"int", ls{"--1"}, span}, {"int", ls{" 1"}, span}, {"int", ls{"1 "}, span}, {"int", ls{"1\n"}, span}, {"int", ls{"1_0"}, span}, {"int", ls{"0x1"}, span}, {"int", ls{"1.0"}, span}, {"int", ls{"1e3"}, span}, {"int", ls{"a"}, span}, {"int", ls{"-9223372036854775807 - 1"}, span}, {"int", ls{"\xd9\xa1"}, span}, {"int", ls{1}, kind}, {"int", ls{nil}, kind},
		{"range", ls{0}, ls{}}, {"range", ls{1}, ls{0}}, {"range", ls{3}, ls{0, 1, 2}}, {"range", ls{-1}, span}, {"range", ls{least}, span}, {"range", ls{201}, large}, {"range", ls{most}, large}, {"range", ls{int64(1) << 32}, large}, {"range", ls{"3"}, kind}, {"range", ls{ls{}}, kind},
		{"sorted", ls{ls{}}, ls{}}, {"sorted", ls{ls{2, 1, 2, 1}}, ls{1, 1, 2, 2}}, {"sorted", ls{ls{rc{}, ls{}, "", 0, false, nil}}, ls{nil, false, 0, "", ls{}, rc{}}}, {"sorted", ls{ls{"b", "ab", "a", ""}}, ls{"", "a", "ab", "b"}}, {"sorted", ls{ls{ls{2}, ls{1, 1}, ls{1}}}, ls{ls{1}, ls{1, 1}, ls{2}}}, {"sorted", ls{"ba"}, kind}, {"sorted", ls{rc{}}, kind},
		{"unique", ls{ls{}}, ls{}}, {"unique", ls{ls{2, 1, 2, 1, 3}}, ls{2, 1, 3}}, {"unique", ls{ls{1, "1", true, ls{1}, rc{}, nil, 1, nil, ls{1}, rc{}, true, "1"}}, ls{1, "1", true, ls{1}, rc{}, nil}}, {"unique", ls{"aa"}, kind},
		{"join", ls{ls{}, "-"}, ""}, {"join", ls{ls{"a"}, "-"}, "a"}, {"join", ls{ls{"a", "", "b"}, "--"}, "a----b"}, {"join", ls{ls{"a", "b"}, ""}, "ab"}, {"join", ls{ls{"", ""}, ""}, ""}, {"join", ls{ls{}, x(1000)}, ""}, {"join", ls{ls{"a"}, x(1000)}, "a"}, {"join", ls{ls{"", ""}, x(1000)}, x(1000)}, {"join", ls{ls{"a", ""}, x(1000)}, large}, {"join", ls{ls{x(500), x(499)}, "x"}, x(1000)}, {"join", ls{ls{x(500), x(500)}, "x"}, large}, {"join", ls{slices.Repeat(ls{x(1000)}, 200), x(1000)}, large}, {"join", ls{slices.Repeat(ls{"xxxxx"}, 200), ""}, x(1000)},
		{"join", ls{ls{1}, "-"}, kind}, {"join", ls{ls{"a", nil}, "-"}, kind}, {"join", ls{ls{"a", ls{}}, "-"}, kind}, {"join", ls{slices.Concat(slices.Repeat(ls{x(1000)}, 199), ls{1}), "-"}, kind}, {"join", ls{ls{"a"}, 1}, kind}, {"join", ls{"a", "b"}, kind}, {"join", ls{rc{"a": "b"}, ""}, kind},
		{"split", ls{"a,b", ","}, ls{"a", "b"}}, {"split", ls{",a,,b,", ","}, ls{"", "a", "", "b", ""}}, {"split", ls{"", ","}, ls{""}}, {"split", ls{",", ","}, ls{"", ""}}, {"split", ls{"abc", "abcd"}, ls{"abc"}}, {"split", ls{"aaaaa", "aa"}, ls{"", "", "a"}}, {"split", ls{"ababa", "aba"}, ls{"", "ba"}}, {"split", ls{"a\xc3\xa9", "\xc3"}, ls{"a", "\xa9"}}, {"split", ls{"a", ""}, span}, {"split", ls{"", ""}, span},
		{"split", ls{strings.Repeat("a,", 199), ","}, append(slices.Repeat(ls{"a"}, 199), "")}, {"split", ls{strings.Repeat(",", 199), ","}, slices.Repeat(ls{""}, 200)}, {"split", ls{strings.Repeat(",", 200), ","}, large}, {"split", ls{strings.Repeat(",", 1000), ","}, large}, {"split", ls{"a", 1}, kind}, {"split", ls{ls{"a"}, "a"}, kind}, {"split", ls{1, ""}, kind},
		{"keys", ls{rc{}}, ls{}}, {"keys", ls{rc{"b": 1, "a": 2, "": 3, "\xff": 4}}, ls{"", "a", "b", "\xff"}}, {"keys", ls{ls{"a"}}, kind}, {"keys", ls{nil}, kind},
		{"record", ls{ls{}}, rc{}}, {"record", ls{ls{ls{"b", 1}, ls{"a", nil}, ls{"", ls{2}}}}, rc{"": ls{2}, "a": nil, "b": 1}}, {"record", ls{ls{ls{"a", 1}, ls{"b", 2}, ls{"a", 1}}}, clayWordOf("key")}, {"record", ls{ls{ls{"", 1}, ls{"", 2}}}, clayWordOf("key")},
		{"record", ls{ls{ls{"a", 1}, ls{"a", 2}, 3}}, kind}, {"record", ls{ls{ls{"a", 1}, ls{"a", 2}, ls{"b"}}}, kind}, {"record", ls{ls{1}}, kind}, {"record", ls{ls{"ab"}}, kind}, {"record", ls{ls{rc{"a": 1}}}, kind}, {"record", ls{ls{ls{}}}, kind}, {"record", ls{ls{ls{"a"}}}, kind}, {"record", ls{ls{ls{"a", 1, 2}}}, kind}, {"record", ls{ls{ls{1, "a"}}}, kind}, {"record", ls{ls{ls{nil, 1}}}, kind}, {"record", ls{ls{ls{ls{"a"}, 1}}}, kind}, {"record", ls{rc{"a": 1}}, kind}, {"record", ls{"a"}, kind},
		{"without", ls{rc{"a": 1, "b": 2, "c": 3}, "b"}, rc{"a": 1, "c": 3}}, {"without", ls{rc{"a": 1}, "a"}, rc{}}, {"without", ls{rc{"a": 1, "b": 2}, "b"}, rc{"a": 1}}, {"without", ls{rc{"a": 1, "b": 2}, "a"}, rc{"b": 2}}, {"without", ls{rc{"a": 1}, "b"}, rc{"a": 1}}, {"without", ls{rc{"b": 1}, "a"}, rc{"b": 1}}, {"without", ls{rc{}, "a"}, rc{}}, {"without", ls{rc{"": 1, "a": 2}, ""}, rc{"a": 2}}, {"without", ls{rc{"a": rc{"a": 1}}, "a"}, rc{}}, {"without", ls{rc{"a": 1}, 1}, kind}, {"without", ls{ls{"a"}, "a"}, kind}, {"without", ls{clayNamesOf(200, 1), "n1000"}, func() rc { r := clayNamesOf(200, 1); delete(r, "n1000"); return r }()},
		{"begins", ls{"abc", "ab"}, true}, {"begins", ls{"abc", ""}, true}, {"begins", ls{"", ""}, true}, {"begins", ls{"abc", "abc"}, true}, {"begins", ls{"abc", "abcd"}, false}, {"begins", ls{"abc", "b"}, false}, {"begins", ls{"", "a"}, false}, {"begins", ls{"a", 1}, kind}, {"begins", ls{ls{"a"}, ls{}}, kind},
		{"cut", ls{"abc", 0, 3}, "abc"}, {"cut", ls{"abc", 0, 0}, ""}, {"cut", ls{"abc", 3, 3}, ""}, {"cut", ls{"abc", 1, 2}, "b"}, {"cut", ls{"abc", 2, 3}, "c"}, {"cut", ls{"", 0, 0}, ""}, {"cut", ls{"abc", -1, 2}, span}, {"cut", ls{"abc", 2, 1}, span}, {"cut", ls{"abc", 0, 4}, span}, {"cut", ls{"abc", 4, 4}, span}, {"cut", ls{"abc", -1, -1}, span}, {"cut", ls{"abc", 0, most}, span}, {"cut", ls{"abc", least, 1}, span}, {"cut", ls{"abc", most, most}, span}, {"cut", ls{"abc", 0, int64(1) << 32}, span}, {"cut", ls{"abc", least, most}, span},
		{"cut", ls{ls{1, ls{2}, 3}, 0, 3}, ls{1, ls{2}, 3}}, {"cut", ls{ls{1, ls{2}, 3}, 1, 2}, ls{ls{2}}}, {"cut", ls{ls{1, 2}, 2, 2}, ls{}}, {"cut", ls{ls{}, 0, 0}, ls{}}, {"cut", ls{ls{1, 2}, 0, 3}, span}, {"cut", ls{ls{1, 2}, 2, 1}, span}, {"cut", ls{ls{1, 2}, -1, 1}, span}, {"cut", ls{ls{}, 0, 1}, span},
		{"cut", ls{rc{"a": 1}, 0, 1}, kind}, {"cut", ls{nil, 0, 0}, kind}, {"cut", ls{1, 0, 0}, kind}, {"cut", ls{"abc", "0", 1}, kind}, {"cut", ls{"abc", 0, nil}, kind}, {"cut", ls{"abc", 5, "a"}, kind}, {"cut", ls{rc{}, 5, 1}, kind},
		{"files", ls{"a"}, kind}, {"fail", ls{"a"}, kind}, {"files", ls{}, kind}, {"fail", ls{}, kind}, {"", ls{}, kind}, {"", ls{"a"}, kind}, {"Len", ls{"a"}, kind}, {"len ", ls{"a"}, kind}, {"lens", ls{"a"}, kind}, {"or", ls{true, true}, kind}, {"not", ls{true}, kind}, {"+", ls{1, 1}, kind},
	} {
		wantBuilt(t, c.name, c.args, c.want)
	}
	all := ls{}
	for i := range impl.ClayMaxList {
		all = append(all, i)
	}
	wantBuilt(t, "range", ls{impl.ClayMaxList}, all)
}

// Each built name with each number of args, and with values of each kind in each place.
func TestClayBuiltOfEachKind(t *testing.T) {
	t.Parallel()
	names := append(strings.Fields(clayBuiltList), "", "or", "lenn")
	values := clayPlain(ls(clayAscending())).(ls)
	few := clayPlain(ls{nil, true, 0, 1, 2, -1, "", "a", "ab", ls{}, ls{"a"}, ls{"a", "b"}, ls{ls{"a", 1}}, ls{1, 2, 1}, rc{}, rc{"a": 1}}).(ls)
	for _, name := range names {
		wantBuiltByRules(t, name)
		for _, a := range values {
			wantBuiltByRules(t, name, a)
			for _, b := range values {
				wantBuiltByRules(t, name, a, b)
			}
		}
		for _, a := range few {
			for _, b := range few {
				for _, c := range few {
					wantBuiltByRules(t, name, a, b, c)
					wantBuiltByRules(t, name, a, b, c, a)
				}
			}
		}
		for n := range 10 {
			wantBuiltByRules(t, name, slices.Repeat(ls{"a"}, n)...)
			wantBuiltByRules(t, name, slices.Repeat(ls{ls{"a"}}, n)...)
		}
	}
}

// What stands in the table is what is known outside of every file, but for files and fail.
func TestClayBuiltNamesAreKnown(t *testing.T) {
	for _, name := range strings.Fields(clayBuiltList) {
		if binds := impl.ClayBinds(clayRead(t, "emit "+name+";")); !slices.Equal(binds, []int{-2, -1, -1}) {
			t.Errorf("%s: %v", name, binds)
		}
		if _, ok := clayTaken[name]; !ok && name != "files" && name != "fail" {
			t.Errorf("%s is not in the table", name)
		}
	}
	if len(clayTaken) != 13 {
		t.Errorf("%d names", len(clayTaken))
	}
}

// Promise 6: sorted is in order and has each item as often.
func TestClayBuiltSortedIsInOrder(t *testing.T) {
	dice := clayDice(62)
	for i := range 2000 {
		list := ls{}
		for range dice.below(30) {
			if len(list) > 0 && dice.below(3) == 0 {
				list = append(list, dice.near(list[dice.below(len(list))]))
			} else {
				list = append(list, dice.value(i%3))
			}
		}
		if isClayLarge(list) {
			continue
		}
		wantBuiltByRules(t, "unique", list)
		wantBuiltByRules(t, "sorted", list)
		sorted, word := impl.ClayBuilt("sorted", []impl.ClayValue{clayVal(list)})
		is, _, _ := clayMeantBy(sorted.Atoms)
		if word != "" || len(is.(ls)) != len(list) {
			t.Fatalf("%s: %q", clayWritten(list), word)
		}
		often := map[string]int{}
		for _, item := range list {
			often[clayWritten(item)]++
		}
		for k, item := range is.(ls) {
			often[clayWritten(item)]--
			if k > 0 && impl.ClayOrder(clayVal(is.(ls)[k-1]), clayVal(item)) > 0 {
				t.Fatalf("%s: %s", clayWritten(list), clayWritten(is))
			}
		}
		for item, left := range often {
			if left != 0 {
				t.Fatalf("%s: %s: %d of %s", clayWritten(list), clayWritten(is), left, item)
			}
		}
	}
	// As many items as may be, most of them more than once.
	long := ls{}
	for i := range impl.ClayMaxList {
		long = append(long, (i*37)%50)
	}
	wantBuiltByRules(t, "sorted", long)
	wantBuiltByRules(t, "unique", long)
}

// Texts that are split and joined by the same text are as they were.
func TestClayBuiltSplitAndJoin(t *testing.T) {
	dice := clayDice(63)
	for range 3000 {
		text := ""
		for range dice.below(12) {
			text += dice.pick("a", "b", ",", ",,", "ab")
		}
		between := dice.pick(",", "a", "ab", ",,", "aa", "z")
		wantBuiltByRules(t, "split", text, between)
		pieces, word := impl.ClayBuilt("split", []impl.ClayValue{clayVal(text), clayVal(between)})
		if word != "" {
			t.Fatalf("%q by %q: %q", text, between, word)
		}
		joined, word := impl.ClayBuilt("join", []impl.ClayValue{pieces, clayVal(between)})
		wantAnswer(t, text+" by "+between, joined, word, text, "")
	}
}

func TestClayOpsOfWrongValues(t *testing.T) {
	right := []any{nil, true, 0, 1, "a", ls{}, ls{"a"}, rc{}, rc{"a": 1}}
	for _, spoilt := range spoiltClayValues() {
		for op := -1; op <= 16; op++ {
			for _, v := range right {
				got, word := impl.ClayOp(op, clayVal(v), spoilt)
				wantAnswer(t, "spoilt behind "+clayWritten(v), got, word, nil, "type")
				got, word = impl.ClayOp(op, spoilt, clayVal(v))
				wantAnswer(t, "spoilt before "+clayWritten(v), got, word, nil, "type")
			}
			got, word := impl.ClayOp(op, spoilt, spoilt)
			wantAnswer(t, "spoilt twice", got, word, nil, "type")
			got, word = impl.ClayUn(op, spoilt)
			wantAnswer(t, "spoilt alone", got, word, nil, "type")
		}
		for _, name := range strings.Fields(clayBuiltList) {
			got, word := impl.ClayBuilt(name, []impl.ClayValue{spoilt})
			wantAnswer(t, name+" of a spoilt one", got, word, nil, "type")
			for _, v := range right {
				for _, args := range [][]impl.ClayValue{{spoilt, clayVal(v)}, {clayVal(v), spoilt}, {spoilt, clayVal(0), clayVal(0)}, {clayVal(v), spoilt, clayVal(0)}, {clayVal(v), clayVal(0), spoilt}, {clayVal(v), clayVal(v), clayVal(v), spoilt}} {
					got, word := impl.ClayBuilt(name, args)
					wantAnswer(t, name+" of a spoilt one", got, word, nil, "type")
				}
			}
		}
	}
	got, word := impl.ClayBuilt("len", make([]impl.ClayValue, 100000))
	wantAnswer(t, "100000 args", got, word, nil, "type")
}

// clayGiven is a value in memory of its own, with room behind it, that says whether it was changed.
type clayGiven struct {
	value      impl.ClayValue
	long, kept []impl.ClayAtom
}

func clayGivenOf(v any) clayGiven {
	atoms, long := withRoom(clayAtomsOf(v), impl.ClayAtom{Kind: 99, Text: "room"})
	for i := range atoms {
		atoms[i].Text = string([]byte(atoms[i].Text))
	}
	return clayGiven{impl.ClayValue{Atoms: atoms}, long, slices.Clone(long)}
}

func (g clayGiven) texts() []string {
	var texts []string
	for _, atom := range g.long {
		texts = append(texts, atom.Text)
	}
	return texts
}

// wantApart says that an answer shares nothing with what was given, that this was not changed, and that the same comes out again.
func wantApart(t *testing.T, what string, do func() (impl.ClayValue, string), given ...clayGiven) {
	t.Helper()
	first, word := do()
	if word != "" {
		t.Fatalf("%s: %q", what, word)
	}
	want := slices.Clone(first.Atoms)
	for _, g := range given {
		wantOwnMemory(t, first, g.texts()...)
	}
	all := first.Atoms[:cap(first.Atoms)]
	for i := range all {
		all[i] = impl.ClayAtom{Kind: 77, Text: "written over"}
	}
	for _, g := range given {
		if !slices.Equal(g.long, g.kept) {
			t.Errorf("%s: an argument was changed", what)
		}
	}
	if second, _ := do(); !slices.Equal(second.Atoms, want) {
		t.Errorf("%s: done again: %v, want %v", what, second.Atoms, want)
	}
}

func TestClayOpsAnswerNewMemory(t *testing.T) {
	pairs := []struct {
		op   int
		a, b any
	}{
		{impl.ClayOpAdd, "some text", ""}, {impl.ClayOpAdd, "", "some text"}, {impl.ClayOpAdd, ls{"one", ls{"two"}}, ls{"three"}}, {impl.ClayOpAdd, ls{"one"}, ls{}}, {impl.ClayOpAdd, rc{"name": "is", "other": "one"}, rc{"name": "not", "zed": ls{"last"}}}, {impl.ClayOpAdd, rc{"name": "is"}, rc{}},
		{impl.ClayOpAdd, 1, 2}, {impl.ClayOpHas, ls{"one"}, "one"}, {impl.ClayOpSame, ls{"one"}, ls{"one"}}, {impl.ClayOpLess, "some", "text"}, {impl.ClayOpAnd, true, true},
	}
	for _, c := range pairs {
		a, b := clayGivenOf(c.a), clayGivenOf(c.b)
		wantApart(t, clayWritten(c.a)+" and "+clayWritten(c.b), func() (impl.ClayValue, string) { return impl.ClayOp(c.op, a.value, b.value) }, a, b)
		wantApart(t, clayWritten(c.a)+" twice", func() (impl.ClayValue, string) { return impl.ClayOp(c.op, a.value, a.value) }, a)
	}
	for _, c := range []struct {
		op int
		a  any
	}{{impl.ClayOpNot, true}, {impl.ClayOpNeg, 5}} {
		a := clayGivenOf(c.a)
		wantApart(t, clayWritten(c.a), func() (impl.ClayValue, string) { return impl.ClayUn(c.op, a.value) }, a)
	}
	for _, c := range []struct {
		name string
		args ls
	}{
		{"len", ls{"some text"}}, {"text", ls{"some text"}}, {"text", ls{ls{"one", rc{"name": 1}}}}, {"int", ls{"12"}}, {"range", ls{3}}, {"sorted", ls{ls{"two", "one", ls{"three"}}}}, {"unique", ls{ls{"two", "one", "two", rc{"name": "is"}}}}, {"join", ls{ls{"some text"}, "between"}}, {"join", ls{ls{"one", "two"}, ""}}, {"join", ls{ls{"", ""}, "between"}},
		{"split", ls{"one, two", ", "}}, {"split", ls{"one", ", "}}, {"keys", ls{rc{"name": 1, "other": 2}}}, {"record", ls{ls{ls{"name", "is"}, ls{"a name", ls{"list"}}}}}, {"without", ls{rc{"name": "is", "other": "one"}, "name"}}, {"without", ls{rc{"name": "is"}, "other"}}, {"begins", ls{"some text", "some"}}, {"cut", ls{"some text", 0, 9}}, {"cut", ls{"some text", 2, 4}}, {"cut", ls{ls{"one", "two", "three"}, 0, 2}}, {"cut", ls{ls{"one", "two", "three"}, 1, 3}},
	} {
		var given []clayGiven
		var values []impl.ClayValue
		for _, arg := range c.args {
			given = append(given, clayGivenOf(arg))
			values = append(values, given[len(given)-1].value)
		}
		args, long := withRoom(values, clayVal("room"))
		wantApart(t, c.name, func() (impl.ClayValue, string) { return impl.ClayBuilt(c.name, args) }, given...)
		for i, v := range long {
			if want := append(slices.Clone(values), slices.Repeat([]impl.ClayValue{clayVal("room")}, 50)...)[i]; !slices.Equal(v.Atoms, want.Atoms) {
				t.Errorf("%s: the args were changed", c.name)
			}
		}
	}
}

func FuzzClayOps(f *testing.F) {
	f.Add("[1, {a: -2}]", "\"x\"", 10, "join")
	f.Fuzz(func(t *testing.T, s, r string, op int, name string) {
		first, ok := impl.ClayReadValue(s)
		second, also := impl.ClayReadValue(r)
		if !ok || !also {
			return
		}
		a, _ := clayMeant(first)
		b, _ := clayMeant(second)
		wantOpByRules(t, op, a, b)
		wantUnByRules(t, op, a)
		wantBuiltByRules(t, name, a)
		wantBuiltByRules(t, name, a, b)
	})
}
