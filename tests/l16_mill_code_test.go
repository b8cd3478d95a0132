package tests

import (
	"fmt"
	"math"
	"math/big"
	"reflect"
	"slices"
	"strconv"
	"strings"
	"testing"

	"loop.example/kilnyard/impl"
)

// millInsWords has a word for each instruction at its Op.
var millInsWords = strings.Fields("? push load store drop un bin conv built call jump unless return fail write say step")

// millHasA are the instructions that have an A.
const millHasA = " push load store un bin conv built call jump unless return "

// millCoded is the code that a text tells: a function a line, `name params -> result slots: instructions`.
func millCoded(t *testing.T, text string) impl.MillCode {
	t.Helper()
	var c impl.MillCode
	for line := range strings.SplitSeq(strings.TrimSpace(text), "\n") {
		head, body, _ := strings.Cut(line, ":")
		named, gives, _ := strings.Cut(head, "->")
		names, slots := strings.Fields(named), strings.Fields(gives)
		fn := impl.MillFn{Name: names[0], Result: slices.Index(millTypeTexts, slots[0]), Ins: millCodedIns(t, body)}
		for _, kind := range names[1:] {
			fn.Params = append(fn.Params, slices.Index(millTypeTexts, kind))
		}
		fn.Slots, _ = strconv.Atoi(slots[1])
		c.Fns = append(c.Fns, fn)
	}
	return c
}

// millCodedIns are instructions, told by their words with a `;` between them.
func millCodedIns(t *testing.T, body string) []impl.MillIns {
	t.Helper()
	var all []impl.MillIns
	for one := range strings.SplitSeq(body, ";") {
		words := append(strings.Fields(one), "", "", "")
		ins := impl.MillIns{Op: slices.Index(millInsWords, words[0])}
		switch words[0] {
		case "push":
			ins.A = slices.Index(millTypeTexts, words[1])
			if words[1] == "text" {
				ins.Text = words[2]
			} else {
				ins.N, _ = strconv.ParseInt(words[2], 10, 64)
			}
		case "un":
			ins.A = slices.Index(millUnTexts, words[1])
		case "bin":
			ins.A = slices.Index(millOpMarks, words[1])
		case "conv":
			ins.A = slices.Index(millTypeTexts, words[1])
		case "built":
			ins.A = slices.Index(millBuiltTexts, words[1])
		default:
			ins.A, _ = strconv.Atoi(words[1])
		}
		if ins.Op < 1 || ins.A < 0 {
			t.Fatalf("%q is no instruction", one)
		}
		all = append(all, ins)
	}
	return all
}

// millKindsShown are types as words.
func millKindsShown(kinds []int) string {
	var words []string
	for _, kind := range kinds {
		words = append(words, millTypeTexts[kind])
	}
	return strings.Join(words, " ")
}

// millShapesShown tells shapes: `-` for a place that no way leads to, `!` for one where the types do not go together, else slots and stack.
func millShapesShown(shapes []impl.MillShape) string {
	var all []string
	for _, s := range shapes {
		switch s.State {
		case 0:
			all = append(all, "-")
		case 1:
			all = append(all, millKindsShown(s.Slots)+"|"+millKindsShown(s.Stack))
		default:
			all = append(all, "!")
		}
	}
	return strings.Join(all, "; ")
}

// millCodeShown tells a code in short.
func millCodeShown(c impl.MillCode) string { return fmt.Sprintf("%.900s", fmt.Sprintf("%+v", c.Fns)) }

// millEndsOfA are the ends of what the document's table says of an A.
func millEndsOfA(c impl.MillCode, fn impl.MillFn, op int) (least, most int) {
	back := 0
	if fn.Result != impl.MillTypeNone {
		back = 1
	}
	ends := [][2]int{
		{}, {1, 10}, {0, fn.Slots - 1}, {0, fn.Slots - 1}, {}, {1, 3}, {3, 18}, {3, 10}, {1, 12}, {0, len(c.Fns) - 1},
		{0, len(fn.Ins)}, {0, len(fn.Ins)}, {back, back}, {}, {}, {}, {},
	}[op]
	return ends[0], ends[1]
}

func isMillInsRight(c impl.MillCode, fn impl.MillFn, ins impl.MillIns) bool {
	if ins.Op < 1 || ins.Op > 16 {
		return false
	}
	if least, most := millEndsOfA(c, fn, ins.Op); ins.A < least || ins.A > most {
		return false
	}
	if ins.Op == impl.MillInsPush {
		return isRightMillValue(impl.MillValue{Type: ins.A, N: ins.N, Text: ins.Text})
	}
	return ins.N == 0 && ins.Text == ""
}

func isMillFnRight(c impl.MillCode, number int) bool {
	fn := c.Fns[number]
	for _, earlier := range c.Fns[:number] {
		if earlier.Name == fn.Name {
			return false
		}
	}
	for _, kind := range fn.Params {
		if kind < 1 || kind > 10 {
			return false
		}
	}
	return isMillName(fn.Name) && len(fn.Params) <= 8 && fn.Result >= 0 && fn.Result <= 10 &&
		len(fn.Params) <= fn.Slots && fn.Slots <= 200 && len(fn.Ins) >= 1 && len(fn.Ins) <= 50000
}

// millGoesOn are the places behind an instruction.
func millGoesOn(fn impl.MillFn, at int) []int {
	ins := fn.Ins[at]
	return map[string][]int{"return": {}, "fail": {}, "jump": {ins.A}, "unless": {at + 1, ins.A}}[millInsWords[ins.Op]]
}

// millBehind are the places at which a place goes on.
func millBehind(fn impl.MillFn, at int) []int {
	if places := millGoesOn(fn, at); places != nil {
		return places
	}
	return []int{at + 1}
}

// millAsked is how an instruction is called in the rows of chapter 12's table, and how many kids it takes; empty if it stands in none.
func millAsked(ins impl.MillIns) (what string, kids int) {
	switch millInsWords[ins.Op] {
	case "un":
		return millUnTexts[ins.A], 1
	case "bin":
		return millOpMarks[ins.A], 2
	case "conv":
		return millTypeTexts[ins.A], 1
	case "built":
		return millBuiltTexts[ins.A], millBuiltKids[ins.A]
	case "unless":
		return "if", 1
	case "fail", "say":
		return millInsWords[ins.Op], 1
	case "write":
		return "write", 2
	}
	return "", 0
}

// millDoneWith is what an instruction makes of types in slots and on a stack; not fit if it can't.
func millDoneWith(c impl.MillCode, fn impl.MillFn, at int, slots, stack []int) (newSlots, newStack []int, fit bool) {
	ins := fn.Ins[at]
	slots, stack = slices.Clone(slots), slices.Clone(stack)
	if slices.Contains(millBehind(fn, at), len(fn.Ins)) {
		return nil, nil, false
	}
	pop := func(kinds []int) bool {
		if len(stack) < len(kinds) || !slices.Equal(stack[len(stack)-len(kinds):], kinds) {
			return false
		}
		stack = stack[:len(stack)-len(kinds)]
		return true
	}
	fit = true
	switch word := millInsWords[ins.Op]; word {
	case "push":
		stack = append(stack, ins.A)
	case "load":
		fit = slots[ins.A] != impl.MillTypeNone
		stack = append(stack, slots[ins.A])
	case "store", "drop":
		fit = len(stack) > 0
		if fit && word == "store" {
			slots[ins.A] = stack[len(stack)-1]
		}
		fit = fit && pop(stack[len(stack)-1:])
	case "call":
		fit = pop(c.Fns[ins.A].Params)
		if gives := c.Fns[ins.A].Result; gives != impl.MillTypeNone {
			stack = append(stack, gives)
		}
	case "return":
		fit = ins.A == 0 || pop([]int{fn.Result})
	case "jump", "step":
	default:
		what, kids := millAsked(ins)
		if len(stack) < kids {
			return nil, nil, false
		}
		taken := stack[len(stack)-kids:]
		var gives int
		gives, fit = millSigns[strings.TrimSpace(what+" "+millKindsShown(taken))]
		stack = slices.Clone(stack[:len(stack)-kids])
		if gives != impl.MillTypeNone {
			stack = append(stack, gives)
		}
	}
	return slots, stack, fit && len(stack) <= 600
}

// millMeet is what is there where two shapes come together.
func millMeet(a, b impl.MillShape) impl.MillShape {
	switch {
	case a.State == 0:
		return b
	case b.State == 0:
		return a
	case a.State == 2 || b.State == 2 || !slices.Equal(a.Stack, b.Stack):
		return impl.MillShape{State: 2}
	}
	slots := slices.Clone(a.Slots)
	for i := range slots {
		if slots[i] != b.Slots[i] {
			slots[i] = impl.MillTypeNone
		}
	}
	return impl.MillShape{State: 1, Slots: slots, Stack: a.Stack}
}

func isSameMillShape(a, b impl.MillShape) bool {
	return a.State == b.State && slices.Equal(a.Slots, b.Slots) && slices.Equal(a.Stack, b.Stack)
}

// millShapesByRules lets all places go on at once, from nothing, until nothing changes.
func millShapesByRules(c impl.MillCode, number int) (shapes []impl.MillShape, unfit []bool) {
	fn := c.Fns[number]
	first := impl.MillShape{State: 1, Slots: append(slices.Clone(fn.Params), make([]int, fn.Slots-len(fn.Params))...)}
	shapes = make([]impl.MillShape, len(fn.Ins))
	for {
		next := make([]impl.MillShape, len(fn.Ins))
		unfit = make([]bool, len(fn.Ins))
		next[0] = first
		for at, s := range shapes {
			if s.State == 0 {
				continue
			}
			left := impl.MillShape{State: 2}
			if s.State == 1 {
				if slots, stack, fit := millDoneWith(c, fn, at, s.Slots, s.Stack); fit {
					left = impl.MillShape{State: 1, Slots: slots, Stack: stack}
				}
			}
			unfit[at] = left.State == 2
			for _, place := range millBehind(fn, at) {
				if place < len(next) {
					next[place] = millMeet(next[place], left)
				}
			}
		}
		if slices.EqualFunc(next, shapes, isSameMillShape) {
			return shapes, unfit
		}
		shapes = next
	}
}

// millCheckByRules goes through the document's codes one by one.
func millCheckByRules(c impl.MillCode) [3]int {
	if len(c.Fns) < 1 || len(c.Fns) > 60 {
		return [3]int{1, 0, 0}
	}
	for f := range c.Fns {
		if !isMillFnRight(c, f) {
			return [3]int{2, f, 0}
		}
	}
	mains := 0
	for f, fn := range c.Fns {
		for i, ins := range fn.Ins {
			if !isMillInsRight(c, fn, ins) {
				return [3]int{3, f, i}
			}
		}
		if fn.Name == "main" && len(fn.Params) == 0 && fn.Result == impl.MillTypeText {
			mains++
		}
	}
	if mains != 1 {
		return [3]int{4, 0, 0}
	}
	for f := range c.Fns {
		if _, unfit := millShapesByRules(c, f); slices.Contains(unfit, true) {
			return [3]int{5, f, slices.Index(unfit, true)}
		}
	}
	return [3]int{}
}

// millNumberForm cuts the bits of a number, as they are written, in sevens from behind.
func millNumberForm(n uint64) string {
	bits, form := strconv.FormatUint(n, 2), []byte{}
	for {
		cut := max(0, len(bits)-7)
		seven, _ := strconv.ParseUint(bits[cut:], 2, 8)
		bits = bits[:cut]
		if bits == "" {
			return string(append(form, byte(seven)))
		}
		form = append(form, byte(seven)+128)
	}
}

func millTextForm(text string) string { return millNumberForm(uint64(len(text))) + text }

// millForm is the form of a code whatever it is, however long.
func millForm(c impl.MillCode) string {
	var b strings.Builder
	number := func(n int) { b.WriteString(millNumberForm(uint64(n))) }
	b.WriteString("mill1")
	number(len(c.Fns))
	for _, fn := range c.Fns {
		b.WriteString(millTextForm(fn.Name))
		number(len(fn.Params))
		for _, kind := range fn.Params {
			number(kind)
		}
		number(fn.Result)
		number(fn.Slots)
		number(len(fn.Ins))
		for _, ins := range fn.Ins {
			word := "?"
			if ins.Op > 0 && ins.Op < len(millInsWords) {
				word = millInsWords[ins.Op]
			}
			number(ins.Op)
			if strings.Contains(millHasA, " "+word+" ") {
				number(ins.A)
			}
			if word == "push" && ins.A == impl.MillTypeText {
				b.WriteString(millTextForm(ins.Text))
			} else if word == "push" {
				b.WriteString(millNumberForm(uint64(ins.N)))
			}
		}
	}
	return b.String()
}

// millLoose reads a form without asking whether it is one.
type millLoose struct {
	rest string
	bad  bool
}

func (l *millLoose) bits() *big.Int {
	n := new(big.Int)
	for i := 0; ; i++ {
		if i == len(l.rest) {
			l.bad = true
			return new(big.Int)
		}
		n.Add(n, new(big.Int).Lsh(big.NewInt(int64(l.rest[i]%128)), uint(7*i)))
		if l.rest[i] < 128 {
			l.rest = l.rest[i+1:]
			return n
		}
	}
}

func (l *millLoose) number() int {
	n := l.bits()
	if n.BitLen() > 40 {
		l.bad = true
		return 0
	}
	return int(n.Int64())
}

func (l *millLoose) text() string {
	size := l.number()
	if l.bad || size > len(l.rest) {
		l.bad = true
		return ""
	}
	text := l.rest[:size]
	l.rest = l.rest[size:]
	return text
}

func (l *millLoose) fn() impl.MillFn {
	fn := impl.MillFn{Name: l.text()}
	for n := l.number(); n > 0 && !l.bad; n-- {
		fn.Params = append(fn.Params, l.number())
	}
	fn.Result, fn.Slots = l.number(), l.number()
	for n := l.number(); n > 0 && !l.bad; n-- {
		ins := impl.MillIns{Op: l.number()}
		if ins.Op >= len(millInsWords) {
			l.bad = true
			break
		}
		if strings.Contains(millHasA, " "+millInsWords[ins.Op]+" ") {
			ins.A = l.number()
		}
		if ins.Op == impl.MillInsPush && ins.A == impl.MillTypeText {
			ins.Text = l.text()
		} else if ins.Op == impl.MillInsPush {
			ins.N = int64(l.bits().Uint64())
		}
		fn.Ins = append(fn.Ins, ins)
	}
	return fn
}

// millReadByRules reads loosely and asks then whether the text is the form of what was read.
func millReadByRules(s string) (impl.MillCode, bool) {
	l := &millLoose{rest: strings.TrimPrefix(s, "mill1")}
	var c impl.MillCode
	for n := l.number(); n > 0 && !l.bad; n-- {
		c.Fns = append(c.Fns, l.fn())
	}
	if l.bad || len(s) > 200000 || millCheckByRules(c) != [3]int{} || millForm(c) != s {
		return impl.MillCode{}, false
	}
	return c, true
}

func isSameMillCode(a, b impl.MillCode) bool {
	return slices.EqualFunc(a.Fns, b.Fns, func(f, g impl.MillFn) bool {
		return f.Name == g.Name && slices.Equal(f.Params, g.Params) && f.Result == g.Result && f.Slots == g.Slots && slices.Equal(f.Ins, g.Ins)
	})
}

func millCopied(c impl.MillCode) impl.MillCode {
	c.Fns = slices.Clone(c.Fns)
	for i := range c.Fns {
		c.Fns[i].Params, c.Fns[i].Ins = slices.Clone(c.Fns[i].Params), slices.Clone(c.Fns[i].Ins)
	}
	return c
}

func millChecked(c impl.MillCode) [3]int {
	code, fn, at := impl.MillCheckCode(c)
	return [3]int{code, fn, at}
}

// wantMillChecked asks CheckCode alone.
func wantMillChecked(t *testing.T, c impl.MillCode, code, fn, at int) {
	t.Helper()
	if got := millChecked(c); got != [3]int{code, fn, at} {
		t.Errorf("%s: %d, want %d %d %d", millCodeShown(c), got, code, fn, at)
	}
}

// wantMillFormRead asks whether a text is read just if it is a form.
func wantMillFormRead(t *testing.T, s string) bool {
	t.Helper()
	got, ok := impl.MillReadCode(s)
	want, wantOk := millReadByRules(s)
	if ok != wantOk || !isSameMillCode(got, want) {
		t.Errorf("%.300q: %s %v, want %s %v", s, millCodeShown(got), ok, millCodeShown(want), wantOk)
	}
	if ok && impl.MillWriteCode(got) != s {
		t.Errorf("%.300q: read, and written otherwise: %.300q", s, impl.MillWriteCode(got))
	}
	return ok
}

// wantMillCode asks all of the chapter of a code, as the rules have it.
func wantMillCode(t *testing.T, c impl.MillCode) [3]int {
	t.Helper()
	kept := millCopied(c)
	want := millCheckByRules(c)
	if got := millChecked(c); got != want {
		t.Errorf("%s: %d, want %d", millCodeShown(c), got, want)
	}
	wantMillShapes(t, c, want[0])
	form := impl.MillWriteCode(c)
	if want[0] != 0 {
		if form != "" {
			t.Errorf("%s: a form of what is not valid", millCodeShown(c))
		}
	} else {
		wantMillForm(t, c, form)
		for f := range c.Fns {
			wantMillWays(t, c, f)
		}
	}
	if !isSameMillCode(c, kept) {
		t.Errorf("%s: changed, it was %s", millCodeShown(c), millCodeShown(kept))
	}
	return want
}

func wantMillShapes(t *testing.T, c impl.MillCode, code int) {
	t.Helper()
	for f := -1; f <= len(c.Fns); f++ {
		got := impl.MillShapes(c, f)
		var want []impl.MillShape
		if f >= 0 && f < len(c.Fns) && (code == 0 || code == 5) {
			want, _ = millShapesByRules(c, f)
		}
		if !slices.EqualFunc(got, want, isSameMillShape) {
			t.Errorf("%s: function %d has %.600s, want %.600s", millCodeShown(c), f, millShapesShown(got), millShapesShown(want))
		}
	}
}

// wantMillForm asks whether a code's form is right and is read again.
func wantMillForm(t *testing.T, c impl.MillCode, form string) {
	t.Helper()
	want := millForm(c)
	if len(want) > 200000 {
		want = ""
	}
	if form != want {
		t.Errorf("%s: the form %.300q, want %.300q", millCodeShown(c), form, want)
	}
	if want == "" {
		return
	}
	if again, ok := impl.MillReadCode(want); !ok || !isSameMillCode(again, c) {
		t.Errorf("%s: read again it is %s %v", millCodeShown(c), millCodeShown(again), ok)
	}
}

// millStand is what lies where on a way that has come to a place.
type millStand struct {
	at    int
	slots string
	stack string
}

func millWay(at int, slots, stack []int) millStand {
	text := func(kinds []int) string {
		b := make([]byte, len(kinds))
		for i, kind := range kinds {
			b[i] = byte(kind)
		}
		return string(b)
	}
	return millStand{at, text(slots), text(stack)}
}

func (s millStand) kinds() (slots, stack []int) {
	for _, kind := range []byte(s.slots) {
		slots = append(slots, int(kind))
	}
	for _, kind := range []byte(s.stack) {
		stack = append(stack, int(kind))
	}
	return slots, stack
}

// wantMillWays goes all ways through a function of a valid code, each with its own types, and holds them against the shapes: what lies there has the types that are told, and no shape tells less than all ways have in common.
func wantMillWays(t *testing.T, c impl.MillCode, f int) {
	t.Helper()
	const most = 3000
	fn, shapes := c.Fns[f], impl.MillShapes(c, f)
	if len(shapes) != len(fn.Ins) {
		t.Errorf("%s: %d shapes", millCodeShown(c), len(shapes))
		return
	}
	first := append(slices.Clone(fn.Params), make([]int, fn.Slots-len(fn.Params))...)
	ways := []millStand{millWay(0, first, nil)}
	seen := map[millStand]bool{ways[0]: true}
	all := make([]impl.MillShape, len(fn.Ins))
	for i := 0; i < len(ways) && i < most; i++ {
		at := ways[i].at
		slots, stack := ways[i].kinds()
		if shape := shapes[at]; shape.State != 1 || !slices.Equal(shape.Stack, stack) || len(shape.Slots) != len(slots) || !millAreOf(slots, shape.Slots) {
			t.Errorf("%s: a way comes to %d of %d with %s, told is %s", millCodeShown(c), at, f, millShapesShown([]impl.MillShape{{State: 1, Slots: slots, Stack: stack}}), millShapesShown(shapes[at:at+1]))
			return
		}
		all[at] = millMeet(all[at], impl.MillShape{State: 1, Slots: slots, Stack: stack})
		slots, stack, fit := millDoneWith(c, fn, at, slots, stack)
		if !fit {
			t.Errorf("%s: a way ends at %d of %d", millCodeShown(c), at, f)
			return
		}
		for _, place := range millBehind(fn, at) {
			if next := millWay(place, slots, stack); !seen[next] {
				seen[next] = true
				ways = append(ways, next)
			}
		}
	}
	if len(ways) <= most && !slices.EqualFunc(all, shapes, isSameMillShape) {
		t.Errorf("%s: all ways through %d have %.600s, told is %.600s", millCodeShown(c), f, millShapesShown(all), millShapesShown(shapes))
	}
}

// millAreOf says whether types are those that a shape knows.
func millAreOf(kinds, known []int) bool {
	for i, kind := range known {
		if kind != impl.MillTypeNone && kinds[i] != kind {
			return false
		}
	}
	return true
}

func TestMillCodeConstants(t *testing.T) {
	for i, word := range millInsWords[1:] {
		op := []int{
			impl.MillInsPush, impl.MillInsLoad, impl.MillInsStore, impl.MillInsDrop, impl.MillInsUn, impl.MillInsBin, impl.MillInsConv, impl.MillInsBuilt,
			impl.MillInsCall, impl.MillInsJump, impl.MillInsUnless, impl.MillInsReturn, impl.MillInsFail, impl.MillInsWrite, impl.MillInsSay, impl.MillInsStep,
		}[i]
		if op != i+1 {
			t.Errorf("%s has the number %d", word, op)
		}
	}
	if impl.MillMaxIns != 50000 || impl.MillMaxStack != 600 || impl.MillMaxBytes != 200000 {
		t.Error("a bound is another")
	}
}

// millRight is a main that is right, with these instructions ahead.
func millRight(t *testing.T, slots int, ahead string) impl.MillCode {
	t.Helper()
	if ahead != "" {
		ahead += "; "
	}
	return millCoded(t, "main -> text "+strconv.Itoa(slots)+": "+ahead+"push text x; return 1")
}

// millMore is a right main with a function behind it.
func millMore(t *testing.T, fn impl.MillFn) impl.MillCode {
	t.Helper()
	c := millRight(t, 0, "")
	c.Fns = append(c.Fns, fn)
	return c
}

var millBack = []impl.MillIns{{Op: impl.MillInsReturn}}

func TestMillCheckCodeFns(t *testing.T) {
	wantMillChecked(t, impl.MillCode{}, 1, 0, 0)
	wantMillChecked(t, impl.MillCode{Fns: []impl.MillFn{}}, 1, 0, 0)
	for _, many := range []int{1, 2, 59, 60, 61, 62, 1000} {
		c := millRight(t, 0, "")
		for i := 1; i < many; i++ {
			c.Fns = append(c.Fns, impl.MillFn{Name: "f" + strconv.Itoa(i), Ins: millBack})
		}
		want := [3]int{}
		if many > 60 {
			want[0] = 1
		}
		if got := wantMillCode(t, c); got != want {
			t.Errorf("%d functions: %d", many, got)
		}
	}
	// Too many, each of them wrong, is too many.
	wantMillChecked(t, impl.MillCode{Fns: make([]impl.MillFn, 61)}, 1, 0, 0)
	wantMillChecked(t, impl.MillCode{Fns: make([]impl.MillFn, 60)}, 2, 0, 0)
}

func TestMillCheckCodeNames(t *testing.T) {
	right := []string{"a", "z", "a9", "a_", "a__9z", "mains", "main_", "mai", "lets", "u", "u88", "none", strings.Repeat("x", 30)}
	wrong := []string{"", "A", "aB", "9", "9a", "_", "_a", "a-b", "a b", " a", "a ", "a\x00", "\x00", "é", "aé", "a\xff", "a.", "main", strings.Repeat("x", 31), strings.Repeat("x", 3000)}
	for _, name := range right {
		if got := wantMillCode(t, millMore(t, impl.MillFn{Name: name, Ins: millBack})); got != [3]int{} {
			t.Errorf("%q: %d", name, got)
		}
	}
	for _, name := range append(wrong, millWordList()...) {
		if got := wantMillCode(t, millMore(t, impl.MillFn{Name: name, Ins: millBack})); got != [3]int{2, 1, 0} {
			t.Errorf("%q: %d", name, got)
		}
	}
	c := millRight(t, 0, "")
	for _, name := range []string{"a", "b", "c", "b", "a"} {
		c.Fns = append(c.Fns, impl.MillFn{Name: name, Ins: millBack})
	}
	wantMillChecked(t, c, 2, 4, 0)
	c.Fns[4].Name = "d"
	wantMillChecked(t, c, 2, 5, 0)
	c.Fns[5].Name = "e"
	wantMillChecked(t, c, 0, 0, 0)
	c.Fns[3].Name = "main"
	wantMillChecked(t, c, 2, 3, 0)
}

func TestMillCheckCodeParams(t *testing.T) {
	for many := range 12 {
		fn := impl.MillFn{Name: "f", Slots: many, Ins: millBack}
		for i := range many {
			fn.Params = append(fn.Params, 1+i%10)
		}
		want := [3]int{}
		if many > 8 {
			want = [3]int{2, 1, 0}
		}
		if got := wantMillCode(t, millMore(t, fn)); got != want {
			t.Errorf("%d Params: %d", many, got)
		}
	}
	for _, kind := range []int{math.MinInt, -2, -1, 0, 11, 12, 255, 256, 257, 1 << 32, 1<<32 + 1, math.MaxInt} {
		for at := range 3 {
			params := []int{2, 3, 4}
			params[at] = kind
			if got := wantMillCode(t, millMore(t, impl.MillFn{Name: "f", Params: params, Slots: 3, Ins: millBack})); got != [3]int{2, 1, 0} {
				t.Errorf("Params %d: %d", params, got)
			}
		}
		want := [3]int{2, 1, 0}
		if kind == 0 {
			want = [3]int{}
		}
		if got := wantMillCode(t, millMore(t, impl.MillFn{Name: "f", Result: kind, Ins: millBack})); got != want {
			t.Errorf("Result %d: %d", kind, got)
		}
	}
	for kind := 1; kind <= 10; kind++ {
		c := millCoded(t, "main -> text 0: push text x; return 1\nf K -> K 1: load 0; return 1")
		c.Fns[1].Params, c.Fns[1].Result = []int{kind}, kind
		if got := wantMillCode(t, c); got != [3]int{} {
			t.Errorf("type %d: %d", kind, got)
		}
	}
}

func TestMillCheckCodeSlots(t *testing.T) {
	for _, params := range []int{0, 1, 2, 8} {
		for _, slots := range []int{math.MinInt, -1, 0, 1, 2, 7, 8, 9, 199, 200, 201, 256, 1 << 32, math.MaxInt} {
			fn := impl.MillFn{Name: "f", Slots: slots, Ins: millBack}
			for range params {
				fn.Params = append(fn.Params, impl.MillTypeU8)
			}
			want := [3]int{}
			if slots < params || slots > 200 {
				want = [3]int{2, 1, 0}
			}
			if got := wantMillCode(t, millMore(t, fn)); got != want {
				t.Errorf("%d Params, %d Slots: %d", params, slots, got)
			}
		}
	}
}

// millLong is a right main of so many instructions.
func millLong(t *testing.T, many int) impl.MillCode {
	t.Helper()
	c := millRight(t, 0, "")
	c.Fns[0].Ins = append(slices.Repeat([]impl.MillIns{{Op: impl.MillInsStep}}, many-2), c.Fns[0].Ins...)
	return c
}

func TestMillCheckCodeIns(t *testing.T) {
	for _, none := range [][]impl.MillIns{nil, {}} {
		wantMillChecked(t, millMore(t, impl.MillFn{Name: "f", Ins: none}), 2, 1, 0)
	}
	for _, many := range []int{2, 3, 127, 128, 49999, 50000} {
		c := millLong(t, many)
		wantMillChecked(t, c, 0, 0, 0)
		wantMillForm(t, c, impl.MillWriteCode(c))
		shapes := impl.MillShapes(c, 0)
		if len(shapes) != many || shapes[many-1].State != 1 || !slices.Equal(shapes[many-1].Stack, []int{2}) || shapes[many-2].State != 1 || len(shapes[many-2].Stack) != 0 {
			t.Errorf("%d instructions: %d shapes", many, len(shapes))
		}
	}
	for _, many := range []int{50001, 50002, 100000} {
		c := millLong(t, many)
		wantMillChecked(t, c, 2, 0, 0)
		if impl.MillWriteCode(c) != "" || len(impl.MillShapes(c, 0)) != 0 {
			t.Errorf("%d instructions have a form or shapes", many)
		}
		if _, ok := impl.MillReadCode(millForm(c)); ok {
			t.Errorf("%d instructions are read", many)
		}
	}
}

// millWithIns puts an instruction ahead of a right main of 3 slots, with a function of no result beside it.
func millWithIns(t *testing.T, ins impl.MillIns) impl.MillCode {
	t.Helper()
	c := millCoded(t, "main -> text 3: step; push text x; return 1\ng -> ? 0: return 0")
	c.Fns[0].Ins[0] = ins
	return c
}

func TestMillCheckCodeOps(t *testing.T) {
	for _, op := range []int{math.MinInt, -16, -1, 0, 17, 18, 255, 256, 257, 1<<32 + 16, math.MaxInt} {
		if got := wantMillCode(t, millWithIns(t, impl.MillIns{Op: op})); got != [3]int{3, 0, 0} {
			t.Errorf("Op %d: %d", op, got)
		}
	}
	for op := 1; op <= 16; op++ {
		c := millWithIns(t, impl.MillIns{Op: op})
		least, most := millEndsOfA(c, c.Fns[0], op)
		for _, a := range []int{math.MinInt, -2, -1, 0, 1, 2, 3, 4, 5, 9, 10, 11, 12, 13, 17, 18, 19, 200, 255, 256, 257, 1 << 32, 1<<32 + 1, math.MaxInt} {
			c := millWithIns(t, impl.MillIns{Op: op, A: a})
			got := wantMillCode(t, c)
			if right := a >= least && a <= most; right != (got[0] == 0 || got[0] == 5) || !right && got != [3]int{3, 0, 0} {
				t.Errorf("%s with A %d: %d", millInsWords[op], a, got)
			}
		}
	}
}

func TestMillCheckCodeEndsOfA(t *testing.T) {
	rows := []struct {
		word        string
		least, most int
	}{
		{"push", 1, 10}, {"load", 0, 2}, {"store", 0, 2}, {"drop", 0, 0}, {"un", 1, 3}, {"bin", 3, 18}, {"conv", 3, 10}, {"built", 1, 12}, {"call", 0, 1},
		{"jump", 0, 3}, {"unless", 0, 3}, {"return", 1, 1}, {"fail", 0, 0}, {"write", 0, 0}, {"say", 0, 0}, {"step", 0, 0},
	}
	for _, row := range rows {
		op := slices.Index(millInsWords, row.word)
		for a := -3; a < 30; a++ {
			got := millChecked(millWithIns(t, impl.MillIns{Op: op, A: a}))
			if (got == [3]int{3, 0, 0}) != (a < row.least || a > row.most) {
				t.Errorf("%s with A %d: %d", row.word, a, got)
			}
		}
	}
	// No slot, no other function: neither a load nor a store is right, and a call of the function itself is.
	for _, row := range []struct {
		ins  string
		code int
	}{{"load 0", 3}, {"store 0", 3}, {"call 0", 0}, {"call 1", 3}, {"return 0", 3}, {"return 2", 3}, {"jump 1", 0}, {"jump 3", 5}, {"jump 4", 3}} {
		got := wantMillCode(t, millRight(t, 0, row.ins))
		if got != [3]int{row.code, 0, 0} {
			t.Errorf("%s: %d", row.ins, got)
		}
	}
	for slots := 1; slots <= 200; slots += 199 {
		if got := wantMillCode(t, millRight(t, slots, "push u8 1; store "+strconv.Itoa(slots-1))); got != [3]int{} {
			t.Errorf("store in the last of %d: %d", slots, got)
		}
		if got := wantMillCode(t, millRight(t, slots, "push u8 1; store "+strconv.Itoa(slots))); got != [3]int{3, 0, 1} {
			t.Errorf("store behind %d: %d", slots, got)
		}
	}
}

func TestMillCheckCodeReturns(t *testing.T) {
	for kind := 0; kind <= 10; kind++ {
		for a := -1; a < 4; a++ {
			fn := impl.MillFn{Name: "f", Params: []int{max(kind, 1)}, Result: kind, Slots: 1, Ins: []impl.MillIns{{Op: impl.MillInsLoad}, {Op: impl.MillInsReturn, A: a}}}
			want := [3]int{3, 1, 1}
			if kind == 0 && a == 0 || kind != 0 && a == 1 {
				want = [3]int{}
			}
			if got := wantMillCode(t, millMore(t, fn)); got != want {
				t.Errorf("Result %d, InsReturn %d: %d", kind, a, got)
			}
		}
	}
}

func TestMillCheckCodePushes(t *testing.T) {
	push := func(v impl.MillValue) [3]int {
		t.Helper()
		return wantMillCode(t, millWithIns(t, impl.MillIns{Op: impl.MillInsPush, A: v.Type, N: v.N, Text: v.Text}))
	}
	for kind := 1; kind <= 10; kind++ {
		for _, v := range millSamples(kind) {
			if got := push(v); got != [3]int{} {
				t.Errorf("push %s: %d", millShown(v), got)
			}
		}
		if kind >= 3 {
			for _, v := range millBeyond(kind) {
				if got := push(v); got != [3]int{3, 0, 0} {
					t.Errorf("push %s: %d", millShown(v), got)
				}
			}
		}
	}
	for _, v := range millNoValues() {
		if got := push(v); got != [3]int{3, 0, 0} {
			t.Errorf("push %s: %d", millShown(v), got)
		}
	}
	for op := 2; op <= 16; op++ {
		least, _ := millEndsOfA(millWithIns(t, impl.MillIns{}), impl.MillFn{Slots: 1, Result: 2}, op)
		for _, ins := range []impl.MillIns{{Op: op, A: least, N: 1}, {Op: op, A: least, N: -1}, {Op: op, A: least, Text: "x"}, {Op: op, A: least, Text: "\x00"}, {Op: op, A: least, N: math.MinInt64, Text: "x"}, {Op: op, A: least, N: 1 << 32}} {
			if got := wantMillCode(t, millWithIns(t, ins)); got != [3]int{3, 0, 0} {
				t.Errorf("%+v: %d", ins, got)
			}
		}
	}
}

func TestMillCheckCodeMain(t *testing.T) {
	for _, row := range []struct {
		text string
		want [3]int
	}{
		{"f -> ? 0: return 0", [3]int{4, 0, 0}},
		{"f -> text 0: push text; return 1", [3]int{4, 0, 0}},
		{"mains -> text 0: push text; return 1", [3]int{4, 0, 0}},
		{"main u8 -> text 1: push text; return 1", [3]int{4, 0, 0}},
		{"main text -> text 1: load 0; return 1", [3]int{4, 0, 0}},
		{"main -> ? 0: return 0", [3]int{4, 0, 0}},
		{"main -> bool 0: push bool 1; return 1", [3]int{4, 0, 0}},
		{"main -> i64 0: push i64 1; return 1", [3]int{4, 0, 0}},
		{"main -> text 200: push text; return 1", [3]int{}},
		{"f -> ? 0: return 0\nmain -> text 0: push text; return 1", [3]int{}},
		{"f -> ? 0: return 0\nmain -> text 0: push text; return 1\ng -> ? 0: return 0", [3]int{}},
		{"f -> text 0: push text; return 1\nmain -> bool 0: push bool 0; return 1", [3]int{4, 0, 0}},
		// An unfit place is told where there is a main alone, an instruction that is not right first.
		{"f -> ? 0: drop; return 0", [3]int{4, 0, 0}},
		{"f -> ? 0: return 1", [3]int{3, 0, 0}},
	} {
		if got := wantMillCode(t, millCoded(t, row.text)); got != row.want {
			t.Errorf("%q: %d, want %d", row.text, got, row.want)
		}
	}
	for kind := 0; kind <= 10; kind++ {
		c := millCoded(t, "main -> text 1: step; jump 0")
		c.Fns[0].Result = kind
		want := [3]int{4, 0, 0}
		if kind == impl.MillTypeText {
			want = [3]int{}
		}
		if got := wantMillCode(t, c); got != want {
			t.Errorf("main with the Result %d: %d", kind, got)
		}
	}
}

// The first of several faults, of one code and of several.
func TestMillCheckCodeFirst(t *testing.T) {
	right := millCoded(t, "f u8 -> ? 1: step; step; return 0\nmain -> text 0: push text; return 1\ng -> ? 0: step; step; return 0")
	spoils := []struct {
		name  string
		spoil func(c *impl.MillCode, fn int)
		rank  func(fn int) [3]int
	}{
		{"name", func(c *impl.MillCode, fn int) { c.Fns[fn].Name = "A" }, func(fn int) [3]int { return [3]int{2, fn, 0} }},
		{"slots", func(c *impl.MillCode, fn int) { c.Fns[fn].Slots = 201 }, func(fn int) [3]int { return [3]int{2, fn, 0} }},
		{"ins 1", func(c *impl.MillCode, fn int) { c.Fns[fn].Ins[1] = impl.MillIns{Op: 17} }, func(fn int) [3]int { return [3]int{3, fn, 1} }},
		{"ins 0", func(c *impl.MillCode, fn int) { c.Fns[fn].Ins[0] = impl.MillIns{Op: 16, A: 1} }, func(fn int) [3]int { return [3]int{3, fn, 0} }},
		{"no main", func(c *impl.MillCode, fn int) { c.Fns[1].Params, c.Fns[1].Slots = []int{1}, c.Fns[1].Slots+1 }, func(int) [3]int { return [3]int{4, 0, 0} }},
		{"unfit", func(c *impl.MillCode, fn int) { c.Fns[fn].Ins[0] = impl.MillIns{Op: impl.MillInsDrop} }, func(fn int) [3]int { return [3]int{5, fn, 0} }},
	}
	less := func(a, b [3]int) bool { return slices.Compare(a[:], b[:]) < 0 }
	for _, one := range spoils {
		for _, other := range spoils {
			for fn := range 3 {
				for second := range 3 {
					// What is put in the place of the same thing is told by the later one alone.
					if fn == second && strings.ContainsAny(one.name+other.name, "0u") && one.name != other.name {
						continue
					}
					c := millCopied(right)
					other.spoil(&c, second)
					one.spoil(&c, fn)
					want := one.rank(fn)
					if w := other.rank(second); less(w, want) {
						want = w
					}
					if got := wantMillCode(t, c); got != want {
						t.Errorf("%s of %d, %s of %d: %d, want %d", one.name, fn, other.name, second, got, want)
					}
				}
			}
		}
	}
	wantMillChecked(t, impl.MillCode{Fns: append(make([]impl.MillFn, 60), right.Fns...)}, 1, 0, 0)
}

// millUnfitRow is a function's instructions, and what is told of them as the second function of a code.
type millUnfitRow struct {
	head string
	body string
	at   int
}

// wantMillUnfit asks for the first unfit place of each row; -1 is none.
func wantMillUnfit(t *testing.T, rows ...millUnfitRow) {
	t.Helper()
	for _, row := range rows {
		c := millCoded(t, "main -> text 0: push text; return 1\n"+row.head+": "+row.body+"\nh u8 text -> bool 2: push bool 1; return 1\nk -> ? 0: return 0")
		want := [3]int{5, 1, row.at}
		if row.at < 0 {
			want = [3]int{}
		}
		if got := wantMillCode(t, c); got != want {
			t.Errorf("%s: %s: %d, want %d; shapes %s", row.head, row.body, got, want, millShapesShown(impl.MillShapes(c, 1)))
		}
	}
}

func TestMillCheckCodeUnfit(t *testing.T) {
	f := "f bool text u8 -> ? 5"
	wantMillUnfit(t,
		millUnfitRow{f, "return 0", -1},
		millUnfitRow{f, "store 0; return 0", 0},
		millUnfitRow{f, "drop; return 0", 0},
		millUnfitRow{f, "load 2; drop; drop; return 0", 2},
		millUnfitRow{f, "load 2; store 3; load 3; drop; return 0", -1},
		millUnfitRow{f, "load 3; drop; return 0", 0},
		millUnfitRow{f, "load 4; drop; return 0", 0},
		millUnfitRow{f, "load 0; store 4; load 4; unless 4; return 0", -1},
		millUnfitRow{f, "unless 1; return 0", 0},
		millUnfitRow{f, "load 1; unless 2; return 0", 1},
		millUnfitRow{f, "load 2; unless 2; return 0", 1},
		millUnfitRow{f, "load 0; unless 2; return 0", -1},
		millUnfitRow{f, "fail", 0},
		millUnfitRow{f, "load 0; fail", 1},
		millUnfitRow{f, "load 2; fail", 1},
		millUnfitRow{f, "load 1; fail", -1},
		millUnfitRow{f, "say; return 0", 0},
		millUnfitRow{f, "load 0; say; return 0", 1},
		millUnfitRow{f, "load 1; say; return 0", -1},
		millUnfitRow{f, "write; return 0", 0},
		millUnfitRow{f, "load 1; write; return 0", 1},
		millUnfitRow{f, "load 1; load 2; write; return 0", 2},
		millUnfitRow{f, "load 2; load 1; write; return 0", 2},
		millUnfitRow{f, "load 1; load 1; write; return 0", -1},
		millUnfitRow{f, "load 0; load 1; load 1; write; drop; return 0", -1},
		millUnfitRow{f, "call 2; drop; return 0", 0},
		millUnfitRow{f, "load 1; call 2; drop; return 0", 1},
		millUnfitRow{f, "load 1; load 2; call 2; drop; return 0", 2},
		millUnfitRow{f, "load 2; load 1; call 2; drop; return 0", -1},
		millUnfitRow{f, "load 0; load 2; load 1; call 2; bin ==; drop; return 0", -1},
		millUnfitRow{f, "load 1; load 1; call 2; drop; return 0", 2},
		millUnfitRow{f, "load 2; load 2; call 2; drop; return 0", 2},
		millUnfitRow{f, "call 3; return 0", -1},
		millUnfitRow{f, "call 3; drop; return 0", 1},
		millUnfitRow{f, "load 1; call 3; say; return 0", -1},
		millUnfitRow{f, "call 0; say; return 0", -1},
		millUnfitRow{f, "call 1; return 0", 0},
		millUnfitRow{f, "load 0; load 1; load 2; call 1; return 0", -1},
		millUnfitRow{f, "load 2; load 1; load 0; call 1; return 0", 3},
		// What lies below is left alone, also by a return.
		millUnfitRow{f, "load 0; load 1; load 2; return 0", -1},
		millUnfitRow{"f bool -> bool 1", "push text; load 0; return 1", -1},
		millUnfitRow{"f bool -> bool 1", "load 0; push text; return 1", 2},
		millUnfitRow{"f bool -> bool 1", "return 1", 0},
		millUnfitRow{"f u8 -> i8 1", "load 0; return 1", 1},
		millUnfitRow{"f u8 -> i8 1", "load 0; conv i8; return 1", -1},
	)
}

// Each instruction of chapter 12's table, with each list of types of one, two and three.
func TestMillCheckCodeSigns(t *testing.T) {
	t.Parallel()
	var asked []impl.MillIns
	for op, most := range map[int]int{impl.MillInsUn: 3, impl.MillInsBin: 18, impl.MillInsConv: 10, impl.MillInsBuilt: 12} {
		least := map[int]int{impl.MillInsBin: 3, impl.MillInsConv: 3}[op]
		for a := max(least, 1); a <= most; a++ {
			asked = append(asked, impl.MillIns{Op: op, A: a})
		}
	}
	fits := 0
	for _, ins := range asked {
		what, many := millAsked(ins)
		for _, kinds := range millKindLists(many) {
			c := millCoded(t, "main -> text 0: push text; return 1\nf bool -> ? 1: step; return 0")
			fn := &c.Fns[1]
			fn.Ins = []impl.MillIns{{Op: impl.MillInsLoad}}
			for _, kind := range kinds {
				fn.Ins = append(fn.Ins, impl.MillIns{Op: impl.MillInsPush, A: kind})
			}
			fn.Ins = append(fn.Ins, ins, impl.MillIns{Op: impl.MillInsStore}, impl.MillIns{Op: impl.MillInsReturn})
			gives, fit := millSigns[strings.TrimSpace(what+" "+millKindsShown(kinds))]
			want, shown := [3]int{5, 1, 1 + many}, "!"
			if fit {
				fits++
				want, shown = [3]int{}, "bool|bool "+millTypeTexts[gives]
			}
			if got := millChecked(c); got != want {
				t.Errorf("%s of %s: %d, want %d", what, millKindsShown(kinds), got, want)
			}
			if got := millShapesShown(impl.MillShapes(c, 1)[2+many : 3+many]); got != shown {
				t.Errorf("%s of %s leaves %s, want %s", what, millKindsShown(kinds), got, shown)
			}
		}
		// With one kid too few, the lowest one missing.
		if many > 0 {
			c := millCoded(t, "main -> text 0: push text; return 1\nf -> ? 1: step; return 0")
			for key := range millSigns {
				words := strings.Fields(key)
				if words[0] != what || len(words) != many+1 {
					continue
				}
				c.Fns[1].Ins = nil
				for _, kind := range words[2:] {
					c.Fns[1].Ins = append(c.Fns[1].Ins, impl.MillIns{Op: impl.MillInsPush, A: slices.Index(millTypeTexts, kind)})
				}
				c.Fns[1].Ins = append(c.Fns[1].Ins, ins, impl.MillIns{Op: impl.MillInsDrop}, impl.MillIns{Op: impl.MillInsReturn})
				wantMillChecked(t, c, 5, 1, many-1)
			}
		}
	}
	if fits < 200 {
		t.Errorf("only %d of them fit", fits)
	}
}

// millKindLists are all lists of so many types.
func millKindLists(many int) [][]int {
	lists := [][]int{nil}
	for range many {
		var longer [][]int
		for _, list := range lists {
			for kind := 1; kind <= 10; kind++ {
				longer = append(longer, append(slices.Clone(list), kind))
			}
		}
		lists = longer
	}
	return lists
}

// What leaves more than MaxStack values, by each way to put one.
func TestMillCheckCodeMaxStack(t *testing.T) {
	for _, row := range []struct {
		puts string
		more int
	}{{"push text", 1}, {"load 0", 1}, {"built arg", 1}, {"call 0", 1}, {"call 1", 0}, {"step", 0}, {"push u8 0; drop", 1}, {"built len", 0}, {"store 0", 0}} {
		for _, many := range []int{599, 600, 601} {
			ahead := "push text; store 0" + strings.Repeat("; push text", many) + "; " + row.puts
			c := millRight(t, 1, ahead)
			// What is there is dropped again, so that the end has room.
			c.Fns[0].Ins = append(append(millCodedIns(t, ahead), slices.Repeat([]impl.MillIns{{Op: impl.MillInsDrop}}, many-1)...), millCodedIns(t, "push text; return 1")...)
			c.Fns = append(c.Fns, millCoded(t, "k -> ? 0: return 0").Fns...)
			want := [3]int{}
			switch {
			case many > 600:
				want = [3]int{5, 0, 2 + 600}
			case many+row.more > 600:
				want = [3]int{5, 0, 2 + many}
			}
			if got := millChecked(c); got != want {
				t.Errorf("%d values, then %s: %d, want %d", many, row.puts, got, want)
			}
			shapes, want2 := impl.MillShapes(c, 0), 1
			if want[0] == 5 {
				want2 = 2
			}
			if at := 2 + min(many, 600) + 1; shapes[at].State != want2 || shapes[at-1].State != 1 || len(shapes[at-1].Stack) != min(many, 600) {
				t.Errorf("%d values, then %s: %d, %d values", many, row.puts, shapes[at].State, len(shapes[at-1].Stack))
			}
		}
	}
}

// To go on at the number of instructions, by each way.
func TestMillCheckCodeBehindTheEnd(t *testing.T) {
	f := "f bool text u8 -> ? 4"
	for word, row := range map[string]string{
		"push": "push u8 1", "load": "load 0", "store": "load 0; store 3", "drop": "load 0; drop", "un": "load 0; un !", "bin": "load 2; load 2; bin +", "conv": "load 2; conv u64",
		"built": "built arg", "call": "call 3", "jump": "jump 1", "unless": "load 0; unless 1", "return": "return 0", "fail": "load 1; fail", "write": "load 1; load 1; write", "say": "load 1; say", "step": "step",
	} {
		at := strings.Count(row, ";")
		want := at
		if word == "return" || word == "fail" {
			want = -1
		}
		wantMillUnfit(t, millUnfitRow{f, row, want})
	}
	wantMillUnfit(t,
		millUnfitRow{f, "jump 2; return 0", 0},
		millUnfitRow{f, "jump 1; return 0", -1},
		millUnfitRow{f, "jump 0; return 0", -1},
		millUnfitRow{f, "step; jump 4; jump 4; return 0", 1},
		millUnfitRow{f, "return 0; jump 2", -1},
		millUnfitRow{f, "load 0; unless 3; return 0", 1},
		millUnfitRow{f, "load 0; unless 2; return 0", -1},
		millUnfitRow{f, "jump 2; return 0; load 0; unless 1", 1},
		millUnfitRow{f, "jump 2; return 0; load 0; unless 4", 3},
		millUnfitRow{f, "load 0; unless 3; return 0; load 0; unless 3", 3},
		millUnfitRow{f, "jump 2; return 0; load 0; unless 1; return 0", -1},
		millUnfitRow{f, "jump 1; step", 1},
		// What goes on nowhere is unfit by what it takes alone.
		millUnfitRow{f, "fail; return 0", 0},
		millUnfitRow{f, "load 0; fail; return 0", 1},
	)
}

// wantMillShown asks for the shapes of a code's first function, and for its check.
func wantMillShown(t *testing.T, text, shown string, code, fn, at int) {
	t.Helper()
	c := millCoded(t, text)
	if got := millShapesShown(impl.MillShapes(c, 0)); got != shown {
		t.Errorf("%s:\n%s, want\n%s", text, got, shown)
	}
	if got := wantMillCode(t, c); got != [3]int{code, fn, at} {
		t.Errorf("%s: %d, want %d %d %d", text, got, code, fn, at)
	}
}

func TestMillShapesWays(t *testing.T) {
	// In a line: what lies ahead of each instruction.
	wantMillShown(t, "main -> text 2: push u8 1; store 1; load 1; conv i64; built dec; return 1",
		"? ?|; ? ?|u8; ? u8|; ? u8|u8; ? u8|i64; ? u8|text", 0, 0, 0)
	wantMillShown(t, "main -> text 0: push bool 1; push u8 1; push i64 2; push text; return 1",
		"|; |bool; |bool u8; |bool u8 i64; |bool u8 i64 text", 0, 0, 0)
	// A slot that is stored anew, with another type.
	wantMillShown(t, "main -> text 1: push u8 1; store 0; push text; store 0; load 0; return 1",
		"?|; ?|u8; u8|; u8|text; text|; text|text", 0, 0, 0)
	// Places that nothing leads to, what is wrong there among it.
	wantMillShown(t, "main -> text 1: push text; return 1; drop; load 0; jump 0; bin +; fail",
		"?|; ?|text; -; -; -; -; -", 0, 0, 0)
	wantMillShown(t, "main -> text 0: jump 3; drop; jump 1; push text; return 1",
		"|; -; -; |; |text", 0, 0, 0)
	wantMillShown(t, "main -> text 0: push text; fail; push text; jump 1",
		"|; |text; -; -", 0, 0, 0)
	// A place that no way leads to does not come to another.
	wantMillShown(t, "main -> text 0: jump 2; push u8 1; push text; return 1",
		"|; -; |; |text", 0, 0, 0)
	// A jump to the place itself.
	wantMillShown(t, "main -> text 0: jump 0", "|", 0, 0, 0)
	wantMillShown(t, "main -> text 0: step; jump 1; drop", "|; |; -", 0, 0, 0)
}

func TestMillShapesMeet(t *testing.T) {
	// The same stack, other slots.
	wantMillShown(t, "main -> text 2: push u8 1; store 0; push bool 1; unless 6; push text; store 0; push text; return 1",
		"? ?|; ? ?|u8; u8 ?|; u8 ?|bool; u8 ?|; u8 ?|text; ? ?|; ? ?|text", 0, 0, 0)
	wantMillShown(t, "main -> text 2: push bool 1; unless 7; push u8 1; store 0; push text; store 1; jump 11; push u8 2; store 0; push i8 2; store 1; load 0; built dec; return 1",
		"? ?|; ? ?|bool; ? ?|; ? ?|u8; u8 ?|; u8 ?|text; u8 text|; ? ?|; ? ?|u8; u8 ?|; u8 ?|i8; u8 ?|; u8 ?|u8; u8 ?|text", 0, 0, 0)
	// A slot that was known on one way alone, loaded behind.
	wantMillShown(t, "main -> text 1: push bool 1; unless 4; push text; store 0; load 0; return 1",
		"?|; ?|bool; ?|; ?|text; ?|; !", 5, 0, 4)
	// A value on the stack, of one type by both ways, and of two.
	wantMillShown(t, "main -> text 0: push bool 1; unless 4; push text a; jump 5; push text b; return 1",
		"|; |bool; |; |text; |; |text", 0, 0, 0)
	wantMillShown(t, "main -> text 0: push bool 1; unless 4; push u8 1; jump 5; push text b; return 1",
		"|; |bool; |; |u8; |; !", 5, 0, 5)
	// Stacks of other lengths.
	wantMillShown(t, "main -> text 0: push bool 1; unless 3; push text; push text; return 1",
		"|; |bool; |; !; !", 5, 0, 3)
	wantMillShown(t, "main -> text 0: push text; push bool 1; unless 4; push text; return 1",
		"|; |text; |text bool; |text; !", 5, 0, 4)
	// Both ways of an InsUnless to one place.
	wantMillShown(t, "main -> text 0: push bool 1; unless 2; push text; return 1", "|; |bool; |; |text", 0, 0, 0)
	// Three ways, of which two have the same.
	wantMillShown(t, "main bool u8 text -> text 4: load 0; unless 6; load 1; store 3; load 0; unless 8; load 2; store 3; push text; return 1",
		"", 4, 0, 0)
	wantMillShown(t, "f bool u8 text -> ? 4: load 0; unless 6; load 1; store 3; load 0; unless 8; load 2; store 3; return 0\nmain -> text 0: push text; return 1",
		"bool u8 text ?|; bool u8 text ?|bool; bool u8 text ?|; bool u8 text ?|u8; bool u8 text u8|; bool u8 text u8|bool; bool u8 text ?|; bool u8 text ?|text; bool u8 text ?|", 0, 0, 0)
}

func TestMillShapesLoops(t *testing.T) {
	// What is stored within stays what it was.
	wantMillShown(t, "main -> text 1: push u8 1; store 0; load 0; push u8 1; bin +; store 0; jump 2",
		"?|; ?|u8; u8|; u8|u8; u8|u8 u8; u8|u8; u8|", 0, 0, 0)
	// It does not, and so nothing is known at the head; and a load there is unfit.
	wantMillShown(t, "main -> text 1: push u8 1; store 0; step; push text; store 0; jump 2",
		"?|; ?|u8; ?|; ?|; ?|text; text|", 0, 0, 0)
	wantMillShown(t, "main -> text 1: push u8 1; store 0; load 0; drop; push text; store 0; jump 2",
		"?|; ?|u8; !; !; !; !; !", 5, 0, 2)
	wantMillShown(t, "main -> text 1: step; push text; store 0; jump 0", "?|; ?|; ?|text; text|", 0, 0, 0)
	wantMillShown(t, "f u8 -> ? 1: step; push text; store 0; jump 0\nmain -> text 0: push text; return 1", "?|; ?|; ?|text; text|", 0, 0, 0)
	// The stack grows each time round, or is another.
	wantMillShown(t, "main -> text 0: push text; jump 0", "!; !", 5, 0, 0)
	wantMillShown(t, "main -> text 0: push text; push u8 1; drop; jump 1", "|; |text; |text u8; |text", 0, 0, 0)
	wantMillShown(t, "main -> text 0: push text; drop; push u8 1; jump 1", "|; !; !; !", 5, 0, 1)
	wantMillShown(t, "main -> text 0: push text; drop; push text; jump 1", "|; |text; |; |text", 0, 0, 0)
	// Slots that are lost one after the other, by jumps back that lie within each other.
	wantMillShown(t, "f bool u8 u8 -> ? 3: load 0; unless 7; push text; store 1; push text; store 2; jump 0; return 0\nmain -> text 0: push text; return 1",
		"bool ? ?|; bool ? ?|bool; bool ? ?|; bool ? ?|text; bool text ?|; bool text ?|text; bool text text|; bool ? ?|", 0, 0, 0)
	wantMillShown(t, "f bool u8 u8 -> ? 3: load 0; unless 5; push text; store 1; jump 0; push text; store 2; load 0; unless 0; return 0\nmain -> text 0: push text; return 1",
		"bool ? ?|; bool ? ?|bool; bool ? ?|; bool ? ?|text; bool text ?|; bool ? ?|; bool ? ?|text; bool ? text|; bool ? text|bool; bool ? text|", 0, 0, 0)
	// What is lost late makes a place unfit that was looked at before.
	wantMillShown(t, "f bool u8 -> ? 2: load 0; unless 6; load 1; drop; step; jump 0; push text; store 1; jump 0\nmain -> text 0: push text; return 1",
		"!; !; !; !; !; !; !; !; !", 5, 0, 0)
	wantMillShown(t, "f bool u8 -> ? 2: step; load 0; unless 6; load 1; drop; return 0; push text; store 1; jump 0\nmain -> text 0: push text; return 1",
		"bool ?|; bool ?|; bool ?|bool; bool ?|; !; !; bool ?|; bool ?|text; bool text|", 5, 0, 3)
}

// State 2 goes on from an unfit place, through what follows.
func TestMillShapesClash(t *testing.T) {
	wantMillShown(t, "main -> text 1: drop; step; push text; store 0; load 0; return 1; step", "?|; !; !; !; !; !; -", 5, 0, 0)
	// An unfit InsReturn and an unfit InsFail go on nowhere.
	wantMillShown(t, "main -> text 0: return 1; push text; return 1", "|; -; -", 5, 0, 0)
	wantMillShown(t, "main -> text 0: push u8 1; return 1; push text; return 1", "|; |u8; -; -", 5, 0, 1)
	wantMillShown(t, "main -> text 0: fail; push text; return 1", "|; -; -", 5, 0, 0)
	wantMillShown(t, "main -> text 0: drop; fail; step; return 1", "|; !; -; -", 5, 0, 0)
	wantMillShown(t, "main -> text 0: drop; return 1; step; return 1", "|; !; -; -", 5, 0, 0)
	// An unfit InsUnless goes on both ways, an InsJump just there.
	wantMillShown(t, "main -> text 0: unless 3; step; return 1; push text; return 1", "|; !; !; !; !", 5, 0, 0)
	wantMillShown(t, "main -> text 0: push u8 1; unless 4; push text; return 1; push text; return 1", "|; |u8; !; !; !; !", 5, 0, 1)
	wantMillShown(t, "main -> text 0: drop; jump 3; step; push text; return 1", "|; !; -; !; !", 5, 0, 0)
	wantMillShown(t, "main -> text 0: push bool 1; unless 4; push text; return 1", "|; |bool; !; !", 5, 0, 1)
	wantMillShown(t, "main -> text 0: jump 3; push text; return 1", "|; -; -", 5, 0, 0)
	// What is unfit by its end comes to the places that there are.
	wantMillShown(t, "main -> text 0: jump 3; push text; return 1; push bool 1; unless 1", "|; !; !; |; |bool", 5, 0, 1)
	wantMillShown(t, "main -> text 0: jump 2; return 1; push bool 1; unless 1", "|; !; |; |bool", 5, 0, 1)
	// State 2 by one way, known by the other.
	wantMillShown(t, "main -> text 0: push bool 1; unless 4; step; drop; push text; return 1", "|; |bool; |; |; !; !", 5, 0, 3)
	wantMillShown(t, "main -> text 0: push bool 1; unless 3; jump 4; drop; push text; return 1", "|; |bool; |; |; !; !", 5, 0, 3)
	// Back to the beginning.
	wantMillShown(t, "main -> text 0: step; drop; jump 0", "!; !; !", 5, 0, 0)
	wantMillShown(t, "main -> text 0: step; push bool 1; unless 5; drop; jump 0; push text; return 1", "!; !; !; !; !; !; !", 5, 0, 0)
	// A later place of another function is told where the earlier functions have none.
	wantMillShown(t, "main -> text 0: push text; return 1\nf -> ? 0: step; drop; return 0\ng -> ? 0: drop; return 0", "|; |text", 5, 1, 1)
	wantMillShown(t, "f -> ? 0: jump 2; return 0; step; drop; return 0\nmain -> text 0: return 1", "|; -; |; |; !", 5, 0, 3)
}

func TestMillShapesNothing(t *testing.T) {
	c := millCoded(t, "main -> text 0: push text; return 1\nf u8 -> ? 1: drop; return 0")
	for _, fn := range []int{math.MinInt, -2, -1, 2, 3, 1 << 32, math.MaxInt} {
		if got := impl.MillShapes(c, fn); len(got) != 0 {
			t.Errorf("function %d has shapes", fn)
		}
	}
	for fn, shown := range []string{"|; |text", "u8|; !"} {
		if got := millShapesShown(impl.MillShapes(c, fn)); got != shown {
			t.Errorf("function %d: %s", fn, got)
		}
	}
	for _, spoil := range []func(c *impl.MillCode){
		func(c *impl.MillCode) { c.Fns = nil },
		func(c *impl.MillCode) { c.Fns = append(c.Fns, make([]impl.MillFn, 60)...) },
		func(c *impl.MillCode) { c.Fns[1].Name = "main" },
		func(c *impl.MillCode) { c.Fns[1].Slots = 0 },
		func(c *impl.MillCode) { c.Fns[1].Ins[1].A = 1 },
		func(c *impl.MillCode) { c.Fns[0].Name = "m" },
	} {
		d := millCopied(c)
		spoil(&d)
		for fn := -1; fn < 3; fn++ {
			if got := impl.MillShapes(d, fn); len(got) != 0 {
				t.Errorf("%s has shapes", millCodeShown(d))
			}
		}
	}
}

func TestMillCodeNumbers(t *testing.T) {
	for _, row := range []struct {
		n    uint64
		form string
	}{
		{0, "\x00"}, {1, "\x01"}, {127, "\x7f"}, {128, "\x80\x01"}, {129, "\x81\x01"}, {255, "\xff\x01"}, {256, "\x80\x02"}, {300, "\xac\x02"}, {16383, "\xff\x7f"}, {16384, "\x80\x80\x01"},
		{1 << 62, "\x80\x80\x80\x80\x80\x80\x80\x80\x40"}, {1<<63 - 1, "\xff\xff\xff\xff\xff\xff\xff\xff\x7f"}, {1 << 63, "\x80\x80\x80\x80\x80\x80\x80\x80\x80\x01"}, {1<<64 - 1, "\xff\xff\xff\xff\xff\xff\xff\xff\xff\x01"},
	} {
		if got := millNumberForm(row.n); got != row.form {
			t.Errorf("the form of %d is %q", row.n, got)
		}
		c := millRight(t, 0, "push u64 0; drop")
		c.Fns[0].Ins[0].N = int64(row.n)
		want := "mill1\x01\x04main\x00\x02\x00\x04\x01\x06" + row.form + "\x04\x01\x02\x01x\x0c\x01"
		if got := impl.MillWriteCode(c); got != want {
			t.Errorf("%d: %q, want %q", row.n, got, want)
		}
		if d, ok := impl.MillReadCode(want); !ok || !isSameMillCode(c, d) {
			t.Errorf("%d: read as %s %v", row.n, millCodeShown(d), ok)
		}
		wantMillNumberSpoilt(t, want, strings.Index(want, "\x06"+row.form)+1, row.form)
	}
}

// wantMillNumberSpoilt writes a number of a form in ways that are none.
func wantMillNumberSpoilt(t *testing.T, form string, at int, number string) {
	t.Helper()
	end := len(number) - 1
	longer := number[:end] + string([]byte{number[end] | 128})
	for _, other := range []string{"", longer, longer + "\x00", longer + "\x80\x00", longer + "\x80", longer + strings.Repeat("\x80", 10) + "\x01", longer + strings.Repeat("\x80", 20) + "\x00"} {
		s := form[:at] + other + form[at+len(number):]
		if wantMillFormRead(t, s) && other != "" {
			t.Errorf("%q is read, with the number %q for %q", s, other, number)
		}
	}
}

// Numbers of nine and ten bytes, and what goes beyond 64 bits.
func TestMillCodeLongNumbers(t *testing.T) {
	for _, kind := range []int{impl.MillTypeU64, impl.MillTypeI64, impl.MillTypeI32, impl.MillTypeU32, impl.MillTypeI8} {
		for nine := range 4 {
			for tenth := range 256 {
				number := strings.Repeat("\x80", 8) + string([]byte{[]byte{0x80, 0xff, 0x81, 0xc0}[nine], byte(tenth)})
				s := "mill1\x01\x04main\x00\x02\x00\x04\x01" + string(rune(kind)) + number + "\x04\x01\x02\x00\x0c\x01"
				read := wantMillFormRead(t, s)
				if right := tenth == 1 && (kind == impl.MillTypeU64 || kind == impl.MillTypeI64); read != right {
					t.Errorf("%q: %v", s, read)
				}
			}
		}
	}
	full := strings.Repeat("\xff", 9)
	for _, row := range []struct {
		kind   int
		number string
		n      int64
		ok     bool
	}{
		{impl.MillTypeI8, full + "\x01", -1, true}, {impl.MillTypeI8, "\x80" + full[1:] + "\x01", -128, true}, {impl.MillTypeI8, "\xff\xfe" + full[2:] + "\x01", -129, false},
		{impl.MillTypeI8, "\x7f", 127, true}, {impl.MillTypeI8, "\x80\x01", 128, false}, {impl.MillTypeI8, "\xff\x01", 255, false},
		{impl.MillTypeU8, "\xff\x01", 255, true}, {impl.MillTypeU8, "\x80\x02", 256, false}, {impl.MillTypeU8, full + "\x01", -1, false},
		{impl.MillTypeBool, "\x00", 0, true}, {impl.MillTypeBool, "\x01", 1, true}, {impl.MillTypeBool, "\x02", 2, false}, {impl.MillTypeBool, full + "\x01", -1, false},
		{impl.MillTypeU64, full + "\x01", -1, true}, {impl.MillTypeU64, full + "\x02", 0, false}, {impl.MillTypeU64, full + "\x03", 0, false}, {impl.MillTypeU64, full + "\x81\x00", 0, false}, {impl.MillTypeU64, full + "\x81", 0, false},
		{impl.MillTypeI64, "\x80\x80\x80\x80\x80\x80\x80\x80\x80\x01", math.MinInt64, true}, {impl.MillTypeI64, full[1:] + "\x7f", math.MaxInt64, true}, {impl.MillTypeI64, full[1:] + "\x80\x00", 0, false},
	} {
		s := "mill1\x01\x04main\x00\x02\x00\x04\x01" + string(rune(row.kind)) + row.number + "\x04\x01\x02\x00\x0c\x01"
		c, ok := impl.MillReadCode(s)
		if ok != row.ok || ok && c.Fns[0].Ins[0] != (impl.MillIns{Op: 1, A: row.kind, N: row.n}) {
			t.Errorf("%q: %s %v", s, millCodeShown(c), ok)
		}
		wantMillFormRead(t, s)
	}
}

func TestMillCodeForms(t *testing.T) {
	for _, row := range []struct{ text, form string }{
		{"main -> text 0: push text x; return 1", "\x01\x04main\x00\x02\x00\x02\x01\x02\x01x\x0c\x01"},
		{"main -> text 0: push text; fail", "\x01\x04main\x00\x02\x00\x02\x01\x02\x00\x0d"},
		{"main -> text 200: jump 0", "\x01\x04main\x00\x02\xc8\x01\x01\x0a\x00"},
		// The last thing is a text, a number, an Op.
		{"main -> text 0: jump 0; push text xy", "\x01\x04main\x00\x02\x00\x02\x0a\x00\x01\x02\x02xy"},
		{"main -> text 0: jump 0; push u16 300", "\x01\x04main\x00\x02\x00\x02\x0a\x00\x01\x04\xac\x02"},
		{"main -> text 0: jump 0; step", "\x01\x04main\x00\x02\x00\x02\x0a\x00\x10"},
		{"f u8 i64 -> bool 3: load 0; store 2; push bool 1; un !; return 1\nmain -> text 0: step; jump 0",
			"\x02\x01f\x02\x03\x0a\x01\x03\x05\x02\x00\x03\x02\x01\x01\x01\x05\x02\x0c\x01\x04main\x00\x02\x00\x02\x10\x0a\x00"},
		{"g -> ? 0: return 0\nmain -> text 0: call 0; push text a; push text b; bin +; push text c; write; push text; say; push u8 9; conv i16; drop; built arg; push bool 0; unless 14; return 1",
			"\x02\x01g\x00\x00\x00\x01\x0c\x00\x04main\x00\x02\x00\x0f\x09\x00\x01\x02\x01a\x01\x02\x01b\x06\x09\x01\x02\x01c\x0e\x01\x02\x00\x0f\x01\x03\x09\x07\x08\x04\x08\x05\x01\x01\x00\x0b\x0e\x0c\x01"},
	} {
		c := millCoded(t, row.text)
		if got := impl.MillWriteCode(c); got != "mill1"+row.form {
			t.Errorf("%s: %q, want %q", row.text, got, "mill1"+row.form)
		}
		if got := wantMillCode(t, c); got != [3]int{} {
			t.Errorf("%s: %d", row.text, got)
		}
		if d, ok := impl.MillReadCode("mill1" + row.form); !ok || !isSameMillCode(c, d) {
			t.Errorf("%s: read as %s %v", row.text, millCodeShown(d), ok)
		}
	}
}

// Texts with any bytes, of one byte of size and of two.
func TestMillCodeTexts(t *testing.T) {
	var all []byte
	for b := range 256 {
		all = append(all, byte(b))
	}
	texts := []string{"", "\x00", "\x80", "\xff", "mill1", string(all), strings.Repeat("\x80", 127), strings.Repeat("\x00", 128), strings.Repeat("\x0c\x01", 64), strings.Repeat("é", 1500), strings.Repeat("x", 2999), strings.Repeat("x", 3000)}
	for _, text := range texts {
		c := millRight(t, 0, "")
		c.Fns[0].Ins[0].Text = text
		if got := wantMillCode(t, c); got != [3]int{} {
			t.Errorf("%.100q: %d", text, got)
		}
		form := impl.MillWriteCode(c)
		if want := "mill1\x01\x04main\x00\x02\x00\x02\x01\x02" + millTextForm(text) + "\x0c\x01"; form != want {
			t.Errorf("%.100q: %.200q", text, form)
		}
		// A size that is one more or one less.
		for _, size := range []int{len(text) - 1, len(text) + 1, len(text) + 2, len(text) + 3, 3001, 1 << 20} {
			if size >= 0 {
				wantMillFormRead(t, "mill1\x01\x04main\x00\x02\x00\x02\x01\x02"+millNumberForm(uint64(size))+text+"\x0c\x01")
			}
		}
	}
	c := millRight(t, 0, "")
	c.Fns[0].Ins[0].Text = strings.Repeat("x", 3001)
	if _, ok := impl.MillReadCode(millForm(c)); ok || impl.MillWriteCode(c) != "" {
		t.Error("a text of 3001 bytes has a form")
	}
}

// millSized is a valid code whose form would have so many bytes.
func millSized(t *testing.T, bytes int) impl.MillCode {
	t.Helper()
	c := millRight(t, 0, "")
	for size := len(millForm(c)); ; size = len(millForm(c)) {
		// A push and a drop are three bytes, and the text with its size.
		left := bytes - size
		if left == 0 {
			return c
		}
		text := strings.Repeat("\xff", min(3000, max(0, left-6)))
		if left < 12 {
			c.Fns[0].Ins = append(slices.Repeat([]impl.MillIns{{Op: impl.MillInsStep}}, left), c.Fns[0].Ins...)
			continue
		}
		c.Fns[0].Ins = append([]impl.MillIns{{Op: impl.MillInsPush, A: impl.MillTypeText, Text: text}, {Op: impl.MillInsDrop}}, c.Fns[0].Ins...)
	}
}

func TestMillCodeMaxBytes(t *testing.T) {
	for _, bytes := range []int{1000, 20000, 199999, 200000, 200001, 200002, 250000} {
		c := millSized(t, bytes)
		form := millForm(c)
		if len(form) != bytes {
			t.Fatalf("%d bytes, want %d", len(form), bytes)
		}
		wantMillChecked(t, c, 0, 0, 0)
		wantMillForm(t, c, impl.MillWriteCode(c))
		if _, ok := impl.MillReadCode(form); ok != (bytes <= 200000) {
			t.Errorf("a form of %d bytes: %v", bytes, ok)
		}
	}
	// Far more than there is room for, in one function and in many.
	c := millRight(t, 0, "")
	text := strings.Repeat("x", 3000)
	c.Fns[0].Ins = append(slices.Repeat([]impl.MillIns{{Op: impl.MillInsPush, A: 2, Text: text}, {Op: impl.MillInsDrop}}, 24999), c.Fns[0].Ins...)
	for i := range 20 {
		c.Fns = append(c.Fns, impl.MillFn{Name: "f" + strconv.Itoa(i), Result: 2, Ins: c.Fns[0].Ins})
	}
	wantMillChecked(t, c, 0, 0, 0)
	if impl.MillWriteCode(c) != "" {
		t.Error("a form that is too long")
	}
	for _, s := range []string{strings.Repeat("m", 200000), strings.Repeat("\x80", 200000), "mill1" + strings.Repeat("\x80", 199995), "mill1\xff\xff\x7f" + strings.Repeat("\x00", 199992), "mill1\x01\x04main\x00\x02\x00" + millNumberForm(1<<40) + strings.Repeat("\x10", 190000), "mill1\x01\x04main" + millNumberForm(1<<63) + strings.Repeat("\x01", 190000)} {
		if got, ok := impl.MillReadCode(s); ok || len(got.Fns) != 0 {
			t.Errorf("%.50q is read", s)
		}
	}
}

// millSomeCodes are valid codes that have all instructions between them.
func millSomeCodes(t *testing.T) []impl.MillCode {
	t.Helper()
	return []impl.MillCode{
		millCoded(t, "main -> text 0: push text x; return 1"),
		millCoded(t, "f u8 i64 -> bool 3: load 0; store 2; push bool 1; un !; return 1\nmain -> text 0: step; jump 0"),
		millCoded(t, "g -> ? 0: return 0\nmain -> text 1: call 0; push text a; push text b; bin +; push text c; write; push text; say; push u16 300; conv i16; store 0; built arg; push bool 0; unless 14; return 1"),
		millCoded(t, "main -> text 0: jump 0; push text xy"),
		millCoded(t, "main -> text 2: push i64 -1; store 0; push u64 -1; store 1; push i8 -128; drop; load 0; built dec; push text e; built find; drop; push text; fail"),
	}
}

// Forms that are changed in one byte, cut short, made longer, run together.
func TestMillReadCodeSpoilt(t *testing.T) {
	t.Parallel()
	codes := millSomeCodes(t)
	read := 0
	for i, c := range codes {
		form := impl.MillWriteCode(c)
		if form == "" || millChecked(c) != [3]int{} {
			t.Fatalf("code %d is not valid: %d", i, millChecked(c))
		}
		for at := range form {
			for b := range 256 {
				if wantMillFormRead(t, form[:at]+string([]byte{byte(b)})+form[at+1:]) {
					read++
				}
			}
			for _, b := range []string{"\x00", "\x01", "\x02", "\x80", "\x10", "\xff"} {
				wantMillFormRead(t, form[:at]+b+form[at:])
			}
			if wantMillFormRead(t, form[:at]) {
				t.Errorf("%q is read, cut short to %d bytes", form, at)
			}
			wantMillFormRead(t, form[:at]+form[at+1:])
			wantMillFormRead(t, form[at:])
		}
		for b := range 256 {
			if wantMillFormRead(t, form+string([]byte{byte(b)})) {
				t.Errorf("%q is read, with the byte %d behind it", form, b)
			}
		}
		for _, s := range []string{form + form, form + "\x00\x00", form[5:], "mill" + form[5:], "Mill1" + form[5:], "mill2" + form[5:], "mill11" + form[5:], " " + form, "mill1" + form, "mil1" + form[5:]} {
			if wantMillFormRead(t, s) {
				t.Errorf("%q is read", s)
			}
		}
	}
	// Most bytes stand for something; some may be another, and what is read then is that form.
	if read < len(codes)*20 {
		t.Errorf("only %d forms with one byte changed are read", read)
	}
	for _, s := range []string{"", "m", "mill", "mill1", "mill1\x00", "mill1\x80\x00", "mill1\x80", "mill1\x01", "\x00", "mill1\x01\x00"} {
		if wantMillFormRead(t, s) {
			t.Errorf("%q is read", s)
		}
	}
}

// A form of a code that is not valid, by each code.
func TestMillReadCodeNotValid(t *testing.T) {
	many := millRight(t, 0, "")
	for i := range 60 {
		many.Fns = append(many.Fns, impl.MillFn{Name: "f" + strconv.Itoa(i), Ins: millBack})
	}
	for code, c := range []impl.MillCode{
		1: {},
		2: millCoded(t, "main -> text 0: push text; return 1\nMain -> ? 0: return 0"),
		3: millCoded(t, "main -> text 0: push text; return 0"),
		4: millCoded(t, "f -> text 0: push text; return 1"),
		5: millCoded(t, "main -> text 0: push u8 1; return 1"),
		6: many,
		7: millCoded(t, "main -> text 201: push text; return 1"),
		8: millCoded(t, "main u8 -> text 1: push text; return 1"),
		9: millCoded(t, "main -> text 0: jump 1; push text; return 1; jump 4"),
	} {
		if code > 0 && code < 6 && millChecked(c)[0] != code {
			t.Errorf("%s: %d", millCodeShown(c), millChecked(c))
		}
		if has := impl.MillWriteCode(c) != ""; has != (code == 9) {
			t.Errorf("%s: its form is there: %v", millCodeShown(c), has)
		}
		if read := wantMillFormRead(t, millForm(c)); read != (code == 9) {
			t.Errorf("%s: %v", millCodeShown(c), read)
		}
	}
	// Numbers that no int may hold, in each place of a number.
	form := impl.MillWriteCode(millSomeCodes(t)[1])
	for at := 5; at < len(form); at++ {
		for _, n := range []uint64{1 << 31, 1 << 32, 1<<32 + 1, 1<<63 - 1, 1 << 63, 1<<64 - 1} {
			wantMillFormRead(t, form[:at]+millNumberForm(n)+form[at+1:])
		}
	}
}

// millDrawn draws functions that keep track of what lies where, and so are mostly valid.
type millDrawn struct {
	*clayDice
	c     impl.MillCode
	fn    *impl.MillFn
	known []int
	stack []int
}

func (d *millDrawn) put(op, a int) {
	d.fn.Ins = append(d.fn.Ins, impl.MillIns{Op: op, A: a})
}

func (d *millDrawn) push(kind int) {
	v := d.millAny(kind)
	if len(v.Text) > 20 {
		v.Text = v.Text[:20]
	}
	d.fn.Ins = append(d.fn.Ins, impl.MillIns{Op: impl.MillInsPush, A: kind, N: v.N, Text: v.Text})
	d.stack = append(d.stack, kind)
}

// kindOf is the type that the slots of even numbers keep to; what is in the others is forgotten where a loop begins.
func (d *millDrawn) kindOf(slot int) int { return 1 + slot*7%10 }

// need puts a value of a type: what a slot has, or what is pushed.
func (d *millDrawn) need(kind int) {
	for slot, has := range d.known {
		if has == kind && d.below(2) == 0 {
			d.put(impl.MillInsLoad, slot)
			d.stack = append(d.stack, kind)
			return
		}
	}
	d.push(kind)
}

func (d *millDrawn) taken(many int) { d.stack = d.stack[:len(d.stack)-many] }

// simple puts an instruction that fits, with what it needs ahead of it.
func (d *millDrawn) simple() {
	switch d.below(9) {
	case 0:
		d.push(1 + d.below(10))
	case 1:
		d.put(impl.MillInsStep, 0)
	case 2:
		if len(d.known) > 0 {
			slot := d.below(len(d.known))
			kind := d.kindOf(slot)
			if slot%2 == 1 {
				kind = 1 + d.below(10)
			}
			d.need(kind)
			d.put(impl.MillInsStore, slot)
			d.taken(1)
			d.known[slot] = kind
		}
	case 3:
		d.need(1 + d.below(10))
		d.put(impl.MillInsDrop, 0)
		d.taken(1)
	case 4:
		d.need(impl.MillTypeText)
		if d.below(2) == 0 {
			d.put(impl.MillInsSay, 0)
			d.taken(1)
			return
		}
		d.need(impl.MillTypeText)
		d.put(impl.MillInsWrite, 0)
		d.taken(2)
	case 5:
		number := d.below(len(d.c.Fns))
		for _, kind := range d.c.Fns[number].Params {
			d.need(kind)
		}
		d.put(impl.MillInsCall, number)
		d.taken(len(d.c.Fns[number].Params))
		if gives := d.c.Fns[number].Result; gives != impl.MillTypeNone {
			d.stack = append(d.stack, gives)
		}
	default:
		d.signed()
	}
}

// signed puts an instruction of chapter 12's table.
func (d *millDrawn) signed() {
	ops := []impl.MillIns{{Op: 5, A: 1 + d.below(3)}, {Op: 6, A: 3 + d.below(16)}, {Op: 7, A: 3 + d.below(8)}, {Op: 8, A: 1 + d.below(12)}}
	ins := ops[d.below(4)]
	what, many := millAsked(ins)
	kinds := make([]int, many)
	for {
		for i := range kinds {
			kinds[i] = 1 + d.below(10)
			if i > 0 && d.below(2) == 0 {
				kinds[i] = kinds[0]
			}
		}
		gives, ok := millSigns[strings.TrimSpace(what+" "+millKindsShown(kinds))]
		if !ok {
			continue
		}
		for _, kind := range kinds {
			d.need(kind)
		}
		d.fn.Ins = append(d.fn.Ins, ins)
		d.taken(many)
		d.stack = append(d.stack, gives)
		return
	}
}

// even drops what was put above a height.
func (d *millDrawn) even(high int) {
	for len(d.stack) > high {
		d.put(impl.MillInsDrop, 0)
		d.taken(1)
	}
}

// piece puts several instructions, with ways that part and meet.
func (d *millDrawn) piece(deep int) {
	for range 1 + d.below(4) {
		if len(d.fn.Ins) > 150 {
			return
		}
		switch how := d.below(8); {
		case deep == 0 || how < 5:
			d.simple()
		case how < 7:
			d.branch(deep - 1)
		default:
			d.loop(deep - 1)
		}
	}
}

func (d *millDrawn) branch(deep int) {
	d.need(impl.MillTypeBool)
	d.put(impl.MillInsUnless, 0)
	d.taken(1)
	unless, high := len(d.fn.Ins)-1, len(d.stack)
	before := slices.Clone(d.known)
	d.piece(deep)
	d.even(high)
	one := slices.Clone(d.known)
	ends := d.below(6) == 0
	if ends {
		d.end()
	}
	d.put(impl.MillInsJump, 0)
	jump := len(d.fn.Ins) - 1
	d.fn.Ins[unless].A = len(d.fn.Ins)
	d.known = before
	if d.below(3) > 0 {
		d.piece(deep)
		d.even(high)
	}
	d.fn.Ins[jump].A = len(d.fn.Ins)
	for i := range d.known {
		if d.known[i] != one[i] && !ends {
			d.known[i] = impl.MillTypeNone
		}
	}
	// Something stands behind a branch always, so that it goes on at a place.
	d.put(impl.MillInsStep, 0)
}

func (d *millDrawn) loop(deep int) {
	for i := range d.known {
		if i%2 == 1 {
			d.known[i] = impl.MillTypeNone
		}
	}
	head, high := len(d.fn.Ins), len(d.stack)
	d.piece(deep)
	d.even(high)
	d.need(impl.MillTypeBool)
	d.put(impl.MillInsUnless, 0)
	d.taken(1)
	unless := len(d.fn.Ins) - 1
	d.put(impl.MillInsJump, head)
	d.fn.Ins[unless].A = len(d.fn.Ins)
	if d.below(2) == 0 {
		d.fn.Ins = slices.Delete(d.fn.Ins, len(d.fn.Ins)-1, len(d.fn.Ins))
		d.fn.Ins[unless].A = head
	}
	d.put(impl.MillInsStep, 0)
}

// end puts what ends a function.
func (d *millDrawn) end() {
	high := len(d.stack)
	switch {
	case d.below(5) == 0:
		d.need(impl.MillTypeText)
		d.put(impl.MillInsFail, 0)
	case d.fn.Result == impl.MillTypeNone:
		d.put(impl.MillInsReturn, 0)
	default:
		d.need(d.fn.Result)
		d.put(impl.MillInsReturn, 1)
	}
	d.stack = d.stack[:high]
}

// millDrawnCode is a code that is valid mostly.
func (dice *clayDice) millDrawnCode() impl.MillCode {
	d := &millDrawn{clayDice: dice}
	d.c.Fns = []impl.MillFn{{Name: "main", Result: impl.MillTypeText}}
	for i := range dice.below(4) {
		fn := impl.MillFn{Name: "f" + strconv.Itoa(i), Result: max(0, dice.below(14)-3)}
		for at := range dice.below(5) {
			fn.Params = append(fn.Params, d.kindOf(at))
		}
		d.c.Fns = slices.Insert(d.c.Fns, dice.below(len(d.c.Fns)+1), fn)
	}
	for i := range d.c.Fns {
		d.fn = &d.c.Fns[i]
		d.fn.Slots = len(d.fn.Params) + dice.below(6)
		d.known = append(slices.Clone(d.fn.Params), make([]int, d.fn.Slots-len(d.fn.Params))...)
		d.stack = nil
		d.piece(3)
		d.end()
	}
	return d.c
}

// millSpoilCode changes something of a code.
func (dice *clayDice) millSpoilCode(c impl.MillCode) impl.MillCode {
	c = millCopied(c)
	fn := &c.Fns[dice.below(len(c.Fns))]
	at := dice.below(len(fn.Ins))
	ins := &fn.Ins[at]
	near := []int{-1, 1, -2, 2, len(fn.Ins), -len(fn.Ins)}[dice.below(6)]
	switch dice.below(12) {
	case 0:
		fn.Result = dice.below(11)
	case 1:
		fn.Slots += near
	case 2:
		ins.Op += near
	case 3, 4:
		ins.A += near
	case 5:
		ins.A = dice.below(12)
	case 6:
		ins.N += int64(near)
	case 7:
		*ins = fn.Ins[dice.below(len(fn.Ins))]
	case 8:
		fn.Ins = slices.Delete(fn.Ins, at, at+1)
	case 9:
		fn.Ins = slices.Insert(fn.Ins, at, fn.Ins[dice.below(len(fn.Ins))])
	case 10:
		*ins = impl.MillIns{Op: []int{impl.MillInsJump, impl.MillInsUnless}[dice.below(2)], A: dice.below(len(fn.Ins) + 2)}
	default:
		*ins = impl.MillIns{Op: 1 + dice.below(16), A: dice.below(4)}
	}
	return c
}

// Drawn codes, as they are and spoilt: all of the chapter, as the rules have it.
func TestMillCodeDrawn(t *testing.T) {
	t.Parallel()
	dice := clayDice(16)
	codes := map[int]int{}
	for range 700 {
		c := dice.millDrawnCode()
		codes[wantMillCode(t, c)[0]]++
		for range 1 + dice.below(4) {
			c = dice.millSpoilCode(c)
			codes[wantMillCode(t, c)[0]]++
		}
	}
	for code, least := range []int{600, 0, 20, 100, 1, 200} {
		if codes[code] < least {
			t.Errorf("CheckCode is %d for %d codes, by code they are %v", code, codes[code], codes)
		}
	}
}

// Codes drawn without a thought, of few instructions.
func TestMillCodeDrawnAnyhow(t *testing.T) {
	t.Parallel()
	dice := clayDice(61)
	codes := map[int]int{}
	for range 6000 {
		c := millCoded(t, "main -> text 2: step\nf u8 bool -> u8 3: load 0; return 1\ng -> ? 0: return 0")
		fn := &c.Fns[dice.below(2)]
		fn.Ins = nil
		many := 1 + dice.below(9)
		for range many {
			ins := impl.MillIns{Op: 1 + dice.below(16)}
			if dice.below(2) == 0 {
				ins = impl.MillIns{Op: []int{1, 1, 2, 3, 4, 10, 11}[dice.below(7)]}
			}
			least, most := millEndsOfA(c, impl.MillFn{Result: fn.Result, Slots: fn.Slots, Ins: make([]impl.MillIns, many-1)}, ins.Op)
			ins.A = least + dice.below(most-least+1)
			if ins.Op == impl.MillInsPush {
				ins.A = []int{1, 1, 2, 2, 3}[dice.below(5)]
			}
			fn.Ins = append(fn.Ins, ins)
		}
		codes[wantMillCode(t, c)[0]]++
	}
	if codes[0] < 30 || codes[5] < 1000 {
		t.Errorf("by code they are %v", codes)
	}
}

// All functions of four instructions out of some.
func TestMillCodeAllSmall(t *testing.T) {
	t.Parallel()
	some := millCodedIns(t, "push bool 1; push text; load 0; store 0; return 1; drop")
	for place := range 5 {
		some = append(some, impl.MillIns{Op: impl.MillInsJump, A: place}, impl.MillIns{Op: impl.MillInsUnless, A: place})
	}
	valid := 0
	ins := make([]impl.MillIns, 4)
	for n := range len(some) * len(some) * len(some) * len(some) {
		for i := range ins {
			ins[i], n = some[n%len(some)], n/len(some)
		}
		c := impl.MillCode{Fns: []impl.MillFn{{Name: "main", Result: impl.MillTypeText, Slots: 1, Ins: ins}}}
		want, unfit := millShapesByRules(c, 0)
		if got := impl.MillShapes(c, 0); !slices.EqualFunc(got, want, isSameMillShape) {
			t.Errorf("%s: %s, want %s", millCodeShown(c), millShapesShown(got), millShapesShown(want))
		}
		code := [3]int{}
		if at := slices.Index(unfit, true); at >= 0 {
			code = [3]int{5, 0, at}
		}
		if got := millChecked(c); got != code {
			t.Errorf("%s: %d, want %d", millCodeShown(c), got, code)
		}
		if code[0] == 0 {
			valid++
			wantMillWays(t, c, 0)
		}
	}
	if valid < 1000 {
		t.Errorf("only %d are valid", valid)
	}
}

// millNestedLoops is a function in which jumps back, one behind the other, lose one slot each time.
func millNestedLoops(slots, body int) impl.MillFn {
	fn := impl.MillFn{Name: "f", Slots: slots}
	for i := range slots {
		fn.Ins = append(fn.Ins, impl.MillIns{Op: impl.MillInsPush, A: impl.MillTypeU8}, impl.MillIns{Op: impl.MillInsStore, A: i})
	}
	head := len(fn.Ins)
	fn.Ins = append(fn.Ins, slices.Repeat([]impl.MillIns{{Op: impl.MillInsStep}}, body)...)
	for i := range slots {
		fn.Ins = append(fn.Ins, impl.MillIns{Op: impl.MillInsPush, A: impl.MillTypeText}, impl.MillIns{Op: impl.MillInsStore, A: i},
			impl.MillIns{Op: impl.MillInsPush, A: impl.MillTypeBool}, impl.MillIns{Op: impl.MillInsUnless, A: head})
	}
	fn.Ins = append(fn.Ins, millBack...)
	return fn
}

// Functions in which places are looked at again and again come to an end.
func TestMillShapesLarge(t *testing.T) {
	t.Parallel()
	small := millMore(t, millNestedLoops(6, 5))
	if got := wantMillCode(t, small); got != [3]int{} {
		t.Errorf("%d", got)
	}
	c := millMore(t, millNestedLoops(200, 20000))
	wantMillChecked(t, c, 0, 0, 0)
	shapes := impl.MillShapes(c, 1)
	for _, at := range []int{400, 10000, 20399} {
		if s := shapes[at]; s.State != 1 || len(s.Slots) != 200 || slices.Max(s.Slots) != 0 || len(s.Stack) != 0 {
			t.Errorf("at %d: %+v", at, s)
		}
	}
	if s := shapes[len(shapes)-1]; s.State != 1 || slices.Min(s.Slots) != impl.MillTypeText || slices.Max(s.Slots) != impl.MillTypeText {
		t.Errorf("at the end: %+v", s)
	}
	// Ways that go to and fro over the whole function.
	fn := impl.MillFn{Name: "f", Ins: make([]impl.MillIns, 50000)}
	for i := range 25000 {
		fn.Ins[i] = impl.MillIns{Op: impl.MillInsJump, A: 49999 - i}
		fn.Ins[49999-i] = impl.MillIns{Op: impl.MillInsJump, A: i + 1}
	}
	fn.Ins[25000] = millBack[0]
	c = millMore(t, fn)
	wantMillChecked(t, c, 0, 0, 0)
	for at, s := range impl.MillShapes(c, 1) {
		if s.State != 1 {
			t.Fatalf("at %d: %+v", at, s)
		}
	}
	fn.Ins[25000] = impl.MillIns{Op: impl.MillInsDrop}
	if got := millChecked(c); got != [3]int{5, 1, 24999} {
		t.Errorf("%d", got)
	}
}

// millCodeTexts are the texts of a code.
func millCodeTexts(c impl.MillCode) []string {
	var texts []string
	for _, fn := range c.Fns {
		texts = append(texts, fn.Name)
		for _, ins := range fn.Ins {
			texts = append(texts, ins.Text)
		}
	}
	return texts
}

// millWithRoom is a code whose lists have room behind them, and what lies in all of it.
func millWithRoom(c impl.MillCode) (roomy impl.MillCode, all []any) {
	fns, longFns := withRoom(c.Fns, impl.MillFn{Name: "room"})
	all = append(all, longFns)
	for i := range fns {
		params, longParams := withRoom(fns[i].Params, 77)
		ins, longIns := withRoom(fns[i].Ins, impl.MillIns{Op: 99, Text: "room"})
		fns[i].Params, fns[i].Ins = params, ins
		all = append(all, longParams, longIns)
	}
	return impl.MillCode{Fns: fns}, all
}

func TestMillCodeKeepsArguments(t *testing.T) {
	for _, c := range append(millSomeCodes(t), millCoded(t, "main -> text 1: push u8 1; store 0; drop; return 1"), millCoded(t, "f u8 -> ? 1: return 0"), impl.MillCode{}) {
		roomy, all := millWithRoom(c)
		_, before := millWithRoom(c)
		check := millChecked(roomy)
		for fn := range roomy.Fns {
			impl.MillShapes(roomy, fn)
		}
		form := impl.MillWriteCode(roomy)
		if check != millChecked(c) || form != impl.MillWriteCode(c) {
			t.Errorf("%s: another answer with room behind the lists", millCodeShown(c))
		}
		// The functions themselves hold lists whose room was compared on its own.
		if fmt.Sprint(all) != fmt.Sprint(before) {
			t.Errorf("%s: an argument is changed, or what lies behind it", millCodeShown(c))
		}
	}
}

// wantMillApart fills all of a list, its room too, and asks whether others are as they were.
func wantMillApart(t *testing.T, what string, lists [][]int) {
	t.Helper()
	var kept [][]int
	for _, list := range lists {
		kept = append(kept, slices.Clone(list))
	}
	for i, list := range lists {
		full := list[:cap(list)]
		for at := range full {
			full[at] = -7
		}
		for other := range lists {
			if other > i && !slices.Equal(lists[other], kept[other]) {
				t.Errorf("%s: lists %d and %d share memory", what, i, other)
				return
			}
		}
	}
}

func TestMillCodeAnswersNewMemory(t *testing.T) {
	for _, c := range append(millSomeCodes(t), millCoded(t, "main -> text 3: push u8 1; store 0; push text; push text; step; step; jump 4; drop; drop")) {
		for fn := range c.Fns {
			lists := [][]int{c.Fns[fn].Params}
			again := millShapesShown(impl.MillShapes(c, fn))
			for _, s := range impl.MillShapes(c, fn) {
				lists = append(lists, s.Slots, s.Stack)
			}
			// The Params come last, so that what is written into an answer is seen in them.
			slices.Reverse(lists)
			kept := slices.Clone(c.Fns[fn].Params)
			wantMillApart(t, millCodeShown(c), lists[:len(lists)-1])
			if !slices.Equal(c.Fns[fn].Params, kept) || millShapesShown(impl.MillShapes(c, fn)) != again {
				t.Errorf("%s: shapes share memory with the code", millCodeShown(c))
			}
		}
		form := string([]byte(impl.MillWriteCode(c)))
		got, ok := impl.MillReadCode(form)
		if !ok {
			continue
		}
		texts := millCodeTexts(got)
		for i, text := range texts {
			if sharesBytes(form, text) {
				t.Errorf("%q of a code shares memory with its form", text)
			}
			for _, other := range texts[:i] {
				if len(text) > 1 && sharesBytes(text, other) {
					t.Errorf("%q and %q of a code share memory", text, other)
				}
			}
		}
		var params [][]int
		for _, fn := range got.Fns {
			params = append(params, fn.Params)
		}
		wantMillApart(t, millCodeShown(got), params)
		for i := range got.Fns {
			full := got.Fns[i].Ins[:cap(got.Fns[i].Ins)]
			for at := range full {
				full[at] = impl.MillIns{Op: 88}
			}
			for _, fn := range got.Fns[i+1:] {
				if slices.Contains(fn.Ins, impl.MillIns{Op: 88}) {
					t.Errorf("%s: two functions share instructions", millCodeShown(c))
				}
			}
		}
		if again, ok := impl.MillReadCode(form); !ok || !isSameMillCode(again, c) {
			t.Errorf("%s: what was written into an answer is seen in the next", millCodeShown(c))
		}
	}
}

// The texts of a form are new memory, and those of a code are not in its form.
func TestMillWriteCodeAnswersNewMemory(t *testing.T) {
	for _, c := range millSomeCodes(t) {
		form := impl.MillWriteCode(c)
		for _, text := range millCodeTexts(c) {
			if sharesBytes(form, text) {
				t.Errorf("%q shares memory with the form", text)
			}
		}
		if again := impl.MillWriteCode(c); again != form || sharesBytes(again, form) {
			t.Errorf("%s: two answers share memory, or differ", millCodeShown(c))
		}
	}
	if got, ok := impl.MillReadCode("mill1"); ok || !reflect.DeepEqual(got, impl.MillCode{}) {
		t.Errorf("what is not read has %+v", got)
	}
}

func FuzzMillReadCode(f *testing.F) {
	for _, s := range []string{
		"mill1\x01\x04main\x00\x02\x00\x02\x01\x02\x01x\x0c\x01",
		"mill1\x02\x01f\x02\x03\x0a\x01\x03\x05\x02\x00\x03\x02\x01\x01\x01\x05\x02\x0c\x01\x04main\x00\x02\x00\x02\x10\x0a\x00",
		"mill1\x02\x01g\x00\x00\x00\x01\x0c\x00\x04main\x00\x02\x00\x0f\x09\x00\x01\x02\x01a\x01\x02\x01b\x06\x09\x01\x02\x01c\x0e\x01\x02\x00\x0f\x01\x03\x09\x07\x08\x04\x08\x05\x01\x01\x00\x0b\x0e\x0c\x01",
	} {
		f.Add(s)
	}
	f.Fuzz(func(t *testing.T, s string) {
		if len(s) > 2000 {
			return
		}
		wantMillFormRead(t, s)
		// What would be read but for its check has shapes that the rules have, too.
		l := &millLoose{rest: strings.TrimPrefix(s, "mill1")}
		var c impl.MillCode
		for n := l.number(); n > 0 && !l.bad; n-- {
			c.Fns = append(c.Fns, l.fn())
		}
		if len(c.Fns) > 0 && len(c.Fns) < 8 {
			wantMillCode(t, c)
		}
	})
}
