package tests

import (
	"fmt"
	"math"
	"math/big"
	"slices"
	"strconv"
	"strings"
	"testing"

	"loop.example/kilnyard/impl"
)

func millValueOf(kind int, n int64) impl.MillValue { return impl.MillValue{Type: kind, N: n} }

func millTextValue(text string) impl.MillValue {
	return impl.MillValue{Type: impl.MillTypeText, Text: text}
}

func millI64(n int64) impl.MillValue { return millValueOf(impl.MillTypeI64, n) }

func millBoolValue(is bool) impl.MillValue {
	if is {
		return millValueOf(impl.MillTypeBool, 1)
	}
	return millValueOf(impl.MillTypeBool, 0)
}

func isMillIntType(kind int) bool { return kind >= 3 && kind <= 10 }

// millWide is how many bits an integer type has, and whether it has a sign; its word says it.
func millWide(kind int) (bits uint, sign bool) {
	word := millTypeTexts[kind]
	wide, _ := strconv.Atoi(word[1:])
	return uint(wide), word[0] == 'i'
}

// millEnds are the least and the greatest number of an integer type.
func millEnds(kind int) (least, most *big.Int) {
	bits, sign := millWide(kind)
	one := big.NewInt(1)
	if !sign {
		return new(big.Int), new(big.Int).Sub(new(big.Int).Lsh(one, bits), one)
	}
	least = new(big.Int).Neg(new(big.Int).Lsh(one, bits-1))
	return least, new(big.Int).Sub(new(big.Int).Neg(least), one)
}

// millCutTo is a number with the bits above a type left out.
func millCutTo(kind int, n *big.Int) *big.Int {
	bits, _ := millWide(kind)
	_, most := millEnds(kind)
	all := new(big.Int).Lsh(big.NewInt(1), bits)
	cut := new(big.Int).Mod(n, all)
	if cut.Cmp(most) > 0 {
		cut.Sub(cut, all)
	}
	return cut
}

// millCounts is the value of an integer type that has this number, which the type can hold.
func millCounts(kind int, n *big.Int) impl.MillValue {
	if n.IsInt64() {
		return millValueOf(kind, n.Int64())
	}
	return millValueOf(kind, int64(n.Uint64()))
}

// millNumberIs is the number that a valid value of an integer type has.
func millNumberIs(v impl.MillValue) *big.Int {
	if _, sign := millWide(v.Type); !sign {
		return new(big.Int).SetUint64(uint64(v.N))
	}
	return big.NewInt(v.N)
}

func isRightMillValue(v impl.MillValue) bool {
	switch {
	case v.Type == impl.MillTypeBool:
		return v == millBoolValue(false) || v == millBoolValue(true)
	case v.Type == impl.MillTypeText:
		return v == millTextValue(v.Text) && len(v.Text) <= 3000
	case isMillIntType(v.Type):
		least, most := millEnds(v.Type)
		n := millNumberIs(v)
		return v.Text == "" && n.Cmp(least) >= 0 && n.Cmp(most) <= 0
	}
	return false
}

// millValueWords are the words of the chapter.
var millValueWords = []string{"type", "divide", "long", "range", "number"}

// millDoByRules is what a thing of the table does, called as it is there, as the document says it.
func millDoByRules(what string, args []impl.MillValue) (impl.MillValue, string) {
	key := what
	for _, arg := range args {
		if !isRightMillValue(arg) {
			return impl.MillValue{}, "type"
		}
		key += " " + millTypeTexts[arg.Type]
	}
	gives, fits := millSigns[key]
	if !fits || slices.Contains(strings.Fields("read has list tool arg"), what) {
		return impl.MillValue{}, "type"
	}
	if isMillIntType(gives) && slices.Contains(millTypeTexts, what) {
		return millCounts(gives, millCutTo(gives, millNumberIs(args[0]))), ""
	}
	if slices.Contains(millBuiltTexts, what) {
		return millBuiltByRules(what, args)
	}
	if len(args) == 1 {
		return millUnByRules(what, args[0])
	}
	switch args[0].Type {
	case impl.MillTypeBool:
		a, b := args[0].N == 1, args[1].N == 1
		return millBoolValue(map[string]bool{"||": a || b, "&&": a && b, "==": a == b, "!=": a != b}[what]), ""
	case impl.MillTypeText:
		if what == "+" {
			if sum := args[0].Text + args[1].Text; len(sum) <= 3000 {
				return millTextValue(sum), ""
			}
			return impl.MillValue{}, "long"
		}
		return millBoolValue(millOrders(what, millTextOrder(args[0].Text, args[1].Text))), ""
	}
	return millBinByRules(what, args[0], args[1])
}

// millTextOrder is below 0, 0 or above 0 as the first of two texts comes first, they are the same, or the second does.
func millTextOrder(a, b string) int {
	for i := range min(len(a), len(b)) {
		if a[i] != b[i] {
			return int(a[i]) - int(b[i])
		}
	}
	return len(a) - len(b)
}

func millOrders(what string, order int) bool {
	return map[string]bool{"==": order == 0, "!=": order != 0, "<": order < 0, "<=": order <= 0, ">": order > 0, ">=": order >= 0}[what]
}

func millUnByRules(what string, a impl.MillValue) (impl.MillValue, string) {
	switch what {
	case "!":
		return millBoolValue(a.N == 0), ""
	case "~":
		return millCounts(a.Type, millCutTo(a.Type, new(big.Int).Not(millNumberIs(a)))), ""
	}
	return millCounts(a.Type, millCutTo(a.Type, new(big.Int).Neg(millNumberIs(a)))), ""
}

// millBinByRules does an op of two numbers, with numbers of any size.
func millBinByRules(what string, a, b impl.MillValue) (impl.MillValue, string) {
	x, y, out := millNumberIs(a), millNumberIs(b), new(big.Int)
	if millOrders(what, x.Cmp(y)) || strings.Contains(" == != < <= > >= ", " "+what+" ") {
		return millBoolValue(millOrders(what, x.Cmp(y))), ""
	}
	switch what {
	case "+":
		out.Add(x, y)
	case "-":
		out.Sub(x, y)
	case "*":
		out.Mul(x, y)
	case "/", "%":
		if y.Sign() == 0 {
			return impl.MillValue{}, "divide"
		}
		if out.Quo(x, y); what == "%" {
			out.Sub(x, out.Mul(out, y))
		}
	case "|":
		out.Or(x, y)
	case "^":
		out.Xor(x, y)
	case "&":
		out.And(x, y)
	case "<<", ">>":
		out = millShiftByRules(what, x, y, a.Type)
	}
	return millCounts(a.Type, millCutTo(a.Type, out)), ""
}

// millShiftByRules is a shift by doubling, or by halving with the fraction left out downwards.
func millShiftByRules(what string, x, y *big.Int, kind int) *big.Int {
	bits, _ := millWide(kind)
	if y.Sign() < 0 || y.Cmp(big.NewInt(int64(bits))) >= 0 {
		if what == ">>" && x.Sign() < 0 {
			return big.NewInt(-1)
		}
		return new(big.Int)
	}
	times := new(big.Int).Exp(big.NewInt(2), y, nil)
	if what == "<<" {
		return times.Mul(x, times)
	}
	return times.Div(x, times)
}

func millBuiltByRules(what string, args []impl.MillValue) (impl.MillValue, string) {
	text := args[0].Text
	switch what {
	case "len":
		return millI64(int64(len(text))), ""
	case "at":
		for i, c := range []byte(text) {
			if int64(i) == args[1].N {
				return millValueOf(impl.MillTypeU8, int64(c)), ""
			}
		}
		return impl.MillValue{}, "range"
	case "cut":
		i, j := args[1].N, args[2].N
		if 0 <= i && i <= j && j <= int64(len(text)) {
			return millTextValue(text[i:j]), ""
		}
		return impl.MillValue{}, "range"
	case "find":
		for i := range len(text) + 1 {
			if strings.HasPrefix(text[i:], args[1].Text) {
				return millI64(int64(i)), ""
			}
		}
		return millI64(-1), ""
	case "chr":
		for c := range 256 {
			if int64(c) == args[0].N {
				return millTextValue(string([]byte{byte(c)})), ""
			}
		}
	case "dec":
		return millTextValue(millNumberIs(args[0]).String()), ""
	}
	n, ok := new(big.Int).SetString(text, 10)
	if !ok || n.String() != text || !n.IsInt64() {
		return impl.MillValue{}, "number"
	}
	return millI64(n.Int64()), ""
}

// millShown is a value in short, for what a test tells.
func millShown(v impl.MillValue) string {
	if len(v.Text) > 60 {
		v.Text = fmt.Sprintf("%s.. of %d bytes", v.Text[:20], len(v.Text))
	}
	return fmt.Sprintf("{%d %d %q}", v.Type, v.N, v.Text)
}

// wantMillValue asks for an answer: a value and no word, or nothing and a word.
func wantMillValue(t *testing.T, what string, args []impl.MillValue, got impl.MillValue, gotWord string, want impl.MillValue, word string) {
	t.Helper()
	if got == want && gotWord == word {
		return
	}
	var shown []string
	for _, arg := range args {
		shown = append(shown, millShown(arg))
	}
	t.Errorf("%s of %s: got %s %q, want %s %q", what, strings.Join(shown, " "), millShown(got), gotWord, millShown(want), word)
}

// wantMillKept asks for promise 17: the answer is a valid value of the type of the table, or nothing and a word of the chapter.
func wantMillKept(t *testing.T, what string, args []impl.MillValue, got impl.MillValue, word string) {
	t.Helper()
	if word != "" {
		if got != (impl.MillValue{}) || !slices.Contains(millValueWords, word) {
			t.Errorf("%s of %d values: %s %q", what, len(args), millShown(got), word)
		}
		return
	}
	key := what
	for _, arg := range args {
		if !impl.MillValidValue(arg) {
			t.Errorf("%s of a value that is not valid: %s", what, millShown(got))
			return
		}
		key += " " + millTypeTexts[arg.Type]
	}
	gives, fits := millSigns[key]
	if !fits || got.Type != gives || !impl.MillValidValue(got) {
		t.Errorf("%s: %s", key, millShown(got))
	}
}

// millWhatOf is how an op is called in the table; one that is none is called nothing there.
func millWhatOf(texts []string, op int) string {
	if op < 1 || op >= len(texts) {
		return "none"
	}
	return texts[op]
}

func wantMillUn(t *testing.T, op int, a impl.MillValue) {
	t.Helper()
	got, word := impl.MillUnary(op, a)
	what, args := millWhatOf(millUnTexts, op), []impl.MillValue{a}
	want, wantWord := millDoByRules(what, args)
	wantMillValue(t, what, args, got, word, want, wantWord)
	wantMillKept(t, what, args, got, word)
}

func wantMillBin(t *testing.T, op int, a, b impl.MillValue) {
	t.Helper()
	got, word := impl.MillBinary(op, a, b)
	what, args := millWhatOf(millOpMarks, op), []impl.MillValue{a, b}
	want, wantWord := millDoByRules(what, args)
	wantMillValue(t, what, args, got, word, want, wantWord)
	wantMillKept(t, what, args, got, word)
}

func wantMillConverted(t *testing.T, a impl.MillValue, to int) {
	t.Helper()
	got, word := impl.MillConvert(a, to)
	what, args := "none", []impl.MillValue{a}
	if isMillIntType(to) {
		what = millTypeTexts[to]
	}
	want, wantWord := millDoByRules(what, args)
	wantMillValue(t, what, args, got, word, want, wantWord)
	wantMillKept(t, what, args, got, word)
}

func wantMillBuilt(t *testing.T, op int, args ...impl.MillValue) {
	t.Helper()
	before := slices.Clone(args)
	got, word := impl.MillBuilt(op, args)
	what := millWhatOf(millBuiltTexts, op)
	want, wantWord := millDoByRules(what, args)
	wantMillValue(t, what, args, got, word, want, wantWord)
	wantMillKept(t, what, args, got, word)
	if !slices.Equal(args, before) {
		t.Errorf("%s changed its args", what)
	}
}

// millSteps are numbers of an integer type: its ends, those around 0, around its half and around the numbers of bits of all types.
func millSteps(kind int) []impl.MillValue {
	least, most := millEnds(kind)
	var numbers []*big.Int
	for _, around := range []*big.Int{
		least, most, new(big.Int), new(big.Int).Rsh(most, 1), new(big.Int).Rsh(least, 1),
		big.NewInt(8), big.NewInt(16), big.NewInt(32), big.NewInt(64), big.NewInt(-64), big.NewInt(100), big.NewInt(math.MaxInt32), big.NewInt(math.MaxInt64),
	} {
		for off := range int64(5) {
			numbers = append(numbers, new(big.Int).Add(around, big.NewInt(off-2)))
		}
	}
	slices.SortFunc(numbers, (*big.Int).Cmp)
	var steps []impl.MillValue
	for _, n := range numbers {
		v := millCounts(kind, millCutTo(kind, n))
		if n.Cmp(least) >= 0 && n.Cmp(most) <= 0 && !slices.Contains(steps, v) {
			steps = append(steps, v)
		}
	}
	return steps
}

// millSamples are valid values of a type.
func millSamples(kind int) []impl.MillValue {
	switch kind {
	case impl.MillTypeNone:
		return nil
	case impl.MillTypeBool:
		return []impl.MillValue{millBoolValue(false), millBoolValue(true)}
	case impl.MillTypeText:
		var texts []impl.MillValue
		for _, text := range []string{"", "a", "ab", "b", "ab\x00", "\x00", "a\xff", "\x80", "\x7f", "12", "-3", "aab", strings.Repeat("x", 3000), strings.Repeat("x", 2999)} {
			texts = append(texts, millTextValue(text))
		}
		return texts
	}
	return millSteps(kind)
}

// millNoValues are values that are not valid.
func millNoValues() []impl.MillValue {
	none := []impl.MillValue{
		{}, {N: 1}, {Text: "a"}, {Type: -1}, {Type: -1, N: 1}, {Type: 11}, {Type: 11, N: 1}, {Type: 11, Text: "a"}, {Type: math.MaxInt}, {Type: math.MinInt},
		{Type: impl.MillTypeBool, N: 2}, {Type: impl.MillTypeBool, N: -1}, {Type: impl.MillTypeBool, N: math.MinInt64}, {Type: impl.MillTypeBool, N: math.MaxInt64},
		{Type: impl.MillTypeBool, N: 256}, {Type: impl.MillTypeBool, N: 1 << 32}, {Type: impl.MillTypeBool, N: 1<<32 + 1},
		{Type: impl.MillTypeBool, Text: "a"}, {Type: impl.MillTypeBool, N: 1, Text: "true"},
		{Type: impl.MillTypeText, N: 1}, {Type: impl.MillTypeText, N: -1}, {Type: impl.MillTypeText, N: 1, Text: "a"}, {Type: impl.MillTypeText, N: 1 << 32},
		millTextValue(strings.Repeat("a", 3001)), millTextValue(strings.Repeat("a", 100000)), {Type: impl.MillTypeText, N: 1, Text: strings.Repeat("a", 3000)},
	}
	for kind := 3; kind <= 10; kind++ {
		none = append(none, impl.MillValue{Type: kind, Text: "0"}, impl.MillValue{Type: kind, N: 1, Text: "\x00"})
	}
	return none
}

// millBeyond are the N of an integer type that are next to those it has, and others that it has not.
func millBeyond(kind int) []impl.MillValue {
	least, most := millEnds(kind)
	if bits, _ := millWide(kind); bits == 64 {
		return nil
	}
	beyond := []impl.MillValue{
		millValueOf(kind, least.Int64()-1), millValueOf(kind, most.Int64()+1),
		millValueOf(kind, math.MinInt64), millValueOf(kind, math.MaxInt64),
		millValueOf(kind, least.Int64()-100), millValueOf(kind, 2*most.Int64()+2), millValueOf(kind, 4*most.Int64()+5),
	}
	if least.Sign() == 0 {
		return append(beyond, millValueOf(kind, -most.Int64()))
	}
	// The bits of a number below 0, filled up with zeros.
	return append(beyond, millValueOf(kind, 2*most.Int64()+1))
}

func TestMillValidValueEnds(t *testing.T) {
	ends := map[int][2]int64{
		impl.MillTypeU8: {0, 255}, impl.MillTypeU16: {0, 65535}, impl.MillTypeU32: {0, 4294967295}, impl.MillTypeU64: {-9223372036854775808, 9223372036854775807},
		impl.MillTypeI8: {-128, 127}, impl.MillTypeI16: {-32768, 32767}, impl.MillTypeI32: {-2147483648, 2147483647}, impl.MillTypeI64: {-9223372036854775808, 9223372036854775807},
	}
	for kind := 3; kind <= 10; kind++ {
		least, most := ends[kind][0], ends[kind][1]
		for _, n := range []int64{least, least + 1, 0, 1, most - 1, most} {
			if !impl.MillValidValue(millValueOf(kind, n)) {
				t.Errorf("%s %d is not valid", millTypeTexts[kind], n)
			}
		}
		if kind == impl.MillTypeU64 || kind == impl.MillTypeI64 {
			if !impl.MillValidValue(millValueOf(kind, -1)) {
				t.Errorf("%s -1 is not valid", millTypeTexts[kind])
			}
			continue
		}
		for _, n := range []int64{least - 1, most + 1, math.MinInt64, math.MaxInt64} {
			if impl.MillValidValue(millValueOf(kind, n)) {
				t.Errorf("%s %d is valid", millTypeTexts[kind], n)
			}
		}
	}
}

func TestMillValidValue(t *testing.T) {
	for kind := range 11 {
		for _, v := range millSamples(kind) {
			if !isRightMillValue(v) || !impl.MillValidValue(v) {
				t.Errorf("%s is not valid", millShown(v))
			}
		}
	}
	none := millNoValues()
	for kind := 3; kind <= 10; kind++ {
		none = append(none, millBeyond(kind)...)
	}
	for _, v := range none {
		if isRightMillValue(v) || impl.MillValidValue(v) {
			t.Errorf("%s is valid", millShown(v))
		}
	}
	for size := 2990; size < 3010; size++ {
		if got := impl.MillValidValue(millTextValue(strings.Repeat("\xff", size))); got != (size <= impl.MillMaxText) {
			t.Errorf("a text of %d bytes: %v", size, got)
		}
	}
}

// Each Type with each of some N and Texts.
func TestMillValidValueByRules(t *testing.T) {
	numbers := []int64{0, 1, 2, -1, -2, 127, 128, 129, 255, 256, 257, -127, -128, -129, -255, -256, 32767, 32768, 65535, 65536, -32768, -32769, -65536,
		1<<31 - 1, 1 << 31, 1<<32 - 1, 1 << 32, -1 << 31, -1<<31 - 1, -1 << 32, 1 << 62, -1 << 62, math.MaxInt64, math.MinInt64, 1<<32 + 1, 1<<8 + 1<<40, 1 << 48}
	for kind := -3; kind < 20; kind++ {
		for _, n := range numbers {
			for _, text := range []string{"", "a", "\x00", strings.Repeat("a", 3000), strings.Repeat("a", 3001)} {
				v := impl.MillValue{Type: kind, N: n, Text: text}
				if got := impl.MillValidValue(v); got != isRightMillValue(v) {
					t.Errorf("%s: %v", millShown(v), got)
				}
			}
		}
	}
}

// millRowed is the value that a word of a row tells: true, false, a text in quotes, or a number of a type.
func millRowed(t *testing.T, kind int, word string) impl.MillValue {
	t.Helper()
	switch {
	case word == "true" || word == "false":
		return millBoolValue(word == "true")
	case strings.HasPrefix(word, `"`):
		text, err := strconv.Unquote(word)
		if err != nil {
			t.Fatal(word)
		}
		return millTextValue(text)
	}
	n, ok := new(big.Int).SetString(word, 10)
	if !ok || kind == impl.MillTypeNone {
		t.Fatalf("%q", word)
	}
	return millCounts(kind, n)
}

// What is said of ops of two, written by hand: a type, then two values with a mark, and what is answered.
const millBinRows = `
u8 200 + 100 = 44
u8 255 + 1 = 0
u8 255 + 255 = 254
u16 65535 + 1 = 0
u32 4294967295 + 2 = 1
u64 18446744073709551615 + 1 = 0
u64 9223372036854775807 + 1 = 9223372036854775808
i8 127 + 1 = -128
i8 -128 + -128 = 0
i8 -128 + -1 = 127
i16 32767 + 1 = -32768
i32 2147483647 + 1 = -2147483648
i64 9223372036854775807 + 1 = -9223372036854775808
i64 -9223372036854775808 + -1 = 9223372036854775807
u8 0 - 1 = 255
u8 1 - 2 = 255
u16 0 - 1 = 65535
u32 0 - 1 = 4294967295
u64 0 - 1 = 18446744073709551615
u64 18446744073709551615 - 9223372036854775808 = 9223372036854775807
i8 -128 - 1 = 127
i8 0 - -128 = -128
i16 -32768 - 1 = 32767
i32 -2147483648 - 1 = 2147483647
i64 -9223372036854775808 - 1 = 9223372036854775807
i64 0 - -9223372036854775808 = -9223372036854775808
u8 16 * 16 = 0
u8 255 * 255 = 1
u16 65535 * 65535 = 1
u32 4294967295 * 4294967295 = 1
u64 18446744073709551615 * 18446744073709551615 = 1
u64 4294967296 * 4294967296 = 0
u64 9223372036854775808 * 2 = 0
i8 64 * 3 = -64
i8 -128 * -1 = -128
i16 -32768 * -1 = -32768
i32 -2147483648 * -1 = -2147483648
i64 -9223372036854775808 * -1 = -9223372036854775808
i64 4294967296 * 2147483648 = -9223372036854775808
i64 3037000500 * 3037000500 = -9223372036709301616
u8 7 / 2 = 3
u8 255 / 2 = 127
u8 1 / 255 = 0
i8 7 / 2 = 3
i8 -7 / 2 = -3
i8 7 / -2 = -3
i8 -7 / -2 = 3
i8 7 % 2 = 1
i8 -7 % 2 = -1
i8 7 % -2 = 1
i8 -7 % -2 = -1
i64 7 / 2 = 3
i64 -7 / 2 = -3
i64 7 / -2 = -3
i64 -7 / -2 = 3
i64 7 % 2 = 1
i64 -7 % 2 = -1
i64 7 % -2 = 1
i64 -7 % -2 = -1
i64 -1 / 2 = 0
i64 1 / -2 = 0
i64 -1 % 2 = -1
i64 -6 % 3 = 0
i64 -6 % -3 = 0
i8 -128 / -1 = -128
i8 -128 % -1 = 0
i16 -32768 / -1 = -32768
i16 -32768 % -1 = 0
i32 -2147483648 / -1 = -2147483648
i32 -2147483648 % -1 = 0
i64 -9223372036854775808 / -1 = -9223372036854775808
i64 -9223372036854775808 % -1 = 0
i8 -128 / 1 = -128
i8 -128 / -128 = 1
i8 127 / -128 = 0
i8 127 % -128 = 127
i8 -127 / -1 = 127
i64 -9223372036854775807 / -1 = 9223372036854775807
i64 -9223372036854775808 / 2 = -4611686018427387904
i64 -9223372036854775808 % 9223372036854775807 = -1
u64 18446744073709551615 / 2 = 9223372036854775807
u64 18446744073709551615 % 2 = 1
u64 18446744073709551615 / 18446744073709551615 = 1
u64 18446744073709551615 / 9223372036854775808 = 1
u64 18446744073709551615 % 9223372036854775808 = 9223372036854775807
u64 1 / 18446744073709551615 = 0
u64 1 % 18446744073709551615 = 1
u64 9223372036854775808 / 18446744073709551615 = 0
u64 9223372036854775808 % 18446744073709551615 = 9223372036854775808
u64 9223372036854775808 / 3 = 3074457345618258602
u64 9223372036854775808 % 10 = 8
u8 1 / 0 = divide
u8 0 % 0 = divide
u16 65535 / 0 = divide
u32 1 % 0 = divide
u64 18446744073709551615 / 0 = divide
u64 18446744073709551615 % 0 = divide
i8 -128 / 0 = divide
i16 0 / 0 = divide
i32 -1 % 0 = divide
i64 -9223372036854775808 / 0 = divide
i64 9223372036854775807 % 0 = divide
u8 12 | 10 = 14
u8 12 ^ 10 = 6
u8 12 & 10 = 8
i8 -1 ^ 1 = -2
i8 -128 | 127 = -1
i8 -128 & 127 = 0
i8 -2 & -3 = -4
i8 -128 ^ -1 = 127
i16 -1 & 255 = 255
i32 -2147483648 | 1 = -2147483647
i64 -9223372036854775808 | 9223372036854775807 = -1
i64 -1 & -9223372036854775808 = -9223372036854775808
i64 -1 ^ 9223372036854775807 = -9223372036854775808
u64 9223372036854775808 | 1 = 9223372036854775809
u64 18446744073709551615 & 9223372036854775808 = 9223372036854775808
u64 18446744073709551615 ^ 9223372036854775808 = 9223372036854775807
u64 18446744073709551615 ^ 1 = 18446744073709551614
u8 129 << 1 = 2
u8 1 << 7 = 128
u8 1 << 8 = 0
u8 255 << 255 = 0
u8 255 >> 7 = 1
u8 255 >> 8 = 0
u8 255 >> 255 = 0
u8 129 >> 0 = 129
u8 129 << 0 = 129
u16 65535 << 15 = 32768
u16 65535 << 16 = 0
u32 4294967295 >> 31 = 1
u32 4294967295 >> 32 = 0
u32 1 << 4294967295 = 0
u64 18446744073709551615 >> 63 = 1
u64 18446744073709551615 >> 64 = 0
u64 18446744073709551615 << 63 = 9223372036854775808
u64 1 << 63 = 9223372036854775808
u64 1 << 64 = 0
u64 18446744073709551615 >> 18446744073709551615 = 0
u64 1 << 9223372036854775808 = 0
u64 18446744073709551615 >> 1 = 9223372036854775807
i8 64 << 1 = -128
i8 -1 << 7 = -128
i8 -1 << 8 = 0
i8 1 << -1 = 0
i8 -1 << -1 = 0
i8 -128 >> 3 = -16
i8 -3 >> 1 = -2
i8 -1 >> 7 = -1
i8 -128 >> 7 = -1
i8 -128 >> 8 = -1
i8 127 >> 7 = 0
i8 127 >> 6 = 1
i8 127 >> 8 = 0
i8 -128 >> 127 = -1
i8 -1 >> -1 = -1
i8 -5 >> -128 = -1
i8 100 >> -1 = 0
i8 0 >> -1 = 0
i8 0 << -128 = 0
i16 -1 >> 16 = -1
i16 1 << 15 = -32768
i16 1 << 16 = 0
i32 1 << 31 = -2147483648
i32 1 << 32 = 0
i32 -2147483648 >> 31 = -1
i32 -2147483648 >> -2147483648 = -1
i32 2147483647 >> -2147483648 = 0
i64 1 << 63 = -9223372036854775808
i64 1 << 64 = 0
i64 -1 >> 64 = -1
i64 -9223372036854775808 >> 62 = -2
i64 -9223372036854775808 >> 9223372036854775807 = -1
i64 -9223372036854775808 >> -9223372036854775808 = -1
i64 9223372036854775807 >> -9223372036854775808 = 0
i64 9223372036854775807 << -1 = 0
u64 18446744073709551615 < 1 = false
u64 18446744073709551615 > 1 = true
u64 9223372036854775808 < 9223372036854775807 = false
u64 9223372036854775807 <= 9223372036854775808 = true
u64 9223372036854775808 >= 18446744073709551615 = false
u64 0 < 18446744073709551615 = true
u64 18446744073709551615 == 18446744073709551615 = true
u64 18446744073709551615 != 0 = true
i64 -1 < 1 = true
i64 -9223372036854775808 < 9223372036854775807 = true
i64 9223372036854775807 <= -9223372036854775808 = false
i64 -9223372036854775808 >= -9223372036854775808 = true
i64 -9223372036854775808 > -9223372036854775808 = false
i8 -128 < 127 = true
i8 -1 > 0 = false
u8 255 > 0 = true
u8 128 >= 127 = true
u32 4294967295 > 2147483647 = true
u16 32768 < 32767 = false
i16 -32768 <= -32768 = true
i16 -32768 == 32767 = false
bool true && true = true
bool true && false = false
bool false && true = false
bool false && false = false
bool true || true = true
bool true || false = true
bool false || true = true
bool false || false = false
bool true == true = true
bool false == false = true
bool true == false = false
bool true != false = true
bool false != true = true
bool true != true = false
bool false < true = type
bool true <= true = type
bool true > false = type
bool true >= true = type
bool true + true = type
bool true & true = type
bool true ^ false = type
text "a" + "b" = "ab"
text "" + "b" = "b"
text "a" + "" = "a"
text "" + "" = ""
text "\x00\xff" + "\x80" = "\x00\xff\x80"
text "a" < "ab" = true
text "ab" < "a" = false
text "a" <= "ab" = true
text "ab" >= "a" = true
text "a" > "ab" = false
text "" < "\x00" = true
text "" <= "" = true
text "" >= "" = true
text "" < "" = false
text "\x7f" < "\x80" = true
text "\x80" < "\xff" = true
text "z" < "\xc3\xa9" = true
text "\xff" > "a" = true
text "b" > "ab" = true
text "B" < "a" = true
text "a\x00" > "a" = true
text "a\x00" == "a" = false
text "a\x00" != "a" = true
text "a" == "a" = true
text "a" != "a" = false
text "10" < "9" = true
text "a" - "a" = type
text "a" * "a" = type
text "a" && "a" = type
text "a" | "a" = type
text "a" << "a" = type
u8 1 && 1 = type
i64 1 || 0 = type
`

func TestMillBinaryRows(t *testing.T) {
	for line := range strings.Lines(strings.TrimSpace(millBinRows)) {
		row := strings.Fields(line)
		kind, op := slices.Index(millTypeTexts, row[0]), slices.Index(millOpMarks, row[2])
		args := []impl.MillValue{millRowed(t, kind, row[1]), millRowed(t, kind, row[3])}
		var want impl.MillValue
		word := row[5]
		if !slices.Contains(millValueWords, word) {
			want, word = millRowed(t, kind, row[5]), ""
		}
		got, gotWord := impl.MillBinary(op, args[0], args[1])
		wantMillValue(t, row[2], args, got, gotWord, want, word)
		if ruled, ruledWord := millDoByRules(row[2], args); ruled != want || ruledWord != word {
			t.Errorf("%s by the rules is %s %q", strings.TrimSpace(line), millShown(ruled), ruledWord)
		}
	}
}

// What is said of ops of one.
const millUnRows = `
u8 - 0 = 0
u8 - 1 = 255
u8 - 128 = 128
u8 - 255 = 1
u16 - 1 = 65535
u32 - 1 = 4294967295
u32 - 4294967295 = 1
u64 - 1 = 18446744073709551615
u64 - 18446744073709551615 = 1
u64 - 9223372036854775808 = 9223372036854775808
i8 - -128 = -128
i8 - 127 = -127
i8 - -127 = 127
i16 - -32768 = -32768
i32 - -2147483648 = -2147483648
i64 - -9223372036854775808 = -9223372036854775808
i64 - 9223372036854775807 = -9223372036854775807
i64 - 0 = 0
u8 ~ 0 = 255
u8 ~ 1 = 254
u8 ~ 255 = 0
u16 ~ 0 = 65535
u16 ~ 65535 = 0
u32 ~ 0 = 4294967295
u32 ~ 4294967294 = 1
u64 ~ 0 = 18446744073709551615
u64 ~ 9223372036854775807 = 9223372036854775808
u64 ~ 18446744073709551615 = 0
i8 ~ 0 = -1
i8 ~ -1 = 0
i8 ~ -128 = 127
i8 ~ 127 = -128
i16 ~ -32768 = 32767
i32 ~ 2147483647 = -2147483648
i64 ~ -9223372036854775808 = 9223372036854775807
i64 ~ 0 = -1
bool ! true = false
bool ! false = true
bool - true = type
bool ~ true = type
u8 ! 1 = type
i64 ! 0 = type
text ! "" = type
text - "1" = type
text ~ "1" = type
`

func TestMillUnaryRows(t *testing.T) {
	for line := range strings.Lines(strings.TrimSpace(millUnRows)) {
		row := strings.Fields(line)
		kind, op := slices.Index(millTypeTexts, row[0]), slices.Index(millUnTexts, row[1])
		args := []impl.MillValue{millRowed(t, kind, row[2])}
		var want impl.MillValue
		word := row[4]
		if !slices.Contains(millValueWords, word) {
			want, word = millRowed(t, kind, row[4]), ""
		}
		got, gotWord := impl.MillUnary(op, args[0])
		wantMillValue(t, row[1], args, got, gotWord, want, word)
		if ruled, ruledWord := millDoByRules(row[1], args); ruled != want || ruledWord != word {
			t.Errorf("%s by the rules is %s %q", strings.TrimSpace(line), millShown(ruled), ruledWord)
		}
	}
}

// Each op of one with each type, and with what is no op or no value.
func TestMillUnaryTypes(t *testing.T) {
	for op := -2; op < 8; op++ {
		for kind := range 11 {
			for _, a := range millSamples(kind) {
				wantMillUn(t, op, a)
			}
		}
		for _, a := range millNoValues() {
			wantMillUn(t, op, a)
		}
		for kind := 3; kind <= 10; kind++ {
			for _, a := range millBeyond(kind) {
				wantMillUn(t, op, a)
			}
		}
	}
	for _, op := range []int{math.MinInt, math.MaxInt, 1 << 32, 1<<32 + 1} {
		wantMillUn(t, op, millI64(1))
		wantMillUn(t, op, millBoolValue(true))
	}
}

// Each op of two with each pair of types, and with what is no op or no value.
func TestMillBinaryTypes(t *testing.T) {
	var some []impl.MillValue
	for kind := range 11 {
		samples := millSamples(kind)
		some = append(some, samples[:min(3, len(samples))]...)
	}
	some = append(some, millNoValues()...)
	for kind := 3; kind <= 10; kind++ {
		some = append(some, millBeyond(kind)...)
	}
	for op := -2; op < 23; op++ {
		for _, a := range some {
			for _, b := range some {
				wantMillBin(t, op, a, b)
			}
		}
	}
	for _, op := range []int{math.MinInt, math.MaxInt, 1<<32 + impl.MillOpAdd, 1<<8 + impl.MillOpAdd} {
		wantMillBin(t, op, millI64(1), millI64(1))
		wantMillBin(t, op, millTextValue("a"), millTextValue("a"))
		wantMillBin(t, op, millBoolValue(true), millBoolValue(true))
	}
}

// The word type comes before all others.
func TestMillValuesTypeComesFirst(t *testing.T) {
	long, most, no := millTextValue(strings.Repeat("a", 3001)), millTextValue(strings.Repeat("a", 3000)), impl.MillValue{Type: impl.MillTypeText, N: 1, Text: "a"}
	for _, op := range []int{impl.MillOpDiv, impl.MillOpRem} {
		for _, b := range []impl.MillValue{millValueOf(impl.MillTypeU8, 0), millI64(0)} {
			for _, a := range []impl.MillValue{{Type: impl.MillTypeI64, N: 1, Text: "a"}, millValueOf(impl.MillTypeI32, 1), millTextValue(""), {}} {
				if got, word := impl.MillBinary(op, a, b); got != (impl.MillValue{}) || word != "type" {
					t.Errorf("%s by 0: %s %q", millShown(a), millShown(got), word)
				}
			}
		}
	}
	for _, pair := range [][2]impl.MillValue{{long, most}, {most, long}, {long, long}, {most, no}, {no, most}, {most, millI64(1)}, {long, millTextValue("")}} {
		if got, word := impl.MillBinary(impl.MillOpAdd, pair[0], pair[1]); got != (impl.MillValue{}) || word != "type" {
			t.Errorf("%s + %s: %s %q", millShown(pair[0]), millShown(pair[1]), millShown(got), word)
		}
	}
	for _, c := range []struct {
		op   int
		args []impl.MillValue
	}{
		{impl.MillBuiltNum, []impl.MillValue{long}},
		{impl.MillBuiltNum, []impl.MillValue{no}},
		{impl.MillBuiltLen, []impl.MillValue{long}},
		{impl.MillBuiltAt, []impl.MillValue{long, millI64(-1)}},
		{impl.MillBuiltAt, []impl.MillValue{millTextValue(""), {Type: impl.MillTypeI64, N: 9, Text: "a"}}},
		{impl.MillBuiltAt, []impl.MillValue{millTextValue(""), millValueOf(impl.MillTypeI32, 9)}},
		{impl.MillBuiltCut, []impl.MillValue{millTextValue(""), millI64(9), millValueOf(impl.MillTypeI32, 9)}},
		{impl.MillBuiltCut, []impl.MillValue{long, millI64(9), millI64(8)}},
		{impl.MillBuiltFind, []impl.MillValue{millTextValue("a"), long}},
		{impl.MillBuiltFind, []impl.MillValue{long, millTextValue("a")}},
		{impl.MillBuiltNum, []impl.MillValue{millTextValue("x"), millTextValue("x")}},
	} {
		if got, word := impl.MillBuilt(c.op, c.args); got != (impl.MillValue{}) || word != "type" {
			t.Errorf("%s: %s %q", millBuiltTexts[c.op], millShown(got), word)
		}
	}
}

// Each op of two with each pair of steps of each integer type.
func TestMillBinarySteps(t *testing.T) {
	for kind := 3; kind <= 10; kind++ {
		steps := millSteps(kind)
		for op := 1; op <= 18; op++ {
			for _, a := range steps {
				for _, b := range steps {
					wantMillBin(t, op, a, b)
				}
			}
		}
	}
}

// Each op with all numbers of 8 bits.
func TestMillAllBytes(t *testing.T) {
	for _, kind := range []int{impl.MillTypeU8, impl.MillTypeI8} {
		least, _ := millEnds(kind)
		for a := range int64(256) {
			for op := 1; op <= 3; op++ {
				wantMillUn(t, op, millValueOf(kind, least.Int64()+a))
			}
			for b := range int64(256) {
				for op := impl.MillOpSame; op <= impl.MillOpRight; op++ {
					wantMillByte(t, op, kind, least.Int64()+a, least.Int64()+b)
				}
			}
		}
	}
}

// wantMillByte asks for an op of two numbers of 8 bits, as whole numbers have it.
func wantMillByte(t *testing.T, op, kind int, a, b int64) {
	t.Helper()
	got, word := impl.MillBinary(op, millValueOf(kind, a), millValueOf(kind, b))
	asks := [...]bool{a == b, a != b, a < b, a <= b, a > b, a >= b}
	if op <= impl.MillOpLeast {
		if got != millBoolValue(asks[op-impl.MillOpSame]) || word != "" {
			t.Errorf("%d %s %d: %+v %q", a, millOpMarks[op], b, got, word)
		}
		return
	}
	far := uint(b)
	if b < 0 || b > 8 {
		far = 8
	}
	n, wantWord := int64(0), ""
	switch op {
	case impl.MillOpAdd:
		n = a + b
	case impl.MillOpSub:
		n = a - b
	case impl.MillOpSet:
		n = a | b
	case impl.MillOpXor:
		n = a ^ b
	case impl.MillOpMul:
		n = a * b
	case impl.MillOpMask:
		n = a & b
	case impl.MillOpLeft:
		n = a << far
	case impl.MillOpRight:
		n = a >> far
	case impl.MillOpDiv, impl.MillOpRem:
		if b == 0 {
			wantWord = "divide"
		} else if n = a / b; op == impl.MillOpRem {
			n = a - n*b
		}
	}
	want := impl.MillValue{}
	if wantWord == "" {
		if n &= 255; kind == impl.MillTypeI8 && n > 127 {
			n -= 256
		}
		want = millValueOf(kind, n)
	}
	if got != want || word != wantWord {
		t.Errorf("%s %d %s %d: got %+v %q, want %+v %q", millTypeTexts[kind], a, millOpMarks[op], b, got, word, want, wantWord)
	}
}

// Shifts of each type by each number around those of its bits, and far behind them.
func TestMillShifts(t *testing.T) {
	for kind := 3; kind <= 10; kind++ {
		bits, sign := millWide(kind)
		least, most := millEnds(kind)
		var by []*big.Int
		for n := range int64(bits) + 3 {
			by = append(by, big.NewInt(n))
		}
		by = append(by, most, new(big.Int).Sub(most, big.NewInt(1)), new(big.Int).Rsh(most, 1))
		if sign {
			for n := range int64(bits) + 3 {
				by = append(by, big.NewInt(-n))
			}
			by = append(by, least, new(big.Int).Add(least, big.NewInt(1)))
		} else {
			by = append(by, new(big.Int).Add(new(big.Int).Rsh(most, 1), big.NewInt(1)))
		}
		for _, n := range by {
			for _, a := range millSteps(kind) {
				b := millCounts(kind, n)
				left, word := impl.MillBinary(impl.MillOpLeft, a, b)
				right, wordRight := impl.MillBinary(impl.MillOpRight, a, b)
				if word != "" || wordRight != "" {
					t.Fatalf("%s by %s: %q %q", millShown(a), n, word, wordRight)
				}
				if n.Sign() < 0 || n.Cmp(big.NewInt(int64(bits))) >= 0 {
					far := millValueOf(kind, 0)
					if sign && a.N < 0 {
						far.N = -1
					}
					if left != millValueOf(kind, 0) || right != far {
						t.Errorf("%s by %s: %s %s", millShown(a), n, millShown(left), millShown(right))
					}
				}
				wantMillBin(t, impl.MillOpLeft, a, b)
				wantMillBin(t, impl.MillOpRight, a, b)
			}
		}
	}
}

// Bits of left shifts are those of doubling again and again, and of right shifts those of halving.
func TestMillShiftsOneByOne(t *testing.T) {
	for kind := 3; kind <= 10; kind++ {
		bits, _ := millWide(kind)
		for _, a := range millSteps(kind) {
			left, right := a, a
			for n := range int64(bits) {
				if got, _ := impl.MillBinary(impl.MillOpLeft, a, millValueOf(kind, n)); got != left {
					t.Errorf("%s << %d: %s", millShown(a), n, millShown(got))
				}
				if got, _ := impl.MillBinary(impl.MillOpRight, a, millValueOf(kind, n)); got != right {
					t.Errorf("%s >> %d: %s", millShown(a), n, millShown(got))
				}
				left, _ = impl.MillBinary(impl.MillOpAdd, left, left)
				right, _ = impl.MillBinary(impl.MillOpRight, right, millValueOf(kind, 1))
			}
		}
	}
}

// (a / b) * b + a % b is a, and what is left is nearer to 0 than b and has the sign of a.
func TestMillQuotients(t *testing.T) {
	for kind := 3; kind <= 10; kind++ {
		for _, a := range millSteps(kind) {
			for _, b := range millSteps(kind) {
				quotient, word := impl.MillBinary(impl.MillOpDiv, a, b)
				rest, wordRest := impl.MillBinary(impl.MillOpRem, a, b)
				if b.N == 0 {
					if word != "divide" || wordRest != "divide" || quotient != (impl.MillValue{}) || rest != (impl.MillValue{}) {
						t.Errorf("%s by 0: %s %q, %s %q", millShown(a), millShown(quotient), word, millShown(rest), wordRest)
					}
					continue
				}
				back, _ := impl.MillBinary(impl.MillOpMul, quotient, b)
				back, _ = impl.MillBinary(impl.MillOpAdd, back, rest)
				left := millNumberIs(rest)
				if word != "" || wordRest != "" || back != a || left.CmpAbs(millNumberIs(b)) >= 0 || left.Sign() != 0 && left.Sign() != millNumberIs(a).Sign() {
					t.Errorf("%s by %s: %s, %s left", millShown(a), millShown(b), millShown(quotient), millShown(rest))
				}
			}
		}
		least, _ := millEnds(kind)
		if least.Sign() < 0 {
			a, b := millCounts(kind, least), millValueOf(kind, -1)
			if got, word := impl.MillBinary(impl.MillOpDiv, a, b); got != a || word != "" {
				t.Errorf("%s by -1: %s %q", millShown(a), millShown(got), word)
			}
			if got, word := impl.MillBinary(impl.MillOpRem, a, b); got != millValueOf(kind, 0) || word != "" {
				t.Errorf("%s by -1: %s %q is left", millShown(a), millShown(got), word)
			}
		}
	}
}

// Laws that hold in each type, at all its steps.
func TestMillLaws(t *testing.T) {
	bin := func(op int, a, b impl.MillValue) impl.MillValue {
		v, word := impl.MillBinary(op, a, b)
		if word != "" {
			t.Errorf("%s of %s and %s: %q", millOpMarks[op], millShown(a), millShown(b), word)
		}
		return v
	}
	for kind := 3; kind <= 10; kind++ {
		for _, a := range millSteps(kind) {
			neg, _ := impl.MillUnary(impl.MillOpNeg, a)
			inv, _ := impl.MillUnary(impl.MillOpInv, a)
			zero, one := millValueOf(kind, 0), millValueOf(kind, 1)
			if bin(impl.MillOpAdd, a, neg) != zero || bin(impl.MillOpAdd, inv, one) != neg || bin(impl.MillOpMask, a, inv) != zero {
				t.Errorf("%s: - is %s, ~ is %s", millShown(a), millShown(neg), millShown(inv))
			}
			if back, _ := impl.MillUnary(impl.MillOpInv, inv); back != a {
				t.Errorf("~~%s is %s", millShown(a), millShown(back))
			}
			for _, b := range millSteps(kind) {
				less, more := bin(impl.MillOpLess, a, b), bin(impl.MillOpMore, a, b)
				if less.N+more.N+bin(impl.MillOpSame, a, b).N != 1 || less.N == bin(impl.MillOpLeast, a, b).N || more.N == bin(impl.MillOpMost, a, b).N {
					t.Errorf("%s and %s stand in no order", millShown(a), millShown(b))
				}
				if bin(impl.MillOpSub, bin(impl.MillOpAdd, a, b), b) != a || bin(impl.MillOpXor, bin(impl.MillOpXor, a, b), b) != a {
					t.Errorf("%s is not what it was, behind %s", millShown(a), millShown(b))
				}
				if bin(impl.MillOpAdd, bin(impl.MillOpMask, a, b), bin(impl.MillOpSet, a, b)) != bin(impl.MillOpAdd, a, b) {
					t.Errorf("the bits of %s and %s", millShown(a), millShown(b))
				}
			}
		}
	}
}

func TestMillBinaryTexts(t *testing.T) {
	bytes := []string{"", "\x00", "a", "b", "\x7f", "\x80", "\xff"}
	var texts []string
	for _, a := range bytes {
		for _, b := range bytes {
			for _, c := range []string{"", "a", "\xff"} {
				texts = append(texts, a+b+c)
			}
		}
	}
	texts = append(texts, strings.Repeat("a", 2999), strings.Repeat("a", 3000), strings.Repeat("a", 2999)+"b", strings.Repeat("a", 2999)+"\xff")
	for _, a := range texts {
		for _, b := range texts {
			for op := 1; op <= 18; op++ {
				wantMillBin(t, op, millTextValue(a), millTextValue(b))
			}
		}
	}
}

func TestMillAddLongTexts(t *testing.T) {
	for _, front := range []int{0, 1, 2, 1499, 1500, 1501, 2998, 2999, 3000} {
		for more := -2; more <= 2; more++ {
			behind := 3000 - front + more
			if behind < 0 || behind > 3000 {
				continue
			}
			a, b := strings.Repeat("a", front), strings.Repeat("\x00", behind)
			got, word := impl.MillBinary(impl.MillOpAdd, millTextValue(a), millTextValue(b))
			if more <= 0 && (got != millTextValue(a+b) || word != "") || more > 0 && (got != (impl.MillValue{}) || word != "long") {
				t.Errorf("%d and %d bytes: %s %q", front, behind, millShown(got), word)
			}
		}
	}
	most := millTextValue(strings.Repeat("a", 3000))
	wantMillBin(t, impl.MillOpAdd, most, most)
	wantMillBin(t, impl.MillOpAdd, most, millTextValue(""))
	wantMillBin(t, impl.MillOpAdd, millTextValue(""), most)
}

// What is said of conversions: a type with a number, and the number in another one.
const millConvRows = `
i64 -1 to u8 = 255
i64 -1 to u16 = 65535
i64 -1 to u32 = 4294967295
i64 -1 to u64 = 18446744073709551615
i64 256 to u8 = 0
i64 255 to i8 = -1
i64 128 to i8 = -128
i64 -129 to i8 = 127
i64 -9223372036854775808 to i32 = 0
i64 -9223372036854775808 to u64 = 9223372036854775808
i64 9223372036854775807 to i32 = -1
i64 9223372036854775807 to u32 = 4294967295
u64 18446744073709551615 to i64 = -1
u64 18446744073709551615 to i8 = -1
u64 18446744073709551615 to u8 = 255
u64 18446744073709551615 to u32 = 4294967295
u64 18446744073709551615 to u64 = 18446744073709551615
u64 9223372036854775808 to i64 = -9223372036854775808
u64 9223372036854775808 to i32 = 0
u64 9223372036854775807 to i64 = 9223372036854775807
u8 200 to i8 = -56
u8 255 to i8 = -1
u8 127 to i8 = 127
u8 255 to i16 = 255
u8 255 to u64 = 255
i8 -1 to u8 = 255
i8 -128 to u8 = 128
i8 -128 to u16 = 65408
i8 -1 to u32 = 4294967295
i8 -1 to u64 = 18446744073709551615
i8 -1 to i64 = -1
i8 -128 to i16 = -128
i16 -32768 to u32 = 4294934528
i16 -32768 to i8 = 0
i16 32767 to i8 = -1
u16 65535 to i16 = -1
u16 65535 to i32 = 65535
u16 65535 to u8 = 255
i32 -2147483648 to u32 = 2147483648
i32 -2147483648 to u64 = 18446744071562067968
i32 -2147483648 to i16 = 0
i32 2147483647 to u16 = 65535
u32 4294967295 to i32 = -1
u32 4294967295 to i64 = 4294967295
u32 2147483648 to i32 = -2147483648
u32 4294967295 to u64 = 4294967295
bool true to u8 = type
bool false to i64 = type
text "1" to i64 = type
text "" to u8 = type
u8 1 to bool = type
u8 0 to text = type
i64 1 to bool = type
i64 1 to text = type
i64 1 to ? = type
bool true to bool = type
text "a" to text = type
`

func TestMillConvertRows(t *testing.T) {
	for line := range strings.Lines(strings.TrimSpace(millConvRows)) {
		row := strings.Fields(line)
		to := slices.Index(millTypeTexts, row[3])
		a := millRowed(t, slices.Index(millTypeTexts, row[0]), row[1])
		var want impl.MillValue
		word := row[5]
		if word != "type" {
			want, word = millRowed(t, to, row[5]), ""
		}
		got, gotWord := impl.MillConvert(a, to)
		wantMillValue(t, row[3], []impl.MillValue{a}, got, gotWord, want, word)
	}
}

// Each value to each type; a number that the type can hold stays as it is, and so does each that comes back from a wider type.
func TestMillConvert(t *testing.T) {
	var all []impl.MillValue
	for kind := range 11 {
		all = append(all, millSamples(kind)...)
	}
	for kind := 3; kind <= 10; kind++ {
		for _, n := range []int64{1 << 8, 1 << 16, 1 << 31, 1 << 32, -1 << 31, -1 << 32, 1<<7 + 1, 1<<15 + 1, 1<<40 + 1<<15 + 1<<7 + 5} {
			all = append(all, millCounts(kind, millCutTo(kind, big.NewInt(n))))
		}
	}
	for _, a := range all {
		for to := -3; to < 16; to++ {
			wantMillConverted(t, a, to)
		}
		for _, to := range []int{math.MinInt, math.MaxInt, 1<<32 + impl.MillTypeU8, 1<<8 + impl.MillTypeU8} {
			wantMillConverted(t, a, to)
		}
		if !isMillIntType(a.Type) {
			continue
		}
		for to := 3; to <= 10; to++ {
			there, _ := impl.MillConvert(a, to)
			least, most := millEnds(to)
			n := millNumberIs(a)
			if n.Cmp(least) >= 0 && n.Cmp(most) <= 0 && millNumberIs(there).Cmp(n) != 0 {
				t.Errorf("%s to %s: %s", millShown(a), millTypeTexts[to], millShown(there))
			}
			bits, _ := millWide(a.Type)
			if wide, _ := millWide(to); wide >= bits {
				if back, word := impl.MillConvert(there, a.Type); back != a || word != "" {
					t.Errorf("%s to %s and back: %s %q", millShown(a), millTypeTexts[to], millShown(back), word)
				}
			}
		}
	}
	none := millNoValues()
	for kind := 3; kind <= 10; kind++ {
		none = append(none, millBeyond(kind)...)
	}
	for _, a := range none {
		for to := -1; to < 13; to++ {
			wantMillConverted(t, a, to)
		}
	}
}

// millPlaces are numbers around the bytes of a text of so many.
func millPlaces(size int64) []int64 {
	return []int64{
		math.MinInt64, math.MinInt64 + 1, -1 << 32, 1 - 1<<32, -size - 1, -size, -2, -1, 0, 1, 2, size / 2, size - 2, size - 1, size, size + 1, size + 2,
		2 * size, 255, 256, 1 << 32, 1<<32 + 1, math.MaxInt64 - 1, math.MaxInt64,
	}
}

func TestMillBuiltPlaces(t *testing.T) {
	for _, text := range []string{"", "a", "ab", "abc", "\x00\xff\x80", "é", strings.Repeat("x", 2999) + "y"} {
		v, size := millTextValue(text), int64(len(text))
		wantMillBuilt(t, impl.MillBuiltLen, v)
		if got, _ := impl.MillBuilt(impl.MillBuiltLen, []impl.MillValue{v}); got != millI64(size) {
			t.Errorf("len of %d bytes: %s", size, millShown(got))
		}
		for _, i := range millPlaces(size) {
			wantMillBuilt(t, impl.MillBuiltAt, v, millI64(i))
			got, word := impl.MillBuilt(impl.MillBuiltAt, []impl.MillValue{v, millI64(i)})
			if i >= 0 && i < size {
				if got != millValueOf(impl.MillTypeU8, int64(text[i])) || word != "" {
					t.Errorf("byte %d of %d: %s %q", i, size, millShown(got), word)
				}
			} else if got != (impl.MillValue{}) || word != "range" {
				t.Errorf("byte %d of %d: %s %q", i, size, millShown(got), word)
			}
			for _, j := range millPlaces(size) {
				wantMillBuilt(t, impl.MillBuiltCut, v, millI64(i), millI64(j))
			}
		}
	}
}

func TestMillBuiltCut(t *testing.T) {
	for _, c := range []struct {
		i, j int64
		want string
		word string
	}{
		{0, 0, "", ""}, {0, 1, "a", ""}, {0, 3, "abc", ""}, {1, 3, "bc", ""}, {1, 1, "", ""}, {2, 3, "c", ""}, {3, 3, "", ""},
		{0, 4, "", "range"}, {3, 4, "", "range"}, {4, 4, "", "range"}, {4, 3, "", "range"}, {2, 1, "", "range"}, {1, 0, "", "range"},
		{-1, 0, "", "range"}, {-1, -1, "", "range"}, {0, -1, "", "range"}, {-1, 3, "", "range"}, {-3, 3, "", "range"},
		{math.MinInt64, math.MaxInt64, "", "range"}, {math.MaxInt64, math.MinInt64, "", "range"}, {0, math.MaxInt64, "", "range"},
		{math.MinInt64, 0, "", "range"}, {math.MaxInt64, math.MaxInt64, "", "range"}, {math.MinInt64, math.MinInt64, "", "range"}, {3, math.MinInt64, "", "range"},
	} {
		want := impl.MillValue{}
		if c.word == "" {
			want = millTextValue(c.want)
		}
		got, word := impl.MillBuilt(impl.MillBuiltCut, []impl.MillValue{millTextValue("abc"), millI64(c.i), millI64(c.j)})
		if got != want || word != c.word {
			t.Errorf("%d to %d: %s %q", c.i, c.j, millShown(got), word)
		}
	}
}

func TestMillBuiltFind(t *testing.T) {
	long := strings.Repeat("a", 2999)
	for _, c := range []struct {
		text, piece string
		want        int64
	}{
		{"", "", 0}, {"abc", "", 0}, {"abc", "abc", 0}, {"abc", "abcd", -1}, {"", "a", -1}, {"abc", "c", 2}, {"abc", "bc", 1}, {"abcbc", "bc", 1},
		{"abab", "ab", 0}, {"aaab", "aab", 1}, {"aabaabaac", "aabaac", 3}, {"abc", "ac", -1}, {"abc", "cd", -1}, {"abc", "B", -1},
		{"\x00\xff\x00", "\xff", 1}, {"\x00\xff\x00", "\xff\x00", 1}, {"é", "\xa9", 1}, {"a\x00b", "\x00b", 1}, {"\xef\xbf\xbd", "\xff", -1},
		{long + "b", "b", 2999}, {long + "b", long, 0}, {long + "b", "ab", 2998}, {long + "b", "ba", -1}, {long + "b", long + "b", 0}, {long, long + "b", -1},
	} {
		args := []impl.MillValue{millTextValue(c.text), millTextValue(c.piece)}
		got, word := impl.MillBuilt(impl.MillBuiltFind, args)
		wantMillValue(t, "find", args, got, word, millI64(c.want), "")
		wantMillBuilt(t, impl.MillBuiltFind, args...)
	}
	// All texts of a and b in all of them.
	var texts []string
	for size := range 8 {
		for bits := range 1 << size {
			text := ""
			for i := range size {
				text += string("ab"[bits>>i&1])
			}
			texts = append(texts, text)
		}
	}
	for _, text := range texts {
		for _, piece := range texts[:31] {
			wantMillBuilt(t, impl.MillBuiltFind, millTextValue(text), millTextValue(piece))
		}
	}
}

func TestMillBuiltChr(t *testing.T) {
	for c := range 256 {
		got, word := impl.MillBuilt(impl.MillBuiltChr, []impl.MillValue{millValueOf(impl.MillTypeU8, int64(c))})
		if got != millTextValue(string([]byte{byte(c)})) || len(got.Text) != 1 || word != "" {
			t.Errorf("chr of %d: %s %q", c, millShown(got), word)
		}
		back, word := impl.MillBuilt(impl.MillBuiltAt, []impl.MillValue{got, millI64(0)})
		if back != millValueOf(impl.MillTypeU8, int64(c)) || word != "" {
			t.Errorf("at of chr of %d: %s %q", c, millShown(back), word)
		}
	}
	for _, n := range []int64{-1, 256, 257, math.MinInt64, math.MaxInt64} {
		wantMillBuilt(t, impl.MillBuiltChr, millValueOf(impl.MillTypeU8, n))
	}
}

func TestMillBuiltDec(t *testing.T) {
	for _, c := range []struct {
		kind int
		n    int64
		want string
	}{
		{impl.MillTypeU8, 0, "0"}, {impl.MillTypeU8, 255, "255"}, {impl.MillTypeU16, 65535, "65535"}, {impl.MillTypeU32, 4294967295, "4294967295"},
		{impl.MillTypeU64, -1, "18446744073709551615"}, {impl.MillTypeU64, math.MinInt64, "9223372036854775808"}, {impl.MillTypeU64, math.MaxInt64, "9223372036854775807"}, {impl.MillTypeU64, 0, "0"},
		{impl.MillTypeI8, -128, "-128"}, {impl.MillTypeI8, 127, "127"}, {impl.MillTypeI8, -1, "-1"}, {impl.MillTypeI16, -32768, "-32768"}, {impl.MillTypeI16, 32767, "32767"},
		{impl.MillTypeI32, -2147483648, "-2147483648"}, {impl.MillTypeI32, 2147483647, "2147483647"},
		{impl.MillTypeI64, math.MinInt64, "-9223372036854775808"}, {impl.MillTypeI64, math.MaxInt64, "9223372036854775807"}, {impl.MillTypeI64, 0, "0"}, {impl.MillTypeI64, -10, "-10"},
	} {
		args := []impl.MillValue{millValueOf(c.kind, c.n)}
		got, word := impl.MillBuilt(impl.MillBuiltDec, args)
		wantMillValue(t, "dec", args, got, word, millTextValue(c.want), "")
	}
	for kind := 3; kind <= 10; kind++ {
		for _, v := range millSteps(kind) {
			wantMillBuilt(t, impl.MillBuiltDec, v)
		}
	}
}

func TestMillBuiltNum(t *testing.T) {
	for _, n := range []int64{0, 1, -1, 9, 10, -10, 99, 100, 12345, math.MaxInt64, math.MaxInt64 - 1, math.MinInt64, math.MinInt64 + 1, 1 << 32, -1 << 31, 1000000000000000000, -1000000000000000000} {
		text, word := impl.MillBuilt(impl.MillBuiltDec, []impl.MillValue{millI64(n)})
		if word != "" || text != millTextValue(strconv.FormatInt(n, 10)) {
			t.Errorf("dec of %d: %s %q", n, millShown(text), word)
		}
		if got, word := impl.MillBuilt(impl.MillBuiltNum, []impl.MillValue{text}); got != millI64(n) || word != "" {
			t.Errorf("num of %d: %s %q", n, millShown(got), word)
		}
	}
	for _, text := range []string{
		"", "+1", "+0", "01", "00", "-0", "-01", "-00", " 1", "1 ", "1\n", "\n1", "\t1", "-", "+", "--1", "- 1", "-+1", "1-", "1.0", "1.", ".1", "1e3", "0x1", "0x10", "0b1", "0o7",
		"1_000", "_1", "1_", "a", "1a", "a1", "1u8", "1i64", "٣", "\x00", "1\x00", "\x001", "nan", "true", "½", "１",
		"9223372036854775808", "-9223372036854775809", "9223372036854775817", "18446744073709551615", "18446744073709551616", "-18446744073709551616",
		"10000000000000000000", "99999999999999999999", "-99999999999999999999", "100000000000000000000", "340282366920938463463374607431768211456",
		"09223372036854775807", "-09223372036854775808", "+9223372036854775807", "00000000000000000000000001",
		strings.Repeat("9", 3000), "-" + strings.Repeat("9", 2999), strings.Repeat("0", 3000), strings.Repeat("0", 2999) + "1", "1" + strings.Repeat("0", 2999),
	} {
		if got, word := impl.MillBuilt(impl.MillBuiltNum, []impl.MillValue{millTextValue(text)}); got != (impl.MillValue{}) || word != "number" {
			t.Errorf("num of %.40q: %s %q", text, millShown(got), word)
		}
		wantMillBuilt(t, impl.MillBuiltNum, millTextValue(text))
	}
	// Each text of at most four of these bytes.
	bytes := []string{"0", "1", "9", "-", "+", "_", " ", "x"}
	texts := []string{""}
	for at := 0; at < len(texts) && len(texts[at]) < 4; at++ {
		for _, b := range bytes {
			texts = append(texts, texts[at]+b)
		}
	}
	for _, text := range texts {
		wantMillBuilt(t, impl.MillBuiltNum, millTextValue(text))
	}
}

// Each built word with each list of at most four types.
func TestMillBuiltTypes(t *testing.T) {
	of := make([]impl.MillValue, 11)
	for kind := 1; kind <= 10; kind++ {
		of[kind] = millSamples(kind)[1]
	}
	for op := -2; op < 17; op++ {
		wantMillBuilt(t, op)
		for many := 1; many <= 4; many++ {
			millEachKinds(many, func(kinds []int) {
				if many == 4 && (kinds[0] != impl.MillTypeText || kinds[3] > 3) {
					return
				}
				var args []impl.MillValue
				for _, kind := range kinds {
					args = append(args, of[kind])
				}
				wantMillBuilt(t, op, args...)
			})
		}
	}
	for _, op := range []int{math.MinInt, math.MaxInt, 1<<32 + impl.MillBuiltLen, 1<<8 + impl.MillBuiltLen} {
		wantMillBuilt(t, op)
		wantMillBuilt(t, op, millTextValue("a"))
	}
	for _, op := range []int{impl.MillBuiltRead, impl.MillBuiltHas, impl.MillBuiltList, impl.MillBuiltTool, impl.MillBuiltArg} {
		for many := range 4 {
			args := slices.Repeat([]impl.MillValue{millTextValue("a")}, many)
			if got, word := impl.MillBuilt(op, args); got != (impl.MillValue{}) || word != "type" {
				t.Errorf("%s of %d texts: %s %q", millBuiltTexts[op], many, millShown(got), word)
			}
		}
	}
	wantMillBuilt(t, impl.MillBuiltLen, slices.Repeat([]impl.MillValue{millTextValue("a")}, 1000)...)
}

// millRightArgs are args that fit a built word, of len on.
func millRightArgs(op int) [][]impl.MillValue {
	text, i := millTextValue("a0"), millI64(0)
	return map[int][][]impl.MillValue{
		impl.MillBuiltLen: {{text}}, impl.MillBuiltAt: {{text, i}}, impl.MillBuiltCut: {{text, i, i}}, impl.MillBuiltFind: {{text, text}},
		impl.MillBuiltChr: {{millValueOf(impl.MillTypeU8, 0)}}, impl.MillBuiltDec: {{i}, {millValueOf(impl.MillTypeU64, -1)}}, impl.MillBuiltNum: {{millTextValue("0")}},
	}[op]
}

// Args of which one is not valid, or with one too few or too many.
func TestMillBuiltWrongArgs(t *testing.T) {
	none := millNoValues()
	for kind := 3; kind <= 10; kind++ {
		none = append(none, millBeyond(kind)...)
	}
	for op := impl.MillBuiltLen; op <= impl.MillBuiltNum; op++ {
		for _, args := range millRightArgs(op) {
			if got, word := impl.MillBuilt(op, args); word != "" || !impl.MillValidValue(got) {
				t.Errorf("%s: %s %q", millBuiltTexts[op], millShown(got), word)
			}
			wrong := [][]impl.MillValue{args[:len(args)-1], append(slices.Clone(args), args[0]), append(slices.Clone(args), impl.MillValue{}), append(slices.Clone(args), millI64(0)), nil}
			for at := range args {
				for _, v := range none {
					other := slices.Clone(args)
					other[at] = v
					wrong = append(wrong, other)
				}
			}
			for _, other := range wrong {
				if got, word := impl.MillBuilt(op, other); got != (impl.MillValue{}) || word != "type" {
					t.Errorf("%s of %d values: %s %q", millBuiltTexts[op], len(other), millShown(got), word)
				}
			}
		}
	}
}

// millAny is a valid value of a type, by dice: near an end, small, or anything.
func (d *clayDice) millAny(kind int) impl.MillValue {
	switch kind {
	case impl.MillTypeBool:
		return millBoolValue(d.below(2) == 0)
	case impl.MillTypeText:
		text := ""
		for range d.below(6) {
			text += d.pick("a", "b", "\x00", "\xff", "é", "12", "-", "0")
		}
		if d.below(20) == 0 {
			text = strings.Repeat(text+"x", 3000)[:d.below(3001)]
		}
		return millTextValue(text)
	}
	n := big.NewInt(int64(d.below(300) - 150))
	if d.below(3) > 0 {
		for range 4 {
			n.Add(n.Lsh(n, 20), big.NewInt(int64(d.below(1<<20))))
		}
		n.Rsh(n, uint(d.below(80)))
	}
	return millCounts(kind, millCutTo(kind, n))
}

// Anything by dice, as the rules have it.
func TestMillValuesByDice(t *testing.T) {
	dice := clayDice(13)
	for range 60000 {
		kind := 1 + dice.below(10)
		a, b := dice.millAny(kind), dice.millAny(kind)
		if dice.below(30) == 0 {
			b = dice.millAny(1 + dice.below(10))
		}
		wantMillUn(t, 1+dice.below(3), a)
		wantMillBin(t, 1+dice.below(18), a, b)
		wantMillConverted(t, a, dice.below(11))
		op := dice.below(13)
		var args []impl.MillValue
		for at := range millBuiltKids[op] {
			kinds := [3]int{impl.MillTypeText, impl.MillTypeI64, impl.MillTypeI64}
			if op == impl.MillBuiltFind {
				kinds[1] = impl.MillTypeText
			} else if op == impl.MillBuiltDec || op == impl.MillBuiltChr {
				kinds[0] = 3 + dice.below(8)
			}
			arg := dice.millAny(kinds[at])
			if kinds[at] == impl.MillTypeI64 && at > 0 {
				arg = millI64(int64(dice.below(12)) - 1)
			}
			args = append(args, arg)
		}
		wantMillBuilt(t, op, args...)
	}
}

func TestMillValuesAnswerNewMemory(t *testing.T) {
	text, other := string([]byte("a text of some bytes")), string([]byte("another text"))
	value, empty := millTextValue(text), millTextValue("")
	for _, pair := range [][2]impl.MillValue{{value, empty}, {empty, value}, {value, value}, {value, millTextValue(other)}} {
		got, word := impl.MillBinary(impl.MillOpAdd, pair[0], pair[1])
		if word != "" || sharesBytes(text, got.Text) || sharesBytes(other, got.Text) || sharesBytes(got.Text, text) {
			t.Errorf("%s + %s shares memory, or %q", millShown(pair[0]), millShown(pair[1]), word)
		}
	}
	size := int64(len(text))
	for i := range size {
		for j := i; j <= size; j++ {
			args := []impl.MillValue{value, millI64(i), millI64(j)}
			got, word := impl.MillBuilt(impl.MillBuiltCut, args)
			if word != "" || got.Text != text[i:j] || sharesBytes(text, got.Text) {
				t.Errorf("cut %d to %d shares memory, or %q", i, j, word)
			}
			if !slices.Equal(args, []impl.MillValue{value, millI64(i), millI64(j)}) {
				t.Errorf("cut %d to %d changed its args", i, j)
			}
		}
	}
	args := slices.Grow([]impl.MillValue{millTextValue("12")}, 8)
	behind := args[:cap(args)]
	for at := 1; at < len(behind); at++ {
		behind[at] = millTextValue("7")
	}
	before := slices.Clone(behind)
	for op := -1; op < 14; op++ {
		impl.MillBuilt(op, args)
	}
	if !slices.Equal(behind, before) {
		t.Error("something was written behind the args")
	}
}

func FuzzMillValues(f *testing.F) {
	f.Add(9, 3, int64(200), "", 3, int64(100), "", 4)
	f.Add(18, 7, int64(-128), "", 7, int64(-1), "", 10)
	f.Add(9, 2, int64(0), "ab", 2, int64(0), "c", 2)
	f.Add(8, 2, int64(0), "12", 10, int64(1), "", 6)
	f.Fuzz(func(t *testing.T, op, kindA int, nA int64, textA string, kindB int, nB int64, textB string, to int) {
		a, b := impl.MillValue{Type: kindA, N: nA, Text: textA}, impl.MillValue{Type: kindB, N: nB, Text: textB}
		if impl.MillValidValue(a) != isRightMillValue(a) {
			t.Errorf("%s", millShown(a))
		}
		wantMillUn(t, op, a)
		wantMillBin(t, op, a, b)
		wantMillConverted(t, a, to)
		wantMillBuilt(t, op, a)
		wantMillBuilt(t, op, a, b)
		wantMillBuilt(t, op, a, b, b)
	})
}
