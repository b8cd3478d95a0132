package tests

import (
	"bytes"
	"encoding/binary"
	"maps"
	"math"
	"slices"
	"strconv"
	"strings"
	"testing"

	"loop.example/kilnyard/impl"
)

// What a value is, said in Go: nil for none, a bool, an int64, a string, a []any or a map[string]any.
type (
	ls = []any
	rc = map[string]any
)

// clayAtomsOf lists the atoms of what a value is.
func clayAtomsOf(v any) []impl.ClayAtom {
	switch v := v.(type) {
	case nil:
		return []impl.ClayAtom{{Kind: impl.ClayAtomNone}}
	case bool:
		if v {
			return []impl.ClayAtom{{Kind: impl.ClayAtomBool, N: 1}}
		}
		return []impl.ClayAtom{{Kind: impl.ClayAtomBool}}
	case int64:
		return []impl.ClayAtom{{Kind: impl.ClayAtomInt, N: v}}
	case int:
		return clayAtomsOf(int64(v))
	case string:
		return []impl.ClayAtom{{Kind: impl.ClayAtomText, Text: v}}
	case ls:
		var atoms []impl.ClayAtom
		for _, item := range v {
			atoms = append(atoms, clayAtomsOf(item)...)
		}
		return append(atoms, impl.ClayAtom{Kind: impl.ClayAtomList, Kids: len(v)})
	case rc:
		var atoms []impl.ClayAtom
		for _, name := range slices.Sorted(maps.Keys(v)) {
			atoms = append(append(atoms, clayAtomsOf(name)...), clayAtomsOf(v[name])...)
		}
		return append(atoms, impl.ClayAtom{Kind: impl.ClayAtomRecord, Kids: 2 * len(v)})
	}
	panic("no value")
}

func clayVal(v any) impl.ClayValue { return impl.ClayValue{Atoms: clayAtomsOf(v)} }

// clayDepth is how many atoms lie above the lowest one.
func clayDepth(v any) int {
	depth := 0
	switch v := v.(type) {
	case ls:
		for _, item := range v {
			depth = max(depth, 1+clayDepth(item))
		}
	case rc:
		for _, item := range v {
			depth = max(depth, 1, 1+clayDepth(item))
		}
	}
	return depth
}

// isClayLarge says whether what a value is is too large for one, looking into it.
func isClayLarge(v any) bool {
	large := len(clayAtomsOf(v)) > impl.ClayMaxAtoms || clayDepth(v) > impl.ClayMaxDeep
	switch v := v.(type) {
	case string:
		return len(v) > impl.ClayMaxText
	case ls:
		return large || len(v) > impl.ClayMaxList || slices.ContainsFunc(v, isClayLarge)
	case rc:
		for name, is := range v {
			large = large || isClayLarge(name) || isClayLarge(is)
		}
		return large || len(v) > impl.ClayMaxList
	}
	return false
}

// clayMeantBy takes a value from the end of the atoms; it is right only if what is meant is listed as these atoms, and not too large.
func clayMeantBy(atoms []impl.ClayAtom) (v any, rest []impl.ClayAtom, ok bool) {
	if len(atoms) == 0 {
		return nil, nil, false
	}
	top := atoms[len(atoms)-1]
	rest = atoms[:len(atoms)-1]
	kids := ls{}
	for range min(max(top.Kids, 0), len(atoms)) {
		var kid any
		if kid, rest, ok = clayMeantBy(rest); !ok {
			return nil, nil, false
		}
		kids = append(kids, kid)
	}
	slices.Reverse(kids)
	switch top.Kind {
	case impl.ClayAtomNone:
		return nil, rest, true
	case impl.ClayAtomBool:
		return top.N == 1, rest, true
	case impl.ClayAtomInt:
		return top.N, rest, true
	case impl.ClayAtomText:
		return top.Text, rest, true
	case impl.ClayAtomList:
		return kids, rest, true
	case impl.ClayAtomRecord:
		record := rc{}
		for i := 0; i+1 < len(kids); i += 2 {
			if name, ok := kids[i].(string); ok {
				record[name] = kids[i+1]
			}
		}
		return record, rest, true
	}
	return nil, nil, false
}

// clayMeant is what a value is, and whether it is valid.
func clayMeant(v impl.ClayValue) (any, bool) {
	is, rest, ok := clayMeantBy(v.Atoms)
	return is, ok && len(rest) == 0 && slices.Equal(clayAtomsOf(is), v.Atoms) && !isClayLarge(is)
}

// clayWritten is the form of what a value is.
func clayWritten(v any) string {
	var pieces []string
	switch v := v.(type) {
	case nil:
		return "none"
	case bool:
		return strconv.FormatBool(v)
	case int:
		return clayWritten(int64(v))
	case int64:
		if v == math.MinInt64 {
			return "-9223372036854775807 - 1"
		}
		return strconv.FormatInt(v, 10)
	case string:
		return clayQuoted(v)
	case ls:
		for _, item := range v {
			pieces = append(pieces, clayWritten(item))
		}
		return "[" + strings.Join(pieces, ", ") + "]"
	case rc:
		for _, name := range slices.Sorted(maps.Keys(v)) {
			written := clayQuoted(name)
			if isClayName(name) {
				written = name
			}
			pieces = append(pieces, written+": "+clayWritten(v[name]))
		}
		return "{" + strings.Join(pieces, ", ") + "}"
	}
	panic("no value")
}

// clayRankOf is what a value is as bytes, of which the lesser ones are those of what comes first.
func clayRankOf(v any) []byte {
	texted := func(text string) []byte {
		var out []byte
		for _, b := range []byte(text) {
			out = append(out, 1, b)
		}
		return append(out, 0)
	}
	switch v := v.(type) {
	case nil:
		return []byte{1}
	case bool:
		if v {
			return []byte{2, 1}
		}
		return []byte{2, 0}
	case int:
		return clayRankOf(int64(v))
	case int64:
		return binary.BigEndian.AppendUint64([]byte{3}, uint64(v)+1<<63)
	case string:
		return append([]byte{4}, texted(v)...)
	case ls:
		out := []byte{5}
		for _, item := range v {
			out = append(out, clayRankOf(item)...)
		}
		return append(out, 0)
	case rc:
		out := []byte{6}
		for _, name := range slices.Sorted(maps.Keys(v)) {
			out = append(append(append(out, 1), texted(name)...), clayRankOf(v[name])...)
		}
		return append(out, 0)
	}
	panic("no value")
}

// clayAscending are values of each kind, each before those behind it.
func clayAscending() []any {
	return []any{
		nil,
		false, true,
		int64(math.MinInt64), int64(math.MinInt64 + 1), int64(-256), -2, -1, 0, 1, 2, 10, 255, int64(1) << 32, int64(math.MaxInt64 - 1), int64(math.MaxInt64),
		"", "\x00", "\x00\x00", "\n", " ", "\"", "-1", "0", "1", "10", "2", "A", "\\", "a", "a\x00", "a b", "ab", "abc", "b", "if", "none", "\x7f", "\x80", "é", "\xff", "\xff\xff",
		ls{}, ls{nil}, ls{nil, nil}, ls{false}, ls{true}, ls{int64(math.MinInt64)}, ls{-1}, ls{1}, ls{1, nil}, ls{1, 0}, ls{1, 0, 5}, ls{1, 1}, ls{1, "a"}, ls{2}, ls{10},
		ls{""}, ls{"a"}, ls{"a", "b"}, ls{"ab"}, ls{"b"}, ls{ls{}}, ls{ls{}, ls{}}, ls{ls{1}}, ls{ls{1}, 0}, ls{ls{2}}, ls{ls{ls{}}}, ls{rc{}}, ls{rc{"a": 1}},
		rc{}, rc{"": nil}, rc{"": nil, "a": nil}, rc{"": 1}, rc{"a": nil}, rc{"a": nil, "b": nil}, rc{"a": 1}, rc{"a": 1, "a b": 9}, rc{"a": 1, "b": 0}, rc{"a": 1, "b": 0, "c": nil}, rc{"a": 1, "b": 2},
		rc{"a": 1, "c": 0}, rc{"a": 2}, rc{"a": "x"}, rc{"a": ls{}}, rc{"a": ls{1}}, rc{"a": rc{}}, rc{"a": rc{"a": 1}}, rc{"a": rc{"b": 1}}, rc{"a": rc{"b": 1}, "b": 1}, rc{"ab": 1}, rc{"b": 0}, rc{"b c": 0}, rc{"if": true}, rc{"\xff": 1},
	}
}

// spoiltClayValues are values that are not valid.
func spoiltClayValues() []impl.ClayValue {
	atom := func(kind int) impl.ClayAtom { return impl.ClayAtom{Kind: kind} }
	text := strings.Repeat("x", impl.ClayMaxText+1)
	return []impl.ClayValue{
		{}, {Atoms: []impl.ClayAtom{}}, {Atoms: []impl.ClayAtom{{}}}, {Atoms: []impl.ClayAtom{atom(7)}}, {Atoms: []impl.ClayAtom{atom(-1)}},
		{Atoms: []impl.ClayAtom{atom(1), atom(1)}}, {Atoms: []impl.ClayAtom{{Kind: 2, N: 2}}}, {Atoms: []impl.ClayAtom{{Kind: 3, Text: "a"}}}, {Atoms: []impl.ClayAtom{{Kind: 4, Text: text}}},
		{Atoms: []impl.ClayAtom{{Kind: 5, Kids: 1}}}, {Atoms: []impl.ClayAtom{{Kind: 5, Kids: -1}}}, {Atoms: []impl.ClayAtom{atom(4), {Kind: 6, Kids: 1}}}, {Atoms: []impl.ClayAtom{atom(1), atom(1), {Kind: 6, Kids: 2}}},
		clayVal(text), clayVal(ls{text}), clayVal(rc{text: 1}), clayVal(slices.Repeat(ls{1}, impl.ClayMaxList+1)),
	}
}

// wantValue holds what the functions of chapter 5 say of a value against what is said here.
func wantValue(t *testing.T, v impl.ClayValue) {
	t.Helper()
	is, valid := clayMeant(v)
	if impl.ClayValidValue(v) != valid {
		t.Fatalf("%.300v: valid is %v, want %v", v, !valid, valid)
	}
	form := impl.ClayFormValue(v)
	if !valid {
		if form != "" || impl.ClayOrder(v, v) != 0 || impl.ClayOrder(v, clayVal(1)) != 0 || impl.ClayOrder(clayVal(1), v) != 0 {
			t.Fatalf("%.300v is not valid: %.200q", v, form)
		}
		return
	}
	if want := clayWritten(is); form != want {
		t.Fatalf("form is %.300q, want %.300q", form, want)
	}
	if back, ok := impl.ClayReadValue(form); !ok || !slices.Equal(back.Atoms, v.Atoms) {
		t.Fatalf("%.300q is read as %.300v, %v", form, back, ok)
	}
	if impl.ClayOrder(v, v) != 0 {
		t.Fatalf("%.300q is not the same as itself", form)
	}
}

// wantSpoilt says that a value is not valid, and holds all functions of chapter 5 against it.
func wantSpoilt(t *testing.T, what string, atoms ...impl.ClayAtom) {
	t.Helper()
	v := impl.ClayValue{Atoms: atoms}
	if impl.ClayValidValue(v) {
		t.Errorf("%s: valid", what)
	}
	wantValue(t, v)
}

// wantWhole says that a value is valid, and holds all functions of chapter 5 against it.
func wantWhole(t *testing.T, what string, v any) {
	t.Helper()
	if !impl.ClayValidValue(clayVal(v)) {
		t.Errorf("%s: not valid", what)
	}
	wantValue(t, clayVal(v))
}

// wantNoForm says that a text is the form of no value.
func wantNoForm(t *testing.T, texts ...string) {
	t.Helper()
	for _, s := range texts {
		if v, ok := impl.ClayReadValue(s); ok || len(v.Atoms) != 0 {
			t.Errorf("%.200q is read as %.200v, %v", s, v, ok)
		}
	}
}

func TestClayValueConstants(t *testing.T) {
	got := []int{impl.ClayMaxAtoms, impl.ClayMaxDeep, impl.ClayAtomNone, impl.ClayAtomBool, impl.ClayAtomInt, impl.ClayAtomText, impl.ClayAtomList, impl.ClayAtomRecord}
	if !slices.Equal(got, []int{1000, 12, 1, 2, 3, 4, 5, 6}) {
		t.Errorf("%v", got)
	}
}

func TestClayValueEachKind(t *testing.T) {
	for _, v := range clayAscending() {
		wantWhole(t, clayWritten(v), v)
	}
	for i, v := range spoiltClayValues() {
		wantSpoilt(t, strconv.Itoa(i), v.Atoms...)
	}
}

func TestClayValueWrongAtoms(t *testing.T) {
	// One valid atom of each kind, with what may be changed in it.
	atoms := []impl.ClayAtom{{Kind: 1}, {Kind: 2}, {Kind: 2, N: 1}, {Kind: 3}, {Kind: 3, N: -5}, {Kind: 4}, {Kind: 4, Text: "a"}, {Kind: 5}, {Kind: 6}}
	for _, atom := range atoms {
		for _, n := range []int64{-1, 0, 1, 2, 257, math.MinInt64, math.MaxInt64} {
			bent := atom
			bent.N = n
			right := bent == atom || atom.Kind == 3 || atom.Kind == 2 && (n == 0 || n == 1)
			if v := (impl.ClayValue{Atoms: []impl.ClayAtom{bent}}); impl.ClayValidValue(v) != right {
				t.Errorf("%+v: valid is %v", bent, !right)
			}
			wantValue(t, impl.ClayValue{Atoms: []impl.ClayAtom{bent}})
		}
		for _, text := range []string{"", "a", "\x00"} {
			bent := atom
			bent.Text = text
			right := bent == atom || atom.Kind == 4
			if v := (impl.ClayValue{Atoms: []impl.ClayAtom{bent}}); impl.ClayValidValue(v) != right {
				t.Errorf("%+v: valid is %v", bent, !right)
			}
		}
		for _, kids := range []int{-2, -1, 1, 2, 3, math.MinInt, math.MaxInt} {
			bent := atom
			bent.Kids = kids
			wantSpoilt(t, "kids that are not there", bent)
		}
		// With kids that are there: only lists and records may have them.
		bent := atom
		bent.Kids = 2
		right := atom.Kind >= 5
		v := impl.ClayValue{Atoms: append(clayAtomsOf("a"), append(clayAtomsOf(1), bent)...)}
		if impl.ClayValidValue(v) != right {
			t.Errorf("%+v over two kids: valid is %v", bent, !right)
		}
		wantValue(t, v)
		for _, kind := range []int{math.MinInt, -1, 0, 7, 8, math.MaxInt} {
			bent := atom
			bent.Kind = kind
			wantSpoilt(t, "a kind that is none", bent)
			wantSpoilt(t, "a kind that is none, in a list", bent, impl.ClayAtom{Kind: 5, Kids: 1})
		}
	}
}

func TestClayValueAtomsLeftOver(t *testing.T) {
	for _, v := range []any{nil, true, 1, "a", ls{}, ls{1, 2}, rc{}, rc{"a": 1}} {
		for _, w := range []any{nil, 1, "a", ls{}, ls{1}, rc{}, rc{"b": 2}} {
			wantSpoilt(t, "two values", append(clayAtomsOf(v), clayAtomsOf(w)...)...)
		}
	}
	list := clayAtomsOf(ls{1, ls{2, 3}, 4})
	for kids := -1; kids < 6; kids++ {
		bent := slices.Clone(list)
		bent[len(bent)-1].Kids = kids
		if v := (impl.ClayValue{Atoms: bent}); impl.ClayValidValue(v) != (kids == 3) {
			t.Errorf("%d kids", kids)
		}
		inner := slices.Clone(list)
		inner[3].Kids = kids
		wantValue(t, impl.ClayValue{Atoms: inner})
	}
	// Atoms in another order are other values, or none.
	for i := range list {
		for k := range list {
			bent := slices.Clone(list)
			bent[i], bent[k] = bent[k], bent[i]
			wantValue(t, impl.ClayValue{Atoms: bent})
		}
	}
	wantSpoilt(t, "cut off, nothing left")
	for i := 2; i < len(list); i++ {
		wantSpoilt(t, "cut off", list[:i]...)
	}
}

func TestClayValueRecordsThatAreNone(t *testing.T) {
	record := func(kids int, atoms ...impl.ClayAtom) []impl.ClayAtom {
		return append(atoms, impl.ClayAtom{Kind: impl.ClayAtomRecord, Kids: kids})
	}
	name := func(s string) impl.ClayAtom { return impl.ClayAtom{Kind: impl.ClayAtomText, Text: s} }
	one := impl.ClayAtom{Kind: impl.ClayAtomInt, N: 1}
	wantSpoilt(t, "a name alone", record(1, name("a"))...)
	wantSpoilt(t, "three kids", record(3, name("a"), one, name("b"))...)
	wantSpoilt(t, "three kids with two names", record(3, name("a"), name("b"), one)...)
	wantSpoilt(t, "one name left over", record(2, name("a"), one, name("b"), one)...)
	for _, pair := range [][2]string{{"b", "a"}, {"a", "a"}, {"", ""}, {"ab", "a"}, {"a", ""}, {"\xff", "\x80"}, {"a", "B"}, {"10", "1"}, {"2", "10"}} {
		wantSpoilt(t, "names not ascending", record(4, name(pair[0]), one, name(pair[1]), one)...)
		wantSpoilt(t, "names not ascending, inside", append(record(4, name(pair[0]), one, name(pair[1]), one), impl.ClayAtom{Kind: impl.ClayAtomList, Kids: 1})...)
		if pair[0] != pair[1] {
			wantWhole(t, "names ascending", rc{pair[0]: 1, pair[1]: 1})
		}
		wantSpoilt(t, "the last two not ascending", record(6, name(""), one, name("\x00"+pair[0]), one, name("\x00"+pair[1]), one)...)
	}
	for _, v := range clayAscending() {
		_, isText := v.(string)
		atoms := record(2, append(clayAtomsOf(v), one)...)
		if valid := impl.ClayValidValue(impl.ClayValue{Atoms: atoms}); valid != isText {
			t.Errorf("%s as a name: valid is %v", clayWritten(v), valid)
		}
		wantValue(t, impl.ClayValue{Atoms: atoms})
		if _, isText := v.(string); !isText {
			wantSpoilt(t, "a second name that is none", record(4, append(append([]impl.ClayAtom{name(""), one}, clayAtomsOf(v)...), one)...)...)
		}
	}
}

// clayNestOf is a value with v so many atoms down, in lists and records in turn, or in one of these alone.
func clayNestOf(deep int, inRecord func(i int) bool, v any) any {
	for i := range deep {
		if inRecord(i) {
			v = rc{"a": v}
		} else {
			v = ls{v}
		}
	}
	return v
}

func TestClayValueMostDeep(t *testing.T) {
	ways := []func(i int) bool{func(int) bool { return false }, func(int) bool { return true }, func(i int) bool { return i%2 == 0 }, func(i int) bool { return i%2 == 1 }}
	for _, way := range ways {
		for _, v := range []any{nil, true, 1, "a", ls{}, rc{}} {
			wantWhole(t, "12 deep", clayNestOf(impl.ClayMaxDeep, way, v))
			wantSpoilt(t, "13 deep", clayAtomsOf(clayNestOf(impl.ClayMaxDeep+1, way, v))...)
			// What is too deep stands behind something, or ahead of it.
			wantWhole(t, "12 deep, beside", ls{1, clayNestOf(impl.ClayMaxDeep-1, way, v), 1})
			wantSpoilt(t, "13 deep, beside", clayAtomsOf(ls{1, clayNestOf(impl.ClayMaxDeep, way, v), 1})...)
			wantSpoilt(t, "13 deep, in a field", clayAtomsOf(rc{"a": 1, "b": clayNestOf(impl.ClayMaxDeep, way, v), "c": 1})...)
			wantNoForm(t, clayWritten(clayNestOf(impl.ClayMaxDeep+1, way, v)))
		}
	}
	// A name is an atom below its record.
	wantWhole(t, "a name 12 deep", clayNestOf(impl.ClayMaxDeep-1, ways[0], rc{"a": 1}))
	wantSpoilt(t, "a name 13 deep", clayAtomsOf(clayNestOf(impl.ClayMaxDeep, ways[0], rc{"a": 1}))...)
}

// clayNamesOf are n names, each with what is.
func clayNamesOf(n int, is any) rc {
	record := rc{}
	for i := range n {
		record["n"+strconv.Itoa(1000+i)] = is
	}
	return record
}

func TestClayValueMostKids(t *testing.T) {
	most := impl.ClayMaxList
	for _, item := range []any{nil, 1, "a", ls{}, ls{1}} {
		wantWhole(t, "200 items", slices.Repeat(ls{item}, most))
		wantSpoilt(t, "201 items", clayAtomsOf(slices.Repeat(ls{item}, most+1))...)
		wantSpoilt(t, "201 items, inside", clayAtomsOf(rc{"a": slices.Repeat(ls{item}, most+1)})...)
		wantWhole(t, "200 names", clayNamesOf(most, item))
		wantSpoilt(t, "201 names", clayAtomsOf(clayNamesOf(most+1, item))...)
		wantSpoilt(t, "201 names, inside", clayAtomsOf(ls{clayNamesOf(most+1, item)})...)
		wantNoForm(t, clayWritten(slices.Repeat(ls{item}, most+1)), clayWritten(clayNamesOf(most+1, item)))
	}
}

// clayAtomsMany is a list of lists, or a record of lists, with just so many atoms.
func clayAtomsMany(n int, inRecord bool) any {
	var all ls
	record := rc{}
	left := n - 1
	for i := 0; left > 0; i++ {
		if inRecord {
			left--
		}
		inner := ls{}
		for left--; left > 0 && len(inner) < 150; left-- {
			inner = append(inner, i)
		}
		all = append(all, inner)
		record["n"+strconv.Itoa(i)] = inner
	}
	if inRecord {
		return record
	}
	return all
}

func TestClayValueMostAtoms(t *testing.T) {
	for _, inRecord := range []bool{false, true} {
		full := clayAtomsMany(impl.ClayMaxAtoms, inRecord)
		over := clayAtomsMany(impl.ClayMaxAtoms+1, inRecord)
		if len(clayAtomsOf(full)) != impl.ClayMaxAtoms || len(clayAtomsOf(over)) != impl.ClayMaxAtoms+1 {
			t.Fatalf("%d, %d atoms", len(clayAtomsOf(full)), len(clayAtomsOf(over)))
		}
		wantWhole(t, "1000 atoms", full)
		wantSpoilt(t, "1001 atoms", clayAtomsOf(over)...)
		wantNoForm(t, clayWritten(over))
		if impl.ClayOrder(clayVal(full), clayVal(over)) != 0 || impl.ClayOrder(clayVal(over), clayVal(full)) != 0 {
			t.Error("an order of what is not valid")
		}
	}
	// Many atoms that are no value, and many that have no end.
	wantSpoilt(t, "1000 values", slices.Repeat(clayAtomsOf(1), impl.ClayMaxAtoms)...)
	wantSpoilt(t, "1000000 values", slices.Repeat(clayAtomsOf(1), 1000000)...)
	for _, s := range []string{"[", "{a: ", "[1, ", "-", "\"", "[[], ", "{\"\": [", "1", " "} {
		wantNoForm(t, strings.Repeat(s, 1000000))
	}
}

func TestClayValueMostText(t *testing.T) {
	for _, b := range []string{"x", "\"", "\x00", "\xff"} {
		full := strings.Repeat(b, impl.ClayMaxText)
		for _, wrap := range []func(s string) any{
			func(s string) any { return s }, func(s string) any { return ls{s} }, func(s string) any { return ls{1, ls{s, 1}} },
			func(s string) any { return rc{s: 1} }, func(s string) any { return rc{"a": s} }, func(s string) any { return ls{rc{"": 0, s: rc{}}} },
		} {
			wantWhole(t, "1000 bytes", wrap(full))
			wantSpoilt(t, "1001 bytes", clayAtomsOf(wrap(full+"x"))...)
			wantNoForm(t, clayWritten(wrap(full+"x")))
		}
	}
	// Forms are of any size, above MaxSrc, too.
	large := slices.Repeat(ls{strings.Repeat("\xff", impl.ClayMaxText)}, impl.ClayMaxList)
	wantWhole(t, "200 texts of 1000 bytes", large)
	if form := impl.ClayFormValue(clayVal(large)); len(form) != 200*3002+199*2+2 {
		t.Errorf("%d bytes", len(form))
	}
	wide := ls{large}
	for i := range 3 {
		wide = append(wide, slices.Repeat(ls{strings.Repeat(string(rune('a'+i)), impl.ClayMaxText)}, impl.ClayMaxList))
	}
	wantWhole(t, "800 texts of 1000 bytes", wide)
}

// Promise 5: of two values that are not the same just one comes first.
func TestClayOrderOfEachTwo(t *testing.T) {
	list := clayAscending()
	for i, a := range list {
		for k, b := range list {
			want := max(-1, min(1, i-k))
			if got := impl.ClayOrder(clayVal(a), clayVal(b)); got != want {
				t.Errorf("%s, %s: %d, want %d", clayWritten(a), clayWritten(b), got, want)
			}
			if rank := bytes.Compare(clayRankOf(a), clayRankOf(b)); rank != want {
				t.Fatalf("%s, %s: the ranks say %d", clayWritten(a), clayWritten(b), rank)
			}
			// The order goes into lists and records.
			for _, wrap := range []func(v any) any{
				func(v any) any { return ls{v} }, func(v any) any { return ls{1, v} }, func(v any) any { return ls{v, 7} },
				func(v any) any { return rc{"a": v} }, func(v any) any { return rc{"a": v, "b": 7} }, func(v any) any { return rc{"": 1, "a": v} },
			} {
				if got := impl.ClayOrder(clayVal(wrap(a)), clayVal(wrap(b))); got != want {
					t.Errorf("%s, %s: %d, want %d", clayWritten(wrap(a)), clayWritten(wrap(b)), got, want)
				}
			}
		}
		for _, b := range spoiltClayValues() {
			if impl.ClayOrder(clayVal(a), b) != 0 || impl.ClayOrder(b, clayVal(a)) != 0 {
				t.Errorf("%s has an order with %.200v", clayWritten(a), b)
			}
		}
	}
	for _, a := range spoiltClayValues() {
		for _, b := range spoiltClayValues() {
			if impl.ClayOrder(a, b) != 0 {
				t.Errorf("%.200v has an order with %.200v", a, b)
			}
		}
	}
}

// value makes what a value may be, at most so deep.
func (d *clayDice) value(deep int) any {
	kind := 1 + d.below(6)
	if deep == 0 {
		kind = 1 + d.below(4)
	}
	switch kind {
	case impl.ClayAtomBool:
		return d.below(2) == 0
	case impl.ClayAtomInt:
		return []int64{0, 1, -1, 2, -7, 10, 1 << 40, math.MaxInt64, math.MinInt64, math.MinInt64 + 1}[d.below(10)]
	case impl.ClayAtomText:
		return d.pick(d.text(), d.name())
	case impl.ClayAtomList:
		list := ls{}
		for range d.below(4) {
			list = append(list, d.value(deep-1))
		}
		return list
	case impl.ClayAtomRecord:
		record := rc{}
		for range d.below(4) {
			record[d.pick(d.text(), d.name())] = d.value(deep - 1)
		}
		return record
	}
	return nil
}

// near changes a value a little, or not at all.
func (d *clayDice) near(v any) any {
	switch v := v.(type) {
	case ls:
		list := slices.Clone(v)
		if len(list) == 0 || d.below(4) == 0 {
			return append(list, d.value(1))
		}
		at := d.below(len(list))
		if d.below(4) == 0 {
			return slices.Delete(list, at, at+1)
		}
		list[at] = d.near(list[at])
		return list
	case rc:
		record := maps.Clone(v)
		names := slices.Sorted(maps.Keys(record))
		if len(names) == 0 || d.below(4) == 0 {
			record[d.text()] = d.value(1)
			return record
		}
		at := names[d.below(len(names))]
		if d.below(4) == 0 {
			delete(record, at)
		} else {
			record[at] = d.near(record[at])
		}
		return record
	}
	if d.below(2) == 0 {
		return v
	}
	return d.value(0)
}

// Promise 5: the order is total and goes on over a third; ReadValue of FormValue is the value.
func TestClayOrderGoesOn(t *testing.T) {
	dice := clayDice(51)
	sames := 0
	for i := range 20000 {
		a := dice.value(i % 5)
		b, c := dice.near(a), dice.near(a)
		x, y, z := clayVal(a), clayVal(b), clayVal(c)
		wantValue(t, x)
		xy, yz, xz := impl.ClayOrder(x, y), impl.ClayOrder(y, z), impl.ClayOrder(x, z)
		if xy != bytes.Compare(clayRankOf(a), clayRankOf(b)) || xy != -impl.ClayOrder(y, x) || (xy == 0) != slices.Equal(x.Atoms, y.Atoms) {
			t.Fatalf("%s, %s: %d", clayWritten(a), clayWritten(b), xy)
		}
		if xy <= 0 && yz <= 0 && (xz > 0 || xz == 0 && xy+yz < 0) || xy >= 0 && yz >= 0 && (xz < 0 || xz == 0 && xy+yz > 0) {
			t.Fatalf("%s, %s, %s: %d, %d, %d", clayWritten(a), clayWritten(b), clayWritten(c), xy, yz, xz)
		}
		if xy == 0 {
			sames++
		}
	}
	if sames < 1000 {
		t.Errorf("only %d pairs were the same", sames)
	}
}

// What is written is an E that Print would write so; the tree of a record or list has its atoms' order.
func TestClayFormsAreAsPrinted(t *testing.T) {
	dice := clayDice(52)
	values := clayAscending()
	for i := range 3000 {
		values = append(values, dice.value(i%5))
	}
	for _, v := range values {
		src := "let a = " + impl.ClayFormValue(clayVal(v)) + ";\n"
		if len(src) > impl.ClayMaxSrc {
			continue
		}
		if printed := impl.ClayPrint(clayRead(t, src)); printed != src {
			t.Fatalf("%q is printed as %q", src, printed)
		}
	}
}

func TestClayFormsByHand(t *testing.T) {
	for _, c := range []struct {
		v    any
		form string
	}{
		{nil, "none"}, {false, "false"}, {true, "true"}, {0, "0"}, {7, "7"}, {-7, "-7"},
		{int64(math.MaxInt64), "9223372036854775807"}, {int64(math.MinInt64 + 1), "-9223372036854775807"}, {int64(math.MinInt64), "-9223372036854775807 - 1"},
		{ls{int64(math.MinInt64), -1}, "[-9223372036854775807 - 1, -1]"}, {rc{"a": int64(math.MinInt64), "b": -1}, "{a: -9223372036854775807 - 1, b: -1}"},
		{"", `""`}, {"a b", `"a b"`}, {"\"\\", `"\22\5c"`}, {"\x00\x1f\x7f\x80\xff\n", `"\00\1f\7f\80\ff\0a"`}, {"é", `"\c3\a9"`}, {" ~", `" ~"`},
		{ls{}, "[]"}, {ls{ls{}, rc{}}, "[[], {}]"}, {ls{1, 2}, "[1, 2]"}, {rc{}, "{}"},
		{rc{"a": 1, "_b9": 2}, "{_b9: 2, a: 1}"}, {rc{"": 1}, `{"": 1}`}, {rc{"if": 1, "iff": 2}, `{"if": 1, iff: 2}`}, {rc{"9": 1, "A": 2, "a-b": 3, "len": 4}, `{"9": 1, "A": 2, "a-b": 3, len: 4}`},
		{rc{strings.Repeat("a", 30): 1, strings.Repeat("a", 31): 2}, "{" + strings.Repeat("a", 30) + ": 1, \"" + strings.Repeat("a", 31) + "\": 2}"},
		{rc{"a": rc{"b": ls{"c"}}}, `{a: {b: ["c"]}}`}, {rc{"\"": nil, "\xff": false}, `{"\22": none, "\ff": false}`},
	} {
		if got := impl.ClayFormValue(clayVal(c.v)); got != c.form || clayWritten(c.v) != c.form {
			t.Errorf("%q, want %q", got, c.form)
		}
		wantWhole(t, c.form, c.v)
	}
	for _, word := range strings.Fields(clayWordList) {
		wantWhole(t, word, rc{word: 1, word + "_": 2})
		if got, want := impl.ClayFormValue(clayVal(rc{word: 1})), "{\""+word+"\": 1}"; got != want {
			t.Errorf("%q, want %q", got, want)
		}
	}
	for b := range 256 {
		wantWhole(t, "a byte", ls{string([]byte{byte(b)}), rc{string([]byte{byte(b)}): 1, string([]byte{'a', byte(b)}): 2, string([]byte{byte(b), 'a', 'a'}): 3}})
	}
}

func TestClayReadValueTextsThatAreNoForm(t *testing.T) {
	wantNoForm(t,
		// They mean a value, in another way.
		" 1", "1 ", "1\n", "1#", "# \n1", "(1)", "[(1)]", "[1,2]", "[1 , 2]", "[ 1]", "[1 ]", "[ ]", "{ }", "{a:1}", "{a : 1}", "{ a: 1}", "{a: 1 }", "{a: 1,b: 2}", "{b: 1, a: 2}", "{\"a\": 1}", "{\"_\": 1}", "{\"len\": 1}",
		"\"\\41\"", "\"\\20\"", "\"\\7e\"", "{\"\\61\": 1}", "-0", "- 1", "-(1)", "-(-1)", "--1", "-5 - 1", "-0 - 1", "-1 - 1", "-9223372036854775806 - 1", "-9223372036854775807-1", "-9223372036854775807 - 1 - 1", "-9223372036854775807 -1",
		"(-9223372036854775807 - 1)", "(-9223372036854775807) - 1", "[-5 - 1]", "0 - 1", "1 + 1", "not true", "[1] + [2]", "{a: 1}.a", "[1][0]", "if true then 1 else 2", "let a = 1 in a", "[x for x in [1]]", "len", "len(\"\")", "fn() => 1", "a",
		// They mean none.
		"", " ", "[", "]", "{", "}", "[1", "[1,", "[1, ", "[1, ]", "[, 1]", "[,]", "[1 2]", "[1]]", "[1]1", "{a}", "{a: }", "{a: 1, }", "{: 1}", "{1: 1}", "{a: 1, a: 2}", "{\"\": 1, \"\": 2}", "{if: 1}", "{\"if: 1}", "{none: 1}", "{-1: 1}", "{[]: 1}", "{a 1}", "{a; 1}", "{a: 1; b: 2}", "{a = 1}",
		"01", "00", "1a", "-", "-a", "-\"\"", "-none", "-[]", "-01", "9223372036854775808", "-9223372036854775808", "-9223372036854775808 - 1", "99999999999999999999", "+1", "1.5", "1_000", "0x1",
		"\"", "\"a", "a\"", "\"\n\"", "\"\x7f\"", "\"\xff\"", "\"\\\"", "\"\\4\"", "\"\\4G\"", "\"\\FF\"", "\"\\ff", "\"a\"b\"", "''", "`a`",
		"None", "nonee", "non", "none none", "tru", "truefalse", "TRUE", "null", "nil", "$", "\x00", "\xff", "1;", "let a = 1;", "emit {};",
		"{"+strings.Repeat("a", 31)+": 1}", "{\""+strings.Repeat("a", 30)+"\": 1}", "{"+strings.Repeat("a", 100000)+": 1}", "\""+strings.Repeat("a", 1001)+"\"", strings.Repeat("1", 100000),
	)
}

// clayReadByTree reads a text as the E of a statement, and what this means where it is written as a value is.
func clayReadByTree(s string) (impl.ClayValue, bool) {
	tree, fault := impl.ClayParse("let a = " + s + ";")
	if fault.Code != 0 {
		return impl.ClayValue{}, false
	}
	b, _, _ := clayBushOf(tree.Nodes)
	v, ok := b.kids[0].kids[0].means()
	if !ok || len(b.kids) != 1 || isClayLarge(v) || clayWritten(v) != s {
		return impl.ClayValue{}, false
	}
	return clayVal(v), true
}

// means is what an E means that is made of constants, lists, records and numbers below 0.
func (b clayBush) means() (any, bool) {
	switch b.top.Kind {
	case impl.ClayNodeNone:
		return nil, true
	case impl.ClayNodeBool:
		return b.top.N == 1, true
	case impl.ClayNodeInt:
		return b.top.N, true
	case impl.ClayNodeText:
		return b.top.Text, true
	case impl.ClayNodeUn, impl.ClayNodeBin:
		if b.text(noBrackets) == "-9223372036854775807 - 1" {
			return int64(math.MinInt64), true
		}
		n, ok := b.kids[0].means()
		if n, isInt := n.(int64); ok && isInt && b.top.Kind == impl.ClayNodeUn && b.top.Op == impl.ClayOpNeg {
			return -n, true
		}
	case impl.ClayNodeList:
		list := ls{}
		for _, kid := range b.kids {
			v, ok := kid.means()
			if !ok {
				return nil, false
			}
			list = append(list, v)
		}
		return list, true
	case impl.ClayNodeRecord:
		record := rc{}
		for _, kid := range b.kids {
			v, ok := kid.kids[0].means()
			if !ok {
				return nil, false
			}
			record[kid.top.Text] = v
		}
		return record, true
	}
	return nil, false
}

func wantReadByTree(t *testing.T, s string) bool {
	t.Helper()
	want, right := clayReadByTree(s)
	got, ok := impl.ClayReadValue(s)
	if ok != right || !slices.Equal(got.Atoms, want.Atoms) {
		t.Fatalf("%q: %v, %v; want %v, %v", s, got, ok, want, right)
	}
	return right
}

// All short rows of pieces are read as a value just where they are its form.
func TestClayReadValueAllShortTexts(t *testing.T) {
	t.Parallel()
	pieces := []string{"none", "true", "0", "1", "-", "9223372036854775807", " - 1", "\"\"", "\"a\"", "a", "b", "if", "[", "]", "{", "}", ", ", ": ", " ", "("}
	rights := 0
	var grow func(s string, left int)
	grow = func(s string, left int) {
		if wantReadByTree(t, s) {
			rights++
		}
		if left == 0 {
			return
		}
		for _, piece := range pieces {
			grow(s+piece, left-1)
		}
	}
	grow("", 4)
	if rights < 30 {
		t.Errorf("only %d were forms", rights)
	}
}

// Forms in which a piece is changed are read as the value whose form they are, or not at all.
func TestClayReadValueSpoiltForms(t *testing.T) {
	dice := clayDice(53)
	rights := 0
	for i := range 30000 {
		form := clayWritten(dice.value(i % 4))
		at, end := dice.below(len(form)+1), dice.below(len(form)+1)
		if dice.below(3) > 0 {
			end = min(at+dice.below(3), len(form))
		}
		bent := form[:min(at, end)] + dice.pick("", "", " ", "1", "-", "a", "\"", ", ", ",", "[]", "{}", "[", "}", "none", "\\41", "0", "b: 1, ", "(", " - 1", "#") + form[max(at, end):]
		if wantReadByTree(t, bent) {
			rights++
		}
	}
	if rights < 1000 {
		t.Errorf("only %d were forms", rights)
	}
}

// Values of which an atom is changed, taken out, doubled or put elsewhere are valid just where the document's words say so.
func TestClayValidValueOfBentValues(t *testing.T) {
	dice := clayDice(54)
	rights := 0
	for i := range 30000 {
		atoms := clayAtomsOf(dice.value(i % 5))
		for range 1 + dice.below(2) {
			at, other := dice.below(len(atoms)), dice.below(len(atoms))
			switch dice.below(8) {
			case 0:
				if len(atoms) > 1 {
					atoms = slices.Delete(atoms, at, at+1)
				}
			case 1:
				atoms = slices.Insert(atoms, at, atoms[other])
			case 2, 3:
				atoms[at], atoms[other] = atoms[other], atoms[at]
			case 4:
				atoms[at].Kind = dice.below(8)
			case 5:
				atoms[at].N = int64(dice.below(4) - 1)
			case 6:
				atoms[at].Text = dice.text()
			case 7:
				atoms[at].Kids += dice.below(5) - 2
			}
		}
		v := impl.ClayValue{Atoms: atoms}
		wantValue(t, v)
		if _, ok := clayMeant(v); ok {
			rights++
		}
	}
	if rights < 3000 {
		t.Errorf("only %d were valid", rights)
	}
}

// wantOwnMemory says that no text of an answer lies in one of the texts that were given, or in another one of it.
func wantOwnMemory(t *testing.T, answer impl.ClayValue, given ...string) {
	t.Helper()
	for i, atom := range answer.Atoms {
		for _, text := range given {
			if sharesBytes(text, atom.Text) {
				t.Errorf("%q shares memory with an argument", atom.Text)
			}
		}
		for _, other := range answer.Atoms[:i] {
			if sharesBytes(other.Text, atom.Text) {
				t.Errorf("%q shares memory with another text of the answer", atom.Text)
			}
		}
	}
}

func TestClayValueAnswersNewMemory(t *testing.T) {
	room := impl.ClayAtom{Kind: 99, Text: "room"}
	atoms, long := withRoom(clayAtomsOf(ls{"abc", rc{"name": "text", "of a": ls{-1, true}}, nil}), room)
	kept := slices.Clone(long)
	v := impl.ClayValue{Atoms: atoms}
	form := impl.ClayFormValue(v)
	if !impl.ClayValidValue(v) || impl.ClayOrder(v, v) != 0 || form == "" {
		t.Fatalf("%q", form)
	}
	for _, cut := range []int{0, 1, len(atoms) - 1} {
		short := impl.ClayValue{Atoms: atoms[:cut]}
		impl.ClayValidValue(short)
		impl.ClayOrder(short, v)
		impl.ClayFormValue(short)
	}
	if !slices.Equal(long, kept) {
		t.Error("the argument was changed")
	}
	for _, atom := range atoms {
		if sharesBytes(atom.Text, form) {
			t.Errorf("the form shares memory with %q", atom.Text)
		}
	}
	text := impl.ClayFormValue(clayVal(strings.Repeat("ab", 100)))
	form = string([]byte(form))
	read, ok := impl.ClayReadValue(form)
	if !ok {
		t.Fatalf("%q", form)
	}
	wantOwnMemory(t, read, form)
	one, _ := impl.ClayReadValue(text)
	wantOwnMemory(t, one, text)
	all := read.Atoms[:cap(read.Atoms)]
	for i := range all {
		all[i] = room
	}
	if again, ok := impl.ClayReadValue(form); !ok || !slices.Equal(again.Atoms, atoms) {
		t.Errorf("read again: %v", again)
	}
}

func FuzzClayReadValue(f *testing.F) {
	f.Add("{a: [-1, \"x\\00\", {}], \"if\": -9223372036854775807 - 1, n: none, z: [true, false]}")
	f.Fuzz(func(t *testing.T, s string) {
		// What is longer is no E of a package.
		if len(s) < 7000 {
			wantReadByTree(t, s)
		}
	})
}
