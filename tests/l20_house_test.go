package tests

import (
	"fmt"
	"maps"
	"reflect"
	"regexp"
	"slices"
	"strings"
	"testing"

	"loop.example/kilnyard/impl"
)

var housePackFile = regexp.MustCompile(`^([a-z0-9_./-]{1,30})\.clay$`)

// houseClaysByRules is the world of a place, sentence by sentence as the document has it.
func houseClaysByRules(p impl.MillPlace) impl.ClayWorld {
	var w impl.ClayWorld
	for _, file := range p.Files {
		w.Names = append(w.Names, file.Name)
		found := housePackFile.FindStringSubmatch(file.Name)
		if found == nil {
			continue
		}
		w.Files = append(w.Files, impl.ClayFile{Name: found[1], Text: file.Text})
		for i := len(w.Files) - 1; i > 0 && w.Files[i].Name < w.Files[i-1].Name; i-- {
			w.Files[i], w.Files[i-1] = w.Files[i-1], w.Files[i]
		}
	}
	if !isMillPlace(p) || len(w.Files) > 20 {
		return impl.ClayWorld{}
	}
	return w
}

// isHouseOrder says whether a target may be one of a place's orders.
func isHouseOrder(p impl.MillPlace, target impl.ClayTarget) bool {
	for _, name := range slices.Concat([]string{target.Name, target.Tool}, target.Ins, target.Outs) {
		if !isMillFileName(name) {
			return false
		}
	}
	for _, file := range p.Files {
		if slices.Contains(target.Outs, file.Name) {
			return false
		}
	}
	return len(target.Arg) <= 3000 && len(target.Outs) <= 20
}

// housePlanByRules goes through the codes in their order, by the second readings of running and of targets.
func housePlanByRules(p impl.MillPlace, main string) impl.HouseOrders {
	if !isMillPlace(p) || !housePackFile.MatchString(main+".clay") {
		return impl.HouseOrders{Code: 1}
	}
	outcome, _ := clayRunByRules(houseClaysByRules(p), main)
	if outcome.Code != 0 {
		return impl.HouseOrders{Code: 2}
	}
	plan := clayPlanByRules(outcome.Told)
	if plan.Code != 0 {
		return impl.HouseOrders{Code: 3}
	}
	for _, target := range plan.Targets {
		if !isHouseOrder(p, target) {
			return impl.HouseOrders{Code: 4}
		}
	}
	return impl.HouseOrders{Targets: plan.Targets}
}

// houseOf is a place of files, each a name and a text, in any order.
func houseOf(pairs ...string) impl.MillPlace {
	p, code := millLayByRules(impl.MillPlace{}, filesOf(pairs...))
	if code != 0 {
		panic(fmt.Sprintf("code %d: %.300q", code, pairs))
	}
	return p
}

// emitOf is a statement that tells a target.
func emitOf(target impl.ClayTarget) string {
	list := func(texts []string) string {
		var quoted []string
		for _, text := range texts {
			quoted = append(quoted, clayQuoted(text))
		}
		return "[" + strings.Join(quoted, ", ") + "]"
	}
	return fmt.Sprintf("emit {name: %s, tool: %s, arg: %s, ins: %s, outs: %s};\n", clayQuoted(target.Name), clayQuoted(target.Tool), clayQuoted(target.Arg), list(target.Ins), list(target.Outs))
}

// orderOf is a target of words: its name, its tool, its arg, its ins behind `<`, its outs behind `>`.
func orderOf(words string) impl.ClayTarget {
	var target impl.ClayTarget
	plain := []*string{&target.Name, &target.Tool, &target.Arg}
	list := (*[]string)(nil)
	for _, word := range strings.Fields(words) {
		switch {
		case word == "<":
			list = &target.Ins
		case word == ">":
			list = &target.Outs
		case list != nil:
			*list = append(*list, word)
		default:
			*plain[0] = word
			plain = plain[1:]
		}
	}
	return target
}

// emitsOf are statements that tell targets, each given by words.
func emitsOf(targets ...string) string {
	src := ""
	for _, words := range targets {
		src += emitOf(orderOf(words))
	}
	return src
}

func wantHouseClays(t *testing.T, p impl.MillPlace) impl.ClayWorld {
	t.Helper()
	kept := slices.Clone(p.Files)
	got, want := impl.HouseClays(p), houseClaysByRules(p)
	if !slices.Equal(got.Files, want.Files) || !slices.Equal(got.Names, want.Names) {
		t.Errorf("%s: got %.800q, want %.800q", millPlaceShown(p), fmt.Sprint(got), fmt.Sprint(want))
	}
	if !impl.ClayValidWorld(got) {
		t.Errorf("%s: %.800q is no valid world", millPlaceShown(p), fmt.Sprint(got))
	}
	if !slices.Equal(p.Files, kept) {
		t.Errorf("%s: changed", millPlaceShown(p))
	}
	return got
}

// wantHousePlan asks Plan for what the second reading has, and for promise 30.
func wantHousePlan(t *testing.T, p impl.MillPlace, main string) impl.HouseOrders {
	t.Helper()
	kept := slices.Clone(p.Files)
	got, want := impl.HousePlan(p, main), housePlanByRules(p, main)
	if got.Code != want.Code || !isSameTargets(got.Targets, want.Targets) {
		t.Errorf("%q in %s: got %.1200q, want %.1200q", main, millPlaceShown(p), fmt.Sprint(got), fmt.Sprint(want))
	}
	if got.Code != 0 && len(got.Targets) > 0 {
		t.Errorf("%q in %s: code %d and %d targets", main, millPlaceShown(p), got.Code, len(got.Targets))
	}
	wantPromisedOrders(t, p, got.Targets)
	if !slices.Equal(p.Files, kept) {
		t.Errorf("%s: changed", millPlaceShown(p))
	}
	return got
}

// wantPromisedOrders asks for promise 30.
func wantPromisedOrders(t *testing.T, p impl.MillPlace, targets []impl.ClayTarget) {
	t.Helper()
	makers := map[string]string{}
	for at, target := range targets {
		if at > 0 && targets[at-1].Name >= target.Name {
			t.Errorf("%q behind %q", target.Name, targets[at-1].Name)
		}
		for _, out := range target.Outs {
			if other, there := makers[out]; there {
				t.Errorf("%q is an out of %q and of %q", out, other, target.Name)
			}
			makers[out] = target.Name
			if impl.MillSee(p, impl.MillLookHas, out).Code == 0 {
				t.Errorf("%q, an out of %q, is a file", out, target.Name)
			}
		}
	}
}

func wantHouseCode(t *testing.T, what string, code int, p impl.MillPlace, main string) {
	t.Helper()
	if got := wantHousePlan(t, p, main); got.Code != code {
		t.Errorf("%s: code %d, want %d", what, got.Code, code)
	}
}

// packagesShown are the names of a world's packages.
func packagesShown(w impl.ClayWorld) string {
	var names []string
	for _, file := range w.Files {
		names = append(names, file.Name)
	}
	return strings.Join(names, " ")
}

// Which names of files are those of packages, and which are only nearly so.
func TestHouseClaysNames(t *testing.T) {
	most := strings.Repeat("n", 30)
	for file, pack := range map[string]string{
		"a.clay": "a", "main.clay": "main", "lib/c.clay": "lib/c", "a-b.clay": "a-b", "0.clay": "0", "_.clay": "_", "-.clay": "-", "..clay": ".", "/.clay": "/", "x/.clay": "x/", "../a.clay": "../a", "a.clay.clay": "a.clay", ".clay.clay": ".clay", "if.clay": "if", most + ".clay": most, most[:29] + ".clay": most[:29], most[:25] + ".clay.clay": most[:25] + ".clay",
		".clay": "", "clay": "", "aclay": "", "a.cla": "", "a.clayx": "", "a.clay.": "", "a.clay/b": "", "a.clay.x": "", "a.CLAY": "", "a.Clay": "", "A.clay": "", "aB.clay": "", "a+b.clay": "", "a,b.clay": "", "a~.clay": "", "\"a\".clay": "", "a\\.clay": "", "a:b.clay": "", "a": "", "main": "", most + "n.clay": "", strings.Repeat("n", 55) + ".clay": "", most[:26] + ".clay.clay": "", "a.clay~": "", "#.clay": "",
	} {
		w := wantHouseClays(t, placeOf(file, "let x = 1;"))
		want := []impl.ClayFile{{Name: pack, Text: "let x = 1;"}}
		if pack == "" {
			want = nil
		}
		if !slices.Equal(w.Files, want) || !slices.Equal(w.Names, []string{file}) {
			t.Errorf("%q: %q", file, w)
		}
	}
	// Each byte, alone and beside others.
	for b := 33; b <= 126; b++ {
		is := strings.ContainsRune("abcdefghijklmnopqrstuvwxyz0123456789_-./", rune(b))
		for _, name := range []string{"?", "?a", "a?", "a?a"} {
			name = strings.ReplaceAll(name, "?", string(rune(b)))
			if w := wantHouseClays(t, placeOf(name+".clay", "")); (len(w.Files) == 1) != is || is && w.Files[0].Name != name {
				t.Errorf("%q: %q", name, w)
			}
		}
	}
}

// Packages stand in the order of their names, files in that of theirs.
func TestHouseClaysOrder(t *testing.T) {
	for files, want := range map[string]string{
		"a-b.clay a.clay":                             "a a-b",
		"a-.clay a.clay b.clay":                       "a a- b",
		"a--.clay a-.clay a-b.clay a.clay":            "a a- a-- a-b",
		"a-a/b.clay a-a.clay a.a.clay a.clay a/.clay": "a a-a a-a/b a.a a/",
		"-.clay --.clay ..clay .clay":                 "- -- .",
		"a-.clay a..clay a/.clay a0.clay aa.clay":     "a- a. a/ a0 aa",
		"a-b-c.clay a-b.clay a.clay ab.clay":          "a a-b a-b-c ab",
		"A-b.clay A.clay a-b.clay a.clay b":           "a a-b",
		"a":                                           "",
		"":                                            "",
	} {
		names := slices.Sorted(strings.FieldsSeq(files))
		var p impl.MillPlace
		for _, name := range names {
			p.Files = append(p.Files, impl.MillFile{Name: name, Text: "# " + name})
		}
		w := wantHouseClays(t, p)
		if packagesShown(w) != want || !slices.Equal(w.Names, names) {
			t.Errorf("%q: %q", files, w)
		}
		for _, file := range w.Files {
			if file.Text != "# "+file.Name+".clay" {
				t.Errorf("%q: %q", files, file)
			}
		}
	}
}

// manyPacks are so many packages.
func manyPacks(many int) []impl.MillFile {
	var files []impl.MillFile
	for i := range many {
		files = append(files, impl.MillFile{Name: fmt.Sprintf("p%03d.clay", i), Text: "let x = 1;"})
	}
	return files
}

func TestHouseClaysMost(t *testing.T) {
	for many := range 41 {
		for _, others := range []int{0, 1, 40 - many} {
			if others+many > 40 {
				continue
			}
			p := impl.MillPlace{Files: append(manyFiles(others), manyPacks(many)...)}
			w := wantHouseClays(t, p)
			if many > 20 && (len(w.Files) > 0 || len(w.Names) > 0) || many <= 20 && (len(w.Files) != many || len(w.Names) != many+others) {
				t.Errorf("%d packages: %d of them, and %d names", many, len(w.Files), len(w.Names))
			}
		}
	}
	// Names that are only nearly such are none of the twenty.
	p := houseOf(".clay", "", "A.clay", "", "a.clayx", "", strings.Repeat("n", 31)+".clay", "")
	for _, file := range manyPacks(20) {
		p = placeWith(t, p, file.Name, file.Text)
	}
	if w := wantHouseClays(t, p); len(w.Files) != 20 || len(w.Names) != 24 {
		t.Errorf("%q", w)
	}
	// The longest texts and names that a place can have.
	p = impl.MillPlace{Files: longNames(40)}
	for i := range p.Files {
		p.Files[i].Text = strings.Repeat("x", 3000)
	}
	if w := wantHouseClays(t, p); len(w.Names) != 40 || len(w.Files) != 0 {
		t.Errorf("%q", w)
	}
	if w := wantHouseClays(t, placeOf("a.clay", strings.Repeat("x", 3000))); len(w.Files[0].Text) != 3000 {
		t.Errorf("%q", w)
	}
	for what, wrong := range millWrongPlaces() {
		if w := wantHouseClays(t, wrong); len(w.Files) > 0 || len(w.Names) > 0 {
			t.Errorf("%s: %q", what, w)
		}
		wrong.Files = append(slices.Clone(wrong.Files), impl.MillFile{Name: "~.clay"})
		if w := wantHouseClays(t, wrong); len(w.Files) > 0 || len(w.Names) > 0 {
			t.Errorf("%s: %q", what, w)
		}
	}
	for _, wrong := range []impl.MillPlace{placeOf("b.clay", "", "a.clay", ""), placeOf("a.clay", "", "a.clay", ""), placeOf("a.clay", "", "a-b.clay", ""), placeOf("a.clay", strings.Repeat("x", 3001)), placeOf("a b.clay", "")} {
		if w := wantHouseClays(t, wrong); len(w.Files) > 0 || len(w.Names) > 0 {
			t.Errorf("%q: %q", wrong, w)
		}
	}
	wantHouseClays(t, impl.MillPlace{})
	wantHouseClays(t, impl.MillPlace{Files: []impl.MillFile{}})
}

func TestHouseClaysDrawn(t *testing.T) {
	dice := clayDice(2001)
	counts := map[string]int{}
	for range 3000 {
		var files []impl.MillFile
		for range dice.below(30) {
			name := dice.pick("a", "b", "-", ".", "A", "") + dice.pick("", "-", ".", "/", "~") + dice.pick("", "x", "0") + dice.pick(".clay", ".clay", ".clay", "clay", "")
			if name != "" {
				files = append(files, impl.MillFile{Name: name, Text: dice.text()})
			}
		}
		p, code := millLayByRules(impl.MillPlace{}, files)
		if code != 0 {
			t.Fatal(code)
		}
		w := wantHouseClays(t, p)
		var packs []string
		for _, file := range p.Files {
			if found := housePackFile.FindStringSubmatch(file.Name); found != nil {
				packs = append(packs, found[1])
			}
		}
		if !slices.IsSorted(packs) {
			counts["other order"]++
		}
		if len(packs) > 20 {
			counts["too many"]++
		}
		if len(w.Files) > 5 {
			counts["some"]++
		}
		if t.Failed() {
			return
		}
	}
	for _, what := range []string{"other order", "some"} {
		if counts[what] < 300 {
			t.Errorf("%s: %v", what, counts)
		}
	}
}

// Promise 30: targets of several packages, told in another order than that of their names.
func TestHousePlan(t *testing.T) {
	p := houseOf(
		"main.clay", `load "lib/obj": obj; load "a-b": one; emit obj("z"); emit one; emit obj("b"); emit {name: "all", tool: "t/both", arg: "x y", ins: ["z.o", "b.o"], outs: ["out/2", "out/1"]};`,
		"lib/obj.clay", `def obj(f) = {name: f, tool: "t/up", arg: f, outs: [f + ".o"]}; emit obj("m");`,
		"a-b.clay", `load "a": name; let one = {name: name, tool: "t", outs: ["o"]};`,
		"a.clay", `let name = "c"; emit {name: "y", tool: "t", outs: ["p"], ins: []};`,
		"z.clay", "no package", "z", "Z")
	want := []impl.ClayTarget{orderOf("all t/both < b.o z.o > out/1 out/2"), orderOf("b t/up b > b.o"), orderOf("c t > o"), orderOf("m t/up m > m.o"), orderOf("y t > p"), orderOf("z t/up z > z.o")}
	want[0].Arg = "x y"
	if got := wantHousePlan(t, p, "main"); got.Code != 0 || !isSameTargets(got.Targets, want) {
		t.Errorf("%+v", got)
	}
	// Another package is the main one.
	for main, names := range map[string]string{"lib/obj": "m", "a": "y", "a-b": "y"} {
		if got := wantHousePlan(t, p, main); got.Code != 0 || len(got.Targets) != 1 || got.Targets[0].Name != names {
			t.Errorf("%q: %+v", main, got)
		}
	}
	wantHouseCode(t, "no tree", 2, p, "z")
	// No targets at all.
	for _, src := range []string{"", "let x = 1;", "# note"} {
		if got := wantHousePlan(t, placeOf("main.clay", src), "main"); got.Code != 0 || len(got.Targets) != 0 {
			t.Errorf("%q: %+v", src, got)
		}
	}
	// The same targets in each order, by one package and by several.
	orders := []string{"a t > 3", "b t > 1", "c t > 2"}
	for _, turn := range [][]int{{0, 1, 2}, {0, 2, 1}, {1, 0, 2}, {1, 2, 0}, {2, 0, 1}, {2, 1, 0}} {
		one := emitsOf(orders[turn[0]], orders[turn[1]], orders[turn[2]])
		several := houseOf("main.clay", `load "p": x; load "a/b": y;`+emitsOf(orders[turn[2]]), "p.clay", "let x = 1;"+emitsOf(orders[turn[0]]), "a/b.clay", "let y = 1;"+emitsOf(orders[turn[1]]))
		for _, p := range []impl.MillPlace{placeOf("main.clay", one), several} {
			got := wantHousePlan(t, p, "main")
			if got.Code != 0 || !isSameTargets(got.Targets, []impl.ClayTarget{orderOf(orders[0]), orderOf(orders[1]), orderOf(orders[2])}) {
				t.Errorf("%v: %+v", turn, got)
			}
		}
	}
}

// A package that asks for the files of the house is answered by the names of all of them.
func TestHousePlanFiles(t *testing.T) {
	src := `emit {name: "all", tool: "t", arg: join(files(""), " "), ins: files("src/"), outs: [f + ".o" for f in files("src/")]};`
	p := houseOf("main.clay", src, "src/b", "", "src/a", "", "src", "", "x.clay", "", "X.clay", "", "t", "")
	got := wantHousePlan(t, p, "main")
	if got.Code != 0 || len(got.Targets) != 1 || got.Targets[0].Arg != "X.clay main.clay src src/a src/b t x.clay" || !slices.Equal(got.Targets[0].Ins, []string{"src/a", "src/b"}) || !slices.Equal(got.Targets[0].Outs, []string{"src/a.o", "src/b.o"}) {
		t.Errorf("%+v", got)
	}
	// With one more file there is one more out; with none there is a target without outs.
	got = wantHousePlan(t, placeWith(t, p, "src/c", ""), "main")
	if len(got.Targets) != 1 || len(got.Targets[0].Outs) != 3 {
		t.Errorf("%+v", got)
	}
	wantHouseCode(t, "no outs", 3, placeWithout(placeWithout(p, "src/a"), "src/b"), "main")
	// An out that the files lead to is itself a file.
	wantHouseCode(t, "an out that is a file", 4, placeWith(t, p, "src/a.o", ""), "main")
	// All forty of them.
	p = impl.MillPlace{Files: append(manyFiles(39), impl.MillFile{Name: "main.clay", Text: `emit {name: "n", tool: "t", arg: text(len(files(""))), ins: files("m"), outs: ["o"]};`})}
	slices.SortFunc(p.Files, func(a, b impl.MillFile) int { return strings.Compare(a.Name, b.Name) })
	got = wantHousePlan(t, p, "main")
	if got.Code != 0 || got.Targets[0].Arg != "40" || len(got.Targets[0].Ins) != 40 {
		t.Errorf("%+v", got)
	}
}

// Code 1, which is ahead of all others.
func TestHousePlanNotValid(t *testing.T) {
	good := emitsOf("n t > o")
	p := placeOf("main.clay", good)
	for _, main := range []string{"", "A", "Main", "main.Clay", "a b", "a+b", "main\n", "\x00", "é", "~", "a:b", strings.Repeat("n", 31), strings.Repeat("n", 1000)} {
		wantHouseCode(t, main, 1, p, main)
		wantHouseCode(t, main, 1, impl.MillPlace{}, main)
		wantHouseCode(t, main, 1, impl.MillPlace{Files: manyPacks(21)}, main)
	}
	for what, wrong := range millWrongPlaces() {
		for _, main := range []string{"main", "a", "gone", ""} {
			wantHouseCode(t, what, 1, wrong, main)
		}
		if len(wrong.Files) < 40 && wrong.Files[0].Name < "~" {
			wrong.Files = append(slices.Clone(wrong.Files), impl.MillFile{Name: "~", Text: good}, impl.MillFile{Name: "~main.clay", Text: good})
			wantHouseCode(t, what, 1, wrong, "main")
		}
	}
	wantHouseCode(t, "twice", 1, placeOf("main.clay", good, "main.clay", good), "main")
	wantHouseCode(t, "out of order", 1, placeOf("main.clay", good, "a", ""), "main")
	// The longest name that main may have.
	most := strings.Repeat("n", 30)
	wantHouseCode(t, "the longest", 0, placeOf(most+".clay", good), most)
	wantHouseCode(t, "the longest, not there", 2, p, most)
	wantHouseCode(t, "one longer", 1, placeOf(most+"n.clay", good), most+"n")
	// A name with the file's end is that of another package.
	wantHouseCode(t, "main.clay", 2, p, "main.clay")
	wantHouseCode(t, "main.clay", 0, placeOf("main.clay.clay", good), "main.clay")
}

// Code 2: each way in which a run does not end well.
func TestHousePlanNoRun(t *testing.T) {
	good := emitsOf("n t > o")
	for _, main := range []string{"gone", "a", "main-", "mai", "main/"} {
		wantHouseCode(t, "not there", 2, placeOf("main.clay", good), main)
	}
	wantHouseCode(t, "an empty place", 2, impl.MillPlace{}, "main")
	for _, src := range []string{"let x = ;", "emit 1;", `fail("x");`, "emit x;", `emit fail("x");`, "emit {v: 1 / 0};", good + "emit {v: 1 / 0};", `load "gone": x;`, `load "main": x; let x = 1;`, `load "other": y; let x = 1;`, `load "bad": x;`, `load "other": gone;`, "emit {}; emit none;", strings.Repeat("emit {};", 61), "\xff", "let x = 1; let x = 2;", clayBurn(5000) + good} {
		p := houseOf("main.clay", src, "other.clay", `load "main": x; let y = 1;`, "bad.clay", "let x =")
		wantHouseCode(t, src, 2, p, "main")
	}
	// Code 2 is ahead of 3 and 4: what is told up to the end plays no part.
	for _, first := range []string{"emit {};", emitsOf("n n t > o o"), emitsOf("n t > main.clay")} {
		wantHouseCode(t, first, 2, placeOf("main.clay", first+`let x = 1 / 0;`), "main")
	}
	// Packages of which there are too many are none at all.
	for _, many := range []int{20, 21, 22, 40} {
		p := impl.MillPlace{Files: manyPacks(many)}
		p.Files[0].Text = good
		code := 0
		if many > 20 {
			code = 2
		}
		wantHouseCode(t, fmt.Sprint(many, " packages"), code, p, "p000")
		wantHouseCode(t, fmt.Sprint(many, " packages"), 2, p, "gone")
	}
	// As many records as can be told, and one more.
	for many, code := range map[int]int{59: 0, 60: 0, 61: 2} {
		src := `def t(n) = {name: "n" + text(n), tool: "t", outs: ["o" + text(n)]};`
		for i := range many {
			src += fmt.Sprintf("emit t(%d);", i)
		}
		got := wantHousePlan(t, placeOf("main.clay", src), "main")
		if got.Code != code || code == 0 && len(got.Targets) != many {
			t.Errorf("%d: %d, %d targets", many, got.Code, len(got.Targets))
		}
	}
}

// Code 3: each way in which what is told is no list of targets; it is ahead of 4.
func TestHousePlanNoTargets(t *testing.T) {
	for _, src := range []string{
		"emit {};", `emit {name: "n"};`, `emit {name: "n", tool: "t"};`, `emit {name: "n", tool: "t", outs: []};`, `emit {name: "", tool: "t", outs: ["o"]};`, `emit {name: "n", tool: "", outs: ["o"]};`, `emit {name: "n", tool: "t", outs: [""]};`, `emit {name: "n", tool: "t", outs: ["o"], ins: [""]};`, `emit {name: 1, tool: "t", outs: ["o"]};`, `emit {name: "n", tool: "t", outs: "o"};`, `emit {name: "n", tool: "t", outs: ["o"], more: 1};`, `emit {name: "n", tool: "t", arg: none, outs: ["o"]};`,
		// A name, an out and an in that come twice.
		emitsOf("n t > o", "n t > p"), emitsOf("n t > o", "m t > o"), emitsOf("n t > p o", "m t > q o"), emitsOf("n t > o o"), emitsOf("n t < i i > o"),
	} {
		wantHouseCode(t, src, 3, placeOf("main.clay", src), "main")
		// Whatever else is wrong, ahead of it or behind it.
		for _, wrong := range []string{`emit {name: "n n", tool: "t", outs: ["x"]};`, emitsOf("x t > main.clay"), `emit {name: "y", tool: "t t", outs: ["y y"]};`} {
			wantHouseCode(t, wrong+src, 3, placeOf("main.clay", wrong+src), "main")
			wantHouseCode(t, src+wrong, 3, placeOf("main.clay", src+wrong), "main")
		}
	}
	// By several packages: an out that two of them have.
	p := houseOf("main.clay", `load "p": x;`+emitsOf("b t > o2 o"), "p.clay", "let x = 1;"+emitsOf("a t > o o1"))
	wantHouseCode(t, "an out of two packages", 3, p, "main")
}

// Code 4: names that are none of files, too many outs, an out that is a file.
func TestHousePlanNoOrders(t *testing.T) {
	parts := []func(target *impl.ClayTarget, name string){
		func(target *impl.ClayTarget, name string) { target.Name = name },
		func(target *impl.ClayTarget, name string) { target.Tool = name },
		func(target *impl.ClayTarget, name string) { target.Ins = []string{name} },
		func(target *impl.ClayTarget, name string) { target.Ins = []string{"!!", name, "~~"} },
		func(target *impl.ClayTarget, name string) { target.Outs = []string{name} },
		func(target *impl.ClayTarget, name string) { target.Outs = []string{"!!", name, "~~"} },
	}
	ask := func(code int, target impl.ClayTarget) {
		t.Helper()
		src := emitOf(target)
		wantHouseCode(t, src, code, placeOf("main.clay", src), "main")
	}
	for _, set := range parts {
		for _, name := range millNames() {
			target := orderOf("n t arg < i > o")
			set(&target, name)
			ask(0, target)
		}
		for _, name := range millNoNames() {
			if len(name) > 1000 {
				continue
			}
			target := orderOf("n t arg < i > o")
			set(&target, name)
			ask(4, target)
		}
	}
	// An Arg may be any text that Clay has, and none of those is too long for a program.
	for _, arg := range []string{"", " ", "a b\n", "\x00\xff", strings.Repeat("x", 999), strings.Repeat("x", 1000)} {
		target := orderOf("n t > o")
		target.Arg = arg
		ask(0, target)
	}
	target := orderOf("n t > o")
	target.Arg = strings.Repeat("x", 1001)
	ask(2, target)
	wantHouseCode(t, "an arg that is put together", 0, placeOf("main.clay", `let s = join(["0123456789" for i in range(100)], ""); emit {name: "n", tool: "t", arg: s, outs: ["o"]};`), "main")
	wantHouseCode(t, "an arg that is put together", 2, placeOf("main.clay", `let s = join(["0123456789" for i in range(100)], ""); emit {name: "n", tool: "t", arg: s + "x", outs: ["o"]};`), "main")
	if impl.ClayMaxText > impl.MillMaxText {
		t.Error("an Arg can be too long")
	}
	// As many outs as there can be, and one more; ins are not counted so.
	for many, code := range map[int]int{1: 0, 19: 0, 20: 0, 21: 4, 22: 4, 200: 4} {
		wantHouseCode(t, fmt.Sprint(many, " outs"), code, placeOf("main.clay", fmt.Sprintf(`emit {name: "n", tool: "t", outs: ["o" + text(i) for i in range(%d)]};`, many)), "main")
		wantHouseCode(t, fmt.Sprint(many, " ins"), 0, placeOf("main.clay", fmt.Sprintf(`emit {name: "n", tool: "t", ins: ["i" + text(i) for i in range(%d)], outs: ["o"]};`, many)), "main")
	}
	// It is one of several targets, wherever it stands.
	wrong := orderOf("n2 t > x")
	wrong.Outs = []string{"x y"}
	for at := range 3 {
		emits := slices.Insert([]string{emitsOf("n1 t > o"), emitsOf("n3 t > p")}, at, emitOf(wrong))
		src := strings.Join(emits, "")
		wantHouseCode(t, src, 4, placeOf("main.clay", src), "main")
	}
}

// Promise 30: an out that is a file of the place; all else may have the name of one.
func TestHousePlanOutsAndFiles(t *testing.T) {
	files := []string{"a", "", "src/x", "X", "t", "", "z", "", "z-.clay", ""}
	ask := func(code int, targets ...string) {
		t.Helper()
		wantHouseCode(t, strings.Join(targets, ", "), code, houseOf(append(files, "main.clay", emitsOf(targets...))...), "main")
	}
	ask(0, "n t > o")
	for _, file := range []string{"a", "src/x", "t", "z", "z-.clay", "main.clay"} {
		ask(4, "n t > "+file)
		ask(4, "n t > ! o "+file+" ~")
		ask(4, "m t > o", "n t > p "+file)
		ask(4, "m t > p "+file, "n t > o")
		ask(0, file+" "+file+" "+file+" < "+file+" > o")
	}
	for _, near := range []string{"A", "aa", "src", "src/", "src/x.o", "main", "z-", "clay", "zz"} {
		ask(0, "n t > "+near)
	}
	// What is an out may be a name, a tool, an in, also of the same target.
	ask(0, "o o o < o > o")
	ask(0, "n p < p > o", "m o < o > p")
	// Behind a change of the place.
	p := houseOf("main.clay", emitsOf("n t > o"))
	wantHouseCode(t, "no file", 0, p, "main")
	wantHouseCode(t, "a file", 4, placeWith(t, p, "o", ""), "main")
	wantHouseCode(t, "another file", 0, placeWith(t, p, "o2", ""), "main")
}

// Drawn packages, which tell drawn targets.
func TestHousePlanDrawn(t *testing.T) {
	t.Parallel()
	dice := clayDice(2002)
	codes := map[int]int{}
	told := 0
	for i := range 4000 {
		texts := map[string]string{"main": "", "lib/b": "let b = 1;", "b-c": "let c = 2;"}
		for _, pack := range []string{"b-c", "lib/b"} {
			if dice.below(3) > 0 {
				texts["main"] += fmt.Sprintf("load %q: %s; ", pack, pack[len(pack)-1:])
			}
		}
		if dice.below(4) == 0 {
			texts["lib/b"] += `load "b-c": c;`
		}
		for range dice.below(6) {
			name := dice.pick("b", "c", "d", "e", "f", "g", "h", "k", "l", "m", "n")
			target := impl.ClayTarget{Name: name, Tool: dice.pick("t", "t", "o", "u"), Arg: dice.text()}
			for i := range dice.below(3) {
				target.Ins = append(target.Ins, fmt.Sprint(dice.pick("i", "o", "src/"), i))
			}
			for i := range 1 + dice.below(3) {
				target.Outs = append(target.Outs, dice.pick("o", "p", name, name, name)+fmt.Sprint(i))
			}
			switch dice.below(40) {
			case 0:
				target.Name += " "
			case 1:
				target.Ins = append(target.Ins, "\n")
			case 2:
				target.Outs = append(target.Outs, dice.pick("src/0", "main.clay", strings.Repeat("n", 61)))
			case 3:
				target.Tool = strings.Repeat("t", 61)
			}
			pack := dice.pick("main", "main", "lib/b", "b-c")
			texts[pack] += emitOf(target)
		}
		if dice.below(20) == 0 {
			texts["main"] += dice.pick("emit none;", "emit {};", `let x = 1 / 0;`, "let", `emit {name: "z", tool: "t", outs: files("")};`, `emit {name: "z", tool: "t", ins: files(""), outs: ["z"]};`)
		}
		files := filesOf("src/0", "x")
		for _, name := range slices.Sorted(maps.Keys(texts)) {
			files = append(files, impl.MillFile{Name: name + ".clay", Text: texts[name]})
		}
		p, code := millLayByRules(impl.MillPlace{}, files)
		if code != 0 {
			continue
		}
		got := wantHousePlan(t, p, "main")
		codes[got.Code]++
		told += len(got.Targets)
		if i%10 == 0 {
			wantHousePlan(t, p, dice.pick("lib/b", "b-c", "gone", "X"))
		}
		if t.Failed() {
			return
		}
	}
	if codes[0] < 1000 || codes[2] < 50 || codes[3] < 500 || codes[4] < 100 || told < 2000 {
		t.Errorf("codes %v, %d targets", codes, told)
	}
}

// No argument is changed, nor what lies behind its lists; answers are new memory, and no two parts of one share any.
func TestHouseOwnMemory(t *testing.T) {
	one := string([]byte("one text"))
	pieces := 0
	for _, p := range []impl.MillPlace{
		houseOf("main.clay", `load "p": x; emit {name: x, tool: x, arg: x, ins: [x], outs: [x]}; emit {name: "m", tool: "t", arg: "`+one+`", ins: files(""), outs: ["o", "p"]};`, "p.clay", `let x = "`+one[:3]+`";`, "one text"[4:], one),
		houseOf("main.clay", "emit {};", "p.clay", one),
		houseOf("main.clay", "let", "p.clay", one),
		houseOf("main.clay", emitsOf("n t > p.clay"), "p.clay", one),
		houseOf("p.clay", one),
		placeOf("p", one, "main.clay", one),
	} {
		roomy, seen := roomyOf(p)
		before := seen()
		main := string([]byte("main"))
		clays := impl.HouseClays(roomy)
		wantNewMemory(t, clays, roomy)
		plan := impl.HousePlan(roomy, main)
		wantNewMemory(t, plan, roomy, main)
		pieces += len(memoryOf(reflect.ValueOf(clays), "", nil)) + len(memoryOf(reflect.ValueOf(plan), "", nil))
		if seen() != before {
			t.Errorf("%s: changed", millPlaceShown(p))
		}
		// What is done to an answer does not come back.
		for i := range clays.Files {
			clays.Files[i] = impl.ClayFile{Name: "other"}
		}
		for i := range plan.Targets {
			plan.Targets[i].Outs[0] = "other"
		}
		wantHouseClays(t, roomy)
		wantHousePlan(t, roomy, main)
	}
	if pieces < 50 {
		t.Errorf("only %d pieces of memory", pieces)
	}
}

func FuzzHousePlan(f *testing.F) {
	f.Add("main", "main.clay", emitsOf("n t < a > o"), "a", "A")
	f.Add("a-b", "a-b.clay", `load "a": x; emit x;`, "a.clay", `let x = {name: "n", tool: "t", outs: files("")};`)
	f.Add("a", "a.clay", `emit {name: "n", tool: "t", outs: ["a.clay"]};`, "", "")
	f.Fuzz(func(t *testing.T, main, name, text, other, otherText string) {
		for _, p := range []impl.MillPlace{placeOf(name, text), placeOf(name, text, other, otherText), placeOf(other, otherText, name, text)} {
			wantHouseClays(t, p)
			wantHousePlan(t, p, main)
		}
	})
}
