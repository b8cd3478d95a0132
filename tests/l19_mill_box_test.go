package tests

import (
	"fmt"
	"maps"
	"reflect"
	"runtime"
	"slices"
	"strings"
	"testing"
	"time"

	"loop.example/kilnyard/impl"
)

// isMillPlace says whether a place is valid, sentence by sentence as the document has it.
func isMillPlace(p impl.MillPlace) bool {
	var names []string
	for _, file := range p.Files {
		if !isMillFileName(file.Name) || len(file.Text) > 3000 {
			return false
		}
		names = append(names, file.Name)
	}
	return len(names) <= 40 && slices.IsSorted(names) && len(slices.Compact(names)) == len(p.Files)
}

func millSeeByRules(p impl.MillPlace, kind int, name string) impl.MillReply {
	if !isMillPlace(p) || kind < 1 || kind > 3 {
		return impl.MillReply{Code: 5}
	}
	list := ""
	for _, file := range p.Files {
		if file.Name == name && kind == 1 {
			return impl.MillReply{Text: file.Text}
		}
		if file.Name == name && kind == 2 {
			return impl.MillReply{}
		}
		if len(file.Name) >= len(name) && file.Name[:len(name)] == name {
			list += file.Name + "\n"
		}
	}
	if kind == 3 {
		return impl.MillReply{Text: list}
	}
	return impl.MillReply{Code: 4}
}

func millLayByRules(p impl.MillPlace, files []impl.MillFile) (impl.MillPlace, int) {
	for _, file := range files {
		if !isMillFileName(file.Name) || len(file.Text) > 3000 {
			return impl.MillPlace{}, 1
		}
	}
	if !isMillPlace(p) || len(files) > 40 {
		return impl.MillPlace{}, 1
	}
	texts := map[string]string{}
	for _, file := range slices.Concat(p.Files, files) {
		texts[file.Name] = file.Text
	}
	if len(texts) > 40 {
		return impl.MillPlace{}, 2
	}
	var laid impl.MillPlace
	for _, name := range slices.Sorted(maps.Keys(texts)) {
		laid.Files = append(laid.Files, impl.MillFile{Name: name, Text: texts[name]})
	}
	return laid, 0
}

func millHoldsByRules(p impl.MillPlace, seen []impl.MillSeen) bool {
	for _, one := range seen {
		if millSeeByRules(p, one.Kind, one.Name) != one.Reply {
			return false
		}
	}
	return isMillPlace(p)
}

// millActedByRules runs by what Mean asks for, one look after the other; answer gives the reply to a look, if there is one.
func millActedByRules(tool string, j impl.MillJob, answer func(kind int, name string) (impl.MillReply, bool)) impl.MillActed {
	if !isMillFileName(tool) || !impl.MillValidJob(j) {
		return impl.MillActed{Code: 9}
	}
	first, is := answer(1, tool)
	if !is {
		return impl.MillActed{Code: 9}
	}
	seen := []impl.MillSeen{{Kind: 1, Name: tool, Reply: first}}
	if first.Code != 0 {
		return impl.MillActed{Code: first.Code, Text: tool, Seen: seen}
	}
	tree, fault := impl.MillParse(first.Text)
	if fault.Code != 0 || impl.MillCheck(tree).Code != 0 {
		return impl.MillActed{Code: 2, Text: "tool", Seen: seen}
	}
	var replies []impl.MillReply
	for {
		turn := impl.MillMean(tree, j, replies)
		if turn.Over || turn.Code != 0 {
			return impl.MillActed{Code: turn.Code, Text: turn.Text, Steps: turn.Steps, Files: turn.Files, Said: turn.Said, Seen: seen}
		}
		y, is := answer(turn.Kind, turn.Name)
		if !is {
			return impl.MillActed{Code: 9}
		}
		replies = append(replies, y)
		seen = append(seen, impl.MillSeen{Kind: turn.Kind, Name: turn.Name, Reply: y})
	}
}

func millActByRules(p impl.MillPlace, tool string, j impl.MillJob) impl.MillActed {
	if !isMillPlace(p) {
		return impl.MillActed{Code: 9}
	}
	return millActedByRules(tool, j, func(kind int, name string) (impl.MillReply, bool) { return millSeeByRules(p, kind, name), true })
}

func millAgainByRules(seen []impl.MillSeen, tool string, j impl.MillJob) impl.MillActed {
	wrong := slices.ContainsFunc(seen, func(one impl.MillSeen) bool { return !impl.MillValidReply(one.Reply) })
	left := seen
	acted := millActedByRules(tool, j, func(kind int, name string) (impl.MillReply, bool) {
		if len(left) == 0 || left[0].Kind != kind || left[0].Name != name || wrong {
			return impl.MillReply{}, false
		}
		y := left[0].Reply
		left = left[1:]
		return y, true
	})
	if len(seen) > 101 || len(left) > 0 {
		return impl.MillActed{Code: 9}
	}
	return acted
}

func isSameMillActed(a, b impl.MillActed) bool {
	return a.Code == b.Code && a.Text == b.Text && a.Steps == b.Steps && slices.Equal(a.Files, b.Files) && slices.Equal(a.Said, b.Said) && slices.Equal(a.Seen, b.Seen)
}

// millActedShown is what was acted in short.
func millActedShown(a impl.MillActed) string { return fmt.Sprintf("%.1200q", fmt.Sprintf("%+v", a)) }

func millPlaceShown(p impl.MillPlace) string { return fmt.Sprintf("%.1500q", fmt.Sprint(p.Files)) }

func isSameMillPlace(a, b impl.MillPlace) bool { return slices.Equal(a.Files, b.Files) }

// placeOf is a place of files, each a name and a text.
func placeOf(pairs ...string) impl.MillPlace { return impl.MillPlace{Files: filesOf(pairs...)} }

func filesOf(pairs ...string) []impl.MillFile {
	var files []impl.MillFile
	for i := 0; i < len(pairs); i += 2 {
		files = append(files, impl.MillFile{Name: pairs[i], Text: pairs[i+1]})
	}
	return files
}

// placeWith is a valid place with one file set.
func placeWith(t *testing.T, p impl.MillPlace, name, text string) impl.MillPlace {
	t.Helper()
	laid, code := impl.MillLay(p, filesOf(name, text))
	if code != 0 {
		t.Fatalf("%q in %s: code %d", name, millPlaceShown(p), code)
	}
	return laid
}

// placeWithout is a place with a file taken away.
func placeWithout(p impl.MillPlace, name string) impl.MillPlace {
	return impl.MillPlace{Files: slices.DeleteFunc(slices.Clone(p.Files), func(file impl.MillFile) bool { return file.Name == name })}
}

// manyFiles are so many files, ascending.
func manyFiles(many int) []impl.MillFile {
	var files []impl.MillFile
	for i := range many {
		files = append(files, impl.MillFile{Name: fmt.Sprintf("m%03d", i), Text: fmt.Sprint(i)})
	}
	return files
}

func sawRead(name, text string) impl.MillSeen {
	return impl.MillSeen{Kind: 1, Name: name, Reply: impl.MillReply{Text: text}}
}

// saw is a look that was answered without a text.
func saw(kind int, name string, code int) impl.MillSeen {
	return impl.MillSeen{Kind: kind, Name: name, Reply: impl.MillReply{Code: code}}
}

func sawList(name, text string) impl.MillSeen {
	return impl.MillSeen{Kind: 3, Name: name, Reply: impl.MillReply{Text: text}}
}

// actedAs is a run's end, behind what was seen.
func actedAs(turn impl.MillTurn, seen ...impl.MillSeen) impl.MillActed {
	return impl.MillActed{Code: turn.Code, Text: turn.Text, Steps: turn.Steps, Files: turn.Files, Said: turn.Said, Seen: seen}
}

// wantMillActed asks Act for all that is said of it: it is the second reading; its files are just the job's outs with Code 0, and none with another (promise 28); what it has seen holds there, and Again of it is the same (promise 27).
func wantMillActed(t *testing.T, p impl.MillPlace, tool string, j impl.MillJob) impl.MillActed {
	t.Helper()
	keptFiles, keptOuts := slices.Clone(p.Files), slices.Clone(j.Outs)
	acted := impl.MillAct(p, tool, j)
	if want := millActByRules(p, tool, j); !isSameMillActed(acted, want) {
		t.Errorf("%q in %s with %.200q: got %s, want %s", tool, millPlaceShown(p), fmt.Sprint(j), millActedShown(acted), millActedShown(want))
	}
	var written []string
	for _, file := range acted.Files {
		written = append(written, file.Name)
	}
	if acted.Code == 0 && !slices.Equal(written, j.Outs) || acted.Code != 0 && len(written) > 0 {
		t.Errorf("%q in %s with %.200q: code %d and files %q", tool, millPlaceShown(p), fmt.Sprint(j), acted.Code, written)
	}
	if acted.Code == 9 {
		return acted
	}
	keptSeen := slices.Clone(acted.Seen)
	if !impl.MillHolds(p, acted.Seen) {
		t.Errorf("%q in %s with %.200q: what was seen does not hold", tool, millPlaceShown(p), fmt.Sprint(j))
	}
	if again := impl.MillAgain(acted.Seen, tool, j); !isSameMillActed(again, acted) {
		t.Errorf("%q in %s with %.200q: got %s, again %s", tool, millPlaceShown(p), fmt.Sprint(j), millActedShown(acted), millActedShown(again))
	}
	if !slices.Equal(p.Files, keptFiles) || !slices.Equal(j.Outs, keptOuts) || !slices.Equal(acted.Seen, keptSeen) {
		t.Errorf("%q in %s: an argument was changed", tool, millPlaceShown(p))
	}
	return acted
}

// wantMillAgain asks Again for what the second reading has.
func wantMillAgain(t *testing.T, what string, seen []impl.MillSeen, tool string, j impl.MillJob) impl.MillActed {
	t.Helper()
	kept := slices.Clone(seen)
	got := impl.MillAgain(seen, tool, j)
	if want := millAgainByRules(seen, tool, j); !isSameMillActed(got, want) {
		t.Errorf("%s: %q by %.800q with %.200q: got %s, want %s", what, tool, fmt.Sprint(seen), fmt.Sprint(j), millActedShown(got), millActedShown(want))
	}
	if !slices.Equal(seen, kept) {
		t.Errorf("%s: what was seen was changed", what)
	}
	return got
}

// wantMillNever asks that Again is not valid, and all else nothing.
func wantMillNever(t *testing.T, what string, seen []impl.MillSeen, tool string, j impl.MillJob) {
	t.Helper()
	if got := wantMillAgain(t, what, seen, tool, j); !isSameMillActed(got, impl.MillActed{Code: 9}) {
		t.Errorf("%s: %s", what, millActedShown(got))
	}
}

// wantMillAgained asks Again of a run that Mean was asked for, if its program is short enough for a file: with the looks that it made it ends as the run does, and with one less or one more it is not valid.
func wantMillAgained(t *testing.T, b millBush, j impl.MillJob, replies []impl.MillReply, looked []millLooked, whole impl.MillTurn) {
	t.Helper()
	text := impl.MillPrint(b.tree())
	if text == "" || len(text) > 3000 {
		return
	}
	seen := []impl.MillSeen{sawRead("the/tool", text)}
	for i, at := range looked[:min(len(looked), len(replies))] {
		seen = append(seen, impl.MillSeen{Kind: at.kind, Name: at.name, Reply: replies[i]})
	}
	ask := func(what string, seen []impl.MillSeen, want impl.MillActed) {
		t.Helper()
		if got := impl.MillAgain(seen, "the/tool", j); !isSameMillActed(got, want) {
			t.Errorf("%.1500q with %.200q, %s: got %s, want %s", text, fmt.Sprint(j), what, millActedShown(got), millActedShown(want))
		}
	}
	if !whole.Over {
		ask("stopped", seen, impl.MillActed{Code: 9})
		return
	}
	ask("whole", seen, actedAs(whole, seen...))
	ask("without the last", seen[:len(seen)-1], impl.MillActed{Code: 9})
	ask("with one more", append(slices.Clone(seen), seen[len(seen)-1]), impl.MillActed{Code: 9})
}

func TestMillPlaceConstants(t *testing.T) {
	if got, want := []int{impl.MillMaxFiles, impl.MillMaxText, impl.MillMaxPath, impl.MillMaxLooks}, []int{40, 3000, 60, 100}; !slices.Equal(got, want) {
		t.Errorf("got %v, want %v", got, want)
	}
}

// millWrongPlaces are places that are not valid, each in one way.
func millWrongPlaces() map[string]impl.MillPlace {
	full := manyFiles(39)
	return map[string]impl.MillPlace{
		"41 files":           {Files: manyFiles(41)},
		"1000 files":         {Files: manyFiles(1000)},
		"41 files, no names": {Files: make([]impl.MillFile, 41)},
		"out of order":       placeOf("b", "", "a", ""),
		"out of order last":  placeOf("a", "", "c", "", "b", ""),
		"a longer one first": placeOf("aa", "", "a", ""),
		"small ahead of big": placeOf("a", "", "B", ""),
		"twice":              placeOf("a", "", "a", ""),
		"twice, other text":  placeOf("a", "1", "a", "2"),
		"twice apart":        placeOf("a", "", "b", "", "a", ""),
		"no name":            placeOf("", ""),
		"a gap in a name":    placeOf("a", "", "b c", ""),
		"a name too long":    placeOf(strings.Repeat("x", 61), ""),
		"a text too long":    placeOf("a", strings.Repeat("x", 3001)),
		"40th twice":         {Files: append(slices.Clone(full), full[38])},
		"40th no name":       {Files: append(slices.Clone(full), impl.MillFile{Name: "n\x7f"})},
		"40th text too long": {Files: append(slices.Clone(full), impl.MillFile{Name: "n", Text: strings.Repeat("x", 3001)})},
	}
}

func TestMillValidPlace(t *testing.T) {
	ask := func(want bool, p impl.MillPlace) {
		t.Helper()
		kept := slices.Clone(p.Files)
		if got := impl.MillValidPlace(p); got != want || got != isMillPlace(p) {
			t.Errorf("%s: %v", millPlaceShown(p), got)
		}
		if !slices.Equal(p.Files, kept) {
			t.Errorf("%s: changed", millPlaceShown(p))
		}
	}
	ask(true, impl.MillPlace{})
	ask(true, impl.MillPlace{Files: []impl.MillFile{}})
	for many := range 60 {
		ask(many <= 40, impl.MillPlace{Files: manyFiles(many)})
	}
	for _, name := range millNames() {
		ask(true, placeOf(name, ""))
		ask(true, placeOf(name, "\x00\xff\n"))
		ask(false, placeOf(name, "", name, ""))
	}
	ask(true, placeOf("!", "", "A", "", "a", "", "a!", "", "aa", "", "b", "", "~", ""))
	for _, name := range append(millNoNames(), "") {
		ask(false, placeOf(name, ""))
		if name > "a" {
			ask(false, placeOf("a", "", name, ""))
		}
		if name < "z" {
			ask(false, placeOf(name, "", "z", ""))
		}
	}
	for size, want := range map[int]bool{0: true, 1: true, 2999: true, 3000: true, 3001: false, 100000: false} {
		text := strings.Repeat("x", size)
		ask(want, placeOf("a", text))
		ask(want, placeOf("a", "", "b", text))
		ask(want, placeOf("a", text, "b", text, "c", ""))
	}
	for _, p := range millWrongPlaces() {
		ask(false, p)
	}
	// Each pair of neighbours out of order, or the same.
	for i := range 39 {
		files := manyFiles(40)
		files[i], files[i+1] = files[i+1], files[i]
		ask(false, impl.MillPlace{Files: files})
		files[i] = files[i+1]
		ask(false, impl.MillPlace{Files: files})
	}
}

func TestMillSee(t *testing.T) {
	p := placeOf("a", "1", "ab", "", "b", "\x00\xff\n", "lib", "L", "lib-x", "-", "lib/", "/", "lib/x", "2", "lib/y", "", "lib0", "0", "~", strings.Repeat("x", 3000))
	kept := slices.Clone(p.Files)
	ask := func(kind int, name string, want impl.MillReply) {
		t.Helper()
		got := impl.MillSee(p, kind, name)
		if got != want || got != millSeeByRules(p, kind, name) || !impl.MillValidReply(got) {
			t.Errorf("%d of %q: %+v, want %+v", kind, name, got, want)
		}
	}
	there, gone, none := impl.MillReply{}, impl.MillReply{Code: 4}, impl.MillReply{Code: 5}
	all := ""
	for _, file := range p.Files {
		all += file.Name + "\n"
		ask(impl.MillLookRead, file.Name, impl.MillReply{Text: file.Text})
		ask(impl.MillLookHas, file.Name, there)
	}
	for _, name := range []string{"c", "aa", "abc", "A", "l", "li", "lib/z", "lib/x/", "~~", "!", " "} {
		ask(impl.MillLookRead, name, gone)
		ask(impl.MillLookHas, name, gone)
	}
	for begins, list := range map[string]string{
		"": all, "a": "a\nab\n", "ab": "ab\n", "abc": "", "b": "b\n", "l": "lib\nlib-x\nlib/\nlib/x\nlib/y\nlib0\n", "lib": "lib\nlib-x\nlib/\nlib/x\nlib/y\nlib0\n", "lib/": "lib/\nlib/x\nlib/y\n", "lib/x": "lib/x\n", "lib0": "lib0\n", "lib1": "", "~": "~\n", "~~": "", "!": "", "A": "", "x": "",
	} {
		ask(impl.MillLookList, begins, impl.MillReply{Text: list})
	}
	// No name of a file: there is none of it, and nothing begins with it.
	for _, name := range append(millNoNames(), "") {
		ask(impl.MillLookRead, name, gone)
		ask(impl.MillLookHas, name, gone)
		if name != "" {
			ask(impl.MillLookList, name, there)
		}
	}
	for _, kind := range []int{0, 4, 5, 6, -1, -2, -3, 9, 100, 1 << 32, 1<<32 + 1, 1<<32 + 2, 1<<32 + 3, -1 << 63, 1<<63 - 1} {
		for _, name := range []string{"", "a", "c", "lib/", " "} {
			ask(kind, name, none)
		}
	}
	if !slices.Equal(p.Files, kept) {
		t.Error("changed")
	}
	for what, wrong := range millWrongPlaces() {
		for kind := -1; kind <= 6; kind++ {
			for _, name := range []string{"", "a", "b", "m000", "zz", " "} {
				if got := impl.MillSee(wrong, kind, name); got != none {
					t.Errorf("%s: %d of %q: %+v", what, kind, name, got)
				}
			}
		}
	}
	for kind, want := range []impl.MillReply{none, gone, gone, there, none} {
		for _, name := range []string{"", "a"} {
			if got := impl.MillSee(impl.MillPlace{}, kind, name); got != want {
				t.Errorf("nothing there: %d of %q: %+v", kind, name, got)
			}
		}
	}
}

// longNames are so many files whose names are as long as they can be.
func longNames(many int) []impl.MillFile {
	var files []impl.MillFile
	for i := range many {
		files = append(files, impl.MillFile{Name: fmt.Sprintf("%s%02d", strings.Repeat("n", 58), i), Text: "t"})
	}
	return files
}

// A list of as many files as there can be, with names as long as they can be, is short enough for a reply; so none is too long.
func TestMillSeeLongestList(t *testing.T) {
	p := impl.MillPlace{Files: longNames(40)}
	for _, begins := range []string{"", "n", strings.Repeat("n", 58)} {
		y := impl.MillSee(p, impl.MillLookList, begins)
		if y.Code != 0 || len(y.Text) != 40*61 || strings.Count(y.Text, "\n") != 40 || !impl.MillValidReply(y) || y != millSeeByRules(p, 3, begins) {
			t.Errorf("%q: %+v", begins, y)
		}
	}
	if y := impl.MillSee(p, impl.MillLookList, p.Files[7].Name); y.Text != p.Files[7].Name+"\n" {
		t.Errorf("%+v", y)
	}
	p.Files[3] = impl.MillFile{Name: p.Files[3].Name, Text: inMain(`return dec(len(list(""))) + dec(len(list("n")));`)}
	acted := wantMillActed(t, p, p.Files[3].Name, impl.MillJob{})
	if acted.Text != "24402440" || len(acted.Seen) != 3 {
		t.Errorf("%s", millActedShown(acted))
	}
}

// wantMillLaid asks Lay for what the second reading has.
func wantMillLaid(t *testing.T, p impl.MillPlace, files []impl.MillFile, code int) impl.MillPlace {
	t.Helper()
	keptPlace, keptFiles := slices.Clone(p.Files), slices.Clone(files)
	got, is := impl.MillLay(p, files)
	want, should := millLayByRules(p, files)
	if is != code || should != code || !isSameMillPlace(got, want) {
		t.Errorf("%.500q in %s: code %d and %s, want %d (by the rules %d) and %s", fmt.Sprint(files), millPlaceShown(p), is, millPlaceShown(got), code, should, millPlaceShown(want))
	}
	if code == 0 && !impl.MillValidPlace(got) || code != 0 && len(got.Files) > 0 {
		t.Errorf("%.500q in %s: code %d and %s", fmt.Sprint(files), millPlaceShown(p), is, millPlaceShown(got))
	}
	if !slices.Equal(p.Files, keptPlace) || !slices.Equal(files, keptFiles) {
		t.Errorf("%.500q in %s: an argument was changed", fmt.Sprint(files), millPlaceShown(p))
	}
	return got
}

func TestMillLay(t *testing.T) {
	p := placeOf("b", "1", "d", "2", "f", "3")
	ask := func(files []impl.MillFile, pairs ...string) {
		t.Helper()
		if got := wantMillLaid(t, p, files, 0); !isSameMillPlace(got, placeOf(pairs...)) {
			t.Errorf("%q: %s", files, millPlaceShown(got))
		}
	}
	ask(nil, "b", "1", "d", "2", "f", "3")
	ask([]impl.MillFile{}, "b", "1", "d", "2", "f", "3")
	ask(filesOf("a", "new"), "a", "new", "b", "1", "d", "2", "f", "3")
	ask(filesOf("c", "new"), "b", "1", "c", "new", "d", "2", "f", "3")
	ask(filesOf("g", ""), "b", "1", "d", "2", "f", "3", "g", "")
	ask(filesOf("b", "new"), "b", "new", "d", "2", "f", "3")
	ask(filesOf("d", ""), "b", "1", "d", "", "f", "3")
	ask(filesOf("f", "new"), "b", "1", "d", "2", "f", "new")
	ask(filesOf("bb", "!"), "b", "1", "bb", "!", "d", "2", "f", "3")
	// The last one of a name stays, wherever the others stand.
	ask(filesOf("c", "x", "c", "y"), "b", "1", "c", "y", "d", "2", "f", "3")
	ask(filesOf("c", "x", "a", "z", "c", "y"), "a", "z", "b", "1", "c", "y", "d", "2", "f", "3")
	ask(filesOf("d", "x", "d", "2"), "b", "1", "d", "2", "f", "3")
	ask(filesOf("d", "x", "b", "x", "d", "y", "b", "y"), "b", "y", "d", "y", "f", "3")
	ask(filesOf("z", "1", "y", "2", "a", "3", "f", "4"), "a", "3", "b", "1", "d", "2", "f", "4", "y", "2", "z", "1")
	for _, empty := range []impl.MillPlace{{}, {Files: []impl.MillFile{}}} {
		if got := wantMillLaid(t, empty, nil, 0); len(got.Files) != 0 {
			t.Errorf("%s", millPlaceShown(got))
		}
		if got := wantMillLaid(t, empty, filesOf("b", "1", "a", "2"), 0); !isSameMillPlace(got, placeOf("a", "2", "b", "1")) {
			t.Errorf("%s", millPlaceShown(got))
		}
	}
}

func TestMillLayMost(t *testing.T) {
	full := impl.MillPlace{Files: manyFiles(40)}
	most := impl.MillPlace{Files: manyFiles(39)}
	backward := manyFiles(40)
	slices.Reverse(backward)
	same := func(many int) []impl.MillFile { return slices.Repeat(filesOf("one", "1"), many) }
	// How many are handed in.
	for _, files := range [][]impl.MillFile{manyFiles(40), backward, same(40)} {
		wantMillLaid(t, impl.MillPlace{}, files, 0)
	}
	wantMillLaid(t, full, manyFiles(40), 0)
	wantMillLaid(t, full, backward, 0)
	for _, many := range []int{41, 42, 1000} {
		wantMillLaid(t, impl.MillPlace{}, manyFiles(many), 1)
		// Also if they are few by their names, and none is new.
		wantMillLaid(t, impl.MillPlace{}, same(many), 1)
		wantMillLaid(t, full, slices.Repeat(full.Files[:1], many), 1)
		wantMillLaid(t, most, manyFiles(many), 1)
	}
	// How many there would be.
	wantMillLaid(t, full, nil, 0)
	for i := range 40 {
		wantMillLaid(t, full, filesOf(full.Files[i].Name, "anew"), 0)
	}
	for _, name := range []string{"a", "m020x", "z"} {
		wantMillLaid(t, full, filesOf(name, ""), 2)
		if got := wantMillLaid(t, most, filesOf(name, ""), 0); len(got.Files) != 40 {
			t.Errorf("%q: %d files", name, len(got.Files))
		}
		wantMillLaid(t, most, filesOf(name, "1", name, "2"), 0)
		wantMillLaid(t, most, filesOf(name, "1", "m000", "2"), 0)
		wantMillLaid(t, most, filesOf(name, "1", "zz", "2"), 2)
		wantMillLaid(t, full, filesOf("m000", "1", name, "2"), 2)
	}
	wantMillLaid(t, most, same(40), 0)
	wantMillLaid(t, full, same(40), 2)
	for many := range 45 {
		code := 0
		if many > 40 {
			code = 1
		} else if many > 20 {
			code = 2
		}
		var others []impl.MillFile
		for i := range many {
			others = append(others, impl.MillFile{Name: fmt.Sprint("a", i)})
		}
		wantMillLaid(t, impl.MillPlace{Files: manyFiles(20)}, others, code)
	}
}

func TestMillLayWrong(t *testing.T) {
	full := impl.MillPlace{Files: manyFiles(40)}
	p := placeOf("b", "1", "d", "2")
	wrong := filesOf("", "", "x", strings.Repeat("x", 3001), "b", strings.Repeat("x", 3001))
	for _, name := range millNoNames() {
		wrong = append(wrong, impl.MillFile{Name: name, Text: "x"})
	}
	for _, file := range wrong {
		wantMillLaid(t, p, []impl.MillFile{file}, 1)
		wantMillLaid(t, impl.MillPlace{}, []impl.MillFile{file}, 1)
		for at := range 3 {
			wantMillLaid(t, p, slices.Insert(filesOf("a", "1", "d", "2"), at, file), 1)
			// Code 1 is ahead of code 2.
			wantMillLaid(t, full, slices.Insert(filesOf("a", "1", "d", "2"), at, file), 1)
		}
		// What would be gone counts, too.
		wantMillLaid(t, p, []impl.MillFile{file, {Name: "b"}, {Name: "x"}}, 1)
	}
	for _, name := range millNames() {
		wantMillLaid(t, p, filesOf(name, ""), 0)
		wantMillLaid(t, impl.MillPlace{}, filesOf(name, "x"), 0)
	}
	for _, text := range []string{"", "\x00\xff", strings.Repeat("x", 2999), strings.Repeat("x", 3000)} {
		wantMillLaid(t, p, filesOf("b", text, "x", text), 0)
	}
	for _, place := range millWrongPlaces() {
		wantMillLaid(t, place, nil, 1)
		wantMillLaid(t, place, filesOf("a", ""), 1)
		wantMillLaid(t, place, filesOf("zz", "", " ", ""), 1)
		wantMillLaid(t, place, manyFiles(41), 1)
	}
}

// All places of three names and two texts, all looks there, and all that can be laid there of up to two files.
func TestMillPlaceAllSmall(t *testing.T) {
	names := []string{"a", "ab", "b"}
	var all []impl.MillFile
	for _, name := range append(names, "", "a b") {
		all = append(all, filesOf(name, "", name, "x")...)
	}
	var places []impl.MillPlace
	for ways := range 27 {
		var p impl.MillPlace
		for _, name := range names {
			if text := ways % 3; text > 0 {
				p.Files = append(p.Files, impl.MillFile{Name: name, Text: strings.Repeat("x", text-1)})
			}
			ways /= 3
		}
		places = append(places, p)
	}
	places = append(places, placeOf("b", "", "a", ""), placeOf("a", "", "a", ""), placeOf("", ""))
	codes := map[int]int{}
	for _, p := range places {
		for kind := -1; kind <= 5; kind++ {
			for _, name := range []string{"", "a", "ab", "abc", "b", "c", " "} {
				if got, want := impl.MillSee(p, kind, name), millSeeByRules(p, kind, name); got != want {
					t.Errorf("%d of %q in %s: %+v, want %+v", kind, name, millPlaceShown(p), got, want)
				}
			}
		}
		for _, first := range all {
			_, code := millLayByRules(p, []impl.MillFile{first})
			wantMillLaid(t, p, []impl.MillFile{first}, code)
			for _, second := range all {
				_, code := millLayByRules(p, []impl.MillFile{first, second})
				wantMillLaid(t, p, []impl.MillFile{first, second}, code)
				codes[code]++
			}
		}
	}
	if codes[0] < 500 || codes[1] < 500 {
		t.Errorf("codes %v", codes)
	}
}

// Many files, laid in any order, in places of any size.
func TestMillLayDrawn(t *testing.T) {
	dice := clayDice(301)
	codes := map[int]int{}
	for range 3000 {
		draw := func(many int) []impl.MillFile {
			var files []impl.MillFile
			for range many {
				name := dice.pick("a", "b", "m", "~") + dice.pick("", "/", "0", "x") + dice.pick("", "a", "b", "c", "d")
				files = append(files, impl.MillFile{Name: name, Text: dice.text()})
			}
			return files
		}
		p, _ := millLayByRules(impl.MillPlace{}, draw(dice.below(41)))
		for range 3 {
			files := draw(dice.below(43))
			if dice.below(20) == 0 && len(files) > 0 {
				files[dice.below(len(files))].Name = dice.pick("", "a b", "\n")
			}
			_, code := millLayByRules(p, files)
			p = wantMillLaid(t, p, files, code)
			codes[code]++
		}
		if t.Failed() {
			return
		}
	}
	for code, least := range []int{1000, 100, 100} {
		if codes[code] < least {
			t.Errorf("codes %v", codes)
		}
	}
}

// millAction is an action and what it is to come to.
type millAction struct {
	place impl.MillPlace
	tool  string
	arg   string
	outs  string
	want  impl.MillActed
}

func wantMillActions(t *testing.T, actions ...millAction) {
	t.Helper()
	for _, a := range actions {
		j := impl.MillJob{Arg: a.arg, Outs: strings.Fields(a.outs)}
		if got := wantMillActed(t, a.place, a.tool, j); !isSameMillActed(got, a.want) {
			t.Errorf("%q in %s: got %s, want %s", a.tool, millPlaceShown(a.place), millActedShown(got), millActedShown(a.want))
		}
	}
}

// The file of the program: that it is looked at first, and what there is instead of a run.
func TestMillActFirstLook(t *testing.T) {
	right := inMain(`return "r";`)
	wantMillActions(t,
		millAction{place: placeOf("t", right), tool: "t", want: actedAs(millDone("r", 2), sawRead("t", right))},
		millAction{place: placeOf("t", right), tool: "u", want: actedAs(millEndsBy(4, "u", 0), saw(1, "u", 4))},
		millAction{place: impl.MillPlace{}, tool: "t", want: actedAs(millEndsBy(4, "t", 0), saw(1, "t", 4))},
		millAction{place: placeOf("t", right), tool: "t/", outs: "o", want: actedAs(millEndsBy(4, "t/", 0), saw(1, "t/", 4))},
		millAction{place: placeOf("t/u", right), tool: "t", arg: "x", want: actedAs(millEndsBy(4, "t", 0), saw(1, "t", 4))},
		millAction{place: placeOf("a", "x", "t", right, "z", right), tool: "t", outs: "o", want: actedAs(millBroke("lacks o", 2), sawRead("t", right))},
	)
	long := inMain(`return "r"; `)
	texts := map[string]bool{
		// Can't be read.
		"": false, "x": false, "fn": false, "fn main()": false, "\xff": false, inMain(`return "r"`): false, right + "}": false, `fn main() -> text { return "r; }`: false, inMain(`return 256u8;`): false, strings.Repeat("x", 3000): false,
		// Read, but not valid, or it does not fit.
		"# note": false, `fn f() { }`: false, `fn main() { }`: false, `fn main(a text) -> text { return a; }`: false, inMain(`return 1;`): false, inMain(`return x;`): false, inMain(`say "r";`): false, inMain(`break; return "r";`): false, right + right: false, inMain(`return f();`): false, inMain(strings.Repeat("if true { ", 60) + strings.Repeat("} ", 60) + `return "r";`): false,
		right: true, "# note\n" + right + " # note": true, right + ` fn f() { }`: true, long + strings.Repeat(" ", 3000-len(long)): true, long + strings.Repeat(" ", 2999-len(long)) + "}": false,
	}
	for text, is := range texts {
		want := actedAs(millDone("r", 2), sawRead("t", text))
		if !is {
			want = actedAs(millBroke("tool", 0), sawRead("t", text))
		}
		wantMillActions(t, millAction{place: placeOf("t", text), tool: "t", want: want})
		// Nothing of it hangs on the job.
		if !is {
			wantMillActions(t, millAction{place: placeOf("o", "", "t", text), tool: "t", arg: "x", outs: "o p", want: want})
		}
	}
	for _, name := range millNames() {
		wantMillActions(t,
			millAction{place: placeOf(name, right), tool: name, want: actedAs(millDone("r", 2), sawRead(name, right))},
			millAction{place: placeOf(name, "x"), tool: name, want: actedAs(millBroke("tool", 0), sawRead(name, "x"))},
			millAction{place: impl.MillPlace{}, tool: name, want: actedAs(millEndsBy(4, name, 0), saw(1, name, 4))},
		)
	}
}

func millWrongJobs() []impl.MillJob {
	return []impl.MillJob{
		{Arg: strings.Repeat("x", 3001)}, {Arg: strings.Repeat("x", 3001), Outs: []string{"o"}}, {Outs: []string{""}}, {Outs: []string{"o", "o"}}, {Outs: []string{"p", "o"}}, {Outs: []string{"a b"}}, {Outs: []string{strings.Repeat("x", 61)}}, {Outs: strings.Fields("a b c d e f g h i j k l m n o p q r s t u")},
	}
}

func TestMillActNotValid(t *testing.T) {
	right := inMain(`say "s"; return arg();`)
	p := placeOf("a", "x", "t", right)
	ask := func(what string, p impl.MillPlace, tool string, j impl.MillJob) {
		t.Helper()
		if got := wantMillActed(t, p, tool, j); !isSameMillActed(got, impl.MillActed{Code: 9}) {
			t.Errorf("%s: %s", what, millActedShown(got))
		}
	}
	for _, name := range append(millNoNames(), "") {
		ask("a name", p, name, impl.MillJob{})
		ask("a name", impl.MillPlace{}, name, impl.MillJob{})
	}
	for _, j := range millWrongJobs() {
		// Whatever there would be instead of a run.
		for _, tool := range []string{"t", "a", "gone", ""} {
			ask("a job", p, tool, j)
		}
	}
	for what, wrong := range millWrongPlaces() {
		for _, tool := range []string{"a", "b", "m000", "gone", ""} {
			ask(what, wrong, tool, impl.MillJob{})
		}
		if len(wrong.Files) < 40 {
			wrong.Files = append(slices.Clone(wrong.Files), impl.MillFile{Name: "~", Text: right})
			ask(what, wrong, "~", impl.MillJob{})
		}
	}
	ask("41 files", impl.MillPlace{Files: append(manyFiles(40), impl.MillFile{Name: "t", Text: right})}, "t", impl.MillJob{})
	if got := wantMillActed(t, impl.MillPlace{Files: append(manyFiles(39), impl.MillFile{Name: "t", Text: right})}, "t", impl.MillJob{Arg: strings.Repeat("x", 3000)}); got.Code != 0 || len(got.Text) != 3000 {
		t.Errorf("%s", millActedShown(got))
	}
}

// Looks of the run: what they are answered, and that they stand in Seen in their order.
func TestMillActLooks(t *testing.T) {
	files := []string{"a", "one", "ab", "", "b", "two", "l/x", "3", "l/y", "4"}
	run := func(src string, arg, outs string, turn impl.MillTurn, seen ...impl.MillSeen) {
		t.Helper()
		wantMillActions(t, millAction{place: placeOf(append(files, "t", src)...), tool: "t", arg: arg, outs: outs, want: actedAs(turn, append([]impl.MillSeen{sawRead("t", src)}, seen...)...)})
	}
	run(inMain(`return read("a") + read("b");`), "", "", millDone("onetwo", 2), sawRead("a", "one"), sawRead("b", "two"))
	run(inMain(`return read("b") + read("a") + read("b") + read("ab");`), "", "", millDone("twoonetwo", 2), sawRead("b", "two"), sawRead("a", "one"), sawRead("b", "two"), sawRead("ab", ""))
	run(inMain(`return read(arg());`), "l/x", "", millDone("3", 2), sawRead("l/x", "3"))
	run(inMain(`say "s"; return read("a") + read("c") + read("b");`), "", "", millEndsBy(4, "c", 3, "s"), sawRead("a", "one"), saw(1, "c", 4))
	run(inMain(`if has("a") && has("ab") && !has("abc") && !has("l/") { return "y"; } return "n";`), "", "", millDone("y", 3), saw(2, "a", 0), saw(2, "ab", 0), saw(2, "abc", 4), saw(2, "l/", 4))
	run(inMain(`if has("c") { return read("c"); } return read("a");`), "", "", millDone("one", 3), saw(2, "c", 4), sawRead("a", "one"))
	run(inMain(`return list("l/") + list("a") + list("") + list("q") + list("b");`), "", "", millDone("l/x\nl/y\na\nab\na\nab\nb\nl/x\nl/y\nt\nb\n", 2), sawList("l/", "l/x\nl/y\n"), sawList("a", "a\nab\n"), sawList("", "a\nab\nb\nl/x\nl/y\nt\n"), sawList("q", ""), sawList("b", "b\n"))
	run(inMain(`return tool("u", "x");`), "", "", millEndsBy(4, "u", 2), saw(1, "u", 4))
	run(inMain(`return tool("a", "x");`), "", "", millBroke("tool in main", 2), sawRead("a", "one"))
	run(inMain(`say read("a"); return read("a b");`), "", "", millBroke("name in main", 3, "one"), sawRead("a", "one"))
	run(inMain(`return "no look";`), "", "", millDone("no look", 2))
	// A program that looks at itself.
	self := inMain(`if has("t") { say list("t"); } return read("t");`)
	run(self, "", "", millDone(self, 4, "t\n"), saw(2, "t", 0), sawList("t", "t\n"), sawRead("t", self))
	// One that calls itself as a tool: once, and without end.
	once := inMain(`if arg() == "x" { return "in"; } return tool("t", "x") + "out";`)
	run(once, "", "", millDone("inout", 6), sawRead("t", once))
	deep := inMain(`return tool("t", arg() + "x");`)
	run(deep, "", "", millBroke("deep in main", 80), slices.Repeat([]impl.MillSeen{sawRead("t", deep)}, 40)...)
	// What was written is not seen there: neither a new file nor an old one.
	run(inMain(`write "o", "x"; if has("o") { return "seen"; } say list("o"); return read("o");`), "", "o", millEndsBy(4, "o", 5, ""), saw(2, "o", 4), sawList("o", ""), saw(1, "o", 4))
	run(inMain(`write "a", "x"; write "o", read("a"); return read("a") + list("o");`), "", "a o", millWrote(millDone("one", 4), "a", "x", "o", "one"), sawRead("a", "one"), sawRead("a", "one"), sawList("o", ""))
	run(inMain(`write "t", "x"; return tool("t2", "");`), "", "t", millEndsBy(4, "t2", 3), saw(1, "t2", 4))
	// Tools of tools.
	tool := inMain(`write "o", arg() + read("a"); return tool("v", arg() + "2");`)
	inner := inMain(`say arg(); if has("a") { } return arg() + "3";`)
	first := inMain(`return tool("u", "1") + read("b");`)
	wantMillActions(t, millAction{place: placeOf("a", "A", "b", "B", "t", first, "u", tool, "v", inner), tool: "t", outs: "o", want: actedAs(millWrote(millDone("123B", 9, "12"), "o", "1A"), sawRead("t", first), sawRead("u", tool), sawRead("a", "A"), sawRead("v", inner), saw(2, "a", 0), sawRead("b", "B"))})
}

// As many looks as a run may make, beside the first one, and one more.
func TestMillActMostLooks(t *testing.T) {
	t.Parallel()
	sub := inMain(`return arg();`)
	for _, look := range []struct {
		e     string
		seen  impl.MillSeen
		steps int
	}{{`read("a")`, sawRead("a", "x"), 0}, {`list("a")`, sawList("a", "a\n"), 0}, {`tool("u", "")`, sawRead("u", sub), 2}} {
		for _, many := range []int{0, 1, 99, 100, 101, 102} {
			src := inMain(fmt.Sprintf(`let i = 0; let s = ""; while i < %d { i = i + 1; s = %s; } return "";`, many, look.e))
			want := millDone("", 5+many+1+many*(2+look.steps))
			if many > 100 {
				want = millEndsBy(3, "", 4+101+100*(2+look.steps)+2)
			}
			seen := append([]impl.MillSeen{sawRead("t", src)}, slices.Repeat([]impl.MillSeen{look.seen}, min(many, 100))...)
			wantMillActions(t, millAction{place: placeOf("a", "x", "t", src, "u", sub), tool: "t", want: actedAs(want, seen...)})
		}
	}
	// The program's own file, at which it looks itself, counts as any other.
	for _, many := range []int{99, 100, 101} {
		src := inMain(fmt.Sprintf(`let i = 0; while i < %d { i = i + 1; if has("t") { } let s = ""; if i == %d { s = read("t"); } } return "";`, many-1, many-1))
		acted := wantMillActed(t, placeOf("t", src), "t", impl.MillJob{})
		if code := map[bool]int{true: 3}[many > 100]; acted.Code != code || len(acted.Seen) != 1+min(many, 100) {
			t.Errorf("%d looks: %s", many, millActedShown(acted))
		}
	}
	// A look whose name is none is Broken also where it would be one too many; one for a file that is not there is Spent then.
	for e, want := range map[string]impl.MillTurn{`read("")`: millBroke("name in main", 0), `read("gone")`: millEndsBy(3, "", 0)} {
		src := inMain(`let i = 0; while i < 100 { i = i + 1; if has("t") { } } return ` + e + `;`)
		acted := wantMillActed(t, placeOf("t", src), "t", impl.MillJob{})
		if acted.Code != want.Code || acted.Text != want.Text || len(acted.Seen) != 101 {
			t.Errorf("%s: %s", e, millActedShown(acted))
		}
	}
}

// Promise 28: what was written is told with Code 0 alone, and is all of Outs then.
func TestMillActFiles(t *testing.T) {
	writes := `write "p", "2"; write "o", "1"; `
	for _, row := range []struct {
		ends string
		want impl.MillTurn
	}{
		{`return "r";`, millWrote(millDone("r", 4), "o", "1", "p", "2")},
		{`write "o", "3"; return "r";`, millWrote(millDone("r", 5), "o", "3", "p", "2")},
		{`write "o", read("a"); return "r";`, millWrote(millDone("r", 5), "o", "A", "p", "2")},
		{`fail "f";`, millEndsBy(1, "f", 4)},
		{`say dec(1 / 0); return "r";`, millBroke("divide in main", 4)},
		{`write "q", ""; return "r";`, millBroke("output in main", 4)},
		{`return read("");`, millBroke("name in main", 4)},
		{`return tool("a", "");`, millBroke("tool in main", 4)},
		{`while true { } return "r";`, millEndsBy(3, "", 4000)},
		{`while has("a") { } return "r";`, millEndsBy(3, "", 105)},
		{`return read("gone");`, millEndsBy(4, "gone", 4)},
		{`return tool("gone", "");`, millEndsBy(4, "gone", 4)},
	} {
		src := inMain(writes + row.ends)
		acted := wantMillActed(t, placeOf("a", "A", "t", src), "t", impl.MillJob{Outs: []string{"o", "p"}})
		if !isSameMillActed(acted, actedAs(row.want, acted.Seen...)) {
			t.Errorf("%q: %s, want %s", row.ends, millActedShown(acted), millTurnShown(row.want))
		}
		// With an out that is not written a run that is done is none.
		if row.want.Code == 0 {
			row.want = impl.MillTurn{Code: 2, Text: "lacks z", Steps: row.want.Steps}
		}
		acted = wantMillActed(t, placeOf("a", "A", "t", src), "t", impl.MillJob{Outs: []string{"o", "p", "z"}})
		if !isSameMillActed(acted, actedAs(row.want, acted.Seen...)) {
			t.Errorf("%q: %s, want %s", row.ends, millActedShown(acted), millTurnShown(row.want))
		}
	}
	// An end by a reply of Code 5 is one that no place gives.
	src := inMain(writes + `return read("a");`)
	got := wantMillAgain(t, "below", []impl.MillSeen{sawRead("t", src), saw(1, "a", 5)}, "t", impl.MillJob{Outs: []string{"o", "p"}})
	if !isSameMillActed(got, actedAs(millEndsBy(5, "a", 4), got.Seen...)) || len(got.Seen) != 2 {
		t.Errorf("%s", millActedShown(got))
	}
	// As many outs as there can be.
	var outs []string
	all := ""
	for i := range 20 {
		outs = append(outs, fmt.Sprintf("out%02d", i))
		all = fmt.Sprintf(`write "out%02d", "%d"; `, i, i) + all
	}
	acted := wantMillActed(t, placeOf("t", inMain(all+`return "";`)), "t", impl.MillJob{Outs: outs})
	if acted.Code != 0 || len(acted.Files) != 20 || acted.Files[7] != (impl.MillFile{Name: "out07", Text: "7"}) {
		t.Errorf("%s", millActedShown(acted))
	}
}

func TestMillHolds(t *testing.T) {
	p := placeOf("a", "1", "b", "", "l/x", "2")
	ask := func(want bool, p impl.MillPlace, seen ...impl.MillSeen) {
		t.Helper()
		kept := slices.Clone(seen)
		if got := impl.MillHolds(p, seen); got != want || got != millHoldsByRules(p, seen) {
			t.Errorf("%.500q in %s: %v", fmt.Sprint(seen), millPlaceShown(p), got)
		}
		if !slices.Equal(seen, kept) {
			t.Errorf("%.500q: changed", fmt.Sprint(seen))
		}
	}
	ask(true, p)
	ask(true, impl.MillPlace{})
	right := []impl.MillSeen{sawRead("a", "1"), sawRead("b", ""), saw(1, "c", 4), saw(2, "a", 0), saw(2, "c", 4), sawList("l", "l/x\n"), sawList("", "a\nb\nl/x\n"), sawList("q", ""), saw(1, "", 4), saw(2, " ", 4), sawList(" ", "")}
	// Kinds that are none are answered, too.
	right = append(right, saw(0, "a", 5), saw(4, "a", 5), saw(-1, "", 5), saw(5, "q", 5))
	wrong := []impl.MillSeen{
		sawRead("a", ""), sawRead("a", "2"), sawRead("a", "11"), saw(1, "a", 4), saw(1, "a", 5), saw(1, "a", 1), sawRead("c", ""), saw(1, "c", 5), saw(1, "b", 4),
		saw(2, "a", 4), saw(2, "a", 5), {Kind: 2, Name: "a", Reply: impl.MillReply{Text: "1"}}, saw(2, "c", 0), saw(2, "c", 5),
		sawList("l", ""), sawList("l", "l/x"), sawList("l", "l/x\nl/y\n"), saw(3, "l", 4), saw(3, "q", 4), saw(3, "", 5), sawList("", "b\na\nl/x\n"), {Kind: 3, Name: "q", Reply: impl.MillReply{Code: 4}},
		saw(0, "a", 4), saw(4, "a", 0), sawRead("", ""), saw(4, "c", 4), {Kind: 4, Name: "a", Reply: impl.MillReply{Text: "1"}}, {Kind: 4, Name: "a", Reply: impl.MillReply{Code: 5, Text: "1"}},
		{Kind: 1, Name: "c", Reply: impl.MillReply{Code: 4, Text: "x"}}, saw(1, "c", 9),
	}
	ask(true, p, right...)
	ask(true, p, slices.Repeat(right, 50)...)
	for _, one := range right {
		ask(true, p, one)
	}
	for _, one := range wrong {
		ask(false, p, one)
		for at := range len(right) + 1 {
			ask(false, p, slices.Insert(slices.Clone(right), at, one)...)
		}
	}
	for _, place := range millWrongPlaces() {
		ask(false, place)
		ask(false, place, saw(4, "a", 5))
		ask(false, place, saw(1, "a", 5))
		ask(false, place, saw(1, "gone", 4))
	}
}

// Promise 27, by hand: which change of a place is seen, and which is not.
func TestMillActElsewhere(t *testing.T) {
	src := `fn main() -> text { let s = ""; if has("h") { s = s + "h"; } if has("no") { s = s + read("no"); } say list("l/"); if arg() == "more" { s = s + read("m"); } write "o", s + read("r"); return tool("u", s); }`
	tool := inMain(`return arg() + read("v");`)
	p := placeOf("h", "H", "l/1", "L", "l/2", "L", "r", "R", "t", src, "u", tool, "v", "V")
	j := impl.MillJob{Outs: []string{"o"}}
	acted := wantMillActed(t, p, "t", j)
	if !isSameMillActed(acted, actedAs(millWrote(millDone("hV", 11, "l/1\nl/2\n"), "o", "hR"), sawRead("t", src), saw(2, "h", 0), saw(2, "no", 4), sawList("l/", "l/1\nl/2\n"), sawRead("r", "R"), sawRead("u", tool), sawRead("v", "V"))) {
		t.Errorf("%s", millActedShown(acted))
	}
	ask := func(what string, holds bool, q impl.MillPlace) {
		t.Helper()
		if got := impl.MillHolds(q, acted.Seen); got != holds || got != millHoldsByRules(q, acted.Seen) {
			t.Errorf("%s: holds is %v", what, got)
		}
		other := wantMillActed(t, q, "t", j)
		if isSameMillActed(other, acted) != holds {
			t.Errorf("%s: %s", what, millActedShown(other))
		}
	}
	ask("the same", true, p)
	ask("a file that is not looked at", true, placeWith(t, p, "x", "x"))
	ask("one ahead of all", true, placeWith(t, p, "!", ""))
	ask("one behind all", true, placeWith(t, p, "~", ""))
	ask("one whose name begins as that of one that is read", true, placeWith(t, p, "rr", ""))
	ask("one under the out's name", true, placeWith(t, p, "o", "old"))
	ask("m, which only another job reads", true, placeWith(t, p, "m", "M"))
	ask("a has whose file has another text", true, placeWith(t, p, "h", "other"))
	ask("a list whose files have other texts", true, placeWith(t, placeWith(t, p, "l/1", "other"), "l/2", ""))
	ask("a has whose file is gone", false, placeWithout(p, "h"))
	ask("a file that was asked for and not there", false, placeWith(t, p, "no", ""))
	ask("a list with one more", false, placeWith(t, p, "l/3", ""))
	ask("a list with one less", false, placeWithout(p, "l/1"))
	ask("a list with another", false, placeWith(t, placeWithout(p, "l/1"), "l/0", "L"))
	ask("a read of another text", false, placeWith(t, p, "r", "R2"))
	ask("a read of a file that is gone", false, placeWithout(p, "r"))
	ask("the program with another text", false, placeWith(t, p, "t", src+" "))
	ask("the program gone", false, placeWithout(p, "t"))
	ask("a tool with another text", false, placeWith(t, p, "u", tool+"\n"))
	ask("a tool's read of another text", false, placeWith(t, p, "v", ""))
	// A read of a file that is not there ends the run; it holds as long as that file is not there.
	acted = wantMillActed(t, placeWithout(p, "r"), "t", j)
	ask("still gone", true, placeWithout(placeWith(t, p, "v", "other"), "r"))
	ask("what stands behind it is gone, too", true, placeWithout(placeWithout(placeWithout(p, "r"), "u"), "v"))
	ask("there again", false, p)
	// So does that of the program.
	acted = wantMillActed(t, placeWithout(p, "t"), "t", j)
	ask("the program is still gone", true, impl.MillPlace{})
	ask("it is there", false, p)
}

// Again, by hand: which looks it takes, and what it comes to.
func TestMillAgain(t *testing.T) {
	src := inMain(`let s = ""; if has("h") { s = "h"; } s = s + list("l"); write "o", s; say s; return tool("u", read("r")) + s;`)
	tool := inMain(`if has("h") { return arg() + "+"; } return arg() + "-";`)
	j := impl.MillJob{Outs: []string{"o"}}
	seen := []impl.MillSeen{sawRead("t", src), saw(2, "h", 0), sawList("l", "L"), sawRead("r", "R"), sawRead("u", tool), saw(2, "h", 4)}
	got := wantMillAgain(t, "all of them", seen, "t", j)
	if want := actedAs(millWrote(millDone("R-hL", 11, "hL"), "o", "hL"), seen...); !isSameMillActed(got, want) {
		t.Errorf("%s, want %s", millActedShown(got), millActedShown(want))
	}
	bent := func(at int, bend func(one *impl.MillSeen)) []impl.MillSeen {
		other := slices.Clone(seen)
		bend(&other[at])
		return other
	}
	for n := range len(seen) {
		wantMillNever(t, "the first of them", seen[:n:n], "t", j)
		wantMillNever(t, "one less", slices.Delete(slices.Clone(seen), n, n+1), "t", j)
		for _, more := range append(slices.Clone(seen), saw(1, "gone", 4), saw(0, "", 0), saw(4, "u", 5), impl.MillSeen{}) {
			wantMillNever(t, "one more behind", append(slices.Clone(seen), more), "t", j)
			if more != seen[n] {
				wantMillNever(t, "one more between", slices.Insert(slices.Clone(seen), n, more), "t", j)
			}
		}
		for m := range n {
			other := slices.Clone(seen)
			other[n], other[m] = other[m], other[n]
			if n == 5 && m == 1 {
				// These are one look, so each is answered by the other's reply.
				acted := wantMillAgain(t, "changed places", other, "t", j)
				if want := actedAs(millWrote(millDone("R+L", 10, "L"), "o", "L"), other...); !isSameMillActed(acted, want) {
					t.Errorf("%s, want %s", millActedShown(acted), millActedShown(want))
				}
				continue
			}
			wantMillNever(t, "changed places", other, "t", j)
		}
		for kind := -1; kind <= 6; kind++ {
			if kind != seen[n].Kind {
				wantMillNever(t, "another kind", bent(n, func(one *impl.MillSeen) { one.Kind = kind }), "t", j)
			}
		}
		for _, name := range []string{"", "x", seen[n].Name + "x", strings.ToUpper(seen[n].Name), " "} {
			wantMillNever(t, "another name", bent(n, func(one *impl.MillSeen) { one.Name = name }), "t", j)
		}
		for _, y := range millWrongReplies() {
			wantMillNever(t, "a wrong reply", bent(n, func(one *impl.MillSeen) { one.Reply = y }), "t", j)
		}
	}
	wantMillNever(t, "nothing", nil, "t", j)
	wantMillNever(t, "another tool", seen, "u", j)
	wantMillNever(t, "another job", seen, "t", impl.MillJob{})
	for _, wrong := range millWrongJobs() {
		wantMillNever(t, "a wrong job", seen, "t", wrong)
		wantMillNever(t, "a wrong job", nil, "t", wrong)
		wantMillNever(t, "a wrong job", []impl.MillSeen{saw(1, "t", 4)}, "t", wrong)
	}
	for _, name := range append(millNoNames(), "") {
		for _, first := range []impl.MillSeen{sawRead(name, src), saw(1, name, 4), saw(1, name, 5)} {
			wantMillNever(t, "no name", append([]impl.MillSeen{first}, seen[1:]...), name, j)
			wantMillNever(t, "no name", []impl.MillSeen{first}, name, j)
		}
	}
}

// The first look, answered by each code, with nothing behind it and with something.
func TestMillAgainFirst(t *testing.T) {
	right := inMain(`return "r";`)
	for _, row := range []struct {
		reply impl.MillReply
		want  impl.MillTurn
	}{
		{impl.MillReply{Text: right}, millDone("r", 2)},
		{impl.MillReply{Text: ""}, millBroke("tool", 0)},
		{impl.MillReply{Text: "x"}, millBroke("tool", 0)},
		{impl.MillReply{Text: inMain(`return 1;`)}, millBroke("tool", 0)},
		{impl.MillReply{Text: strings.Repeat("x", 3000)}, millBroke("tool", 0)},
		{impl.MillReply{Code: 4}, millEndsBy(4, "a/tool", 0)},
		{impl.MillReply{Code: 5}, millEndsBy(5, "a/tool", 0)},
	} {
		seen := []impl.MillSeen{{Kind: 1, Name: "a/tool", Reply: row.reply}}
		if got, want := wantMillAgain(t, "first", seen, "a/tool", impl.MillJob{}), actedAs(row.want, seen...); !isSameMillActed(got, want) {
			t.Errorf("%s, want %s", millActedShown(got), millActedShown(want))
		}
		if row.want.Text == "r" {
			row.want = millBroke("lacks o", 2)
		}
		if got, want := wantMillAgain(t, "first", seen, "a/tool", impl.MillJob{Arg: "x", Outs: []string{"o"}}), actedAs(row.want, seen...); !isSameMillActed(got, want) {
			t.Errorf("%s, want %s", millActedShown(got), millActedShown(want))
		}
		for _, left := range []impl.MillSeen{seen[0], sawRead("a", "x"), saw(2, "a", 4), {}} {
			wantMillNever(t, "left over", append(slices.Clone(seen), left), "a/tool", impl.MillJob{})
			wantMillNever(t, "left over", append(slices.Clone(seen), slices.Repeat([]impl.MillSeen{left}, 100)...), "a/tool", impl.MillJob{})
		}
	}
	for code := -10; code <= 10; code++ {
		if code != 0 && code != 4 && code != 5 {
			wantMillNever(t, "a wrong code", []impl.MillSeen{saw(1, "t", code)}, "t", impl.MillJob{})
		}
	}
	for _, kind := range []int{0, 2, 3, 4, 5, -1} {
		wantMillNever(t, "a wrong kind", []impl.MillSeen{{Kind: kind, Name: "t", Reply: impl.MillReply{Text: right}}}, "t", impl.MillJob{})
		wantMillNever(t, "a wrong kind", []impl.MillSeen{saw(kind, "t", 4)}, "t", impl.MillJob{})
		wantMillNever(t, "a wrong kind", []impl.MillSeen{saw(kind, "t", 5)}, "t", impl.MillJob{})
	}
}

// Replies that no place gives, but that are valid: they are taken as Mean takes them, and told as they came.
func TestMillAgainReplies(t *testing.T) {
	ask := func(e string, one impl.MillSeen, turn impl.MillTurn) {
		t.Helper()
		seen := []impl.MillSeen{sawRead("t", inMain(e)), one}
		if got, want := wantMillAgain(t, e, seen, "t", impl.MillJob{}), actedAs(turn, seen...); !isSameMillActed(got, want) {
			t.Errorf("%s, want %s", millActedShown(got), millActedShown(want))
		}
	}
	has := `if has("a") { return "y"; } return "n";`
	ask(has, saw(2, "a", 0), millDone("y", 3))
	ask(has, saw(2, "a", 5), millDone("y", 3))
	ask(has, saw(2, "a", 4), millDone("n", 3))
	ask(has, impl.MillSeen{Kind: 2, Name: "a", Reply: impl.MillReply{Text: "text"}}, millDone("y", 3))
	ask(`return list("a") + "!";`, saw(3, "a", 4), millDone("!", 2))
	ask(`return list("a") + "!";`, saw(3, "a", 5), millDone("!", 2))
	ask(`return list("") + "!";`, sawList("", "no list"), millDone("no list!", 2))
	ask(`return list("");`, sawList("", strings.Repeat("x", 3000)), millDone(strings.Repeat("x", 3000), 2))
	ask(`return list("") + "!";`, sawList("", strings.Repeat("x", 3000)), millBroke("long in main", 2))
	ask(`return read("a");`, saw(1, "a", 4), millEndsBy(4, "a", 2))
	ask(`return read("a");`, saw(1, "a", 5), millEndsBy(5, "a", 2))
	ask(`return tool("a", "");`, saw(1, "a", 4), millEndsBy(4, "a", 2))
	ask(`return tool("a", "");`, saw(1, "a", 5), millEndsBy(5, "a", 2))
	ask(`return tool("a", "x");`, sawRead("a", inMain(`return arg();`)), millDone("x", 4))
	ask(`return tool("a", "x");`, sawRead("a", ""), millBroke("tool in main", 2))
	// Each look may be answered otherwise than before, the program's own file, too.
	ask(`return read("t");`, sawRead("t", "other"), millDone("other", 2))
	ask(`return read("t");`, saw(1, "t", 4), millEndsBy(4, "t", 2))
	two := inMain(`return read("a") + read("a");`)
	if got := wantMillAgain(t, "twice", []impl.MillSeen{sawRead("t", two), sawRead("a", "1"), sawRead("a", "2")}, "t", impl.MillJob{}); got.Text != "12" {
		t.Errorf("%s", millActedShown(got))
	}
	// The kind of a tool's look is that of a read.
	wantMillNever(t, "a tool's kind", []impl.MillSeen{sawRead("t", inMain(`return tool("a", "");`)), {Kind: 4, Name: "a", Reply: impl.MillReply{Text: inMain(`return "";`)}}}, "t", impl.MillJob{})
	// What is left over behind each end.
	for _, ends := range []string{`return "r";`, `fail "f";`, `say dec(1 / 0); return "";`, `return read("");`, `while true { } return "";`, `return read("a");`, `write "o", ""; return "";`} {
		seen := []impl.MillSeen{sawRead("t", inMain(ends))}
		if strings.Contains(ends, `"a"`) {
			seen = append(seen, saw(1, "a", 4))
		}
		if got := wantMillAgain(t, ends, seen, "t", impl.MillJob{}); got.Code == 9 {
			t.Errorf("%s: %s", ends, millActedShown(got))
		}
		wantMillNever(t, ends, append(slices.Clone(seen), saw(1, "a", 4)), "t", impl.MillJob{})
		wantMillNever(t, ends, append(slices.Clone(seen), saw(2, "b", 4)), "t", impl.MillJob{})
	}
}

// As many as there can be, and one more.
func TestMillAgainMost(t *testing.T) {
	t.Parallel()
	for _, many := range []int{99, 100, 101, 1000} {
		src := inMain(fmt.Sprintf(`let i = 0; while i < %d { i = i + 1; if has("a") { } } return "r";`, many))
		seen := append([]impl.MillSeen{sawRead("t", src)}, slices.Repeat([]impl.MillSeen{saw(2, "a", 4)}, 150)...)
		for _, n := range []int{1, 50, 99, 100, 101, 102, 103, 150} {
			got := wantMillAgain(t, fmt.Sprint(n, " of ", many), seen[:n:n], "t", impl.MillJob{})
			want := impl.MillActed{Code: 9}
			switch {
			case n == many+1 && many <= 100:
				want = actedAs(millDone("r", 4+many+1+2*many), seen[:n]...)
			case n == 101 && many > 100:
				want = actedAs(millEndsBy(3, "", 3+101+200+2), seen[:n]...)
			}
			if !isSameMillActed(got, want) {
				t.Errorf("%d of %d: %s, want %s", n, many, millActedShown(got), millActedShown(want))
			}
		}
	}
}

// millPlaceNames are names that drawn programs look at.
var millPlaceNames = strings.Fields(`" # 9 \ a a"b b if l/x o/p t z`)

// millRecipe is a program of looks, of what is made of them, and of writes. Its tools are called with longer and longer args, so that this comes to an end.
func (d *clayDice) millRecipe() string {
	statements := `let s = ""; `
	for range 1 + d.below(8) {
		name := millQuoted(d.pick(millPlaceNames...))
		statements += strings.ReplaceAll(d.pick(
			`if has(NAME) { s = s + "h"; } `, `if has(NAME) { s = s + read(NAME); } `, `if !has(NAME) { s = s + "-"; } `, `s = s + read(NAME); `,
			`s = s + list(NAME); `, `s = s + list("" + ""); `, `if len(arg()) < 3 && has(NAME) && find(read(NAME), "main") > 0 { s = s + tool(NAME, arg() + "x"); } `,
			`write "o", s; `, `write "z", dec(len(s)) + arg(); `, `say s; `, `s = cut(s, 0, len(s) / 2); `,
		), "NAME", name)
	}
	return inMain(statements + d.pick(`return s;`, `return s;`, `return s;`, `fail s;`, `return read("a");`))
}

// millTextsFor are texts of files, programs among them.
func (m *millMaker) millTextsFor(many int) []string {
	texts := []string{"", "x", inMain(`return arg() + "t";`), inMain(`say list(""); if has(arg()) { return read("a"); } return tool("b", "a");`)}
	for len(texts) < many {
		texts = append(texts, m.millRecipe(), "a short text")
		for _, y := range m.millDrawnReplies() {
			if y.Code == 0 && len(y.Text) < 600 {
				texts = append(texts, y.Text)
			}
		}
	}
	return texts
}

func (d *clayDice) millDrawnPlace(texts []string) impl.MillPlace {
	var p impl.MillPlace
	for _, name := range millPlaceNames {
		if d.below(3) > 0 {
			p.Files = append(p.Files, impl.MillFile{Name: name, Text: d.pick(texts...)})
		}
	}
	return p
}

// millChanged is a place in which files are set, put beside or taken away.
func (d *clayDice) millChanged(p impl.MillPlace, texts []string) impl.MillPlace {
	for range 1 + d.below(3) {
		name := d.pick(append(millPlaceNames, "a/new", "zz")...)
		if d.below(3) == 0 {
			p = placeWithout(p, name)
			continue
		}
		p, _ = millLayByRules(p, filesOf(name, d.pick(texts...)))
	}
	return p
}

// millDrawnAction is a program that fits, in a place under one of the names, with a job for it.
func (m *millMaker) millDrawnAction(i int, texts []string) (b millBush, p impl.MillPlace, tool string, j impl.MillJob) {
	for {
		b = m.program(m.below(4), i%4)
		if i%5 != 0 {
			b = m.millTamed(b)
		}
		if i%2 == 0 {
			tree, _ := impl.MillParse(m.millRecipe())
			b, _, _ = millBushOf(tree.Nodes)
		}
		if text := impl.MillPrint(b.tree()); text != "" && len(text) <= 1500 {
			tool = m.pick(millPlaceNames...)
			p, _ = millLayByRules(m.millDrawnPlace(texts), filesOf(tool, text))
			return b, p, tool, m.millDrawnJob(b)
		}
	}
}

// Promises 27 and 28 for drawn programs, in drawn places, with drawn jobs: what holds elsewhere is the same there; what does not is seen.
func TestMillActDrawn(t *testing.T) {
	t.Parallel()
	dice := clayDice(77)
	m := &millMaker{clayDice: &dice}
	texts := m.millTextsFor(300)
	ends := map[string]int{}
	for i := range 1600 {
		_, p, tool, j := m.millDrawnAction(i, texts)
		acted := wantMillActed(t, p, tool, j)
		ends[strings.Fields("done failed broken spent missing")[acted.Code]]++
		for _, one := range acted.Seen[1:] {
			ends[fmt.Sprint("look ", one.Kind, " code ", one.Reply.Code)]++
		}
		if len(acted.Files) > 0 {
			ends["files"]++
		}
		for range 4 {
			q := dice.millChanged(p, texts)
			holds := millHoldsByRules(q, acted.Seen)
			if got := impl.MillHolds(q, acted.Seen); got != holds {
				t.Errorf("%.800q in %s: %v", fmt.Sprint(acted.Seen), millPlaceShown(q), got)
			}
			other := wantMillActed(t, q, tool, j)
			if isSameMillActed(other, acted) != holds {
				t.Errorf("holds is %v: %s in %s, %s in %s", holds, millActedShown(acted), millPlaceShown(p), millActedShown(other), millPlaceShown(q))
			}
			// Up to the first look that is answered otherwise both make the same looks, this one included.
			for n, one := range acted.Seen {
				if len(other.Seen) <= n || other.Seen[n].Kind != one.Kind || other.Seen[n].Name != one.Name {
					t.Errorf("look %d: %.500q, elsewhere %.500q", n, fmt.Sprint(acted.Seen), fmt.Sprint(other.Seen))
					break
				}
				if other.Seen[n].Reply != one.Reply {
					break
				}
			}
			ends[fmt.Sprint("holds ", holds)]++
			if holds && len(acted.Seen) > 2 && !isSameMillPlace(p, q) {
				ends["holds elsewhere"]++
			}
		}
		if t.Failed() {
			return
		}
	}
	for _, what := range []string{"done", "failed", "broken", "spent", "missing", "files", "look 1 code 0", "look 1 code 4", "look 2 code 0", "look 2 code 4", "look 3 code 0", "holds true", "holds false", "holds elsewhere"} {
		if ends[what] < 20 {
			t.Errorf("%s: %d of %v", what, ends[what], ends)
		}
	}
}

// Again of what was seen in drawn places, with looks taken out, put in, doubled, turned around and changed.
func TestMillAgainDrawn(t *testing.T) {
	t.Parallel()
	dice := clayDice(78)
	m := &millMaker{clayDice: &dice}
	texts := m.millTextsFor(200)
	replies := there(texts...)
	codes := map[int]int{}
	for i := range 1200 {
		_, p, tool, j := m.millDrawnAction(i, texts)
		acted := impl.MillAct(p, tool, j)
		if len(acted.Seen) < 2 && i%4 > 0 {
			continue
		}
		for range 6 {
			seen := slices.Clone(acted.Seen)
			at := dice.below(len(seen))
			switch dice.below(8) {
			case 0:
				seen = slices.Delete(seen, at, at+1)
			case 1:
				seen = slices.Insert(seen, at, seen[dice.below(len(seen))])
			case 2:
				to := dice.below(len(seen))
				seen[at], seen[to] = seen[to], seen[at]
			case 3:
				seen[at].Kind = dice.below(6)
			case 4:
				seen[at].Name = dice.pick(append(millPlaceNames, "", " ")...)
			case 5:
				seen = append(seen, seen[at])
			default:
				// The run may then go another way, for which the looks are or are not there.
				seen[at].Reply = replies[dice.below(len(replies))]
				if dice.below(2) == 0 {
					seen[at].Reply = impl.MillReply{Code: 4 + dice.below(2)}
					seen = seen[:at+1]
				}
			}
			codes[wantMillAgain(t, "bent", seen, tool, j).Code]++
		}
		if t.Failed() {
			return
		}
	}
	for _, code := range []int{0, 1, 2, 4, 5, 9} {
		if codes[code] < 20 {
			t.Errorf("codes %v", codes)
		}
	}
}

// wantMillWrittenAnew asks for promise 29 of a program in a place: under its name with each of these texts it acts the same, but for what its first look was answered. It gives false where the run reads its own file, so that its text can be seen.
func wantMillWrittenAnew(t *testing.T, p impl.MillPlace, tool string, j impl.MillJob, texts ...string) bool {
	t.Helper()
	first, _ := millLayByRules(p, filesOf(tool, texts[0]))
	acted := wantMillActed(t, first, tool, j)
	if slices.ContainsFunc(acted.Seen[1:], func(one impl.MillSeen) bool { return one.Kind == 1 && one.Name == tool }) {
		return false
	}
	for _, text := range texts[1:] {
		q, code := millLayByRules(p, filesOf(tool, text))
		if code != 0 {
			t.Fatalf("%q: code %d", text, code)
		}
		other := wantMillActed(t, q, tool, j)
		want := acted
		want.Seen = append([]impl.MillSeen{sawRead(tool, text)}, acted.Seen[1:]...)
		if !isSameMillActed(other, want) {
			t.Errorf("%.1000q: %s\nwritten as %.1000q: %s", texts[0], millActedShown(acted), text, millActedShown(other))
		}
	}
	return true
}

// millWrittenAnew is a text, and that of its tree printed, and of what its tree is folded to.
func millWrittenAnew(t *testing.T, src string) []string {
	t.Helper()
	tree, fault := impl.MillParse(src)
	if fault.Code != 0 || impl.MillCheck(tree).Code != 0 {
		t.Fatalf("%q: %+v", src, fault)
	}
	return []string{src, impl.MillPrint(tree), impl.MillPrint(impl.MillFold(tree))}
}

// Promise 29 for programs written by hand, with gaps and brackets.
func TestMillActWrittenAnew(t *testing.T) {
	files := []string{"a", "A", "ab", "B", "l/x", "", "u", inMain(`say "u" + "v"; return arg() + dec(1+2);`)}
	folded := 0
	for _, src := range []string{
		`fn main()->text{return "r";}`,
		"# a note\nfn main ( ) -> text\n{ # begins\n return ( ( \"r\" ) ) ; }\n# ends",
		`fn main()->text{let n=(1+2)*(3-(4));if((n==0-3)){say dec((n));}return(read(("a")))+("b"+"c");}`,
		`fn main() -> text { if (true && has("a" + "b")) || has("no") { write ("o"), (dec((1 + 2) * 3)); } else { write "o", ""; } return list("" + "l/"); }`,
		`fn main() -> text { if false && has("a") { say "no"; } if true || has("a") { say "yes"; } write "o", cut("hello", 0 + 1, (2 + 2)); return tool("u" + "", "x" + "y"); }`,
		`fn main() -> text { write "o", ""; return dec(1 / (2 - 2)); }`,
		`fn main() -> text { write "o", ""; return read("no" + "ne"); }`,
		`fn main() -> text { fail ("a" + ("b" + arg())); }`,
		`fn main() -> text { let i = 0 ; while (i) < (2 * 3) { i = (i + 1) ; say dec(i) ; } return "" ; }`,
		`fn main() -> text { while !(1 == 2) { } return ""; }`,
		`fn main() -> text { while has("a") || false { } return ""; }`,
		`fn main() -> text { write "o", "\61\0a" + chr(97u8); return f(2 + 2); } fn f(n i64) -> text { if n == (0) { return ((arg())); } return f(n - (1)); }`,
		`fn main() -> text { if has("t") { return list("t"); } return ""; }`,
	} {
		texts := millWrittenAnew(t, src)
		if texts[1] == src {
			t.Errorf("%q: not written anew", src)
		}
		if texts[2] != texts[1] {
			folded++
		}
		for _, outs := range []string{"", "o", "o p"} {
			for _, arg := range []string{"", "a"} {
				if !wantMillWrittenAnew(t, placeOf(files...), "t", impl.MillJob{Arg: arg, Outs: strings.Fields(outs)}, texts...) {
					t.Errorf("%q reads itself", src)
				}
			}
		}
	}
	if folded < 8 {
		t.Errorf("only %d are folded", folded)
	}
	// A tool that is written anew in its place is seen with another text, and does the same.
	src := inMain(`return tool("u", "x") + read("a");`)
	p := placeOf(append(files, "v", src)...)
	before := wantMillActed(t, p, "v", impl.MillJob{})
	for _, text := range millWrittenAnew(t, p.Files[3].Text)[1:] {
		after := wantMillActed(t, placeWith(t, p, "u", text), "v", impl.MillJob{})
		want := before
		want.Seen = slices.Clone(before.Seen)
		want.Seen[1] = sawRead("u", text)
		if !isSameMillActed(after, want) {
			t.Errorf("%q: %s, want %s", text, millActedShown(after), millActedShown(want))
		}
	}
}

// Promise 29 for drawn programs, with drawn gaps and brackets.
func TestMillActWrittenAnewDrawn(t *testing.T) {
	t.Parallel()
	dice := clayDice(79)
	m := &millMaker{clayDice: &dice}
	texts := m.millTextsFor(200)
	rules := millRules()
	counts := map[string]int{}
	for i := range 1200 {
		b, p, tool, j := m.millDrawnAction(i, texts)
		src := b.text(func() int { return max(0, dice.below(5)-2) })
		if len(src) > 1200 {
			continue
		}
		if src = dice.millSpread(rules, src); len(src) > 3000 {
			continue
		}
		all := millWrittenAnew(t, src)
		if all[1] != all[2] {
			counts["folded"]++
		}
		if wantMillWrittenAnew(t, p, tool, j, all...) {
			counts["written anew"]++
		} else {
			counts["reads itself"]++
		}
		if t.Failed() {
			return
		}
	}
	for what, least := range map[string]int{"folded": 200, "written anew": 600, "reads itself": 10} {
		if counts[what] < least {
			t.Errorf("%s: %v", what, counts)
		}
	}
}

// millMemoryActions are actions of all sorts, whose texts stand in several places.
func millMemoryActions() []millAction {
	one := string([]byte("one text"))
	reads := inMain(`let r = read("a"); say r; say r; write "first", r; write "second", arg(); return r + list("");`)
	tools := inMain(`write "first", tool("u", arg()); write "second", tool("u", "x"); return cut(arg(), 1, 3);`)
	looks := inMain(`if has("a") { say list("a"); } write "first", ""; write "second", list("") + "."; return read("a");`)
	return []millAction{
		{place: placeOf("a", one, "b", one, "t", reads), tool: "t", arg: one},
		{place: placeOf("a", one, "t", tools, "u", inMain(`say arg(); return read("a") + arg();`)), tool: "t", arg: "the arg"},
		{place: placeOf("a", one, "first", one, "second", "", "t", looks), tool: "t"},
		{place: placeOf("a", one, "t", inMain(`fail read("a");`)), tool: "t"},
		{place: placeOf("a", one, "t", inMain(`return read(arg());`)), tool: "t", arg: "gone"},
		{place: placeOf("a", one, "t", inMain(`return read("t");`)), tool: "t"},
		{place: placeOf("a", one), tool: "a"},
		{place: placeOf("a", one), tool: "gone"},
		{place: placeOf("a", one), tool: ""},
		{place: placeOf("b", one, "a", one), tool: "a"},
	}
}

// No argument is changed, nor what lies behind its lists; answers are new memory, and no two parts of one share any.
func TestMillActOwnMemory(t *testing.T) {
	pieces := 0
	ask := func(what string, answer any, seen []func() string, before []string, args ...any) {
		t.Helper()
		wantNewMemory(t, answer, args...)
		pieces += len(memoryOf(reflect.ValueOf(answer), "", nil))
		for i := range seen {
			if seen[i]() != before[i] {
				t.Errorf("%s: argument %d was changed", what, i)
			}
		}
	}
	for _, a := range millMemoryActions() {
		p, seenPlace := roomyOf(a.place)
		j, seenJob := roomyOf(impl.MillJob{Arg: a.arg, Outs: []string{"first", "second"}})
		tool := string([]byte(a.tool))
		all, before := []func() string{seenPlace, seenJob}, []string{seenPlace(), seenJob()}
		acted := impl.MillAct(p, tool, j)
		ask("act", acted, all, before, p, j, tool)
		seen, seenSeen := roomyOf(acted.Seen)
		all, before = append(all, seenSeen), append(before, seenSeen())
		again := impl.MillAgain(seen, tool, j)
		ask("again", again, all, before, seen, j, tool)
		if !isSameMillActed(again, acted) {
			t.Errorf("%s, again %s", millActedShown(acted), millActedShown(again))
		}
		if len(seen) > 0 {
			ask("again", impl.MillAgain(seen[:len(seen)-1], tool, j), all, before, seen, j, tool)
		}
		ask("holds", impl.MillHolds(p, seen), all, before)
		ask("valid", impl.MillValidPlace(p), all, before)
		for kind := range 5 {
			for _, name := range []string{"", "a", "t", "gone"} {
				ask("see", impl.MillSee(p, kind, name), all, before, p)
			}
		}
		for _, files := range [][]impl.MillFile{nil, filesOf("a", "other"), filesOf("z", p.Files[0].Text, "b", p.Files[0].Text, "z", p.Files[0].Text), filesOf(" ", ""), manyFiles(40)} {
			roomy, seenFiles := roomyOf(files)
			laid, _ := impl.MillLay(p, roomy)
			ask("lay", laid, append(all, seenFiles), append(before, seenFiles()), p, roomy)
		}
		// What was answered before does not change with what is done to a later answer.
		for i := range again.Seen[:cap(again.Seen)] {
			again.Seen[:cap(again.Seen)][i] = impl.MillSeen{Name: "other"}
		}
		for i := range again.Files[:cap(again.Files)] {
			again.Files[:cap(again.Files)][i] = impl.MillFile{Name: "other"}
		}
		if other := impl.MillAct(p, tool, j); !isSameMillActed(other, acted) || !isSameMillActed(acted, millActByRules(p, tool, j)) {
			t.Errorf("%s, then %s", millActedShown(acted), millActedShown(other))
		}
	}
	if pieces < 300 {
		t.Errorf("only %d pieces of memory", pieces)
	}
}

// Many at once: nothing is kept between calls.
func TestMillActKeepsNothing(t *testing.T) {
	var all []func() string
	for n := range 8 {
		arg := fmt.Sprint("n", n)
		src := inMain(`let i = 0; while i < 20 { i = i + 1; say arg() + dec(i); write "o", arg(); if has(arg()) { } } return read(arg()) + tool("u", arg());`)
		p := placeOf(arg, arg+"!", "t", src, "u", inMain(`return arg() + "?";`))
		j := impl.MillJob{Arg: arg, Outs: []string{"o"}}
		all = append(all, func() string {
			acted := impl.MillAct(p, "t", j)
			again := impl.MillAgain(acted.Seen, "t", j)
			never := impl.MillAgain(acted.Seen[:10], "t", j)
			if acted.Text != arg+"!"+arg+"?" || len(acted.Seen) != 23 || len(acted.Said) != 20 || !isSameMillActed(acted, again) || never.Code != 9 || !impl.MillHolds(p, acted.Seen) {
				return millActedShown(acted)
			}
			return ""
		})
	}
	wantAtOnce(t, all)
}

// Behind an answer nothing is under way any more, also where looks were left over.
func TestMillAgainEnds(t *testing.T) {
	before := runtime.NumGoroutine()
	src := inMain(`if has("a") { } return "r";`)
	seen := append([]impl.MillSeen{sawRead("t", src)}, slices.Repeat([]impl.MillSeen{saw(2, "a", 4)}, 100)...)
	for range 500 {
		for _, n := range []int{0, 1, 2, 3, 101} {
			impl.MillAgain(seen[:n], "t", impl.MillJob{})
			impl.MillAgain(seen[:n], "u", impl.MillJob{})
			impl.MillAgain(seen[:n], "t", impl.MillJob{Outs: []string{"o"}})
		}
	}
	for tries := 0; runtime.NumGoroutine() > before+50; tries++ {
		if tries == 100 {
			t.Fatalf("%d are under way, before %d", runtime.NumGoroutine(), before)
		}
		time.Sleep(10 * time.Millisecond)
	}
}

func FuzzMillAct(f *testing.F) {
	f.Add(inMain(`if has("a") { write "o", read("a"); } say list("") + arg(); return tool("b", "x");`), "t", "arg", "o", "a", "A", inMain(`return arg() + read("t");`))
	f.Add(inMain(`return tool(arg(), arg() + "x");`), "t", "t", "", "a", "", "")
	f.Add("", "a", "", "o", "o", inMain(`return list("o");`), "fn")
	f.Fuzz(func(t *testing.T, src, tool, arg, outs, name, first, second string) {
		if tree, _ := impl.MillParse(src); len(tree.Nodes) > 300 || len(src) > 3000 {
			return
		}
		j := impl.MillJob{Arg: arg, Outs: strings.Fields(outs)}
		p := impl.MillPlace{}
		for _, file := range filesOf("b", second, name, first, tool, src) {
			files := []impl.MillFile{file}
			_, code := millLayByRules(p, files)
			if laid := wantMillLaid(t, p, files, code); code == 0 {
				p = laid
			}
		}
		acted := wantMillActed(t, p, tool, j)
		for n := range acted.Seen {
			wantMillNever(t, "the first of them", acted.Seen[:n], tool, j)
			one := acted.Seen[n]
			if got := impl.MillSee(p, one.Kind, one.Name); got != one.Reply {
				t.Errorf("%+v: %+v", one, got)
			}
		}
		q, _ := millLayByRules(p, filesOf(name, second))
		if impl.MillValidPlace(q) && impl.MillHolds(q, acted.Seen) && acted.Code != 9 && !isSameMillActed(wantMillActed(t, q, tool, j), acted) {
			t.Errorf("%s in %s", millActedShown(acted), millPlaceShown(q))
		}
	})
}
