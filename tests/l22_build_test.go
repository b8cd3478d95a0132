package tests

import (
	"fmt"
	"reflect"
	"slices"
	"strings"
	"testing"

	"loop.example/kilnyard/impl"
)

func isSameKept(a, b impl.HouseKept) bool {
	return isSameTarget(a.Target, b.Target) && isSameMade(a.Made, b.Made)
}

func isSameTarget(a, b impl.ClayTarget) bool {
	return isSameTargets([]impl.ClayTarget{a}, []impl.ClayTarget{b})
}

func isSameBuilt(a, b impl.HouseBuilt) bool {
	return a.Code == b.Code && slices.Equal(a.Replies, b.Replies) && slices.Equal(a.Never, b.Never) && slices.Equal(a.Ran, b.Ran) && slices.EqualFunc(a.Shelf.Kept, b.Shelf.Kept, isSameKept)
}

func keptShown(kept ...impl.HouseKept) string {
	return fmt.Sprintf("%.2500q", fmt.Sprintf("%+v", kept))
}

// builtShown leaves out what lies on the shelf, but for how much it is.
func builtShown(b impl.HouseBuilt) string {
	return fmt.Sprintf("code %d, %.1000q, never %q, ran %q, %d kept", b.Code, fmt.Sprint(b.Replies), b.Never, b.Ran, len(b.Shelf.Kept))
}

func shelfOf(kept ...impl.HouseKept) impl.HouseShelf { return impl.HouseShelf{Kept: kept} }

func isAscending(texts []string) bool {
	for i := 1; i < len(texts); i++ {
		if texts[i-1] >= texts[i] {
			return false
		}
	}
	return true
}

// isHonestByRules is a second reading of what is honest, word by word.
func isHonestByRules(k impl.HouseKept) bool {
	target, made := k.Target, k.Made
	for _, name := range slices.Concat([]string{target.Name, target.Tool}, target.Ins, target.Outs) {
		if !isMillFileName(name) {
			return false
		}
	}
	if len(target.Arg) > 3000 || len(target.Outs) < 1 || len(target.Outs) > 20 || len(target.Ins) > 200 || !isAscending(target.Ins) || !isAscending(target.Outs) {
		return false
	}
	if !made.Over || made.Name != target.Name || made.Wait != "" || len(made.Seen) > len(target.Ins)+1+100 {
		return false
	}
	for _, one := range made.Seen {
		y := one.Reply
		if y.Code != 0 && y.Code != 4 && y.Code != 5 || len(y.Text) > 3000 || y.Code != 0 && y.Text != "" {
			return false
		}
	}
	left := made.Seen
	again := houseRunByRules(target, func(kind int, name string) (impl.MillReply, bool) {
		if len(left) == 0 || left[0].Kind != kind || left[0].Name != name {
			return impl.MillReply{}, false
		}
		y := left[0].Reply
		left = left[1:]
		return y, true
	})
	return len(left) == 0 && isSameMade(again, made)
}

// houseBuildByRules is a second reading of a build: targets that are wanted are asked again and again, in the order of turn, until nothing more comes of it.
func houseBuildByRules(p impl.MillPlace, main string, s impl.HouseShelf, names []string, ascending bool) impl.HouseBuilt {
	plan := impl.HousePlan(p, main)
	if plan.Code != 0 || len(names) > 60 || len(s.Kept) > 100 {
		return impl.HouseBuilt{Code: 1}
	}
	var honest []impl.HouseKept
	for _, k := range s.Kept {
		if slices.ContainsFunc(plan.Targets, func(target impl.ClayTarget) bool { return isSameTarget(target, k.Target) }) && isHonestByRules(k) {
			honest = append(honest, k)
		}
	}
	h := &houseReader{p, plan.Targets, make([]impl.HouseMade, len(plan.Targets))}
	wanted, anew := make([]bool, len(plan.Targets)), make([]bool, len(plan.Targets))
	changed := true
	want := func(name string) {
		for at, target := range plan.Targets {
			if slices.Contains(target.Outs, name) && !wanted[at] {
				wanted[at], changed = true, true
			}
		}
	}
	for _, name := range names {
		want(name)
	}
	for changed {
		changed = false
		for _, at := range turnOf(len(plan.Targets), ascending) {
			if !wanted[at] || h.made[at].Over {
				continue
			}
			h.made[at], anew[at] = h.comesBy(honest, plan.Targets[at])
			changed = changed || h.made[at].Over
			want(h.made[at].Wait)
		}
	}
	built := impl.HouseBuilt{Shelf: shelfOf(slices.Clone(s.Kept)...)}
	for _, name := range names {
		y, is := h.look(1, name)
		built.Replies = append(built.Replies, y)
		if !is && !slices.Contains(built.Never, name) {
			built.Never = append(built.Never, name)
		}
	}
	slices.Sort(built.Never)
	for at, made := range h.made {
		if made.Over && anew[at] {
			built.Ran = append(built.Ran, made.Name)
			built.Shelf.Kept = append(built.Shelf.Kept, impl.HouseKept{Target: plan.Targets[at], Made: made})
		}
	}
	built.Shelf.Kept = built.Shelf.Kept[:min(100, len(built.Shelf.Kept))]
	return built
}

// comesBy is what a target comes to as things stand, and whether it was run anew.
func (h *houseReader) comesBy(honest []impl.HouseKept, target impl.ClayTarget) (impl.HouseMade, bool) {
	for _, k := range honest {
		if !isSameTarget(k.Target, target) {
			continue
		}
		other := false
		for _, one := range k.Made.Seen {
			y, is := h.look(one.Kind, one.Name)
			if !is {
				return impl.HouseMade{Name: target.Name, Wait: one.Name}, false
			}
			if y != one.Reply {
				other = true
				break
			}
		}
		if !other {
			return k.Made, false
		}
	}
	return houseRunByRules(target, h.look), true
}

// wantBuild asks Build for all that is said of it: it is the second reading, in whatever order this is made; and promises 33 to 35.
func wantBuild(t *testing.T, p impl.MillPlace, main string, s impl.HouseShelf, names []string) impl.HouseBuilt {
	t.Helper()
	before := fmt.Sprintf("%q", fmt.Sprint(p, s, names))
	got := impl.HouseBuild(p, main, s, names)
	if fmt.Sprintf("%q", fmt.Sprint(p, s, names)) != before {
		t.Errorf("%s, %s: changed", millPlaceShown(p), keptShown(s.Kept...))
	}
	for _, ascending := range []bool{true, false} {
		if want := houseBuildByRules(p, main, s, names, ascending); !isSameBuilt(got, want) {
			t.Errorf("%q of %q in %s with %s: got %s, want %s", names, main, millPlaceShown(p), keptShown(s.Kept...), builtShown(got), builtShown(want))
			return got
		}
	}
	if got.Code != 0 {
		if !isSameBuilt(got, impl.HouseBuilt{Code: 1}) {
			t.Errorf("%s", builtShown(got))
		}
		return got
	}
	wantPromisedReplies(t, p, main, names, got)
	wantPromisedRan(t, p, main, s, names, got)
	wantPromisedShelf(t, p, main, s, names, got)
	return got
}

// wantPromisedReplies asks for promise 33.
func wantPromisedReplies(t *testing.T, p impl.MillPlace, main string, names []string, got impl.HouseBuilt) {
	t.Helper()
	if len(got.Replies) != len(names) || !isAscending(got.Never) {
		t.Errorf("%q: %s", names, builtShown(got))
		return
	}
	known := map[string]houseCame{}
	for i, name := range names {
		if _, there := known[name]; !there {
			y, is := impl.HouseComes(p, main, name)
			known[name] = houseCame{y, is}
		}
		y, is := known[name].reply, known[name].is
		if got.Replies[i] != y || slices.Contains(got.Never, name) == is {
			t.Errorf("%q in %s comes to %+v, %v: %s", name, millPlaceShown(p), y, is, builtShown(got))
		}
	}
	for _, name := range got.Never {
		if !slices.Contains(names, name) {
			t.Errorf("%q never comes, and is none of %q", name, names)
		}
	}
}

// wantPromisedRan asks for promises 34 and 35: no target was run for which an honest run on the shelf has seen just what is so, and none whose name is not ascending or whose run is never over.
func wantPromisedRan(t *testing.T, p impl.MillPlace, main string, s impl.HouseShelf, names []string, got impl.HouseBuilt) {
	t.Helper()
	h := &houseReader{p, impl.HousePlan(p, main).Targets, impl.HouseMeaning(p, main)}
	if !isAscending(got.Ran) {
		t.Errorf("ran %q", got.Ran)
	}
	for at, target := range h.targets {
		if !slices.Contains(got.Ran, target.Name) {
			continue
		}
		if !h.made[at].Over {
			t.Errorf("%q is never over, and was run to its end", target.Name)
		}
		for _, k := range s.Kept {
			if isSameTarget(k.Target, target) && h.holds(k.Made.Seen) && isHonestByRules(k) {
				t.Errorf("%q was run, though it is remembered: %s", target.Name, keptShown(k))
			}
		}
	}
}

// holds says whether looks are answered so in the end.
func (h *houseReader) holds(seen []impl.MillSeen) bool {
	for _, one := range seen {
		if y, is := h.look(one.Kind, one.Name); !is || y != one.Reply {
			return false
		}
	}
	return true
}

// wantPromisedShelf asks what came out: the shelf that was there, and what was run behind it, as it is meant; and, where there was room, nothing is run with it (promise 34).
func wantPromisedShelf(t *testing.T, p impl.MillPlace, main string, s impl.HouseShelf, names []string, got impl.HouseBuilt) {
	t.Helper()
	many := len(s.Kept)
	if len(got.Shelf.Kept) != min(100, many+len(got.Ran)) || !slices.EqualFunc(got.Shelf.Kept[:many], s.Kept, isSameKept) {
		t.Errorf("%d were kept, %d are: %s", many, len(got.Shelf.Kept), builtShown(got))
		return
	}
	meant := impl.HouseMeaning(p, main)
	for i, k := range got.Shelf.Kept[many:] {
		at := slices.IndexFunc(meant, func(made impl.HouseMade) bool { return made.Name == got.Ran[i] })
		if k.Target.Name != got.Ran[i] || at < 0 || !isSameMade(k.Made, meant[at]) || !impl.HouseHonest(k) {
			t.Errorf("%q was run, and kept as %s", got.Ran[i], keptShown(k))
		}
	}
	again := impl.HouseBuild(p, main, got.Shelf, names)
	left := got.Ran[len(got.Shelf.Kept)-many:]
	if !slices.Equal(again.Ran, left) || !slices.Equal(again.Replies, got.Replies) || !slices.Equal(again.Never, got.Never) || !slices.EqualFunc(again.Shelf.Kept, got.Shelf.Kept, isSameKept) {
		t.Errorf("%q in %s: %s, and again %s", names, millPlaceShown(p), builtShown(got), builtShown(again))
	}
}

// wantHouseBuilt asks for what was run, and for the reply to each name: its code and its text, or never.
func wantHouseBuilt(t *testing.T, p impl.MillPlace, s impl.HouseShelf, names, ran string, replies ...string) impl.HouseShelf {
	t.Helper()
	got := wantBuild(t, p, "main", s, strings.Fields(names))
	var told []string
	for i, name := range strings.Fields(names) {
		one := strings.TrimSuffix(fmt.Sprintf("%d %s", got.Replies[i].Code, got.Replies[i].Text), " ")
		if slices.Contains(got.Never, name) {
			one = "never"
		}
		told = append(told, one)
	}
	if strings.Join(got.Ran, " ") != ran || !slices.Equal(told, replies) {
		t.Errorf("%q in %s: ran %q, want %q; replies %q, want %q", names, millPlaceShown(p), got.Ran, ran, told, replies)
	}
	return got.Shelf
}

// shelfFrom is what is remembered of a build from nothing.
func shelfFrom(t *testing.T, p impl.MillPlace, names string) impl.HouseShelf {
	t.Helper()
	got := wantBuild(t, p, "main", impl.HouseShelf{}, strings.Fields(names))
	if got.Code != 0 {
		t.Fatalf("%s: %s", millPlaceShown(p), builtShown(got))
	}
	return got.Shelf
}

// keptBy is the run of a target, its looks being answered so.
func keptBy(target impl.ClayTarget, answer func(kind int, name string) impl.MillReply) impl.HouseKept {
	return impl.HouseKept{Target: target, Made: houseRunByRules(target, func(kind int, name string) (impl.MillReply, bool) { return answer(kind, name), true })}
}

// keptIn is the run of a target told by words in a place, whatever the place's packages tell.
func keptIn(p impl.MillPlace, words string) impl.HouseKept {
	return keptBy(orderOf(words), func(kind int, name string) impl.MillReply { return millSeeByRules(p, kind, name) })
}

// cloneOf is a kept run that can be bent without bending the one that it was.
func cloneOf(k impl.HouseKept) impl.HouseKept {
	k.Target.Ins, k.Target.Outs = slices.Clone(k.Target.Ins), slices.Clone(k.Target.Outs)
	k.Made.Files, k.Made.Said, k.Made.Seen = slices.Clone(k.Made.Files), slices.Clone(k.Made.Said), slices.Clone(k.Made.Seen)
	return k
}

func TestHouseBuildConstants(t *testing.T) {
	if impl.HouseMaxKept != 100 || impl.ClayMaxTold != 60 || impl.ClayMaxList != 200 || impl.MillMaxLooks != 100 {
		t.Error(impl.HouseMaxKept, impl.ClayMaxTold, impl.ClayMaxList, impl.MillMaxLooks)
	}
}

// wantHonest holds Honest against the second reading, and against what is said here.
func wantHonest(t *testing.T, what string, want bool, k impl.HouseKept) {
	t.Helper()
	before := keptShown(k)
	if got, rules := impl.HouseHonest(k), isHonestByRules(k); got != want || rules != want {
		t.Errorf("%s: %v, by rules %v, want %v: %s", what, got, rules, want, keptShown(k))
	}
	if keptShown(k) != before {
		t.Errorf("%s: changed", what)
	}
}

// honestRuns are runs of all sorts, each as it came of its looks.
func honestRuns() map[string]impl.HouseKept {
	p := houseWith(nil, "not", "no program", "asks", inMain(`let s = ""; if has("gone") { s = "?"; } if has("src") { s = s + list("s"); } say s; say read("src"); write "o", s + read("empty"); write "p", tool("up", "x"); return s;`), "up", inMain(`say "up"; return arg() + read("src");`), "still", inMain(`write "o", ""; return "";`))
	runs := map[string]impl.HouseKept{}
	for what, words := range map[string]string{
		"done": "n get o>src > o", "done with ins": "n get o>p>src < empty get src > o p", "asks": "n asks < src > o p", "no look of its own": "n still > o", "lists": "n list o>s > o", "has": "n has o>gone > o", "a tool": "n tool o>up > o",
		"code 1": "n ends o>1 > o", "code 2": "n ends o>2 > o", "code 3": "n ends o>3 > o", "code 4": "n ends o>4 > o", "lacks": "n ends o>9 > o", "output": "n get q>src > o", "a tool that is none": "n tool o>not > o",
		"no in": "n get o>src < gone > o", "no second in": "n get o>src < empty gone src > o", "no tool": "n gone o> > o", "no tool behind ins": "n gone o> < empty src > o", "no program": "n not o> > o", "no program behind an in": "n not o> < src > o",
	} {
		runs[what] = keptIn(p, words)
	}
	below := func(bad string) func(kind int, name string) impl.MillReply {
		return func(kind int, name string) impl.MillReply {
			if name == bad {
				return impl.MillReply{Code: 5}
			}
			return millSeeByRules(p, kind, name)
		}
	}
	runs["code 5"] = keptBy(orderOf("n ends o>5 > o"), below("bad"))
	runs["an in below"] = keptBy(orderOf("n get o>src < bad src > o"), below("bad"))
	runs["a second in below"] = keptBy(orderOf("n get o>src < empty src > o"), below("src"))
	runs["the tool below"] = keptBy(orderOf("n get o>src < src > o"), below("get"))
	// Replies that no house gives, though they are valid.
	runs["has below"] = keptBy(orderOf("n has o>src > o"), below("src"))
	runs["a list below"] = keptBy(orderOf("n list o>s > o"), below("s"))
	runs["has with a text"] = keptBy(orderOf("n has o>gone > o"), func(kind int, name string) impl.MillReply {
		if kind == 2 {
			return impl.MillReply{Text: "text"}
		}
		return millSeeByRules(p, kind, name)
	})
	runs["a list of nothing there"] = keptBy(orderOf("n list o>s > o"), func(kind int, name string) impl.MillReply {
		if kind == 3 {
			return impl.MillReply{Code: 4}
		}
		return millSeeByRules(p, kind, name)
	})
	return runs
}

func TestHouseHonest(t *testing.T) {
	codes := map[int]bool{}
	for what, k := range honestRuns() {
		wantHonest(t, what, true, k)
		codes[k.Made.Code] = true
		// Whatever the memory of its lists.
		wantHonest(t, what, true, cloneOf(k))
		roomy, seen := roomyOf(k)
		before := seen()
		wantHonest(t, what, true, roomy)
		if seen() != before {
			t.Errorf("%s: changed", what)
		}
	}
	if len(codes) != 6 {
		t.Errorf("codes %v", codes)
	}
	wantHonest(t, "nothing", false, impl.HouseKept{})
	wantHonest(t, "nothing that is over", false, impl.HouseKept{Made: impl.HouseMade{Over: true}})
	for what, k := range honestRuns() {
		wantHonest(t, what+", no target", false, impl.HouseKept{Made: k.Made})
		wantHonest(t, what+", nothing made", false, impl.HouseKept{Target: k.Target})
		wantHonest(t, what+", nothing but the name", false, impl.HouseKept{Target: k.Target, Made: impl.HouseMade{Name: "n", Over: true}})
	}
}

// houseLie is a run with one part changed, which no run is.
type houseLie struct {
	what string
	kept impl.HouseKept
}

// liesOf are all sorts of lies about a run.
func liesOf(k impl.HouseKept) []houseLie {
	var lies []houseLie
	bend := func(what string, change func(k *impl.HouseKept)) {
		bent := cloneOf(k)
		change(&bent)
		lies = append(lies, houseLie{what, bent})
	}
	bend("Name of the target", func(k *impl.HouseKept) { k.Target.Name += "x" })
	if len(k.Made.Seen) > len(k.Target.Ins) {
		bend("Tool", func(k *impl.HouseKept) { k.Target.Tool += "x" })
	}
	bend("no out", func(k *impl.HouseKept) { k.Target.Outs = nil })
	bend("an out twice", func(k *impl.HouseKept) { k.Target.Outs = append(k.Target.Outs, k.Target.Outs[0]) })
	bend("an out ahead", func(k *impl.HouseKept) { k.Target.Outs = append(k.Target.Outs, "!") })
	bend("an in that is no name", func(k *impl.HouseKept) { k.Target.Ins = append(k.Target.Ins, "~ ") })
	bend("a first in", func(k *impl.HouseKept) { k.Target.Ins = append([]string{"!"}, k.Target.Ins...) })
	bend("not over", func(k *impl.HouseKept) { k.Made.Over = false })
	bend("Name", func(k *impl.HouseKept) { k.Made.Name += "x" })
	bend("no Name", func(k *impl.HouseKept) { k.Made.Name = "" })
	bend("Wait", func(k *impl.HouseKept) { k.Made.Wait = "src" })
	for code := -1; code < 10; code++ {
		if code != k.Made.Code {
			bend(fmt.Sprint("Code ", code), func(k *impl.HouseKept) { k.Made.Code = code })
		}
	}
	bend("Text", func(k *impl.HouseKept) { k.Made.Text += "x" })
	for _, steps := range []int{-1, 1, 4000, -4000, -2 * k.Made.Steps} {
		if steps != 0 {
			bend("Steps", func(k *impl.HouseKept) { k.Made.Steps += steps })
		}
	}
	bend("a file more", func(k *impl.HouseKept) { k.Made.Files = append(k.Made.Files, impl.MillFile{Name: "~"}) })
	bend("a file as an out", func(k *impl.HouseKept) {
		k.Made.Files = append(k.Made.Files, impl.MillFile{Name: k.Target.Outs[0], Text: "S!"})
	})
	if len(k.Made.Files) > 0 {
		bend("no files", func(k *impl.HouseKept) { k.Made.Files = nil })
		bend("a file less", func(k *impl.HouseKept) { k.Made.Files = k.Made.Files[1:] })
		bend("a file's name", func(k *impl.HouseKept) { k.Made.Files[0].Name += "x" })
		bend("a file's text", func(k *impl.HouseKept) { k.Made.Files[0].Text += "x" })
		bend("the last file's text", func(k *impl.HouseKept) { k.Made.Files[len(k.Made.Files)-1].Text += "x" })
	}
	bend("one said more", func(k *impl.HouseKept) { k.Made.Said = append(k.Made.Said, "") })
	if len(k.Made.Said) > 0 {
		bend("nothing said", func(k *impl.HouseKept) { k.Made.Said = nil })
		bend("one said less", func(k *impl.HouseKept) { k.Made.Said = k.Made.Said[1:] })
		bend("said otherwise", func(k *impl.HouseKept) { k.Made.Said[len(k.Made.Said)-1] += "x" })
	}
	return append(lies, seenLiesOf(k)...)
}

// seenLiesOf are lies about what a run has seen.
func seenLiesOf(k impl.HouseKept) []houseLie {
	var lies []houseLie
	bend := func(what string, change func(k *impl.HouseKept)) {
		bent := cloneOf(k)
		change(&bent)
		lies = append(lies, houseLie{what, bent})
	}
	bend("nothing seen", func(k *impl.HouseKept) { k.Made.Seen = nil })
	bend("a look behind", func(k *impl.HouseKept) { k.Made.Seen = append(k.Made.Seen, sawRead("src", "S")) })
	bend("the last look twice", func(k *impl.HouseKept) { k.Made.Seen = append(k.Made.Seen, k.Made.Seen[len(k.Made.Seen)-1]) })
	bend("nothing as a look behind", func(k *impl.HouseKept) { k.Made.Seen = append(k.Made.Seen, impl.MillSeen{}) })
	bend("a look in front", func(k *impl.HouseKept) { k.Made.Seen = slices.Insert(k.Made.Seen, 0, sawRead("src", "S")) })
	for at := range k.Made.Seen {
		here := fmt.Sprint(" ", at)
		bend("a look left out"+here, func(k *impl.HouseKept) { k.Made.Seen = slices.Delete(k.Made.Seen, at, at+1) })
		bend("all looks behind left out"+here, func(k *impl.HouseKept) { k.Made.Seen = k.Made.Seen[:at] })
		if at > 0 && k.Made.Seen[at] != k.Made.Seen[at-1] {
			bend("looks exchanged"+here, func(k *impl.HouseKept) {
				k.Made.Seen[at-1], k.Made.Seen[at] = k.Made.Seen[at], k.Made.Seen[at-1]
			})
		}
		for _, kind := range []int{-1, 0, 1, 2, 3, 4} {
			if kind != k.Made.Seen[at].Kind {
				bend(fmt.Sprint("kind ", kind, here), func(k *impl.HouseKept) { k.Made.Seen[at].Kind = kind })
			}
		}
		bend("another name"+here, func(k *impl.HouseKept) { k.Made.Seen[at].Name += "x" })
		bend("no name"+here, func(k *impl.HouseKept) { k.Made.Seen[at].Name = "" })
		for _, wrong := range []impl.MillReply{{Code: 1}, {Code: 2}, {Code: 3}, {Code: 6}, {Code: 9}, {Code: -1}, {Code: 4, Text: "x"}, {Code: 5, Text: "x"}, {Text: strings.Repeat("x", 3001)}} {
			bend("a reply that is not valid"+here, func(k *impl.HouseKept) { k.Made.Seen[at].Reply = wrong })
		}
		// Another code is another end, but for has and list, where it may be all the same.
		if one := k.Made.Seen[at]; one.Kind == 1 {
			bend("another code"+here, func(k *impl.HouseKept) {
				k.Made.Seen[at].Reply = impl.MillReply{Code: map[int]int{0: 4, 4: 5, 5: 4}[one.Reply.Code]}
			})
		}
	}
	return lies
}

func TestHouseHonestLies(t *testing.T) {
	for what, k := range honestRuns() {
		for _, lie := range liesOf(k) {
			wantHonest(t, what+": "+lie.what, false, lie.kept)
		}
	}
	// A reply that another is in the place of: what it leads to is another.
	k := honestRuns()["asks"]
	for at, one := range k.Made.Seen {
		bent := cloneOf(k)
		bent.Made.Seen[at].Reply = impl.MillReply{Text: one.Reply.Text + "x"}
		// The in is looked at, and no more; has with a text is there all the same.
		wantHonest(t, fmt.Sprint("reply ", at, " of ", one.Name), one.Kind == 2 && one.Reply.Code == 0 || at == 0, bent)
	}
	// Where what was seen is changed, and what came of it as well, it is a run again.
	k = honestRuns()["done"]
	k.Made.Seen[1].Reply.Text, k.Made.Files[0].Text = "T", "T!"
	wantHonest(t, "another run", true, k)
	k.Target.Name, k.Made.Name = "m", "m"
	wantHonest(t, "another name", true, k)
	k.Target.Arg = "o>gone"
	wantHonest(t, "another arg", false, k)
	k.Made.Seen[1].Name = "gone"
	wantHonest(t, "another arg, and another look", true, k)
	// The arg that the program does not ask for may be any.
	k = honestRuns()["no look of its own"]
	for _, arg := range []string{"", "x", "\x00\xff", strings.Repeat("x", 3000)} {
		k.Target.Arg = arg
		wantHonest(t, "an arg that is not asked for", true, k)
	}
}

// What is remembered has the code by which a replay tells that looks do not fit.
func TestHouseHonestNoSuchCode(t *testing.T) {
	for what, k := range honestRuns() {
		for cut := range len(k.Made.Seen) + 1 {
			for steps := range 25 {
				for said := range len(k.Made.Said) + 1 {
					lie := impl.HouseKept{Target: k.Target, Made: impl.HouseMade{Name: "n", Over: true, Code: 9, Steps: steps, Said: k.Made.Said[:said], Seen: k.Made.Seen[:cut]}}
					if impl.HouseHonest(lie) {
						t.Errorf("%s: %s", what, keptShown(lie))
					}
					lie.Made.Seen = append(slices.Clone(lie.Made.Seen), sawRead("other", ""))
					if impl.HouseHonest(lie) {
						t.Errorf("%s: %s", what, keptShown(lie))
					}
				}
			}
		}
	}
}

// Targets that could be one of orders, and such that could not; their run is told as it would be.
func TestHouseHonestTargets(t *testing.T) {
	fails := inMain(`fail "why";`)
	ask := func(what string, want bool, target impl.ClayTarget) {
		t.Helper()
		var seen []impl.MillSeen
		for _, name := range append(slices.Clone(target.Ins), target.Tool) {
			seen = append(seen, sawRead(name, fails))
		}
		wantHonest(t, what, want, impl.HouseKept{Target: target, Made: madeOver(target.Name, millEndsBy(1, "why", 2), seen...)})
	}
	numbered := func(begins string, many int) []string {
		var names []string
		for i := range many {
			names = append(names, fmt.Sprintf("%s%03d", begins, i))
		}
		return names
	}
	good := func() impl.ClayTarget { return orderOf("n t arg < i > o") }
	ask("good", true, good())
	for many, is := range map[int]bool{0: true, 1: true, 199: true, 200: true, 201: false, 202: false, 400: false} {
		target := good()
		target.Ins = numbered("i", many)
		ask(fmt.Sprint(many, " ins"), is, target)
	}
	for many, is := range map[int]bool{0: false, 1: true, 19: true, 20: true, 21: false, 22: false, 200: false} {
		target := good()
		target.Outs = numbered("o", many)
		ask(fmt.Sprint(many, " outs"), is, target)
	}
	for size, is := range map[int]bool{0: true, 1: true, 1000: true, 1001: true, 2999: true, 3000: true, 3001: false, 10000: false} {
		target := good()
		target.Arg = strings.Repeat("x", size)
		ask(fmt.Sprint("an arg of ", size), is, target)
	}
	for names, is := range map[string]bool{"a b": true, "b a": false, "a a": false, "a b c": true, "a c b": false, "b a c": false, "a b b": false, "a ab b": true, "ab a": false, "B a": true, "a B": false} {
		target := good()
		target.Ins = strings.Fields(names)
		ask("ins "+names, is, target)
		target = good()
		target.Outs = strings.Fields(names)
		ask("outs "+names, is, target)
	}
	sets := map[string]func(target *impl.ClayTarget, name string){
		"Name":   func(target *impl.ClayTarget, name string) { target.Name = name },
		"Tool":   func(target *impl.ClayTarget, name string) { target.Tool = name },
		"an in":  func(target *impl.ClayTarget, name string) { target.Ins = []string{name} },
		"an out": func(target *impl.ClayTarget, name string) { target.Outs = []string{name} },
	}
	for what, set := range sets {
		for _, name := range append(millNoNames(), "") {
			target := good()
			set(&target, name)
			ask(fmt.Sprintf("%s %q", what, name), false, target)
		}
		for _, name := range millNames() {
			target := good()
			set(&target, name)
			ask(fmt.Sprintf("%s %q", what, name), true, target)
		}
	}
	// One wrong name beside good ones.
	target := good()
	target.Ins = []string{"a", "b", "c\x7f"}
	ask("a last in that is none", false, target)
	target = good()
	target.Outs = []string{"a", "b c", "d"}
	ask("a middle out that is none", false, target)
	// Names may be the same in several parts.
	ask("one name for all", true, orderOf("x x x < x > x"))
}

// A program that needs no out at all: without one it is no target.
func TestHouseHonestNoOut(t *testing.T) {
	target := orderOf("n t")
	k := keptBy(target, func(kind int, name string) impl.MillReply { return impl.MillReply{Text: inMain(`return "r";`)} })
	if k.Made.Code != 0 || k.Made.Text != "r" {
		t.Fatal(keptShown(k))
	}
	wantHonest(t, "no out", false, k)
}

// As many looks as there may be, with ins and without, and one more.
func TestHouseHonestMostLooks(t *testing.T) {
	var ins []string
	for i := range 200 {
		ins = append(ins, fmt.Sprintf("i%03d", i))
	}
	for _, look := range []string{`s = read("src");`, `if has("m") { }`, `s = list("m");`} {
		for _, many := range []int{0, 1, 99, 100, 101, 150} {
			src := inMain(fmt.Sprintf(`let i = 0; let s = ""; while i < %d { i = i + 1; %s } write "o", ""; return "done";`, many, look))
			for _, names := range [][]string{nil, ins[:1], ins} {
				target := orderOf("n looks > o")
				target.Ins = names
				k := keptBy(target, func(kind int, name string) impl.MillReply {
					if name == "looks" {
						return impl.MillReply{Text: src}
					}
					return impl.MillReply{}
				})
				if len(k.Made.Seen) != len(names)+1+min(many, 100) || (k.Made.Code == 3) != (many > 100) {
					t.Fatalf("%s %d: %d seen, code %d", look, many, len(k.Made.Seen), k.Made.Code)
				}
				wantHonest(t, fmt.Sprint(look, many), true, k)
				last := k.Made.Seen[len(k.Made.Seen)-1]
				for range 3 {
					k.Made.Seen = append(slices.Clone(k.Made.Seen), last)
					wantHonest(t, fmt.Sprint(look, many, " and one more"), false, k)
				}
			}
		}
	}
}

// buildChain is one file, three targets in a row, and one beside them.
func buildChain(more ...string) impl.MillPlace {
	return houseWith([]string{"a get 1>src > 1", "b get 2>1 > 2", "c get 3>2 > 3", "d get 4>empty > 4"}, more...)
}

// Only what is wanted is run, and nothing that is remembered.
func TestHouseBuild(t *testing.T) {
	p := buildChain()
	empty := impl.HouseShelf{}
	s := wantHouseBuilt(t, p, empty, "3", "a b c", "0 S!!!")
	if len(s.Kept) != 3 || !isSameTarget(s.Kept[1].Target, orderOf("b get 2>1 > 2")) || !isSameMade(s.Kept[1].Made, madeOver("b", millWrote(millDone("got", 18), "2", "S!!"), sawRead("get", houseGet), sawRead("1", "S!"))) {
		t.Errorf("%s", keptShown(s.Kept...))
	}
	wantHouseBuilt(t, p, s, "3", "", "0 S!!!")
	wantHouseBuilt(t, p, s, "1 2 3", "", "0 S!", "0 S!!", "0 S!!!")
	all := wantHouseBuilt(t, p, s, "4 3", "d", "0 !", "0 S!!!")
	wantHouseBuilt(t, p, all, "4 3 2 1", "", "0 !", "0 S!!!", "0 S!!", "0 S!")
	wantHouseBuilt(t, p, empty, "4", "d", "0 !")
	wantHouseBuilt(t, p, empty, "1", "a", "0 S!")
	wantHouseBuilt(t, p, empty, "2 4", "a b d", "0 S!!", "0 !")
	wantHouseBuilt(t, p, empty, "", "")
	wantHouseBuilt(t, p, all, "", "")
	wantHouseBuilt(t, p, empty, "src gone a b", "", "0 S", "4", "4", "4")
	// What is beneath is run, where it is not remembered; what is above is not, if it has seen the same.
	for at, ran := range []string{"a", "b", "c"} {
		wantHouseBuilt(t, p, shelfOf(slices.Delete(slices.Clone(s.Kept), at, at+1)...), "3", ran, "0 S!!!")
		wantHouseBuilt(t, p, shelfOf(s.Kept[at]), "3", strings.Join(slices.DeleteFunc([]string{"a", "b", "c"}, func(name string) bool { return name == ran }), " "), "0 S!!!")
	}
	// In any order on the shelf.
	back := slices.Clone(s.Kept)
	slices.Reverse(back)
	wantHouseBuilt(t, p, shelfOf(back...), "3", "", "0 S!!!")
	// Targets without a shelf and without names that are outs.
	wantHouseBuilt(t, houseWith(nil), empty, "src 1", "", "0 S", "4")
	wantHouseBuilt(t, houseWith(nil), s, "src 1", "", "0 S", "4")
}

// Names that are files, outs, neither, that come twice, and that are no names of files.
func TestHouseBuildNames(t *testing.T) {
	p := houseWith([]string{"a set o>p>text > o p", "b ends q>1 > q", "c get r>r > r", "d get s>r > s", "e set u> > u", "f gone > w", "g src > x"})
	empty := impl.HouseShelf{}
	wantHouseBuilt(t, p, empty, "o p o src o", "a", "0 text", "0 text", "0 text", "0 S", "0 text")
	wantHouseBuilt(t, p, empty, "q w x", "b f g", "5", "5", "5")
	wantHouseBuilt(t, p, empty, "s q r s gone r", "b", "never", "5", "never", "never", "4", "never")
	wantHouseBuilt(t, p, empty, "u empty", "e", "0", "0")
	got := wantBuild(t, p, "main", empty, []string{"r", "s", "r", "s", "o"})
	if !slices.Equal(got.Never, []string{"r", "s"}) || !slices.Equal(got.Replies, []impl.MillReply{{}, {}, {}, {}, {Text: "text"}}) {
		t.Errorf("%s", builtShown(got))
	}
	got = wantBuild(t, p, "main", empty, []string{"", "a b", "\x00", strings.Repeat("o", 61), strings.Repeat("o", 5000), "O", "main", "a", "o "})
	for i, y := range got.Replies {
		if y != (impl.MillReply{Code: 4}) {
			t.Errorf("%d: %+v", i, y)
		}
	}
	if len(got.Ran) > 0 || len(got.Never) > 0 {
		t.Errorf("%s", builtShown(got))
	}
	for _, names := range [][]string{nil, {}} {
		if got := wantBuild(t, p, "main", empty, names); got.Code != 0 || len(got.Replies) > 0 || len(got.Ran) > 0 {
			t.Errorf("%s", builtShown(got))
		}
	}
	var every []string
	for _, file := range p.Files {
		every = append(every, file.Name)
	}
	if got := wantBuild(t, p, "main", empty, every); len(got.Ran) > 0 {
		t.Errorf("%s", builtShown(got))
	}
}

// Each way to code 1, and each limit met exactly.
func TestHouseBuildCodes(t *testing.T) {
	p := buildChain()
	shelf := shelfFrom(t, p, "3 4")
	ask := func(what string, code int, p impl.MillPlace, main string, s impl.HouseShelf, names []string) {
		t.Helper()
		if got := wantBuild(t, p, main, s, names); got.Code != code || code != 0 && !isSameBuilt(got, impl.HouseBuilt{Code: code}) {
			t.Errorf("%s: %s", what, builtShown(got))
		}
	}
	for _, main := range []string{"gone", "", "A", "main.clay"} {
		ask("main "+main, 1, p, main, shelf, []string{"src", "3"})
		ask("main "+main, 1, p, main, impl.HouseShelf{}, nil)
	}
	for code, src := range map[int]string{2: "let", 3: "emit {};", 4: emitsOf("n t > src")} {
		wrong := placeWith(t, p, "main.clay", src)
		if plan := impl.HousePlan(wrong, "main"); plan.Code != code {
			t.Errorf("%q: %+v", src, plan)
		}
		ask(src, 1, wrong, "main", shelf, []string{"src"})
	}
	for what, wrong := range millWrongPlaces() {
		ask(what, 1, wrong, "main", shelf, []string{"a", "src"})
	}
	for many, code := range map[int]int{0: 0, 1: 0, 59: 0, 60: 0, 61: 1, 62: 1, 1000: 1} {
		for _, name := range []string{"3", "src", "gone", ""} {
			ask(fmt.Sprint(many, " names"), code, p, "main", shelf, slices.Repeat([]string{name}, many))
		}
		var names []string
		for i := range many {
			names = append(names, fmt.Sprint(i))
		}
		ask(fmt.Sprint(many, " names"), code, p, "main", impl.HouseShelf{}, names)
	}
	for many, code := range map[int]int{0: 0, 1: 0, 99: 0, 100: 0, 101: 1, 102: 1, 1000: 1} {
		ask(fmt.Sprint(many, " kept"), code, p, "main", impl.HouseShelf{Kept: make([]impl.HouseKept, many)}, []string{"3"})
		ask(fmt.Sprint(many, " kept"), code, p, "main", shelfOf(slices.Repeat(shelf.Kept, 250)[:many]...), []string{"3"})
		ask(fmt.Sprint(many, " kept"), code, p, "main", shelfOf(slices.Repeat(shelf.Kept, 250)[:many]...), nil)
	}
}

// Room for all of what was run, for some of it, and for none.
func TestHouseBuildRoom(t *testing.T) {
	p := buildChain()
	own := shelfFrom(t, p, "3 4").Kept
	for _, fill := range []impl.HouseKept{{}, keptIn(p, "z get o>src > o"), own[3]} {
		for room := range 8 {
			shelf := shelfOf(slices.Repeat([]impl.HouseKept{fill}, 100-room)...)
			s := wantHouseBuilt(t, p, shelf, "3", "a b c", "0 S!!!")
			if len(s.Kept) != min(100, 103-room) {
				t.Errorf("room for %d: %d", room, len(s.Kept))
			}
			for i, k := range s.Kept[100-room:] {
				if !isSameKept(k, own[i]) {
					t.Errorf("room for %d: %s", room, keptShown(k))
				}
			}
			// Again: what had no room is run once more, and what it stands on is not.
			wantHouseBuilt(t, p, s, "3", strings.Join([]string{"a", "b", "c"}[min(room, 3):], " "), "0 S!!!")
		}
	}
	// The last place is the one that is remembered.
	shelf := shelfOf(append(make([]impl.HouseKept, 97), own[:3]...)...)
	wantHouseBuilt(t, p, shelf, "3", "", "0 S!!!")
	wantHouseBuilt(t, p, shelf, "4 3", "d", "0 !", "0 S!!!")
}

// Promise 34: a build behind a build, and several runs of one target, of which a later one has seen what is so.
func TestHouseBuildAgain(t *testing.T) {
	p := buildChain()
	s := shelfFrom(t, p, "3")
	other := buildChain("src", "T")
	s = wantHouseBuilt(t, other, s, "3", "a b c", "0 T!!!")
	third := buildChain("src", "U")
	s = wantHouseBuilt(t, third, s, "3", "a b c", "0 U!!!")
	if len(s.Kept) != 9 {
		t.Fatalf("%d kept", len(s.Kept))
	}
	for _, back := range []struct {
		place impl.MillPlace
		text  string
	}{{p, "S"}, {other, "T"}, {third, "U"}, {p, "S"}} {
		wantHouseBuilt(t, back.place, s, "3", "", "0 "+back.text+"!!!")
		turned := slices.Clone(s.Kept)
		slices.Reverse(turned)
		wantHouseBuilt(t, back.place, shelfOf(turned...), "3 1", "", "0 "+back.text+"!!!", "0 "+back.text+"!")
	}
	s = wantHouseBuilt(t, buildChain("src", "V"), s, "1", "a", "0 V!")
	wantHouseBuilt(t, buildChain("src", "V"), s, "3", "b c", "0 V!!!")
	// Another tool, and back.
	loud := buildChain("get", strings.Replace(houseGet, `"!"`, `"?"`, 1))
	s = wantHouseBuilt(t, loud, s, "3", "a b c", "0 S???")
	wantHouseBuilt(t, p, s, "3", "", "0 S!!!")
	wantHouseBuilt(t, loud, s, "3", "", "0 S???")
	// What lies elsewhere plays no part, but for who lists it.
	wantHouseBuilt(t, placeWith(t, p, "elsewhere", "x"), s, "3", "", "0 S!!!")
	lists := houseWith([]string{"a list 1>s > 1", "b get 2>1 > 2", "c has 3>sx > 3"})
	s = wantHouseBuilt(t, lists, impl.HouseShelf{}, "2 3", "a b c", "0 set\nsrc\n!", "0 no")
	wantHouseBuilt(t, placeWith(t, lists, "x", ""), s, "2 3", "", "0 set\nsrc\n!", "0 no")
	wantHouseBuilt(t, placeWith(t, lists, "sz", ""), s, "2 3", "a b", "0 set\nsrc\nsz\n!", "0 no")
	wantHouseBuilt(t, placeWith(t, lists, "sx", ""), s, "2 3", "a b c", "0 set\nsrc\nsx\n!", "0 yes")
	wantHouseBuilt(t, placeWith(t, lists, "src", "other"), s, "2 3", "", "0 set\nsrc\n!", "0 no")
	// A run that did not end well is remembered as well.
	bad := houseWith([]string{"a ends 1>1 > 1", "b get 2>1 > 2", "c get 3>gone > 3", "d gone > 4", "e src > 5", "f get 6>src < 2 > 6"})
	s = wantHouseBuilt(t, bad, impl.HouseShelf{}, "2 3 4 5 6", "a b c d e f", "5", "5", "5", "5", "5")
	wantHouseBuilt(t, bad, s, "6 5 4 3 2", "", "5", "5", "5", "5", "5")
	wantHouseBuilt(t, placeWith(t, bad, "gone", inMain(`write "4", "G"; return "";`)), s, "2 3 4 6", "c d", "5", "0 "+inMain(`write "4", "G"; return "";`)+"!", "0 G", "5")
}

// Promise 35: what is made is the same as before, though what makes it is not; what stands above is not run.
func TestHouseBuildCut(t *testing.T) {
	p := buildChain()
	s := shelfFrom(t, p, "3")
	// Another text of the tool, by which all are run anew that have seen it.
	wantHouseBuilt(t, buildChain("get", houseGet+" "), s, "3", "a b c", "0 S!!!")
	// A tool of the one beneath alone.
	first := houseWith([]string{"a get 1>src > 1", "b up > 2", "c both > 3"}, "up", inMain(`write "2", "<" + read("1") + ">"; return "";`), "both", inMain(`write "3", read("2") + read("2"); return "";`))
	s = wantHouseBuilt(t, first, impl.HouseShelf{}, "3", "a b c", "0 <S!><S!>")
	wantHouseBuilt(t, placeWith(t, first, "get", houseGet+"# the same\n"), s, "3", "a", "0 <S!><S!>")
	wantHouseBuilt(t, placeWith(t, first, "up", inMain(`write "2", "<" + (read("1") + ">"); return "other";`)), s, "3", "b", "0 <S!><S!>")
	wantHouseBuilt(t, placeWith(t, placeWith(t, first, "get", houseGet+" "), "both", inMain(`let s = read("2"); write "3", s + s; return "";`)), s, "3", "a c", "0 <S!><S!>")
	// A source of which only a part is looked at.
	head := houseWith([]string{"a head > 1", "b get 2>1 > 2", "c get 3>2 > 3"}, "head", inMain(`write "1", cut(read("src"), 0, 1); return "";`), "src", "S and more")
	s = wantHouseBuilt(t, head, impl.HouseShelf{}, "3", "a b c", "0 S!!")
	s = wantHouseBuilt(t, placeWith(t, head, "src", "S and others"), s, "3", "a", "0 S!!")
	s = wantHouseBuilt(t, placeWith(t, head, "src", "T"), s, "3", "a b c", "0 T!!")
	wantHouseBuilt(t, placeWith(t, head, "src", "S"), s, "3", "a", "0 S!!")
	// The one beneath is another target, by its arg, its ins, or its name, and makes the same.
	above := "b get 2>1 > 2"
	s = wantHouseBuilt(t, houseWith([]string{"a set 1>X > 1", above}), impl.HouseShelf{}, "2", "a b", "0 X!")
	for _, beneath := range []string{"a set 1>1>X > 1", "a set 1>X < src > 1", "z set 1>X > 1", "a0 set 0>1>X > 0 1", "a put > 1"} {
		wantHouseBuilt(t, houseWith([]string{beneath, above}, "put", inMain(`write "1", "X"; return "";`)), s, "2", strings.Fields(beneath)[0], "0 X!")
	}
	// A file takes the place of an out.
	wantHouseBuilt(t, houseWith([]string{above}, "1", "X"), s, "2", "", "0 X!")
	wantHouseBuilt(t, houseWith([]string{above}, "1", "Y"), s, "2", "b", "0 Y!")
	wantHouseBuilt(t, houseWith([]string{above}), s, "2", "b", "5")
	// The tool is made anew, and is the same.
	made := houseWith([]string{"a pass > up", "b up > 1"}, "pass", houseWriter("up", houseWriter("1", "made", ""), ""))
	s = wantHouseBuilt(t, made, impl.HouseShelf{}, "1", "a b", "0 made")
	wantHouseBuilt(t, placeWith(t, made, "pass", houseWriter("up", houseWriter("1", "made", ""), "")+"\n"), s, "1", "a", "0 made")
	// A run that ends otherwise than well is below, however it ends.
	bad := houseWith([]string{"a bad > 1", "b get 2>1 > 2", "c get 3>src < 2 > 3"}, "bad", inMain(`fail "why";`))
	s = wantHouseBuilt(t, bad, impl.HouseShelf{}, "3", "a b c", "5")
	wantHouseBuilt(t, placeWith(t, bad, "bad", inMain(`fail "because";`)), s, "3", "a", "5")
	wantHouseBuilt(t, placeWith(t, bad, "bad", "no program"), s, "3", "a", "5")
	wantHouseBuilt(t, placeWithout(bad, "bad"), s, "3", "a", "5")
	wantHouseBuilt(t, placeWith(t, bad, "bad", houseWriter("1", "good", "")), s, "3", "a b c", "0 S!")
}

// What is wanted only because a remembered run waits for it, and not before it does.
func TestHouseBuildWants(t *testing.T) {
	p := houseWith([]string{"a get 1>src > 1", "b get 2>1 > 2", "c get 3>src < 2 > 3"})
	s := shelfFrom(t, p, "3")
	wantHouseBuilt(t, p, shelfOf(s.Kept[2]), "3", "a b", "0 S!")
	wantHouseBuilt(t, p, shelfOf(s.Kept[1], s.Kept[2]), "3", "a", "0 S!")
	// It has seen more than is so: behind the look that is another it wants nothing.
	maybe := inMain(`let s = read("flag"); if s == "yes" { s = s + read("1"); } write "o", s; return "";`)
	yes := houseWith([]string{"a get 1>src > 1", "n maybe > o"}, "maybe", maybe, "flag", "yes")
	s = wantHouseBuilt(t, yes, impl.HouseShelf{}, "o", "a n", "0 yesS!")
	no := placeWith(t, yes, "flag", "no")
	wantHouseBuilt(t, no, shelfOf(s.Kept[1]), "o", "n", "0 no")
	wantHouseBuilt(t, no, s, "o", "n", "0 no")
	both := wantHouseBuilt(t, no, s, "o", "n", "0 no")
	wantHouseBuilt(t, yes, both, "o", "", "0 yesS!")
	wantHouseBuilt(t, no, both, "o", "", "0 no")
	// The flag is itself made: both runs wait for it, and one of them for what comes behind.
	made := func(flag string) impl.MillPlace {
		return houseWith([]string{"a get 1>src > 1", "f set flag>" + flag + " > flag", "n maybe > o"}, "maybe", maybe)
	}
	s = wantHouseBuilt(t, made("yes"), both, "o", "f", "0 yesS!")
	s = wantHouseBuilt(t, made("no"), s, "o", "f", "0 no")
	wantHouseBuilt(t, made("yes"), s, "o", "", "0 yesS!")
	wantHouseBuilt(t, made("no"), s, "o", "", "0 no")
	s = wantHouseBuilt(t, made("perhaps"), s, "o", "f n", "0 perhaps")
	// A target that no run needs stays as it is, though it is remembered otherwise.
	wantHouseBuilt(t, placeWith(t, made("no"), "src", "T"), s, "o", "", "0 no")
	wantHouseBuilt(t, placeWith(t, made("yes"), "src", "T"), s, "o", "a n", "0 yesT!")
}

// Runs that wait for what never comes, remembered and not.
func TestHouseBuildNever(t *testing.T) {
	empty := impl.HouseShelf{}
	// One that waits for itself.
	p := houseWith([]string{"n get o>o > o", "m get p>o > p", "l get q>src > q"})
	wantHouseBuilt(t, p, empty, "o", "", "never")
	wantHouseBuilt(t, p, empty, "p q src", "l", "never", "0 S!", "0 S")
	// A remembered run waits for a name that never comes; so its target never comes either.
	was := houseWith([]string{"n set o>x > o", "m get p>o > p", "l get q>p > q"})
	s := wantHouseBuilt(t, was, empty, "q", "l m n", "0 x!!")
	now := houseWith([]string{"n get o>o > o", "m get p>o > p", "l get q>p > q"})
	wantHouseBuilt(t, now, s, "q", "", "never")
	wantHouseBuilt(t, now, s, "p q o", "", "never", "never", "never")
	wantHouseBuilt(t, now, empty, "p q o", "", "never", "never", "never")
	// By an in and by its tool.
	wantHouseBuilt(t, houseWith([]string{"n get o>o > o", "m get p>src < o > p"}), shelfOf(keptIn(houseWith(nil, "o", "O"), "m get p>src < o > p")), "p", "", "never")
	wantHouseBuilt(t, houseWith([]string{"n get o>o > o", "m o > p"}), shelfOf(keptIn(houseWith(nil, "o", houseWriter("p", "", "")), "m o > p")), "p", "", "never")
	// The next run on the shelf is another that never comes to be tried.
	s = shelfOf(keptIn(houseWith(nil, "o", "1"), "m get p>o > p"), keptIn(houseWith(nil), "m get p>o > p"), keptIn(houseWith(nil, "o", "3"), "m get p>o > p"))
	wantHouseBuilt(t, now, s, "p", "", "never")
	// Two that wait for each other, with none, one and both of them remembered.
	one, two := keptIn(houseWith(nil, "2", "x"), "a get 1>2 > 1"), keptIn(houseWith(nil, "1", "x!"), "b get 2>1 > 2")
	wantHonest(t, "one", true, one)
	wantHonest(t, "two", true, two)
	pair := houseWith([]string{"a get 1>2 > 1", "b get 2>1 > 2", "c get 3>1 > 3", "d get 4>src > 4"})
	three := keptIn(houseWith(nil, "1", "x!"), "c get 3>1 > 3")
	for _, kept := range [][]impl.HouseKept{nil, {one}, {two}, {one, two}, {two, one}, {one, two, three}, {three}, {three, one, two, one}} {
		wantHouseBuilt(t, pair, shelfOf(kept...), "1", "", "never")
		wantHouseBuilt(t, pair, shelfOf(kept...), "2", "", "never")
		wantHouseBuilt(t, pair, shelfOf(kept...), "3 4 2 1", "d", "never", "0 S!", "never", "never")
	}
	// One of them comes to something by what is remembered only where this is so.
	apart := houseWith([]string{"a get 1>2 > 1", "b set 2>x > 2"})
	wantHouseBuilt(t, apart, shelfOf(one, two), "1", "b", "0 x!")
	// A run that is over ahead of the look that never comes, remembered or not.
	s = wantHouseBuilt(t, houseWith([]string{"a get 1>1 > 1", "b get 2>src < 0gone 1 > 2"}), empty, "2", "b", "5")
	wantHouseBuilt(t, houseWith([]string{"a get 1>1 > 1", "b get 2>src < 0gone 1 > 2"}), s, "2 1", "", "5", "never")
	// To ask for it, and to list it, does not wait.
	s = wantHouseBuilt(t, houseWith([]string{"a get 1>1 > 1", "b has 2>1 > 2", "c list 3>1 > 3"}), empty, "2 3", "b c", "0 yes", "0 1\n")
	wantHouseBuilt(t, houseWith([]string{"a get 1>1 > 1", "b has 2>1 > 2", "c list 3>1 > 3"}), s, "2 3 1", "", "0 yes", "0 1\n", "never")
}

// A remembered run whose look is answered otherwise, and behind it one that fits.
func TestHouseBuildNextRun(t *testing.T) {
	words := "n get o>src < empty > o"
	p := houseWith([]string{words})
	right := keptIn(p, words)
	var wrong []impl.HouseKept
	for _, other := range []impl.MillPlace{houseWith(nil, "src", "T"), houseWith(nil, "empty", "x"), placeWithout(p, "src"), placeWithout(p, "empty"), placeWithout(p, "get"), houseWith(nil, "get", houseSet), houseWith(nil, "get", "none")} {
		k := keptIn(other, words)
		wantHonest(t, "another place", true, k)
		wrong = append(wrong, k)
	}
	wantHouseBuilt(t, p, shelfOf(right), "o", "", "0 S!")
	wantHouseBuilt(t, p, shelfOf(wrong...), "o", "n", "0 S!")
	for at := range len(wrong) + 1 {
		wantHouseBuilt(t, p, shelfOf(slices.Insert(slices.Clone(wrong), at, right)...), "o", "", "0 S!")
	}
	// The same for an out, where the runs have to wait until they know.
	p = houseWith([]string{"m set 1>text > 1", "n get o>1 > o"})
	var kept []impl.HouseKept
	for i := range 40 {
		kept = append(kept, keptIn(houseWith(nil, "1", fmt.Sprint(i)), "n get o>1 > o"))
	}
	wantHouseBuilt(t, p, shelfOf(kept...), "o", "m n", "0 text!")
	for i := range 40 {
		wantHouseBuilt(t, houseWith([]string{fmt.Sprint("m set 1>", i, " > 1"), "n get o>1 > o"}), shelfOf(kept...), "o", "m", fmt.Sprint("0 ", i, "!"))
	}
}

// Runs of another target of the same name are none of this one, and stay where they are.
func TestHouseBuildOtherTarget(t *testing.T) {
	words := "n still x < src > o p"
	still := inMain(`write "o", "O"; write "p", "P"; return "";`)
	p := houseWith([]string{words}, "still", still, "again", still)
	right := keptIn(p, words)
	wantHouseBuilt(t, p, shelfOf(right), "o", "", "0 O")
	var others []impl.HouseKept
	for _, other := range []string{"n still y < src > o p", "n still < src > o p", "n still x > o p", "n still x < empty > o p", "n still x < empty src > o p", "n again x < src > o p", "m still x < src > o p", "n still x < src > o", "n still x < src > o p q", "n still x < src > p"} {
		k := keptIn(p, other)
		wantHonest(t, other, true, k)
		others = append(others, k)
		wantHouseBuilt(t, p, shelfOf(k), "o p", "n", "0 O", "0 P")
		wantHouseBuilt(t, p, shelfOf(k, right), "o p", "", "0 O", "0 P")
	}
	s := wantHouseBuilt(t, p, shelfOf(others...), "o p", "n", "0 O", "0 P")
	if len(s.Kept) != len(others)+1 || !isSameKept(s.Kept[len(others)], right) {
		t.Errorf("%s", keptShown(s.Kept...))
	}
	// What another target of this name waits for is not wanted.
	p = houseWith([]string{"n get o>src > o", "m set 1>x > 1"})
	wantHouseBuilt(t, p, shelfOf(keptIn(houseWith(nil, "1", "x"), "n get o>1 > o")), "o", "n", "0 S!")
}

// Promise 33: lies of every sort on the shelf, alone, ahead of the right runs and behind them.
func TestHouseBuildLies(t *testing.T) {
	t.Parallel()
	p := houseWith([]string{"a get 1>src > 1", "b asks < 1 > 2 3", "c ends 4>1 > 4", "d get 5>2 < 4 > 5", "e list 6>s < 2 > 6"}, "asks", inMain(`say "b"; if has("gone") { say "?"; } write "2", read("1") + list("s"); write "3", tool("up", "x"); return "r";`), "up", inMain(`return arg() + read("1");`))
	names := "6 5 3 4 1"
	replies := []string{"0 set\nsrc\n", "5", "0 xS!", "5", "0 S!"}
	right := wantHouseBuilt(t, p, impl.HouseShelf{}, names, "a b c d e", replies...).Kept
	seen := 0
	for at, k := range right {
		without := slices.Delete(slices.Clone(right), at, at+1)
		for _, lie := range liesOf(k) {
			seen++
			if impl.HouseHonest(lie.kept) {
				t.Errorf("%q, %s: honest", k.Target.Name, lie.what)
			}
			wantHouseBuilt(t, p, shelfOf(lie.kept), names, "a b c d e", replies...)
			wantHouseBuilt(t, p, shelfOf(append([]impl.HouseKept{lie.kept}, right...)...), names, "", replies...)
			wantHouseBuilt(t, p, shelfOf(append(without, lie.kept)...), names, k.Target.Name, replies...)
			if t.Failed() {
				t.Fatal(lie.what)
			}
		}
	}
	if seen < 300 {
		t.Errorf("only %d lies", seen)
	}
}

// Lies that would have others wanted, or wait for what never comes.
func TestHouseBuildLiesThatWait(t *testing.T) {
	p := houseWith([]string{"a get 1>1 > 1", "b get 2>src > 2", "n get o>src > o"})
	right := keptIn(p, "n get o>src > o")
	for _, name := range []string{"1", "2", "o"} {
		look := sawRead(name, "x")
		for at := range len(right.Made.Seen) + 1 {
			lie := cloneOf(right)
			lie.Made.Seen = slices.Insert(lie.Made.Seen, at, look)
			wantHonest(t, "a look more", false, lie)
			wantHouseBuilt(t, p, shelfOf(lie), "o", "n", "0 S!")
			wantHouseBuilt(t, p, shelfOf(lie, right), "o", "", "0 S!")
			if at < len(right.Made.Seen) {
				lie.Made.Seen = slices.Delete(lie.Made.Seen, at+1, at+2)
				wantHouseBuilt(t, p, shelfOf(lie, lie), "o", "n", "0 S!")
			}
		}
		// Nothing seen but this.
		lie := cloneOf(right)
		lie.Made.Seen = []impl.MillSeen{look}
		wantHouseBuilt(t, p, shelfOf(lie), "o", "n", "0 S!")
	}
	// A lie that is all as seen: nothing, or only the tool.
	for many := range 2 {
		lie := cloneOf(right)
		lie.Made.Seen = lie.Made.Seen[:many]
		wantHouseBuilt(t, p, shelfOf(lie), "o", "n", "0 S!")
	}
	// One that says that it is done, and has no files.
	lie := cloneOf(right)
	lie.Made.Files = nil
	wantHouseBuilt(t, p, shelfOf(lie), "o", "n", "0 S!")
	// One that was not over.
	lie = impl.HouseKept{Target: right.Target, Made: impl.HouseMade{Name: "n", Wait: "1", Seen: right.Made.Seen[:1]}}
	wantHouseBuilt(t, p, shelfOf(lie), "o", "n", "0 S!")
	// One of a target that never comes says what it came to.
	never := keptIn(houseWith(nil, "1", "x"), "a get 1>1 > 1")
	wantHonest(t, "it was so elsewhere", true, never)
	wantHouseBuilt(t, p, shelfOf(never), "1", "", "never")
	never.Made.Seen = never.Made.Seen[:1]
	wantHouseBuilt(t, p, shelfOf(never), "1", "", "never")
	never.Made.Seen = nil
	wantHouseBuilt(t, p, shelfOf(never), "1", "", "never")
}

// As many targets as there can be, with as many runs on the shelf.
func TestHouseBuildMany(t *testing.T) {
	t.Parallel()
	number := func(i int) string { return fmt.Sprintf("%02d", i) }
	house := func(arg func(i int) string, more ...string) impl.MillPlace {
		src := `def t(n, a) = {name: "n" + n, tool: "get", arg: "o" + n + ">" + a, outs: ["o" + n]};`
		for i := range 60 {
			src += fmt.Sprintf("emit t(%q, %q);", number(i), arg(i))
		}
		return houseWith(nil, append(more, "main.clay", src)...)
	}
	up := func(i int) string {
		if i == 59 {
			return "src"
		}
		return "o" + number(i+1)
	}
	down := func(i int) string {
		if i == 0 {
			return "src"
		}
		return "o" + number(i-1)
	}
	var every []string
	for i := range 60 {
		every = append(every, "o"+number(i))
	}
	for last, arg := range map[string]func(i int) string{"o00": up, "o59": down} {
		p := house(arg)
		got := wantBuild(t, p, "main", impl.HouseShelf{}, []string{last})
		if len(got.Ran) != 60 || got.Replies[0].Text != "S"+strings.Repeat("!", 60) {
			t.Errorf("%s", builtShown(got))
		}
		again := wantBuild(t, p, "main", got.Shelf, every)
		if len(again.Ran) != 0 || len(again.Replies) != 60 {
			t.Errorf("%s", builtShown(again))
		}
		// Another source: sixty more, for forty of which there is room.
		next := wantBuild(t, house(arg, "src", "T"), "main", got.Shelf, []string{last})
		if len(next.Ran) != 60 || len(next.Shelf.Kept) != 100 || next.Shelf.Kept[99].Target.Name != "n39" {
			t.Errorf("%s", builtShown(next))
		}
		back := wantBuild(t, p, "main", next.Shelf, every)
		if len(back.Ran) != 0 {
			t.Errorf("%s", builtShown(back))
		}
		more := wantBuild(t, house(arg, "src", "T"), "main", next.Shelf, every)
		if len(more.Ran) != 20 || more.Ran[0] != "n40" {
			t.Errorf("%s", builtShown(more))
		}
	}
	round := house(func(i int) string { return "o" + number((i+1)%60) })
	if got := wantBuild(t, round, "main", impl.HouseShelf{}, every); len(got.Never) != 60 || len(got.Ran) != 0 {
		t.Errorf("%s", builtShown(got))
	}
}

// bent is a run with something about it changed; it may be honest all the same.
func (a houseAuthor) bent(k impl.HouseKept) impl.HouseKept {
	if a.below(3) == 0 {
		lies := liesOf(k)
		return cloneOf(lies[a.below(len(lies))].kept)
	}
	k = cloneOf(k)
	switch a.below(8) {
	case 0:
		k.Target.Arg += a.pick("x", "o1>", ">")
	case 1:
		k.Target.Name, k.Made.Name = "q", "q"
	case 2:
		k.Target.Tool = a.pick(houseNames...)
	case 3:
		k.Target.Ins = slices.Compact(slices.Sorted(slices.Values(append(k.Target.Ins, a.pick(houseNames...)))))
	case 4:
		k.Target.Outs = slices.Compact(slices.Sorted(slices.Values(append(k.Target.Outs, a.pick("o1", "o2", "x")))))
	case 5:
		k.Made.Text = a.pick("", "f1", "o1", k.Made.Text)
	default:
		at := a.below(len(k.Made.Seen))
		one := &k.Made.Seen[at]
		switch a.below(4) {
		case 0:
			one.Reply = impl.MillReply{Code: 4 + a.below(2)}
		case 1:
			one.Reply = impl.MillReply{Text: a.pick("", "x", one.Reply.Text+" ")}
		case 2:
			one.Name = a.pick(houseNames...)
		default:
			*one = k.Made.Seen[a.below(len(k.Made.Seen))]
		}
	}
	return k
}

// changed is a house with one file set anew, or taken away.
func (a houseAuthor) changed(t *testing.T, p impl.MillPlace) impl.MillPlace {
	switch a.below(10) {
	case 0:
		return placeWithout(p, a.pick("f1", "f2", "l/f", "t1", "t3"))
	case 1:
		return placeWith(t, p, "f1", a.pick("1", "2", "fn"))
	case 2:
		return placeWith(t, p, "f2", a.program())
	case 3:
		return placeWith(t, p, a.pick("l/f", "l/g", "z"), a.pick("", "x"))
	case 4:
		return placeWith(t, p, a.pick("t1", "t2", "t3", "t4"), a.program())
	case 5:
		return p
	}
	// The same but for its text, so that it makes the same.
	tool := a.pick("t1", "t2", "t3", "t4", "gen")
	return placeWith(t, p, tool, impl.MillSee(p, impl.MillLookRead, tool).Text+" ")
}

// Promise 31, as far as it speaks of honest runs, and Honest against the second reading, for drawn houses.
func TestHouseHonestDrawn(t *testing.T) {
	t.Parallel()
	dice := clayDice(2201)
	a := houseAuthor{&dice}
	counts := map[bool]int{}
	for range 300 {
		p := a.house()
		plan := impl.HousePlan(p, "main")
		for at, made := range impl.HouseMeaning(p, "main") {
			k := impl.HouseKept{Target: plan.Targets[at], Made: made}
			if impl.HouseHonest(k) != made.Over {
				t.Errorf("%v: %s", made.Over, keptShown(k))
			}
			if !made.Over || len(made.Seen) == 0 {
				continue
			}
			for range 5 {
				bent := a.bent(k)
				got := impl.HouseHonest(bent)
				if got != isHonestByRules(bent) {
					t.Errorf("%v: %s, bent from %s", got, keptShown(bent), keptShown(k))
					return
				}
				counts[got]++
			}
		}
	}
	if counts[true] < 300 || counts[false] < 3000 {
		t.Errorf("%v", counts)
	}
}

// Promises 33 to 35 for drawn houses that change from build to build, with the shelf that came out, lies among it.
func TestHouseBuildDrawn(t *testing.T) {
	t.Parallel()
	dice := clayDice(2202)
	a := houseAuthor{&dice}
	counts := map[string]int{}
	for range 180 {
		p := a.house()
		var s impl.HouseShelf
		for range 6 {
			var names []string
			for range a.below(8) {
				names = append(names, a.pick(append(strings.Fields("o1 o2 o3 o4 o5 o6 l/o7 l/o8 main.clay"), append(houseNames, "a b")...)...))
			}
			got := wantBuild(t, p, "main", s, names)
			if t.Failed() {
				return
			}
			counts[fmt.Sprint("code ", got.Code)]++
			counts["ran"] += len(got.Ran)
			counts["never"] += len(got.Never)
			fresh := impl.HouseBuild(p, "main", impl.HouseShelf{}, names)
			counts["remembered"] += len(fresh.Ran) - len(got.Ran)
			if len(got.Never) > 0 && len(s.Kept) > 0 {
				counts["never, with a shelf"]++
			}
			// Some are cut: what stands beneath was run, what stands above was not.
			for _, k := range fresh.Shelf.Kept {
				if slices.Contains(got.Ran, k.Target.Name) {
					continue
				}
				for _, one := range k.Made.Seen {
					if maker := slices.IndexFunc(fresh.Shelf.Kept, func(k impl.HouseKept) bool { return slices.Contains(k.Target.Outs, one.Name) }); maker >= 0 && one.Kind == 1 && slices.Contains(got.Ran, fresh.Shelf.Kept[maker].Target.Name) {
						counts["cut"]++
					}
				}
			}
			s = got.Shelf
			for range a.below(3) {
				if len(s.Kept) > 0 && len(s.Kept) < 90 {
					k := s.Kept[a.below(len(s.Kept))]
					if len(k.Made.Seen) > 0 && len(k.Target.Outs) > 0 {
						s.Kept = slices.Insert(s.Kept, a.below(len(s.Kept)+1), a.bent(k))
						counts["bent"]++
					}
				}
			}
			if a.below(10) == 0 {
				s.Kept = append(slices.Clone(s.Kept), make([]impl.HouseKept, max(0, 98-len(s.Kept)))...)
				counts["little room"]++
			}
			next := a.changed(t, p)
			if len(next.Files) <= 40 && impl.HousePlan(next, "main").Code == 0 {
				p = next
			}
		}
	}
	for what, least := range map[string]int{"code 0": 1000, "ran": 500, "never": 300, "remembered": 500, "never, with a shelf": 100, "cut": 20, "bent": 300, "little room": 50} {
		if counts[what] < least {
			t.Errorf("%s: %v", what, counts)
		}
	}
}

// Shelves of one house in another, whose targets have the same names, tools, args and outs, or not.
func TestHouseBuildOtherHousesDrawn(t *testing.T) {
	t.Parallel()
	dice := clayDice(2203)
	a := houseAuthor{&dice}
	remembered := 0
	for range 150 {
		tools := a.house()
		var s impl.HouseShelf
		some := a.targets()
		for range 3 {
			targets := slices.Clone(some)
			for at := range targets {
				if a.below(4) == 0 {
					targets[at].Tool = a.pick("t1", "t2", "t3", "f1")
				}
				if a.below(4) == 0 {
					targets[at].Ins = nil
				}
			}
			src := ""
			for _, target := range targets {
				src += emitOf(target)
			}
			p := placeWith(t, tools, "main.clay", src)
			names := strings.Fields("o1 o2 o3 o4 o5 o6 l/o7 l/o8")[a.below(8):]
			got := wantBuild(t, p, "main", s, names)
			if got.Code != 0 || t.Failed() {
				t.Fatalf("%s", builtShown(got))
			}
			remembered += len(impl.HouseBuild(p, "main", impl.HouseShelf{}, names).Ran) - len(got.Ran)
			s = got.Shelf
		}
	}
	if remembered < 100 {
		t.Errorf("only %d remembered", remembered)
	}
}

// No argument is changed, nor what lies behind its lists; answers are new memory, and no two parts of one share any.
func TestHouseBuildOwnMemory(t *testing.T) {
	dice := clayDice(2204)
	a := houseAuthor{&dice}
	pieces := 0
	ask := func(p impl.MillPlace, s impl.HouseShelf, names []string) impl.HouseBuilt {
		t.Helper()
		roomy, seenPlace := roomyOf(p)
		shelf, seenShelf := roomyOf(s)
		asked, seenNames := roomyOf(names)
		main := string([]byte("main"))
		before := seenPlace() + seenShelf() + seenNames()
		built := impl.HouseBuild(roomy, main, shelf, asked)
		wantNewMemory(t, built, roomy, main, shelf, asked)
		pieces += len(memoryOf(reflect.ValueOf(built), "", nil))
		if seenPlace()+seenShelf()+seenNames() != before {
			t.Errorf("%s: changed", millPlaceShown(p))
		}
		kept := impl.HouseBuild(p, "main", s, names)
		// What is done to an answer does not come back.
		for i := range built.Shelf.Kept {
			for n := range built.Shelf.Kept[i].Made.Seen {
				built.Shelf.Kept[i].Made.Seen[n].Name = "other"
			}
			built.Shelf.Kept[i] = impl.HouseKept{}
		}
		if again := impl.HouseBuild(roomy, main, shelf, asked); !isSameBuilt(again, kept) {
			t.Errorf("%s, again %s", builtShown(kept), builtShown(again))
		}
		return kept
	}
	// One text in many parts of the shelf, and names that are told twice.
	one := string([]byte("one text"))
	shared := impl.HouseKept{Target: impl.ClayTarget{Name: one, Tool: one, Arg: one, Ins: []string{one, one[:3]}, Outs: []string{one}}, Made: impl.HouseMade{Name: one, Text: one, Files: []impl.MillFile{{Name: one, Text: one}}, Said: []string{one, one}, Seen: []impl.MillSeen{{Name: one, Reply: impl.MillReply{Text: one}}}, Wait: one}}
	p := houseWith([]string{"a set o>p>text > o p", "b get q>o < o p > q", "c ends r>1 > r", "d get s>r > s", "e get u>u > u", "f list v> < o > v", "g get w>src < src > w"})
	names := strings.Fields("q s u v w u o o src gone")
	got := ask(p, shelfOf(shared, shared), names)
	if len(got.Ran) != 6 || len(got.Shelf.Kept) != 8 || len(got.Never) != 1 {
		t.Errorf("%s", builtShown(got))
	}
	got = ask(p, got.Shelf, names)
	if len(got.Ran) != 0 {
		t.Errorf("%s", builtShown(got))
	}
	ask(placeWith(t, p, "src", "T"), got.Shelf, names)
	ask(p, shelfOf(slices.Repeat([]impl.HouseKept{shared}, 98)...), names)
	ask(p, shelfOf(slices.Repeat([]impl.HouseKept{shared}, 101)...), names)
	for range 20 {
		house := a.house()
		s := ask(house, impl.HouseShelf{}, houseNames).Shelf
		ask(a.changed(t, house), s, houseNames)
	}
	if pieces < 2000 {
		t.Errorf("only %d pieces of memory", pieces)
	}
}

// Many at once: nothing is kept between calls.
func TestHouseBuildKeepsNothing(t *testing.T) {
	var all []func() string
	for n := range 8 {
		text := fmt.Sprint("n", n)
		p := houseWith([]string{"a get 1>2 > 1", "b get 2>3 > 2", "c get 3>text > 3", "d get 4>4 > 4"}, "text", text)
		other := placeWith(t, p, "text", "other")
		s := impl.HouseBuild(other, "main", impl.HouseShelf{}, []string{"1"}).Shelf
		all = append(all, func() string {
			first := impl.HouseBuild(p, "main", s, []string{"1", "4"})
			second := impl.HouseBuild(p, "main", first.Shelf, []string{"1", "4"})
			third := impl.HouseBuild(other, "main", first.Shelf, []string{"1", "4"})
			if len(first.Ran) != 3 || len(second.Ran) != 0 || len(third.Ran) != 0 || first.Replies[0].Text != text+"!!!" || second.Replies[0].Text != text+"!!!" || third.Replies[0].Text != "other!!!" || !slices.Equal(third.Never, []string{"4"}) {
				return builtShown(first) + builtShown(second) + builtShown(third)
			}
			return ""
		})
	}
	wantAtOnce(t, all)
}

func FuzzHouseBuild(f *testing.F) {
	f.Add(emitsOf("a t x < i > o", "b u > i"), inMain(`write "o", read("i") + list("") + arg(); return tool("u", "");`), inMain(`if has("o") { write "i", "1"; } return "";`), "o", 0)
	f.Add(emitsOf("a t x < o > o p", "b o > q"), inMain(`return read("p");`), "S", "q", 3)
	f.Add(emitsOf("a t > o"), inMain(`write "o", read("o"); return "";`), "", "o", 7)
	f.Fuzz(func(t *testing.T, main, first, second, name string, which int) {
		for _, src := range []string{first, second} {
			if tree, _ := impl.MillParse(src); len(tree.Nodes) > 300 || len(src) > 2000 {
				return
			}
		}
		if len(main) > 3000 {
			return
		}
		names := []string{name, "o", "i"}
		p := placeOf("main.clay", main, "t", first, "u", second)
		got := wantBuild(t, p, "main", impl.HouseShelf{}, names)
		changed := placeOf("main.clay", main, "t", first+" ", "u", second)
		got = wantBuild(t, changed, "main", got.Shelf, names)
		for _, k := range got.Shelf.Kept {
			lies := liesOf(k)
			lie := lies[(which%len(lies)+len(lies))%len(lies)].kept
			if impl.HouseHonest(lie) != isHonestByRules(lie) {
				t.Errorf("%s", keptShown(lie))
			}
			wantBuild(t, p, "main", shelfOf(append([]impl.HouseKept{lie}, got.Shelf.Kept...)...), names)
		}
	})
}
