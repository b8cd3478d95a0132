package tests

import (
	"fmt"
	"reflect"
	"slices"
	"strings"
	"testing"

	"loop.example/kilnyard/impl"
)

// houseReader is a second reading of what a house means: runs are asked again and again, look by look, until nothing more comes of it.
type houseReader struct {
	place   impl.MillPlace
	targets []impl.ClayTarget
	made    []impl.HouseMade
}

// houseRead goes through the targets in the order of turn, time and again.
func houseRead(p impl.MillPlace, targets []impl.ClayTarget, turn []int) *houseReader {
	h := &houseReader{place: p, targets: targets, made: make([]impl.HouseMade, len(targets))}
	for changed := true; changed; {
		changed = false
		for _, at := range turn {
			if h.made[at].Over {
				continue
			}
			made := houseRunByRules(targets[at], h.look)
			changed = changed || made.Over || len(made.Seen) > len(h.made[at].Seen)
			h.made[at] = made
		}
	}
	return h
}

// look is what the house answers as things stand; false, if who looks has to wait.
func (h *houseReader) look(kind int, name string) (impl.MillReply, bool) {
	maker := slices.IndexFunc(h.targets, func(target impl.ClayTarget) bool { return slices.Contains(target.Outs, name) })
	isFile := slices.ContainsFunc(h.place.Files, func(file impl.MillFile) bool { return file.Name == name })
	switch {
	case kind == 3:
		var names []string
		for _, file := range h.place.Files {
			names = append(names, file.Name)
		}
		for _, target := range h.targets {
			names = append(names, target.Outs...)
		}
		slices.Sort(names)
		list := ""
		for _, one := range names {
			if len(one) >= len(name) && one[:len(name)] == name {
				list += one + "\n"
			}
		}
		if len(list) > 3000 {
			return impl.MillReply{Code: 5}, true
		}
		return impl.MillReply{Text: list}, true
	case kind == 2 && (isFile || maker >= 0):
		return impl.MillReply{}, true
	case kind == 2:
		return impl.MillReply{Code: 4}, true
	case isFile:
		return millSeeByRules(h.place, 1, name), true
	case maker < 0:
		return impl.MillReply{Code: 4}, true
	case !h.made[maker].Over:
		return impl.MillReply{}, false
	case h.made[maker].Code != 0:
		return impl.MillReply{Code: 5}, true
	}
	for _, file := range h.made[maker].Files {
		if file.Name == name {
			return impl.MillReply{Text: file.Text}, true
		}
	}
	panic("an out that is not written: " + name)
}

// houseRunByRules is what the run of a target comes to, as far as its looks are answered.
func houseRunByRules(target impl.ClayTarget, answer func(kind int, name string) (impl.MillReply, bool)) impl.HouseMade {
	made := impl.HouseMade{Name: target.Name}
	var last impl.MillReply
	for _, name := range append(slices.Clone(target.Ins), target.Tool) {
		y, is := answer(1, name)
		if !is {
			made.Wait = name
			return made
		}
		last = y
		made.Seen = append(made.Seen, impl.MillSeen{Kind: 1, Name: name, Reply: y})
		if y.Code != 0 {
			made.Over, made.Code, made.Text = true, y.Code, name
			return made
		}
	}
	tree, fault := impl.MillParse(last.Text)
	if fault.Code != 0 || impl.MillCheck(tree).Code != 0 {
		made.Over, made.Code, made.Text = true, 2, "tool"
		return made
	}
	for {
		var replies []impl.MillReply
		for _, one := range made.Seen[len(target.Ins)+1:] {
			replies = append(replies, one.Reply)
		}
		turn := impl.MillMean(tree, impl.MillJob{Arg: target.Arg, Outs: target.Outs}, replies)
		if turn.Over {
			made.Over, made.Code, made.Text, made.Steps, made.Files, made.Said = true, turn.Code, turn.Text, turn.Steps, turn.Files, turn.Said
			return made
		}
		y, is := answer(turn.Kind, turn.Name)
		if !is {
			made.Wait = turn.Name
			return made
		}
		made.Seen = append(made.Seen, impl.MillSeen{Kind: turn.Kind, Name: turn.Name, Reply: y})
	}
}

// turnOf are the numbers below many, ascending or descending.
func turnOf(many int, ascending bool) []int {
	var turn []int
	for i := range many {
		turn = append(turn, i)
	}
	if !ascending {
		slices.Reverse(turn)
	}
	return turn
}

func isSameMade(a, b impl.HouseMade) bool {
	return a.Name == b.Name && a.Over == b.Over && a.Code == b.Code && a.Text == b.Text && a.Steps == b.Steps && slices.Equal(a.Files, b.Files) && slices.Equal(a.Said, b.Said) && slices.Equal(a.Seen, b.Seen) && a.Wait == b.Wait
}

func madeShown(made []impl.HouseMade) string {
	return fmt.Sprintf("%.3000q", fmt.Sprintf("%+v", made))
}

// houseCame is what a name came to, if it did.
type houseCame struct {
	reply impl.MillReply
	is    bool
}

// wantHouse asks Meaning and Comes for all that is said of them: they are the second reading, in whatever order this is made; and promise 31.
func wantHouse(t *testing.T, p impl.MillPlace, main string) []impl.HouseMade {
	t.Helper()
	kept := slices.Clone(p.Files)
	plan := wantHousePlan(t, p, main)
	got := impl.HouseMeaning(p, main)
	for _, ascending := range []bool{true, false} {
		h := houseRead(p, plan.Targets, turnOf(len(plan.Targets), ascending))
		if !slices.EqualFunc(got, h.made, isSameMade) {
			t.Errorf("%q in %s: got %s, want %s", main, millPlaceShown(p), madeShown(got), madeShown(h.made))
			return got
		}
	}
	known := map[string]houseCame{}
	comes := func(name string) (impl.MillReply, bool) {
		came, there := known[name]
		if !there {
			came.reply, came.is = impl.HouseComes(p, main, name)
			known[name] = came
		}
		return came.reply, came.is
	}
	h := &houseReader{p, plan.Targets, got}
	names := map[string]bool{"": true, "gone": true, "a b": true}
	for _, file := range p.Files {
		names[file.Name] = true
	}
	for _, target := range plan.Targets {
		for _, out := range append(target.Outs, target.Name) {
			names[out] = true
		}
	}
	for name := range names {
		y, is := comes(name)
		want, should := h.look(1, name)
		if plan.Code != 0 {
			want, should = impl.MillReply{}, false
		}
		if y != want || is != should {
			t.Errorf("%q in %s: %q comes to %+v, %v, want %+v, %v", main, millPlaceShown(p), name, y, is, want, should)
		}
	}
	wantMeaning(t, p, plan.Targets, got, comes)
	if !slices.Equal(p.Files, kept) {
		t.Errorf("%s: changed", millPlaceShown(p))
	}
	return got
}

// wantMeaning asks for promise 31, and that what is not told is nothing. A run that is not over is not honest.
func wantMeaning(t *testing.T, p impl.MillPlace, targets []impl.ClayTarget, all []impl.HouseMade, comes func(name string) (impl.MillReply, bool)) {
	t.Helper()
	for at, made := range all {
		target := targets[at]
		if made.Name != target.Name {
			t.Errorf("%q is told as %q", target.Name, made.Name)
		}
		for n, one := range made.Seen {
			if n <= len(target.Ins) && (one.Kind != 1 || one.Name != append(slices.Clone(target.Ins), target.Tool)[n]) {
				t.Errorf("%q: look %d is %+v", made.Name, n, one)
			}
			if !impl.MillValidReply(one.Reply) || one.Kind < 1 || one.Kind > 3 {
				t.Errorf("%q: look %d is %+v", made.Name, n, one)
			}
			if one.Kind != 1 {
				continue
			}
			if y, is := comes(one.Name); !is || y != one.Reply {
				t.Errorf("%q: %q is seen as %+v, and comes to %+v, %v", made.Name, one.Name, one.Reply, y, is)
			}
		}
		wantMadeAgain(t, target, made)
		if impl.HouseHonest(impl.HouseKept{Target: target, Made: made}) != made.Over {
			t.Errorf("%s: over, but not honest, or the other way around", madeShown(all[at:at+1]))
		}
		if made.Over {
			continue
		}
		if y, is := comes(made.Wait); is || y != (impl.MillReply{}) {
			t.Errorf("%q waits for %q, which comes to %+v", made.Name, made.Wait, y)
		}
		if !isSameMade(made, impl.HouseMade{Name: made.Name, Seen: made.Seen, Wait: made.Wait}) || made.Wait == "" {
			t.Errorf("%q: %s", made.Name, madeShown(all[at:at+1]))
		}
	}
}

// wantMadeAgain asks that a run, gone through by what it saw, comes to the same; and that this is just what it needs.
func wantMadeAgain(t *testing.T, target impl.ClayTarget, made impl.HouseMade) {
	t.Helper()
	// By the ins, too: this is what makes a run honest.
	left := made.Seen
	again := houseRunByRules(target, func(kind int, name string) (impl.MillReply, bool) {
		if len(left) == 0 || left[0].Kind != kind || left[0].Name != name {
			return impl.MillReply{}, false
		}
		y := left[0].Reply
		left = left[1:]
		return y, true
	})
	if !isSameMade(again, made) || len(left) > 0 {
		t.Errorf("%s, again %s, %d looks left", madeShown([]impl.HouseMade{made}), madeShown([]impl.HouseMade{again}), len(left))
	}
	if len(made.Seen) <= len(target.Ins) {
		if last := len(made.Seen) - 1; made.Over && (made.Steps != 0 || made.Seen[last].Reply.Code != made.Code || made.Seen[last].Name != made.Text) {
			t.Errorf("%s", madeShown([]impl.HouseMade{made}))
		}
		return
	}
	// From its Tool on.
	want := impl.MillActed{Code: 9}
	if made.Wait != "" && made.Over || made.Wait == "" && !made.Over {
		t.Errorf("%s", madeShown([]impl.HouseMade{made}))
	}
	if made.Over {
		want = impl.MillActed{Code: made.Code, Text: made.Text, Steps: made.Steps, Files: made.Files, Said: made.Said, Seen: made.Seen[len(target.Ins):]}
	}
	if acted := impl.MillAgain(made.Seen[len(target.Ins):], target.Tool, impl.MillJob{Arg: target.Arg, Outs: target.Outs}); !isSameMillActed(acted, want) {
		t.Errorf("%s, again %s", madeShown([]impl.HouseMade{made}), millActedShown(acted))
	}
}

// madeOver is a run's end, behind what was seen.
func madeOver(name string, turn impl.MillTurn, seen ...impl.MillSeen) impl.HouseMade {
	return impl.HouseMade{Name: name, Over: true, Code: turn.Code, Text: turn.Text, Steps: turn.Steps, Files: turn.Files, Said: turn.Said, Seen: seen}
}

// madeWaits is a run that is never over.
func madeWaits(name, wait string, seen ...impl.MillSeen) impl.HouseMade {
	return impl.HouseMade{Name: name, Wait: wait, Seen: seen}
}

func wantMade(t *testing.T, p impl.MillPlace, want ...impl.HouseMade) {
	t.Helper()
	if got := wantHouse(t, p, "main"); !slices.EqualFunc(got, want, isSameMade) {
		t.Errorf("%s: got %s, want %s", millPlaceShown(p), madeShown(got), madeShown(want))
	}
}

// wantEnds asks for the codes, texts and numbers of looks of all runs, or what they wait for.
func wantEnds(t *testing.T, p impl.MillPlace, want ...string) {
	t.Helper()
	if ends := madeEnds(wantHouse(t, p, "main")); !slices.Equal(ends, want) {
		t.Errorf("%s: got %q, want %q", millPlaceShown(p), ends, want)
	}
}

// madeEnds has for each run its name, code, text and number of looks, or what it waits for.
func madeEnds(all []impl.HouseMade) []string {
	var ends []string
	for _, made := range all {
		if made.Over {
			ends = append(ends, fmt.Sprintf("%s %d %q %d", made.Name, made.Code, made.Text, len(made.Seen)))
		} else {
			ends = append(ends, fmt.Sprintf("%s waits %s %d", made.Name, made.Wait, len(made.Seen)))
		}
	}
	return ends
}

func wantComes(t *testing.T, p impl.MillPlace, name string, code int, text string) {
	t.Helper()
	if y, is := impl.HouseComes(p, "main", name); !is || y != (impl.MillReply{Code: code, Text: text}) {
		t.Errorf("%q in %s: %+v, %v", name, millPlaceShown(p), y, is)
	}
}

func wantNever(t *testing.T, p impl.MillPlace, main string, names ...string) {
	t.Helper()
	for _, name := range names {
		if y, is := impl.HouseComes(p, main, name); is || y != (impl.MillReply{}) {
			t.Errorf("%q of %q in %s: %+v, %v", name, main, millPlaceShown(p), y, is)
		}
	}
}

// Tools that most houses are made of: each writes the outs that its arg begins with, each with a `>` behind it.
const (
	houseOuts = `fn outs(s text) { let rest = arg(); while find(rest, ">") >= 0 { let end = find(rest, ">"); write cut(rest, 0, end), s; rest = cut(rest, end + 1, len(rest)); } } ` +
		`fn behind() -> text { let rest = arg(); while find(rest, ">") >= 0 { rest = cut(rest, find(rest, ">") + 1, len(rest)); } return rest; } `
	// houseGet writes what it reads under the name that the arg ends with, and a `!`.
	houseGet = houseOuts + `fn main() -> text { outs(read(behind()) + "!"); return "got"; }`
	// houseSet writes what its arg ends with.
	houseSet = houseOuts + `fn main() -> text { outs(behind()); return "set"; }`
	// houseHas writes whether there is what its arg ends with.
	houseHas = houseOuts + `fn main() -> text { if has(behind()) { outs("yes"); } else { outs("no"); } return "asked"; }`
	// houseList writes the list of what its arg ends with.
	houseList = houseOuts + `fn main() -> text { outs(list(behind())); return "listed"; }`
	// houseTool writes what the tool gives that its arg ends with.
	houseTool = houseOuts + `fn main() -> text { outs(tool(behind(), "x")); return "called"; }`
	// houseEnds ends otherwise than well: its arg's last byte tells how.
	houseEnds = houseOuts + `fn main() -> text { say "ends"; let b = behind(); if b == "1" { fail "why"; } if b == "2" { outs(dec(1 / 0)); } if b == "3" { while true { } } if b == "4" { outs(read("gone")); } if b == "5" { outs(read("bad")); } if b == "9" { return ""; } outs("well"); return b; }`
)

// houseWith is a house of such tools, with targets told by words and more files.
func houseWith(targets []string, more ...string) impl.MillPlace {
	return houseOf(append([]string{"main.clay", emitsOf(targets...), "get", houseGet, "set", houseSet, "has", houseHas, "list", houseList, "tool", houseTool, "ends", houseEnds, "src", "S", "empty", ""}, more...)...)
}

// houseWriter is a program that writes a text, and returns another.
func houseWriter(out, text, gives string) string {
	return inMain("write " + millQuoted(out) + ", " + millQuoted(text) + "; return " + millQuoted(gives) + ";")
}

// A chain of targets, told in both orders, with names in both orders.
func TestHouseMeaningChain(t *testing.T) {
	for _, names := range []string{"a b c d", "d c b a", "b d a c", "c a d b"} {
		n := strings.Fields(names)
		targets := []string{n[0] + " get 1>src > 1", n[1] + " get 2>1 > 2", n[2] + " get 3>2 > 3", n[3] + " get 4>3 > 4"}
		for range 2 {
			p := houseWith(targets)
			var want []impl.HouseMade
			for at, name := range n {
				from, text := fmt.Sprint(at), "S"+strings.Repeat("!", at)
				if at == 0 {
					from = "src"
				}
				want = append(want, madeOver(name, millWrote(millDone("got", 18), fmt.Sprint(at+1), text+"!"), sawRead("get", houseGet), sawRead(from, text)))
			}
			slices.SortFunc(want, func(a, b impl.HouseMade) int { return strings.Compare(a.Name, b.Name) })
			wantMade(t, p, want...)
			wantComes(t, p, "4", 0, "S!!!!")
			wantComes(t, p, "1", 0, "S!")
			slices.Reverse(targets)
		}
	}
	// By ins alone, and by tools alone.
	wantEnds(t, houseWith([]string{"a get 1>src < 2 > 1", "b get 2>src < 3 > 2", "c get 3>src < src > 3"}), `a 0 "got" 3`, `b 0 "got" 3`, `c 0 "got" 3`)
	pass := houseWriter("3", houseWriter("2", houseWriter("1", "made", "one"), "two"), "three")
	p := houseWith([]string{"a 2 > 1", "b 3 > 2", "c pass > 3"}, "pass", pass)
	wantEnds(t, p, `a 0 "one" 1`, `b 0 "two" 1`, `c 0 "three" 1`)
	wantComes(t, p, "1", 0, "made")
}

// Sixty targets, as many as there can be: in a row in both orders, all behind one, and each behind all that come later.
func TestHouseMeaningMany(t *testing.T) {
	t.Parallel()
	number := func(i int) string { return fmt.Sprintf("%02d", i) }
	house := func(arg func(i int) string, tool string, more ...string) impl.MillPlace {
		src := `def t(n, a) = {name: "n" + n, tool: "` + tool + `", arg: "o" + n + ">" + a, outs: ["o" + n]};`
		for i := range 60 {
			src += fmt.Sprintf("emit t(%q, %q);", number(i), arg(i))
		}
		return houseWith(nil, append(more, "main.clay", src)...)
	}
	up := house(func(i int) string {
		if i == 59 {
			return "src"
		}
		return "o" + number(i+1)
	}, "get")
	wantComes(t, up, "o00", 0, "S"+strings.Repeat("!", 60))
	down := house(func(i int) string {
		if i == 0 {
			return "src"
		}
		return "o" + number(i-1)
	}, "get")
	wantComes(t, down, "o59", 0, "S"+strings.Repeat("!", 60))
	star := house(func(i int) string {
		if i == 59 {
			return "src"
		}
		return "o59"
	}, "get")
	wantComes(t, star, "o00", 0, "S!!")
	// Each reads all later ones, the last one first, so that it waits for each of them.
	all := houseOuts + `fn two(n i64) -> text { if n < 10 { return "0" + dec(n); } return dec(n); } fn main() -> text { let s = 0; let i = 59; let mine = num(behind()); while i > mine { s = s + len(read("o" + two(i))); i = i - 1; } outs("x"); return dec(s); }`
	later := house(func(i int) string { return fmt.Sprint(i) }, "all", "all", all)
	// A ring of sixty, in which nothing comes.
	round := house(func(i int) string { return "o" + number((i+1)%60) }, "get")
	for _, p := range []impl.MillPlace{up, down, star, later, round} {
		plan := wantHousePlan(t, p, "main")
		if plan.Code != 0 || len(plan.Targets) != 60 {
			t.Fatalf("%d, %d targets", plan.Code, len(plan.Targets))
		}
		got := impl.HouseMeaning(p, "main")
		want := houseRead(p, plan.Targets, turnOf(60, false)).made
		if !slices.EqualFunc(got, want, isSameMade) {
			t.Errorf("got %s, want %s", madeShown(got), madeShown(want))
		}
	}
	for at, made := range impl.HouseMeaning(later, "main") {
		if made.Text != fmt.Sprint(59-at) || len(made.Seen) != 60-at {
			t.Errorf("%s", madeShown([]impl.HouseMade{made}))
		}
	}
	for at, made := range impl.HouseMeaning(round, "main") {
		if made.Over || made.Wait != "o"+number((at+1)%60) || len(made.Seen) != 1 {
			t.Errorf("%s", madeShown([]impl.HouseMade{made}))
		}
	}
	wantNever(t, round, "main", "o00", "o30", "o59")
}

// What waits for itself, by each of the looks that wait.
func TestHouseMeaningWaitsForItself(t *testing.T) {
	saysFirst := inMain(`say "first"; write "o", "w"; return read("o");`)
	wantMade(t, houseWith([]string{"n get o>o > o"}), madeWaits("n", "o", sawRead("get", houseGet)))
	wantMade(t, houseWith([]string{"n get o>src < o > o"}), madeWaits("n", "o"))
	wantMade(t, houseWith([]string{"n get o>src < empty o src > o"}), madeWaits("n", "o", sawRead("empty", "")))
	wantMade(t, houseWith([]string{"n o o>src > o"}), madeWaits("n", "o"))
	wantMade(t, houseWith([]string{"n o o>src < src > o"}), madeWaits("n", "o", sawRead("src", "S")))
	wantMade(t, houseWith([]string{"n tool o>o > o"}), madeWaits("n", "o", sawRead("tool", houseTool)))
	// Nothing of what it said, wrote and did is told.
	wantMade(t, houseWith([]string{"n t > o"}, "t", saysFirst), madeWaits("n", "o", sawRead("t", saysFirst)))
	// By another of its outs.
	wantMade(t, houseWith([]string{"n get o>p>p > o p"}), madeWaits("n", "p", sawRead("get", houseGet)))
	// To ask whether there is such an out, and to list it, does not wait.
	wantEnds(t, houseWith([]string{"n has o>o > o"}), `n 0 "asked" 2`)
	wantEnds(t, houseWith([]string{"n list o>o > o"}), `n 0 "listed" 2`)
	p := houseWith([]string{"n has o>o > o"})
	wantComes(t, p, "o", 0, "yes")
	p = houseWith([]string{"n list o>o > o"})
	wantComes(t, p, "o", 0, "o\n")
	wantNever(t, houseWith([]string{"n get o>p>p > o p"}), "main", "o", "p")
}

// Two that wait for each other, and others that wait for one of them.
func TestHouseMeaningWaitsForEachOther(t *testing.T) {
	wantEnds(t, houseWith([]string{"a get 1>2 > 1", "b get 2>1 > 2"}), "a waits 2 1", "b waits 1 1")
	wantEnds(t, houseWith([]string{"a get 1>src < 2 > 1", "b get 2>1 > 2"}), "a waits 2 0", "b waits 1 1")
	wantEnds(t, houseWith([]string{"a 2 > 1", "b get 2>src < src 1 > 2"}), "a waits 2 0", "b waits 1 0")
	wantEnds(t, houseWith([]string{"a tool 1>2 > 1", "b 1 > 2"}), "a waits 2 1", "b waits 1 0")
	for _, names := range []string{"a b c d e", "e d c b a", "c e a d b"} {
		n := strings.Fields(names)
		p := houseWith([]string{n[0] + " get 1>2 > 1", n[1] + " get 2>1 > 2", n[2] + " get 3>1 > 3", n[3] + " get 4>src < src 3 > 4", n[4] + " get 5>src > 5"})
		want := []string{n[0] + " waits 2 1", n[1] + " waits 1 1", n[2] + " waits 1 1", n[3] + " waits 3 0", n[4] + ` 0 "got" 2`}
		slices.Sort(want)
		wantEnds(t, p, want...)
		wantNever(t, p, "main", "1", "2", "3", "4")
		wantComes(t, p, "5", 0, "S!")
	}
	// A third that asks for one of them, lists it, or ends ahead of looking at it, does not wait.
	p := houseWith([]string{"a get 1>2 > 1", "b get 2>1 > 2", "c has 3>1 > 3", "d list 4>1 > 4", "e ends 5>1 > 5", "f get 6>src < gone 1 > 6", "g get 7>src < 1 gone > 7"})
	wantEnds(t, p, "a waits 2 1", "b waits 1 1", `c 0 "asked" 2`, `d 0 "listed" 2`, `e 1 "why" 1`, "f waits 1 0", "g waits 1 0")
	wantComes(t, p, "3", 0, "yes")
	wantComes(t, p, "4", 0, "1\n")
	// An in that comes ahead of the one that never does ends the run.
	wantEnds(t, houseWith([]string{"a get 1>1 > 1", "b get 2>src < 0gone 1 > 2", "c get 3>src < 0bad 1 > 3", "d ends 0bad>1 > 0bad"}), "a waits 1 1", `b 4 "0gone" 1`, `c 5 "0bad" 1`, `d 1 "why" 1`)
	// A run that waits only where a file says so.
	maybe := houseOuts + `fn main() -> text { if has("flag") { outs(read(behind())); } else { outs("none"); } return ""; }`
	targets := []string{"a maybe 1>2 > 1", "b maybe 2>1 > 2"}
	wantEnds(t, houseWith(targets, "maybe", maybe), `a 0 "" 2`, `b 0 "" 2`)
	wantEnds(t, houseWith(targets, "maybe", maybe, "flag", ""), "a waits 2 2", "b waits 1 2")
}

// An in or a tool that is missing or below, each with its name, and those that are looked at ahead of it.
func TestHouseMeaningInsAndTool(t *testing.T) {
	bad := "z ends bad>1 > bad"
	badMade := madeOver("z", millEndsBy(1, "why", 12, "ends"), sawRead("ends", houseEnds))
	ask := func(target string, want impl.HouseMade) {
		t.Helper()
		wantMade(t, houseWith([]string{target, bad}), want, badMade)
		wantMade(t, houseWith([]string{bad, target}), want, badMade)
	}
	ask("n get o>src < gone > o", madeOver("n", millEndsBy(4, "gone", 0), saw(1, "gone", 4)))
	ask("n get o>src < empty gone src > o", madeOver("n", millEndsBy(4, "gone", 0), sawRead("empty", ""), saw(1, "gone", 4)))
	ask("n get o>src < bad > o", madeOver("n", millEndsBy(5, "bad", 0), saw(1, "bad", 5)))
	ask("n get o>src < a bad > o", madeOver("n", millEndsBy(4, "a", 0), saw(1, "a", 4)))
	ask("n get o>src < bad gone > o", madeOver("n", millEndsBy(5, "bad", 0), saw(1, "bad", 5)))
	ask("n get o>src < empty src > o", madeOver("n", millWrote(millDone("got", 18), "o", "S!"), sawRead("empty", ""), sawRead("src", "S"), sawRead("get", houseGet), sawRead("src", "S")))
	// Ins are looked at in their order, whatever the order in which they are told; the tool behind them.
	ask("n get o>src < src empty > o", madeOver("n", millWrote(millDone("got", 18), "o", "S!"), sawRead("empty", ""), sawRead("src", "S"), sawRead("get", houseGet), sawRead("src", "S")))
	ask("n gone o>src > o", madeOver("n", millEndsBy(4, "gone", 0), saw(1, "gone", 4)))
	ask("n gone o>src < src > o", madeOver("n", millEndsBy(4, "gone", 0), sawRead("src", "S"), saw(1, "gone", 4)))
	ask("n bad o>src > o", madeOver("n", millEndsBy(5, "bad", 0), saw(1, "bad", 5)))
	ask("n bad o>src < empty src > o", madeOver("n", millEndsBy(5, "bad", 0), sawRead("empty", ""), sawRead("src", "S"), saw(1, "bad", 5)))
	ask("n gone o>src < bad > o", madeOver("n", millEndsBy(5, "bad", 0), saw(1, "bad", 5)))
	// The tool as an in, the package and a target's name.
	ask("n set o>x < set > o", madeOver("n", millWrote(millDone("set", 18), "o", "x"), sawRead("set", houseSet), sawRead("set", houseSet)))
	ask("n set o>x < n > o", madeOver("n", millEndsBy(4, "n", 0), saw(1, "n", 4)))
	ask("n z o>x > o", madeOver("n", millEndsBy(4, "z", 0), saw(1, "z", 4)))
	// As many ins as there can be, each of them seen.
	src := `emit {name: "n", tool: "get", arg: "o>src", ins: ["i" + text(i) for i in range(200)], outs: ["o"]};`
	for i := range 10 {
		src += fmt.Sprintf(`emit {name: "m%d", tool: "many", arg: "%d", outs: ["i" + text(i) for i in cut(range(200), %d, %d)]};`, i, i*20, i*20, i*20+20)
	}
	many := inMain(`let i = num(arg()); let end = i + 20; while i < end { write "i" + dec(i), dec(i * i); i = i + 1; } return "";`)
	p := houseWith(nil, "main.clay", src, "many", many)
	got := wantHouse(t, p, "main")
	last := got[len(got)-1]
	if last.Name != "n" || last.Code != 0 || len(last.Seen) != 202 || last.Seen[199] != sawRead("i99", "9801") || last.Seen[2] != sawRead("i10", "100") {
		t.Errorf("%s", madeShown(got[len(got)-1:]))
	}
	// One of them that is not made: all of them up to it are seen.
	p = houseWith(nil, "main.clay", src, "many", strings.Replace(many, `return "";`, `if i == 140 { fail "no"; } return "";`, 1))
	got = wantHouse(t, p, "main")
	if last = got[len(got)-1]; last.Code != 5 || last.Text != "i120" || last.Seen[len(last.Seen)-1] != saw(1, "i120", 5) {
		t.Errorf("%s", madeShown(got[len(got)-1:]))
	}
}

// A tool that another target makes, and a tool whose text is no program, or does not fit.
func TestHouseMeaningTools(t *testing.T) {
	program := inMain(`write "o", arg() + read("src"); return tool("made2", "y");`)
	second := inMain(`return arg() + list("made");`)
	gen := func(out, text string) string { return houseWriter(out, text, "") }
	p := houseWith([]string{"n made x > o", "g gen > made", "h gen2 > made2"}, "gen", gen("made", program), "gen2", gen("made2", second))
	wantMade(t, p,
		madeOver("g", millWrote(millDone("", 3), "made", program), sawRead("gen", gen("made", program))),
		madeOver("h", millWrote(millDone("", 3), "made2", second), sawRead("gen2", gen("made2", second))),
		madeOver("n", millWrote(millDone("ymade\nmade2\n", 5), "o", "xS"), sawRead("made", program), sawRead("src", "S"), sawRead("made2", second), sawList("made", "made\nmade2\n")))
	for text, is := range map[string]bool{"": false, "S": false, "fn main()": false, inMain(`return 1;`): false, `fn f() { }`: false, `fn main() { }`: false, inMain(`return "r";`): true, "\xff": false, strings.Repeat(" ", 3000): false} {
		// Lying there, or made.
		ends := `n 2 "tool" 1`
		called := `m 2 "tool in main" 2`
		if is {
			ends, called = `n 2 "lacks o" 1`, `m 0 "called" 2`
		}
		wantEnds(t, houseWith([]string{"n t > o", "m tool p>t > p"}, "t", text), called, ends)
		if made := gen("t", text); len(made) <= 3000 {
			wantEnds(t, houseWith([]string{"n t > o", "m tool p>t > p", "z gen > t"}, "gen", made), called, ends, `z 0 "" 1`)
		}
	}
	// The text of a tool that is no program ends the run where ins are seen, too.
	wantMade(t, houseWith([]string{"n src > o"}), madeOver("n", millBroke("tool", 0), sawRead("src", "S")))
	wantMade(t, houseWith([]string{"n src < empty src > o"}), madeOver("n", millBroke("tool", 0), sawRead("empty", ""), sawRead("src", "S"), sawRead("src", "S")))
}

// A run that ends with each code of chapter 15, and who looks at its outs.
func TestHouseMeaningCodes(t *testing.T) {
	for how, want := range map[string]string{"0": `0 "0" 1`, "1": `1 "why" 1`, "2": `2 "divide in main" 1`, "3": `3 "" 1`, "4": `4 "gone" 2`, "5": `5 "bad" 2`, "9": `2 "lacks p" 1`} {
		for _, name := range []string{"a", "y"} {
			targets := []string{name + " ends p>q>" + how + " > p q", "bad ends bad>1 > bad"}
			targets = append(targets, "c get r>p > r", "d has s>q > s", "e list t>q > t", "f get u>src < q > u", "g p v> > v", "h tool w>q > w", "k get x>r > x")
			p := houseWith(targets)
			read, in, tool, called, behind := `c 0 "got" 2`, `f 0 "got" 3`, `g 2 "tool" 1`, `h 2 "tool in main" 2`, `k 0 "got" 2`
			if how != "0" {
				read, in, tool, called, behind = `c 5 "p" 2`, `f 5 "q" 1`, `g 5 "p" 1`, `h 5 "q" 2`, `k 5 "r" 2`
				wantComes(t, p, "p", 5, "")
				wantComes(t, p, "q", 5, "")
				wantComes(t, p, "r", 5, "")
			} else {
				wantComes(t, p, "p", 0, "well")
				wantComes(t, p, "q", 0, "well")
				wantComes(t, p, "x", 0, "well!!")
			}
			wantComes(t, p, "s", 0, "yes")
			wantComes(t, p, "t", 0, "q\n")
			wantComes(t, p, "bad", 5, "")
			ends := []string{name + " " + want, `bad 1 "why" 1`, read, `d 0 "asked" 2`, `e 0 "listed" 2`, in, tool, called, behind}
			slices.Sort(ends)
			wantEnds(t, p, ends...)
		}
	}
	// Nothing is written by a run that ends otherwise, and what was said is told.
	p := houseWith([]string{"a ends p>1 > p"})
	wantMade(t, p, madeOver("a", millEndsBy(1, "why", 12, "ends"), sawRead("ends", houseEnds)))
	p = houseWith([]string{"a ends p>3 > p"})
	if made := wantHouse(t, p, "main")[0]; made.Steps != 4000 || made.Code != 3 || made.Text != "" || len(made.Files) != 0 || !slices.Equal(made.Said, []string{"ends"}) {
		t.Errorf("%s", madeShown([]impl.HouseMade{made}))
	}
}

// A run looks at an out of another target before and after that one is over; the same name, and what is neither, too.
func TestHouseMeaningLooks(t *testing.T) {
	looks := `fn main() -> text { let s = ""; if has("m") { s = "h"; } s = s + list("m"); s = s + read("m") + read("m") + read("src"); if has("gone") { s = s + "?"; } if has("n2") { s = s + "!"; } write arg(), s + list("gone"); return s; }`
	for _, maker := range []string{"a", "n1x", "z"} {
		p := houseWith([]string{"n1 looks o1 > o1", "n2 looks o2 > o2", maker + " set m>M > m"}, "looks", looks)
		seen := []impl.MillSeen{sawRead("looks", looks), saw(2, "m", 0), sawList("m", "m\nmain.clay\n"), sawRead("m", "M"), sawRead("m", "M"), sawRead("src", "S"), saw(2, "gone", 4), saw(2, "n2", 4), sawList("gone", "")}
		text := "hm\nmain.clay\nMMS"
		want := []impl.HouseMade{
			madeOver("n1", millWrote(millDone(text, 10), "o1", text), seen...),
			madeOver("n2", millWrote(millDone(text, 10), "o2", text), seen...),
			madeOver(maker, millWrote(millDone("set", 18), "m", "M"), sawRead("set", houseSet)),
		}
		slices.SortFunc(want, func(a, b impl.HouseMade) int { return strings.Compare(a.Name, b.Name) })
		wantMade(t, p, want...)
	}
	// A look at a name that is neither: a target's name, a package's, a beginning of names.
	for _, name := range []string{"gone", "n", "main", "sr", "srcx", "o/", "SRC"} {
		p := houseWith([]string{"n get o/p>" + name + " > o/p"})
		wantMade(t, p, madeOver("n", millEndsBy(4, name, 9), sawRead("get", houseGet), saw(1, name, 4)))
		wantComes(t, p, name, 4, "")
		p = houseWith([]string{"n has o/p>" + name + " > o/p"})
		wantComes(t, p, "o/p", 0, "no")
	}
	// The packages of the house are files as all others.
	p := houseWith([]string{"n get o>main.clay > o"})
	wantComes(t, p, "o", 0, emitsOf("n get o>main.clay > o")+"!")
	// What was written is not there for the run that writes it, nor for others until it is over.
	first := inMain(`write "o", "1"; if has("o") { say "there"; } say list("o"); write "o", read("p"); return "";`)
	p = houseWith([]string{"n first > o", "m second > p"}, "first", first, "second", inMain(`write "p", "2"; return "";`))
	wantMade(t, p,
		madeOver("m", millWrote(millDone("", 3), "p", "2"), sawRead("second", inMain(`write "p", "2"; return "";`))),
		madeOver("n", millWrote(millDone("", 7, "there", "o\n"), "o", "2"), sawRead("first", first), saw(2, "o", 0), sawList("o", "o\n"), sawRead("p", "2")))
	// has of an out that never comes.
	p = houseWith([]string{"n has o>p > o", "m get p>p > p"})
	wantMade(t, p, madeWaits("m", "p", sawRead("get", houseGet)), madeOver("n", millWrote(millDone("asked", 19), "o", "yes"), sawRead("has", houseHas), saw(2, "p", 0)))
}

// A list tells of files and outs, in order.
func TestHouseMeaningLists(t *testing.T) {
	for _, begins := range []string{"", "l", "l/", "l/b", "l/c", "m", "~", "l/bb"} {
		want := ""
		for _, name := range []string{"#", "empty", "ends", "get", "has", "l", "l-", "l/", "l/a", "l/b", "l/c", "l/d", "l0", "list", "main.clay", "o", "set", "src", "tool", "z"} {
			if strings.HasPrefix(name, begins) {
				want += name + "\n"
			}
		}
		p := houseWith([]string{"n list o>" + begins + " > o", "m set l/b> > # l/b l/d l0 z", "k get l/>l/ > l/", "j gone > l-"}, "l", "", "l/a", "", "l/c", "")
		if y, is := impl.HouseComes(p, "main", "o"); !is || y.Text != want || y.Code != 0 {
			t.Errorf("%q: %+v", begins, y)
		}
		wantHouse(t, p, "main")
	}
	// Each name stands there once, also one that is an in, a tool and a target's name; none that is no file and no out does.
	p := houseWith([]string{"o list p>o < o > p", "p set o>x > o"})
	wantComes(t, p, "p", 0, "o\n")
}

// A list of just MillMaxText bytes, and of one more; what the run makes of it.
func TestHouseMeaningLongestList(t *testing.T) {
	asks := inMain(`let s = list("o/"); let o = list("o/000"); if len(s) > 0 { say "there"; } write "n", s; return dec(len(s)) + dec(len(o));`)
	for _, row := range []struct {
		long, more int
		code, size int
	}{{0, 0, 0, 3000}, {1, 0, 5, 0}, {2, 0, 5, 0}, {0, 1, 5, 0}, {0, -1, 0, 2940}, {1, -1, 0, 2941}, {0, 10, 5, 0}} {
		var outs []string
		for i := range 50 + row.more {
			size := 59
			if i < row.long {
				size = 60
			}
			outs = append(outs, fmt.Sprintf("o/%0*d", size-2, i))
		}
		src := emitsOf("n asks > n")
		files := []string{"asks", asks}
		for i := 0; i < len(outs); i += 20 {
			some := outs[i:min(i+20, len(outs))]
			target := impl.ClayTarget{Name: fmt.Sprint("m", i), Tool: "gone", Outs: some}
			pack := fmt.Sprintf("p%d", i)
			src += fmt.Sprintf("load %q: %s;", pack, pack)
			files = append(files, pack+".clay", fmt.Sprintf("let p%d = 1;", i)+emitOf(target))
		}
		p := houseOf(append(files, "main.clay", src)...)
		got := wantHouse(t, p, "main")
		made := got[len(got)-1]
		if made.Code != 0 || made.Seen[1].Reply.Code != row.code || len(made.Seen[1].Reply.Text) != row.size || row.code == 0 && made.Text != fmt.Sprintf("%d%d", row.size, row.size) {
			t.Errorf("%+v: %s", row, madeShown([]impl.HouseMade{made}))
		}
		if row.code == 5 && (made.Seen[1] != saw(3, "o/", 5) || !strings.HasPrefix(made.Text, "0") || len(made.Said) > 0 || made.Files[0].Text != "") {
			t.Errorf("%+v: %s", row, madeShown([]impl.HouseMade{made}))
		}
	}
}

// MaxLooks looks of the program, behind the ins and the tool, and one more.
func TestHouseMeaningMostLooks(t *testing.T) {
	t.Parallel()
	for _, ins := range []string{"", "< src", "< empty get m src"} {
		for _, look := range []string{`s = read("src");`, `if has("m") { }`, `s = list("m");`, `s = read("m");`, `s = tool("u", "");`} {
			for _, many := range []int{99, 100, 101, 1000} {
				src := inMain(fmt.Sprintf(`let i = 0; let s = ""; while i < %d { i = i + 1; %s } write "o", ""; return "done";`, many, look))
				p := houseWith([]string{"a looks " + ins + " > o", "b set m>M > m"}, "looks", src, "u", inMain(`return "";`))
				made := wantHouse(t, p, "main")[0]
				ahead := max(0, len(strings.Fields(ins))-1) + 1
				code, text := 0, "done"
				if many > 100 {
					code, text = 3, ""
				}
				if !made.Over || made.Code != code || made.Text != text || len(made.Seen) != ahead+min(many, 100) {
					t.Errorf("%s %s %d: %s", ins, look, many, madeShown([]impl.HouseMade{made}))
				}
			}
		}
	}
	// The last look that may be made is the first that waits.
	src := inMain(`let i = 0; while i < 99 { i = i + 1; if has("m") { } } write "o", read(arg()); return "";`)
	for arg, want := range map[string]string{"m": `a 0 "" 101`, "o": "a waits o 100", "gone": `a 4 "gone" 101`} {
		wantEnds(t, houseWith([]string{"a looks " + arg + " > o", "b set m>M > m"}, "looks", src), want, `b 0 "set" 1`)
	}
}

// No targets, and plans that have a code: nothing, and false.
func TestHouseMeaningNothing(t *testing.T) {
	p := houseWith(nil)
	if got := wantHouse(t, p, "main"); len(got) != 0 {
		t.Errorf("%s", madeShown(got))
	}
	// Without targets the files are there all the same.
	wantComes(t, p, "src", 0, "S")
	wantComes(t, p, "gone", 4, "")
	for code, src := range map[int]string{2: "let", 3: "emit {};", 4: emitsOf("n t > src")} {
		p := houseWith(nil, "main.clay", emitsOf("m set o>x > o")+src)
		if plan := wantHousePlan(t, p, "main"); plan.Code != code {
			t.Errorf("%q: %+v", src, plan)
		}
		if got := wantHouse(t, p, "main"); len(got) != 0 {
			t.Errorf("%q: %s", src, madeShown(got))
		}
		wantNever(t, p, "main", "src", "main.clay", "gone", "o", "", "a b")
	}
	good := houseWith([]string{"m set o>x > o"})
	for _, main := range []string{"gone", "", "A", "m", "main.clay"} {
		if got := wantHouse(t, good, main); len(got) != 0 {
			t.Errorf("%q: %s", main, madeShown(got))
		}
		wantNever(t, good, main, "src", "main.clay", "gone", "o", "")
	}
	for what, wrong := range millWrongPlaces() {
		if got := wantHouse(t, wrong, "main"); len(got) != 0 {
			t.Errorf("%s: %s", what, madeShown(got))
		}
		wantNever(t, wrong, "main", "a", "b", "m000", "gone", "")
	}
	wantNever(t, impl.MillPlace{Files: append(manyPacks(21), filesOf("z", "Z")...)}, "p000", "z", "p000.clay", "gone")
}

// What each name comes to.
func TestHouseComes(t *testing.T) {
	p := houseWith([]string{"a set o>p>text > o p", "b ends q>1 > q", "c get r>r > r", "d get s>r > s", "e set u> > u", "f get v>q > v", "g gone > w", "h src > x"}, "file", strings.Repeat("f", 3000))
	for _, file := range p.Files {
		wantComes(t, p, file.Name, 0, file.Text)
	}
	for name, text := range map[string]string{"o": "text", "p": "text", "u": ""} {
		wantComes(t, p, name, 0, text)
	}
	for _, name := range []string{"q", "v", "w", "x"} {
		wantComes(t, p, name, 5, "")
	}
	wantNever(t, p, "main", "r", "s")
	// Names that are neither, no names of files among them.
	for _, name := range append(millNoNames(), "", "a", "h", "main", "gone", "O", "o/", "sr", "file/") {
		wantComes(t, p, name, 4, "")
	}
	wantHouse(t, p, "main")
}

// houseAuthor draws houses.
type houseAuthor struct{ *clayDice }

// houseNames are those that drawn programs look at: files, outs, and what is neither.
var houseNames = strings.Fields("f1 f2 l/f o1 o2 o3 o4 o5 o6 l/o7 l/o8 t1 t2 gone")

// program is one that makes looks, and then writes the outs that its arg tells.
func (a houseAuthor) program() string {
	statements := `let s = ""; `
	for range a.below(4) {
		name := a.pick(houseNames...)
		statements += strings.ReplaceAll(a.pick(
			`s = s + read("NAME"); `, `s = s + read("NAME"); `, `if has("NAME") { s = s + read("NAME"); } `, `if has("NAME") { s = s + "h"; } `, `s = s + list("NAME"); `, `s = s + list(""); `, `s = s + list("o"); `,
			`say s; `, `s = cut(s, 0, len(s) / 2); `, `if len(s) > 9 { s = s + read("NAME"); } `, `if find(s, "!") < 0 { s = s + read("NAME"); } `, `if has("NAME") && len(arg()) > 1 { s = s + tool("NAME", ""); } `,
		), "NAME", name)
	}
	ends := `outs(s + "!"); return s;`
	switch a.below(12) {
	case 0:
		ends = `fail s;`
	case 1:
		ends = `return s;`
	case 2:
		ends = `while len(s) >= 0 { s = cut(s, 0, len(s) / 2); } return "";`
	}
	return houseOuts + `fn main() -> text { ` + statements + ends + ` }`
}

// targets are some, no out of two of them.
func (a houseAuthor) targets() []impl.ClayTarget {
	outs := strings.Fields("o1 o2 o3 o4 o5 o6 l/o7 l/o8")
	for i := range outs {
		j := a.below(len(outs))
		outs[i], outs[j] = outs[j], outs[i]
	}
	var targets []impl.ClayTarget
	for len(outs) > 0 && len(targets) < 7 {
		many := min(len(outs), 1+a.below(2)*a.below(3))
		target := impl.ClayTarget{Name: fmt.Sprint(a.pick("n", "m", "z"), len(targets)), Tool: a.pick("t1", "t2", "t3", "t4", "t1", "t2", "t3", "gen"), Outs: slices.Sorted(slices.Values(outs[:many]))}
		outs = outs[many:]
		for _, out := range target.Outs {
			target.Arg += out + ">"
		}
		if a.below(6) == 0 {
			target.Tool = a.pick(houseNames...)
		}
		for _, in := range houseNames {
			if a.below(12) == 0 {
				target.Ins = append(target.Ins, in)
			}
		}
		slices.Sort(target.Ins)
		targets = append(targets, target)
	}
	return targets
}

// house is a place with targets, told by one package or by several, in any order.
func (a houseAuthor) house() impl.MillPlace {
	packs := map[string]string{"main": "", "lib/b": "let b = 1;\n", "b-c": "let c = 1;\n"}
	used := map[string]bool{}
	targets := a.targets()
	for len(targets) > 0 {
		at := a.below(len(targets))
		pack := a.pick("main", "main", "lib/b", "b-c")
		packs[pack] += emitOf(targets[at])
		used[pack] = true
		targets = slices.Delete(targets, at, at+1)
	}
	p := houseOf("f1", "1", "f2", a.program(), "l/f", "", "t1", a.program(), "t2", a.program(), "t3", a.program(), "t4", a.program(), "gen", houseOuts+"fn main() -> text { outs("+millQuoted(a.program())+`); return ""; }`)
	if a.below(3) == 0 {
		p = placeWithout(p, a.pick("f1", "f2", "t3", "l/f"))
	}
	for pack, text := range packs {
		if pack == "main" {
			for _, other := range []string{"b-c", "lib/b"} {
				if used[other] {
					text = fmt.Sprintf("load %q: %s;\n", other, other[len(other)-1:]) + text
				}
			}
		}
		p, _ = millLayByRules(p, filesOf(pack+".clay", text))
	}
	return p
}

// Promises 30 and 31 for drawn houses.
func TestHouseMeaningDrawn(t *testing.T) {
	t.Parallel()
	dice := clayDice(2101)
	a := houseAuthor{&dice}
	counts := map[string]int{}
	for range 500 {
		p := a.house()
		plan := impl.HousePlan(p, "main")
		counts[fmt.Sprint("plan ", plan.Code)]++
		all := wantHouse(t, p, "main")
		for at, made := range all {
			if made.Over {
				counts[fmt.Sprint("code ", made.Code)]++
			} else {
				counts["waits"]++
				if len(made.Seen) > len(plan.Targets[at].Ins)+1 {
					counts["waits behind a look"]++
				}
				if !slices.Contains(plan.Targets[at].Outs, made.Wait) {
					counts["waits for another"]++
				}
			}
			for _, one := range made.Seen {
				counts[fmt.Sprint("look ", one.Kind, " code ", one.Reply.Code)]++
				if maker := slices.IndexFunc(plan.Targets, func(target impl.ClayTarget) bool { return slices.Contains(target.Outs, one.Name) }); maker >= 0 && one.Kind == 1 && one.Reply.Code == 0 {
					counts["reads an out"]++
					if maker > at {
						counts["reads a later one's out"]++
					}
					if one.Name == plan.Targets[at].Tool {
						counts["made tool"]++
					}
				}
			}
		}
		if t.Failed() {
			return
		}
	}
	for _, what := range []string{"plan 0", "code 0", "code 1", "code 2", "code 3", "code 4", "code 5", "waits", "waits behind a look", "waits for another", "look 1 code 0", "look 1 code 4", "look 1 code 5", "look 2 code 0", "look 2 code 4", "look 3 code 0", "reads an out", "reads a later one's out", "made tool"} {
		if counts[what] < 30 {
			t.Errorf("%s: %v", what, counts)
		}
	}
}

// What the runs come to does not hang on the order in which targets are told, nor on their names.
func TestHouseMeaningAnyOrderDrawn(t *testing.T) {
	t.Parallel()
	dice := clayDice(2102)
	a := houseAuthor{&dice}
	some := 0
	for range 400 {
		p := placeWithout(placeWithout(a.house(), "lib/b.clay"), "b-c.clay")
		targets := a.targets()
		told := func(turn []int, name func(old string) string) impl.MillPlace {
			src := ""
			for _, at := range turn {
				target := targets[at]
				target.Name = name(target.Name)
				src += emitOf(target)
			}
			return placeWith(t, p, "main.clay", src)
		}
		same := func(old string) string { return old }
		first := impl.HouseMeaning(told(turnOf(len(targets), true), same), "main")
		if len(first) != len(targets) {
			t.Fatalf("%d of %d", len(first), len(targets))
		}
		back := impl.HouseMeaning(told(turnOf(len(targets), false), same), "main")
		// Names that stand the other way around.
		other := impl.HouseMeaning(told(turnOf(len(targets), true), func(old string) string {
			bytes := []byte(old)
			for i := range bytes {
				bytes[i] = '!' + '~' - bytes[i]
			}
			return string(bytes)
		}), "main")
		slices.Reverse(other)
		for i := range other {
			other[i].Name = first[i].Name
			if !first[i].Over {
				some++
			}
		}
		if !slices.EqualFunc(first, back, isSameMade) || !slices.EqualFunc(first, other, isSameMade) {
			t.Errorf("%s: %s, back %s, by other names %s", millPlaceShown(p), madeShown(first), madeShown(back), madeShown(other))
			return
		}
	}
	if some < 100 {
		t.Errorf("only %d are never over", some)
	}
}

// No argument is changed, nor what lies behind its lists; answers are new memory, and no two parts of one share any.
func TestHouseMeaningOwnMemory(t *testing.T) {
	dice := clayDice(2103)
	places := []impl.MillPlace{
		houseWith([]string{"a set o>p>text > o p", "b get q>o < o p > q", "c ends r>1 > r", "d get s>r > s", "e get u>u > u", "f list v> < o > v", "g get w>src < src > w", "h o > x"}),
		houseWith([]string{"a looks > o", "b set m>M > m"}, "looks", inMain(`let s = read("m"); say s; say s; write "o", s; return s;`)),
		houseWith(nil, "main.clay", "let"),
	}
	for range 20 {
		places = append(places, houseAuthor{&dice}.house())
	}
	pieces := 0
	for _, p := range places {
		roomy, seen := roomyOf(p)
		before := seen()
		main := string([]byte("main"))
		made := impl.HouseMeaning(roomy, main)
		wantNewMemory(t, made, roomy, main)
		pieces += len(memoryOf(reflect.ValueOf(made), "", nil))
		for _, name := range []string{"o", "src", "o1", "f1", "t1", "gone"} {
			y, _ := impl.HouseComes(roomy, main, name)
			wantNewMemory(t, y, roomy, main, name)
		}
		if seen() != before {
			t.Errorf("%s: changed", millPlaceShown(p))
		}
		// What is done to an answer does not come back.
		for i := range made {
			for n := range made[i].Seen {
				made[i].Seen[n].Name = "other"
			}
			made[i] = impl.HouseMade{Name: "other"}
		}
		wantHouse(t, roomy, main)
	}
	if pieces < 500 {
		t.Errorf("only %d pieces of memory", pieces)
	}
}

// Many at once: nothing is kept between calls.
func TestHouseMeaningKeepsNothing(t *testing.T) {
	var all []func() string
	for n := range 8 {
		text := fmt.Sprint("n", n)
		p := houseWith([]string{"a get 1>2 > 1", "b get 2>3 > 2", "c get 3>text > 3", "d get 4>4 > 4"}, "text", text)
		all = append(all, func() string {
			made := impl.HouseMeaning(p, "main")
			y, is := impl.HouseComes(p, "main", "1")
			_, never := impl.HouseComes(p, "main", "4")
			if len(made) != 4 || made[0].Files[0].Text != text+"!!!" || made[3].Wait != "4" || y.Text != text+"!!!" || !is || never {
				return madeShown(made)
			}
			return ""
		})
	}
	wantAtOnce(t, all)
}

func FuzzHouseMeaning(f *testing.F) {
	f.Add(emitsOf("a t x < i > o", "b u > i"), inMain(`write "o", read("i") + list("") + arg(); return tool("u", "");`), inMain(`if has("o") { write "i", "1"; } return "";`))
	f.Add(emitsOf("a t x < o > o p", "b o > q"), inMain(`return read("p");`), "S")
	f.Add(emitsOf("a t > o"), inMain(`write "o", read("o"); return "";`), "")
	f.Fuzz(func(t *testing.T, main, first, second string) {
		for _, src := range []string{first, second} {
			if tree, _ := impl.MillParse(src); len(tree.Nodes) > 300 || len(src) > 3000 {
				return
			}
		}
		if len(main) <= 3000 {
			wantHouse(t, placeOf("main.clay", main, "t", first, "u", second), "main")
		}
	})
}
