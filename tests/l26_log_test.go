package tests

import (
	"fmt"
	"maps"
	"reflect"
	"regexp"
	"slices"
	"strconv"
	"strings"
	"testing"

	"loop.example/kilnyard/impl"
)

// couldBeOrderByRules says whether a target could be one of orders, word by word.
func couldBeOrderByRules(target impl.ClayTarget) bool {
	for _, name := range slices.Concat([]string{target.Name, target.Tool}, target.Ins, target.Outs) {
		if !isMillFileName(name) {
			return false
		}
	}
	return len(target.Arg) <= 3000 && len(target.Outs) >= 1 && len(target.Outs) <= 20 && len(target.Ins) <= 200 && isAscending(target.Ins) && isAscending(target.Outs)
}

func couldLookByRules(kind int, name string) bool {
	return (kind == 1 || kind == 2) && isMillFileName(name) || kind == 3 && isMillListed(name)
}

func couldSeeByRules(target impl.ClayTarget, seen []impl.MillSeen) bool {
	for _, one := range seen {
		y := one.Reply
		isReply := y.Code == 0 && len(y.Text) <= 3000 || (y.Code == 4 || y.Code == 5) && y.Text == ""
		if !isReply || !couldLookByRules(one.Kind, one.Name) {
			return false
		}
	}
	return len(seen) <= len(target.Ins)+1+100
}

func couldEndByRules(turn impl.MillTurn) bool {
	var names []string
	for _, file := range turn.Files {
		if !isMillFileName(file.Name) || len(file.Text) > 3000 {
			return false
		}
		names = append(names, file.Name)
	}
	for _, text := range turn.Said {
		if len(text) > 3000 {
			return false
		}
	}
	return turn.Code >= 0 && turn.Code <= 5 && len(turn.Text) <= 3000 && turn.Steps >= 0 && turn.Steps <= 4000 && len(turn.Files) <= 20 && isAscending(names) && len(turn.Said) <= 50
}

func couldBeKeptByRules(k impl.HouseKept) bool {
	made := k.Made
	return couldBeOrderByRules(k.Target) && made.Over && made.Name == k.Target.Name && made.Wait == "" && couldSeeByRules(k.Target, made.Seen) && couldEndByRules(endOf(made))
}

// endOf is the end of a run as a turn tells it.
func endOf(made impl.HouseMade) impl.MillTurn {
	return impl.MillTurn{Over: true, Code: made.Code, Text: made.Text, Steps: made.Steps, Files: made.Files, Said: made.Said}
}

// yardGoByRules is a second reading of how far a run goes.
func yardGoByRules(target impl.ClayTarget, seen []impl.MillSeen) impl.MillTurn {
	if !couldBeOrderByRules(target) || !couldSeeByRules(target, seen) {
		return impl.MillTurn{}
	}
	left := seen
	var next impl.MillTurn
	made := houseRunByRules(target, func(kind int, name string) (impl.MillReply, bool) {
		if len(left) == 0 || left[0].Kind != kind || left[0].Name != name {
			next = impl.MillTurn{Kind: kind, Name: name}
			return impl.MillReply{}, false
		}
		y := left[0].Reply
		left = left[1:]
		return y, true
	})
	switch {
	case len(left) > 0:
		return impl.MillTurn{}
	case made.Over:
		return endOf(made)
	}
	return next
}

// wantGo holds Go against the second reading, and asks for promise 39's second half.
func wantGo(t *testing.T, target impl.ClayTarget, seen []impl.MillSeen) impl.MillTurn {
	t.Helper()
	k := impl.HouseKept{Target: target, Made: impl.HouseMade{Seen: seen}}
	before := fmt.Sprint(k)
	got, want := impl.YardGo(target, seen), yardGoByRules(target, seen)
	if !isSameMillTurn(got, want) {
		t.Errorf("%s: got %s, want %s", keptShown(k), millTurnShown(got), millTurnShown(want))
	}
	if fmt.Sprint(k) != before {
		t.Errorf("%s: changed", keptShown(k))
	}
	if got.Over {
		k.Made = madeOver(target.Name, got, seen...)
		if !impl.HouseHonest(k) {
			t.Errorf("not honest: %s", keptShown(k))
		}
		if got.Kind != 0 || got.Name != "" {
			t.Errorf("%s: %s", keptShown(k), millTurnShown(got))
		}
	}
	return got
}

// wantGoNowhere asks for nothing.
func wantGoNowhere(t *testing.T, what string, target impl.ClayTarget, seen []impl.MillSeen) {
	t.Helper()
	if got := wantGo(t, target, seen); !isSameMillTurn(got, impl.MillTurn{}) {
		t.Errorf("%s: %s", what, millTurnShown(got))
	}
}

// wantGoes asks for promise 39 of a whole run: with each number of its looks.
func wantGoes(t *testing.T, what string, k impl.HouseKept) {
	t.Helper()
	for many, one := range k.Made.Seen {
		if got := wantGo(t, k.Target, k.Made.Seen[:many]); !isSameMillTurn(got, impl.MillTurn{Kind: one.Kind, Name: one.Name}) {
			t.Errorf("%s: with %d looks %s, want %+v", what, many, millTurnShown(got), one)
		}
	}
	if got := wantGo(t, k.Target, k.Made.Seen); !isSameMillTurn(got, endOf(k.Made)) {
		t.Errorf("%s: %s, want %s", what, millTurnShown(got), keptShown(k))
	}
}

func TestYardLogConstants(t *testing.T) {
	if impl.YardMaxLog != 1000 || impl.YardMaxEpoch != 200 {
		t.Error(impl.YardMaxLog, impl.YardMaxEpoch)
	}
	if impl.YardEpoch != 1 || impl.YardFile != 2 || impl.YardDrop != 3 || impl.YardRan != 4 || impl.YardClear != 5 {
		t.Error(impl.YardEpoch, impl.YardFile, impl.YardDrop, impl.YardRan, impl.YardClear)
	}
}

func TestYardGo(t *testing.T) {
	codes := map[int]int{}
	for what, k := range honestRuns() {
		wantGoes(t, what, k)
		codes[k.Made.Code]++
		// One look more than the run makes, whatever it is.
		for _, more := range []impl.MillSeen{k.Made.Seen[0], k.Made.Seen[len(k.Made.Seen)-1], sawRead("src", "S"), saw(2, "src", 0), sawList("", "")} {
			wantGoNowhere(t, what+" and more", k.Target, append(slices.Clone(k.Made.Seen), more))
			wantGoNowhere(t, what+" and more", k.Target, append(slices.Clone(k.Made.Seen), more, more))
		}
		// A look of another Kind or Name, the last one or not.
		for at, one := range k.Made.Seen {
			for _, other := range []impl.MillSeen{{Kind: 1, Name: one.Name + "x"}, {Kind: 2, Name: one.Name + "x"}, {Kind: 3, Name: one.Name + "x"}, {Kind: one.Kind%3 + 1, Name: "x" + one.Name}, {Kind: one.Kind, Name: "other"}} {
				bent := slices.Clone(k.Made.Seen)
				bent[at] = other
				wantGoNowhere(t, fmt.Sprint(what, " other look ", at), k.Target, bent)
				wantGoNowhere(t, fmt.Sprint(what, " other look at the end ", at), k.Target, bent[:at+1])
			}
			for kind := 1; kind <= 3; kind++ {
				if kind != one.Kind && one.Name != "" {
					bent := slices.Clone(k.Made.Seen)
					bent[at].Kind = kind
					wantGoNowhere(t, fmt.Sprint(what, " kind ", kind, " at ", at), k.Target, bent)
				}
			}
		}
	}
	if len(codes) != 6 {
		t.Errorf("codes %v", codes)
	}
}

// The ends of a run, written by hand.
func TestYardGoEnds(t *testing.T) {
	ask := func(words, tool string, seen []impl.MillSeen, want impl.MillTurn) {
		t.Helper()
		target := orderOf(words)
		all := seen
		if tool != "" {
			all = append([]impl.MillSeen{sawRead(target.Tool, tool)}, seen...)
		}
		if got := wantGo(t, target, all); !isSameMillTurn(got, want) {
			t.Errorf("%s: %s, want %s", words, millTurnShown(got), millTurnShown(want))
		}
	}
	looks := func(kind int, name string) impl.MillTurn { return impl.MillTurn{Kind: kind, Name: name} }
	none := impl.MillTurn{}
	// Ins, in order, then the tool.
	ask("n t a < i j > o", "", nil, looks(1, "i"))
	ask("n t a < i j > o", "", []impl.MillSeen{sawRead("i", "")}, looks(1, "j"))
	ask("n t a < i j > o", "", []impl.MillSeen{sawRead("i", ""), sawRead("j", "x")}, looks(1, "t"))
	ask("n t a < i j > o", "", []impl.MillSeen{sawRead("j", "")}, none)
	ask("n t a < i j > o", "", []impl.MillSeen{sawRead("i", ""), sawRead("t", "")}, none)
	ask("n t a > o", "", nil, looks(1, "t"))
	for _, code := range []int{4, 5} {
		ask("n t a < i j > o", "", []impl.MillSeen{saw(1, "i", code)}, millEndsBy(code, "i", 0))
		ask("n t a < i j > o", "", []impl.MillSeen{sawRead("i", ""), saw(1, "j", code)}, millEndsBy(code, "j", 0))
		ask("n t a < i j > o", "", []impl.MillSeen{saw(1, "i", code), sawRead("j", "")}, none)
		ask("n t a > o", "", []impl.MillSeen{saw(1, "t", code)}, millEndsBy(code, "t", 0))
		// Replies inside of the program's run.
		ask("n t a > o", inMain(`say "s"; return read("r");`), []impl.MillSeen{saw(1, "r", code)}, millEndsBy(code, "r", 3, "s"))
		ask("n t a > o", inMain(`return tool("r", "");`), []impl.MillSeen{saw(1, "r", code)}, millEndsBy(code, "r", 2))
		ask("n t a > o", inMain(`write "o", list("r"); return "";`), []impl.MillSeen{saw(3, "r", code)}, millWrote(millDone("", 3), "o", ""))
	}
	ask("n t a > o", inMain(`if has("r") { return ""; } fail "no";`), []impl.MillSeen{saw(2, "r", 4)}, millEndsBy(1, "no", 3))
	for _, code := range []int{0, 5} {
		ask("n t a > o", inMain(`if has("r") { fail "yes"; } return "";`), []impl.MillSeen{saw(2, "r", code)}, millEndsBy(1, "yes", 3))
	}
	// The tool is no program, or none that fits.
	for _, text := range []string{"", "x", "fn main() -> text { return 1; }", "fn main() { }", "fn f() -> text { return \"\"; }"} {
		ask("n t a > o", "", []impl.MillSeen{sawRead("t", text)}, millBroke("tool", 0))
		ask("n t a > o", inMain(`return tool("u", "");`), []impl.MillSeen{sawRead("u", text)}, millBroke("tool in main", 2))
	}
	// At a tool of a tool.
	one, two := inMain(`return tool("u", arg() + "1");`), inMain(`return tool("v", arg() + "2");`)
	ask("n t a > o", one, nil, looks(1, "u"))
	ask("n t a > o", one, []impl.MillSeen{sawRead("u", two)}, looks(1, "v"))
	ask("n t a > o", one, []impl.MillSeen{sawRead("u", two), sawRead("v", inMain(`write "o", arg(); return list("");`))}, looks(3, ""))
	ask("n t a > o", one, []impl.MillSeen{sawRead("u", two), sawRead("v", inMain(`write "o", arg(); return list("");`)), sawList("", "l")}, millWrote(millDone("l", 7), "o", "a12"))
	// Done, with all of its outs written, and without.
	ask("n t a > o p", inMain(`write "p", "P"; write "o", arg(); write "o", arg() + "!"; return "r";`), nil, millWrote(millDone("r", 5), "o", "a!", "p", "P"))
	ask("n t a > o p", inMain(`write "p", "P"; return "r";`), nil, millBroke("lacks o", 3))
	ask("n t a > o", inMain(`write "q", ""; return "";`), nil, millBroke("output in main", 2))
	// Spent by steps, and by looks.
	ask("n t a > o", inMain(`while true { } return "";`), nil, millEndsBy(3, "", 4000))
	many := []impl.MillSeen{}
	for range 100 {
		many = append(many, saw(2, "r", 4))
	}
	ask("n t a > o", inMain(`while !has("r") { } return "";`), many, millEndsBy(3, "", 103))
	ask("n t a > o", inMain(`while !has("r") { } return "";`), many[1:], looks(2, "r"))
	// What was said and how many steps were done is told at the end alone.
	ask("n t a > o", inMain(`say "s"; write "o", "w"; return read("r");`), nil, looks(1, "r"))
	ask("n t a > o", inMain(`say "s"; write "o", "w"; return read("r");`), []impl.MillSeen{sawRead("r", "R")}, millWrote(millDone("R", 4, "s"), "o", "w"))
}

// yardOrder is a target that could be one of orders, or could not.
type yardOrder struct {
	what   string
	is     bool
	target impl.ClayTarget
}

// numberedNames are so many names of files, ascending.
func numberedNames(begins string, many int) []string {
	var names []string
	for i := range many {
		names = append(names, fmt.Sprintf("%s%03d", begins, i))
	}
	return names
}

func yardOrders() []yardOrder {
	orders := []yardOrder{{"good", true, orderOf("n t arg < i > o")}, {"one name for all", true, orderOf("x x x < x > x")}, {"nothing", false, impl.ClayTarget{}}}
	put := func(what string, is bool, change func(target *impl.ClayTarget)) {
		target := orderOf("n t arg < i > o")
		change(&target)
		orders = append(orders, yardOrder{what, is, target})
	}
	for _, many := range []int{0, 1, 199, 200, 201, 400} {
		put(fmt.Sprint(many, " ins"), many <= 200, func(target *impl.ClayTarget) { target.Ins = numberedNames("i", many) })
	}
	for _, many := range []int{0, 1, 19, 20, 21, 200} {
		put(fmt.Sprint(many, " outs"), many >= 1 && many <= 20, func(target *impl.ClayTarget) { target.Outs = numberedNames("o", many) })
	}
	for _, size := range []int{0, 1, 1000, 1001, 3000, 3001} {
		put(fmt.Sprint("an arg of ", size), size <= 3000, func(target *impl.ClayTarget) { target.Arg = strings.Repeat("\xff", size) })
	}
	for names, is := range map[string]bool{"a b": true, "b a": false, "a a": false, "a b c": true, "a c b": false, "a ab b": true, "ab a": false, "B a": true, "a B": false} {
		put("ins "+names, is, func(target *impl.ClayTarget) { target.Ins = strings.Fields(names) })
		put("outs "+names, is, func(target *impl.ClayTarget) { target.Outs = strings.Fields(names) })
	}
	for _, name := range slices.Concat(millNames(), millNoNames(), []string{""}) {
		is := isMillFileName(name)
		put(fmt.Sprintf("Name %q", name), is, func(target *impl.ClayTarget) { target.Name = name })
		put(fmt.Sprintf("Tool %q", name), is, func(target *impl.ClayTarget) { target.Tool = name })
		put(fmt.Sprintf("an in %q", name), is, func(target *impl.ClayTarget) { target.Ins = []string{name} })
		put(fmt.Sprintf("an out %q", name), is, func(target *impl.ClayTarget) { target.Outs = []string{name} })
	}
	put("a last in that is none", false, func(target *impl.ClayTarget) { target.Ins = []string{"a", "b", "c\x7f"} })
	put("a middle out that is none", false, func(target *impl.ClayTarget) { target.Outs = []string{"a", "b c", "d"} })
	return orders
}

func TestYardGoTargets(t *testing.T) {
	for _, order := range yardOrders() {
		first := append(slices.Clone(order.target.Ins), order.target.Tool)[0]
		want := impl.MillTurn{Kind: 1, Name: first}
		if !order.is {
			want = impl.MillTurn{}
		}
		if got := wantGo(t, order.target, nil); !isSameMillTurn(got, want) {
			t.Errorf("%s: %s", order.what, millTurnShown(got))
		}
		// With an end that hangs on nothing but the first look.
		want = millEndsBy(4, first, 0)
		if !order.is {
			want = impl.MillTurn{}
		}
		if got := wantGo(t, order.target, []impl.MillSeen{saw(1, first, 4)}); !isSameMillTurn(got, want) {
			t.Errorf("%s: %s", order.what, millTurnShown(got))
		}
	}
}

// yardLook is a look that could be one of a run, or could not.
type yardLook struct {
	what string
	is   bool
	one  impl.MillSeen
}

func yardLooksOf() []yardLook {
	var looks []yardLook
	put := func(what string, is bool, one impl.MillSeen) { looks = append(looks, yardLook{what, is, one}) }
	for kind := -2; kind < 8; kind++ {
		put(fmt.Sprint("kind ", kind), kind >= 1 && kind <= 3, impl.MillSeen{Kind: kind, Name: "a"})
		put(fmt.Sprint("kind ", kind, " without a name"), kind == 3, impl.MillSeen{Kind: kind})
	}
	for _, name := range slices.Concat(millNames(), millNoNames()) {
		for kind := 1; kind <= 3; kind++ {
			put(fmt.Sprintf("kind %d, name %q", kind, name), isMillFileName(name), impl.MillSeen{Kind: kind, Name: name})
		}
	}
	for code := -1; code < 11; code++ {
		for kind := 1; kind <= 3; kind++ {
			put(fmt.Sprint("kind ", kind, ", code ", code), code == 0 || code == 4 || code == 5, saw(kind, "a", code))
			put(fmt.Sprint("kind ", kind, ", code ", code, " with a text"), code == 0, impl.MillSeen{Kind: kind, Name: "a", Reply: impl.MillReply{Code: code, Text: "x"}})
		}
	}
	for _, size := range []int{0, 1, 2999, 3000, 3001} {
		for kind := 1; kind <= 3; kind++ {
			put(fmt.Sprint("kind ", kind, ", a reply of ", size), size <= 3000, impl.MillSeen{Kind: kind, Name: "a", Reply: impl.MillReply{Text: strings.Repeat("\x00", size)}})
		}
	}
	put("nothing", false, impl.MillSeen{})
	return looks
}

// Looks that could not be a run's, also where the run makes no such look.
func TestYardGoLooks(t *testing.T) {
	asks := map[int]string{1: "read", 2: "has", 3: "list"}
	for _, look := range yardLooksOf() {
		wantGo(t, orderOf("n t arg < a > o"), []impl.MillSeen{look.one})
		target := orderOf("n t > o")
		src := inMain(`write "o", ""; return "";`)
		if ask := asks[look.one.Kind]; ask != "" {
			src = inMain(fmt.Sprintf(`say "s"; write "o", ""; if %s(%s) == %s(%s) { } return "";`, ask, millQuoted(look.one.Name), ask, millQuoted(look.one.Name)))
		}
		got := wantGo(t, target, []impl.MillSeen{sawRead("t", src), look.one})
		if is := got.Over || got.Kind != 0; is != look.is {
			t.Errorf("%s: %s", look.what, millTurnShown(got))
		}
	}
	// In the place of a look that would have been the same, but for a reply that is not valid.
	wantGoNowhere(t, "a text with code 4", orderOf("n t < i > o"), []impl.MillSeen{{Kind: 1, Name: "i", Reply: impl.MillReply{Code: 4, Text: "x"}}})
	wantGoNowhere(t, "as a tool is looked for by a machine", orderOf("n t > o"), []impl.MillSeen{saw(4, "t", 4)})
}

// As many looks as there may be, and one more.
func TestYardGoMostLooks(t *testing.T) {
	ins := numberedNames("i", 200)
	for _, names := range [][]string{nil, ins[:1], ins[:199], ins} {
		for _, many := range []int{98, 99, 100, 101, 102, 150} {
			target := orderOf("n looks > o")
			target.Ins = names
			src := inMain(fmt.Sprintf(`let i = 0; while i < %d { i = i + 1; if has("m") { } } write "o", ""; return "done";`, many))
			k := keptBy(target, func(kind int, name string) impl.MillReply {
				if name == "looks" {
					return impl.MillReply{Text: src}
				}
				return impl.MillReply{}
			})
			if len(k.Made.Seen) != len(names)+1+min(many, 100) || (k.Made.Code == 3) != (many > 100) {
				t.Fatalf("%d looks, code %d", len(k.Made.Seen), k.Made.Code)
			}
			wantGo(t, target, k.Made.Seen[:len(k.Made.Seen)-1])
			if got := wantGo(t, target, k.Made.Seen); !isSameMillTurn(got, endOf(k.Made)) {
				t.Errorf("%d ins, %d looks: %s", len(names), many, millTurnShown(got))
			}
			for more := range 3 {
				seen := slices.Clone(k.Made.Seen)
				for range more + 1 {
					seen = append(seen, saw(2, "m", 0))
				}
				wantGoNowhere(t, fmt.Sprint(many, " looks and ", more+1), target, seen)
			}
		}
	}
	wantGoNowhere(t, "looks that are none", orderOf("n t > o"), make([]impl.MillSeen, 100000))
}

// Promise 39 for drawn houses; and looks that are bent, against the second reading.
func TestYardGoDrawn(t *testing.T) {
	t.Parallel()
	dice := clayDice(2601)
	a := houseAuthor{&dice}
	counts := map[string]int{}
	for range 250 {
		p := a.house()
		plan := impl.HousePlan(p, "main")
		for at, made := range impl.HouseMeaning(p, "main") {
			target := plan.Targets[at]
			k := impl.HouseKept{Target: target, Made: made}
			if !made.Over {
				// It stands where it waits.
				if got := wantGo(t, target, made.Seen); !isSameMillTurn(got, impl.MillTurn{Kind: 1, Name: made.Wait}) {
					t.Errorf("%s: %s", keptShown(k), millTurnShown(got))
				}
				counts["waits"]++
				continue
			}
			wantGoes(t, made.Name, k)
			counts["over"]++
			for range 4 {
				bent := a.bent(k)
				switch got := wantGo(t, bent.Target, bent.Made.Seen); {
				case got.Over:
					counts["bent, over"]++
				case got.Kind != 0:
					counts["bent, a look"]++
				default:
					counts["bent, nothing"]++
				}
			}
			if t.Failed() {
				return
			}
		}
	}
	for what, least := range map[string]int{"waits": 200, "over": 500, "bent, over": 300, "bent, a look": 30, "bent, nothing": 1000} {
		if counts[what] < least {
			t.Errorf("%s: %v", what, counts)
		}
	}
}

// yardLooksForm is the form of what goes in and comes out of a target, and of what was seen.
func yardLooksForm(target impl.ClayTarget, seen []impl.MillSeen) string {
	form := ""
	for _, name := range target.Ins {
		form += "in " + name + "\n"
	}
	for _, name := range target.Outs {
		form += "out " + name + "\n"
	}
	for _, one := range seen {
		form += fmt.Sprintf("saw %d %d %s %s\n", one.Kind, one.Reply.Code, clayQuoted(one.Name), clayQuoted(one.Reply.Text))
	}
	return form
}

func yardEndForm(turn impl.MillTurn) string {
	form := ""
	for _, file := range turn.Files {
		form += "wrote " + file.Name + " " + clayQuoted(file.Text) + "\n"
	}
	for _, text := range turn.Said {
		form += "said " + clayQuoted(text) + "\n"
	}
	return form + fmt.Sprintf("over %d %d %s\n", turn.Code, turn.Steps, clayQuoted(turn.Text))
}

// yardFormByRules is a second reading of how an entry is written.
func yardFormByRules(e impl.YardEntry) string {
	noFile, noKept := e.File == impl.MillFile{}, isSameKept(e.Kept, impl.HouseKept{})
	switch {
	case e.Kind == 1 && e.Epoch >= 1 && e.Epoch <= 200 && noFile && noKept:
		return fmt.Sprintf("epoch %d\n", e.Epoch)
	case e.Kind == 2 && e.Epoch == 0 && noKept && isMillFileName(e.File.Name) && len(e.File.Text) <= 3000:
		return "file " + e.File.Name + " " + clayQuoted(e.File.Text) + "\n"
	case e.Kind == 3 && e.Epoch == 0 && noKept && isMillFileName(e.File.Name) && e.File.Text == "":
		return "drop " + e.File.Name + "\n"
	case e.Kind == 4 && e.Epoch == 0 && noFile && couldBeKeptByRules(e.Kept):
		target := e.Kept.Target
		return "ran " + target.Name + " " + target.Tool + " " + clayQuoted(target.Arg) + "\n" + yardLooksForm(target, e.Kept.Made.Seen) + yardEndForm(endOf(e.Kept.Made))
	case e.Kind == 5 && e.Epoch == 0 && noFile && noKept:
		return "clear\n"
	}
	return ""
}

// yardQuoteForm is a text in quotes.
const yardQuoteForm = `"((?:[ !#-\[\]-~]|\\[0-9a-f]{2})*)"`

// yardLineForms are the forms of lines by their words: N is a name, D a number, Q a text in quotes.
var yardLineForms = func() map[string][]string {
	forms := map[string][]string{}
	for _, form := range strings.Split("epoch D,file N Q,drop N,ran N N Q,in N,out N,saw D D Q Q,wrote N Q,said Q,over D D Q,clear,offer D D D N N Q,turn D D D N D,look D Q,here D", ",") {
		words := strings.Fields(form)
		forms[words[0]] = words[1:]
	}
	return forms
}()

// yardLineExpressions are what a line of each word has to be, loosely.
var yardLineExpressions = func() map[string]*regexp.Regexp {
	all := map[string]*regexp.Regexp{}
	for word, parts := range yardLineForms {
		expression := "^" + word
		for _, part := range parts {
			expression += " " + map[string]string{"N": `([!-~]+)`, "D": `([0-9]{1,9})`, "Q": yardQuoteForm}[part]
		}
		all[word] = regexp.MustCompile(expression + "$")
	}
	return all
}()

// yardLinesLeft is a second reader: lines that are not read yet.
type yardLinesLeft struct {
	lines []string
	wrong bool
}

func yardLinesOf(s string) *yardLinesLeft {
	lines := strings.Split(s, "\n")
	return &yardLinesLeft{lines: lines[:len(lines)-1], wrong: lines[len(lines)-1] != ""}
}

func (r *yardLinesLeft) begins(word string) bool {
	return len(r.lines) > 0 && (r.lines[0] == word || strings.HasPrefix(r.lines[0], word+" "))
}

var yardByteForm = regexp.MustCompile(`\\[0-9a-f]{2}`)

// take reads a line that begins with a word: its parts as texts.
func (r *yardLinesLeft) take(word string) []string {
	if !r.begins(word) {
		r.wrong = true
		return make([]string, 9)
	}
	parts := yardLineExpressions[word].FindStringSubmatch(r.lines[0])
	if parts == nil {
		r.wrong = true
		return make([]string, 9)
	}
	r.lines = r.lines[1:]
	for i, kind := range yardLineForms[word] {
		if kind == "Q" {
			parts[i+1] = yardByteForm.ReplaceAllStringFunc(parts[i+1], func(digits string) string {
				b, _ := strconv.ParseUint(digits[1:], 16, 8)
				return string([]byte{byte(b)})
			})
		}
	}
	return parts[1:]
}

// each reads lines as long as they begin with a word.
func (r *yardLinesLeft) each(word string, put func(parts []string)) {
	for !r.wrong && r.begins(word) {
		put(r.take(word))
	}
}

func (r *yardLinesLeft) looks(target *impl.ClayTarget) (seen []impl.MillSeen) {
	r.each("in", func(parts []string) { target.Ins = append(target.Ins, parts[0]) })
	r.each("out", func(parts []string) { target.Outs = append(target.Outs, parts[0]) })
	r.each("saw", func(parts []string) {
		seen = append(seen, impl.MillSeen{Kind: decimalOf(parts[0]), Name: parts[2], Reply: impl.MillReply{Code: decimalOf(parts[1]), Text: parts[3]}})
	})
	return seen
}

func (r *yardLinesLeft) end() (turn impl.MillTurn) {
	r.each("wrote", func(parts []string) { turn.Files = append(turn.Files, impl.MillFile{Name: parts[0], Text: parts[1]}) })
	r.each("said", func(parts []string) { turn.Said = append(turn.Said, parts[0]) })
	parts := r.take("over")
	turn.Over, turn.Code, turn.Steps, turn.Text = true, decimalOf(parts[0]), decimalOf(parts[1]), parts[2]
	return turn
}

func decimalOf(text string) int {
	n, _ := strconv.Atoi(text)
	return n
}

// yardReadByRules is a second reading of a text as an entry: lines are read loosely, and what comes of them has to be written just so.
func yardReadByRules(s string) (impl.YardEntry, bool) {
	r := yardLinesOf(s)
	var e impl.YardEntry
	switch {
	case r.begins("epoch"):
		e = impl.YardEntry{Kind: 1, Epoch: decimalOf(r.take("epoch")[0])}
	case r.begins("file"):
		parts := r.take("file")
		e = impl.YardEntry{Kind: 2, File: impl.MillFile{Name: parts[0], Text: parts[1]}}
	case r.begins("drop"):
		e = impl.YardEntry{Kind: 3, File: impl.MillFile{Name: r.take("drop")[0]}}
	case r.begins("ran"):
		parts := r.take("ran")
		e = impl.YardEntry{Kind: 4}
		e.Kept.Target = impl.ClayTarget{Name: parts[0], Tool: parts[1], Arg: parts[2]}
		seen := r.looks(&e.Kept.Target)
		e.Kept.Made = madeOver(parts[0], r.end(), seen...)
	case r.begins("clear"):
		r.take("clear")
		e = impl.YardEntry{Kind: 5}
	}
	if r.wrong || len(r.lines) > 0 || s == "" || yardFormByRules(e) != s {
		return impl.YardEntry{}, false
	}
	return e, true
}

func isSameEntry(a, b impl.YardEntry) bool {
	return a.Kind == b.Kind && a.Epoch == b.Epoch && a.File == b.File && isSameKept(a.Kept, b.Kept)
}

func entryShown(e impl.YardEntry) string { return fmt.Sprintf("%.2500q", fmt.Sprintf("%+v", e)) }

// wantForm holds Form against the second reading, and asks for promise 38 of what has a form.
func wantForm(t *testing.T, e impl.YardEntry) string {
	t.Helper()
	before := fmt.Sprint(e)
	got, want := impl.YardForm(e), yardFormByRules(e)
	if got != want {
		t.Errorf("%s: got %.1000q, want %.1000q", entryShown(e), got, want)
	}
	if fmt.Sprint(e) != before {
		t.Errorf("%s: changed", entryShown(e))
	}
	if got == "" {
		return ""
	}
	if back, is := impl.YardRead(got); !is || !isSameEntry(back, e) {
		t.Errorf("%s: read back %v: %s", entryShown(e), is, entryShown(back))
	}
	return got
}

// wantWritten asks for the form of an entry.
func wantWritten(t *testing.T, e impl.YardEntry, want string) {
	t.Helper()
	if got := wantForm(t, e); got != want {
		t.Errorf("%s: %.1000q, want %.1000q", entryShown(e), got, want)
	}
}

// wantEntryRead holds Read against the second reading: what is read is written as the same text; with false there is nothing.
func wantEntryRead(t *testing.T, s string) bool {
	t.Helper()
	got, is := impl.YardRead(s)
	want, wants := yardReadByRules(s)
	switch {
	case is != wants || !isSameEntry(got, want):
		t.Errorf("%.1000q: got %v, %s, want %v, %s", s, is, entryShown(got), wants, entryShown(want))
	case is && impl.YardForm(got) != s:
		t.Errorf("%.1000q is read, but written %.1000q", s, impl.YardForm(got))
	case !is && !isSameEntry(got, impl.YardEntry{}):
		t.Errorf("%.1000q: %s", s, entryShown(got))
	}
	return is
}

func wantNoEntry(t *testing.T, texts ...string) {
	t.Helper()
	for _, s := range texts {
		if wantEntryRead(t, s) {
			t.Errorf("%.1000q is read", s)
		}
	}
}

func ranOf(k impl.HouseKept) impl.YardEntry { return impl.YardEntry{Kind: 4, Kept: k} }

func fileEntry(name, text string) impl.YardEntry {
	return impl.YardEntry{Kind: 2, File: impl.MillFile{Name: name, Text: text}}
}

// someKept is a run with something in each of its parts.
func someKept() impl.HouseKept {
	return impl.HouseKept{Target: orderOf("n t arg < i j > o p"), Made: impl.HouseMade{Name: "n", Over: true, Code: 1, Text: "x\n", Steps: 12, Files: filesOf("o", "A", "p", "\"B\""), Said: []string{"", "b c"}, Seen: []impl.MillSeen{sawRead("i", "I"), saw(2, "h", 4), sawList("", "a\nb\n"), saw(1, "j", 5)}}}
}

const someKeptForm = "ran n t \"arg\"\nin i\nin j\nout o\nout p\nsaw 1 0 \"i\" \"I\"\nsaw 2 4 \"h\" \"\"\nsaw 3 0 \"\" \"a\\0ab\\0a\"\nsaw 1 5 \"j\" \"\"\nwrote o \"A\"\nwrote p \"\\22B\\22\"\nsaid \"\"\nsaid \"b c\"\nover 1 12 \"x\\0a\"\n"

func TestYardForm(t *testing.T) {
	wantWritten(t, impl.YardEntry{Kind: 1, Epoch: 1}, "epoch 1\n")
	wantWritten(t, impl.YardEntry{Kind: 1, Epoch: 10}, "epoch 10\n")
	wantWritten(t, impl.YardEntry{Kind: 1, Epoch: 200}, "epoch 200\n")
	for _, epoch := range []int{0, -1, 201, 1000, 1 << 62, -1 << 63} {
		wantWritten(t, impl.YardEntry{Kind: 1, Epoch: epoch}, "")
	}
	wantWritten(t, fileEntry("a", ""), "file a \"\"\n")
	wantWritten(t, fileEntry("a", "q\"\n \\"), "file a \"q\\22\\0a \\5c\"\n")
	wantWritten(t, fileEntry("\"", "\" \""), "file \" \"\\22 \\22\"\n")
	wantWritten(t, impl.YardEntry{Kind: 3, File: impl.MillFile{Name: "a/b"}}, "drop a/b\n")
	wantWritten(t, ranOf(someKept()), someKeptForm)
	wantWritten(t, ranOf(impl.HouseKept{Target: orderOf("n t > o"), Made: impl.HouseMade{Name: "n", Over: true}}), "ran n t \"\"\nout o\nover 0 0 \"\"\n")
	wantWritten(t, impl.YardEntry{Kind: 5}, "clear\n")
	for _, kind := range []int{-1, 0, 6, 7, 1 << 40} {
		wantWritten(t, impl.YardEntry{Kind: kind}, "")
		wantWritten(t, impl.YardEntry{Kind: kind, Epoch: 1}, "")
	}
	wantWritten(t, impl.YardEntry{}, "")
}

func TestYardFormFiles(t *testing.T) {
	for _, name := range slices.Concat(millNames(), millNoNames(), []string{""}) {
		is := isMillFileName(name)
		for _, text := range []string{"", "x", "\" \"", name, strings.Repeat("\xff", 3000)} {
			if got := wantForm(t, fileEntry(name, text)); (got != "") != is {
				t.Errorf("%q: %q", name, got)
			}
		}
		if wantForm(t, fileEntry(name, strings.Repeat("x", 3001))) != "" {
			t.Errorf("%q: a text that is too long", name)
		}
		if got := wantForm(t, impl.YardEntry{Kind: 3, File: impl.MillFile{Name: name}}); (got != "") != is {
			t.Errorf("%q: %q", name, got)
		}
		wantWritten(t, impl.YardEntry{Kind: 3, File: impl.MillFile{Name: name, Text: "x"}}, "")
	}
}

// Every byte, in each text that stands in quotes, alone and beside others, also beside the other text of the line.
func TestYardFormQuotes(t *testing.T) {
	all := make([]byte, 256)
	for i := range all {
		all[i] = byte(i)
	}
	texts := []string{string(all), "", "\" \"", "\"", "\\", "\\22", "\" \"\n", " ", "  ", "\n", "é", "\\\"", "\"\\"}
	for _, b := range all {
		texts = append(texts, string([]byte{b}), string([]byte{b, b}), "\""+string([]byte{b})+"\"", " "+string([]byte{b})+" ")
	}
	for _, text := range texts {
		k := someKept()
		k.Target.Arg, k.Made.Text, k.Made.Said = text, text, []string{text, "", text}
		k.Made.Files[0].Text, k.Made.Seen[0].Reply.Text, k.Made.Seen[2].Reply.Text = text, text, text
		for _, e := range []impl.YardEntry{ranOf(k), fileEntry("a", text)} {
			form := wantForm(t, e)
			if form == "" || !wantEntryRead(t, form) {
				t.Errorf("%q: %q", text, form)
			}
		}
	}
	// Two texts in quotes on one line: names of lists are texts without blanks, with any other mark.
	for _, name := range append(millNames(), "") {
		for _, text := range []string{"", name, "\" \"", "\"", " ", "\\", name + "\" \"" + name} {
			k := someKept()
			k.Made.Seen[2] = sawList(name, text)
			if form := wantForm(t, ranOf(k)); !strings.Contains(form, "\nsaw 3 0 "+clayQuoted(name)+" "+clayQuoted(text)+"\n") {
				t.Errorf("%q, %q: %q", name, text, form)
			}
		}
	}
}

// yardKeptChange is a run that could be one, or could not.
type yardKeptChange struct {
	what string
	is   bool
	kept impl.HouseKept
}

// yardEnds are ends that could be those of a run, or could not.
func yardEnds() map[string]impl.MillTurn {
	long, over := strings.Repeat("\n", 3000), strings.Repeat("x", 3001)
	ends := map[string]impl.MillTurn{
		"all at most": {Over: true, Code: 5, Text: long, Steps: 4000, Files: manyFiles(20), Said: slices.Repeat([]string{long}, 50)},
		"nothing":     {Over: true}, "a text of 3001": {Over: true, Text: over},
		"files out of order": {Over: true, Files: filesOf("b", "", "a", "")}, "a file twice": {Over: true, Files: filesOf("a", "", "a", "")}, "a file twice, with other texts": {Over: true, Files: filesOf("a", "1", "a", "2")},
		"a file with a text of 3000": {Over: true, Files: filesOf("a", long)}, "a file with a text of 3001": {Over: true, Files: filesOf("a", over)}, "a last file with a text of 3001": {Over: true, Files: filesOf("a", "", "b", over)},
		"said 3000": {Over: true, Said: []string{long}}, "said 3001": {Over: true, Said: []string{over}}, "said 3001 at the end": {Over: true, Said: []string{"", over}},
	}
	for code := -2; code < 12; code++ {
		ends[fmt.Sprint("code ", code)] = impl.MillTurn{Over: true, Code: code}
		ends[fmt.Sprint("code ", code, " with files")] = impl.MillTurn{Over: true, Code: code, Files: filesOf("a", "")}
	}
	for _, steps := range []int{-1 << 63, -1, 0, 1, 10, 3999, 4000, 4001, 1<<63 - 1} {
		ends[fmt.Sprint("steps ", steps)] = impl.MillTurn{Over: true, Steps: steps}
	}
	for _, many := range []int{1, 19, 20, 21, 40} {
		ends[fmt.Sprint(many, " files")] = impl.MillTurn{Over: true, Files: manyFiles(many)}
	}
	for _, many := range []int{1, 49, 50, 51, 100} {
		ends[fmt.Sprint("said ", many)] = impl.MillTurn{Over: true, Said: make([]string, many)}
	}
	for _, name := range slices.Concat(millNames(), millNoNames(), []string{""}) {
		ends[fmt.Sprintf("a file %q", name)] = impl.MillTurn{Over: true, Files: []impl.MillFile{{Name: name}}}
	}
	return ends
}

func yardKeptChanges() []yardKeptChange {
	var all []yardKeptChange
	put := func(what string, is bool, change func(k *impl.HouseKept)) {
		k := someKept()
		change(&k)
		all = append(all, yardKeptChange{what, is, k})
	}
	put("good", true, func(k *impl.HouseKept) {})
	for _, order := range yardOrders() {
		put(order.what, order.is, func(k *impl.HouseKept) {
			k.Target, k.Made.Name = order.target, order.target.Name
		})
	}
	for _, look := range yardLooksOf() {
		for at := range 4 {
			put(fmt.Sprint(look.what, " at ", at), look.is, func(k *impl.HouseKept) { k.Made.Seen[at] = look.one })
		}
	}
	for what, end := range yardEnds() {
		put(what, couldEndByRules(end), func(k *impl.HouseKept) {
			k.Made.Code, k.Made.Text, k.Made.Steps, k.Made.Files, k.Made.Said = end.Code, end.Text, end.Steps, end.Files, end.Said
		})
	}
	for _, ins := range []int{0, 1, 2, 200} {
		for _, more := range []int{-100, 0, 1, 99, 100, 101, 102} {
			many := ins + 1 + more
			put(fmt.Sprint(ins, " ins, ", many, " looks"), more <= 100, func(k *impl.HouseKept) {
				k.Target.Ins, k.Made.Seen = numberedNames("i", ins), slices.Repeat([]impl.MillSeen{saw(2, "x", 4)}, max(0, many))
			})
		}
	}
	put("not over", false, func(k *impl.HouseKept) { k.Made.Over = false })
	put("another name", false, func(k *impl.HouseKept) { k.Made.Name = "m" })
	put("no name", false, func(k *impl.HouseKept) { k.Made.Name = "" })
	put("another name of the target", false, func(k *impl.HouseKept) { k.Target.Name = "m" })
	put("Wait", false, func(k *impl.HouseKept) { k.Made.Wait = "i" })
	put("no looks", true, func(k *impl.HouseKept) { k.Made.Seen = nil })
	put("files that are no outs", true, func(k *impl.HouseKept) { k.Made.Files = filesOf("x", "", "y", "") })
	return all
}

func TestYardFormKept(t *testing.T) {
	for _, change := range yardKeptChanges() {
		if couldBeKeptByRules(change.kept) != change.is {
			t.Fatalf("%s: %v", change.what, !change.is)
		}
		if got := wantForm(t, ranOf(change.kept)); (got != "") != change.is {
			t.Errorf("%s: %.300q", change.what, got)
		}
	}
	// Runs that are honest, and lies.
	for what, k := range honestRuns() {
		if wantForm(t, ranOf(k)) == "" {
			t.Errorf("%s has no form", what)
		}
		for _, lie := range liesOf(k) {
			wantForm(t, ranOf(lie.kept))
		}
	}
}

// leavesOf are the places of all fields of a type that are no structs, with their names.
func leavesOf(kind reflect.Type) map[string][]int {
	leaves := map[string][]int{}
	for i := range kind.NumField() {
		field := kind.Field(i)
		if field.Type.Kind() != reflect.Struct {
			leaves[field.Name] = []int{i}
			continue
		}
		for name, index := range leavesOf(field.Type) {
			leaves[field.Name+"."+name] = append([]int{i}, index...)
		}
	}
	return leaves
}

// bentLeaves are copies of a thing with one field changed in each, by the field's name.
func bentLeaves[T any](thing T) map[string][]T {
	all := map[string][]T{}
	for name, index := range leavesOf(reflect.TypeFor[T]()) {
		bend := func(change func(field reflect.Value)) {
			bent := reflect.New(reflect.TypeFor[T]()).Elem()
			bent.Set(reflect.ValueOf(thing))
			change(bent.FieldByIndex(index))
			all[name] = append(all[name], bent.Interface().(T))
		}
		field := reflect.ValueOf(thing).FieldByIndex(index)
		switch field.Kind() {
		case reflect.Bool:
			bend(func(field reflect.Value) { field.SetBool(!field.Bool()) })
		case reflect.Int:
			for _, n := range []int64{1, -1, 2, 1000} {
				bend(func(field reflect.Value) { field.SetInt(field.Int() + n) })
			}
		case reflect.String:
			for _, text := range []string{"a", " ", "\n"} {
				bend(func(field reflect.Value) { field.SetString(field.String() + text) })
			}
		case reflect.Slice:
			item := reflect.New(field.Type().Elem()).Elem()
			bend(func(field reflect.Value) { field.Set(reflect.Append(field.Slice3(0, field.Len(), field.Len()), item)) })
			if item.Kind() == reflect.String {
				bend(func(field reflect.Value) {
					field.Set(reflect.Append(field.Slice3(0, field.Len(), field.Len()), reflect.ValueOf("~")))
				})
			}
		default:
			panic(name)
		}
	}
	return all
}

// Of all that is in an entry, what its kind does not use is nothing.
func TestYardFormNotUsed(t *testing.T) {
	if many := len(leavesOf(reflect.TypeFor[impl.YardEntry]())); many != 18 {
		t.Fatalf("%d fields", many)
	}
	for begins, e := range map[string]impl.YardEntry{
		"Epoch": {Kind: 1, Epoch: 7}, "File": fileEntry("a", "b"), "File.Name": {Kind: 3, File: impl.MillFile{Name: "a"}}, "Kept": ranOf(someKept()), "none": {Kind: 5},
	} {
		if wantForm(t, e) == "" {
			t.Errorf("%s has no form", entryShown(e))
		}
		for name, all := range bentLeaves(e) {
			for _, bent := range all {
				got := wantForm(t, bent)
				if name != "Kind" && name != begins && !strings.HasPrefix(name, begins+".") && got != "" {
					t.Errorf("%s is not used by kind %d: %q", name, e.Kind, got)
				}
				// Of another kind it has what that one does not use, or lacks what that one does; but a drop has all of a file's entry.
				isFile := e.Kind == 3 && bent.Kind == 2
				if name == "Kind" && (got != "") != isFile {
					t.Errorf("kind %d in the place of %d: %q", bent.Kind, e.Kind, got)
				}
			}
		}
	}
	// Empty lists are none.
	e := impl.YardEntry{Kind: 5}
	e.Kept.Target.Ins, e.Kept.Target.Outs = []string{}, []string{}
	e.Kept.Made.Files, e.Kept.Made.Said, e.Kept.Made.Seen = []impl.MillFile{}, []string{}, []impl.MillSeen{}
	wantWritten(t, e, "clear\n")
	e.Kind, e.File.Name = 3, "a"
	wantWritten(t, e, "drop a\n")
	// All of a run but one part.
	for _, kind := range []int{1, 2, 3, 5} {
		wantWritten(t, impl.YardEntry{Kind: kind, Epoch: 1, File: impl.MillFile{Name: "a"}, Kept: someKept()}, "")
	}
	wantWritten(t, impl.YardEntry{Kind: 4, Epoch: 1, Kept: someKept()}, "")
	wantWritten(t, impl.YardEntry{Kind: 4, File: impl.MillFile{Name: "n"}, Kept: someKept()}, "")
}

// bentTexts are texts that are nearly s: with a byte left out, doubled, put in or changed, with lines left out, doubled, exchanged and put in.
func bentTexts(s string) []string {
	bent := []string{"", s + "\n", "\n" + s, s + " ", " " + s, s + s, strings.TrimSuffix(s, "\n"), s + "x", s + "\x00", strings.ReplaceAll(s, "\n", "\r\n"), strings.ReplaceAll(s, " ", "  "), strings.ReplaceAll(s, " ", "\t"), strings.ToUpper(s), strings.ReplaceAll(s, "\"", "'"), "clear\n" + s, s + "clear\n", "\ufeff" + s}
	for at := range len(s) {
		bent = append(bent, s[:at]+s[at+1:], s[:at]+s[at:at+1]+s[at:], s[:at])
		for _, put := range []string{" ", "\n", "\t", "\r", "\x00", "\xff", "0", "1", "9", "+", "-", "_", "a", "A", "\"", "\\", "\\61", "\\0a", "\\0A"} {
			bent = append(bent, s[:at]+put+s[at:], s[:at]+put+s[at+1:])
		}
		// A byte that stands for itself, written by its digits.
		bent = append(bent, s[:at]+fmt.Sprintf("\\%02x", s[at])+s[at+1:], s[:at]+fmt.Sprintf("\\%02X", s[at])+s[at+1:])
	}
	lines := strings.SplitAfter(s, "\n")
	for at := range lines[:len(lines)-1] {
		put := func(more ...string) {
			bent = append(bent, strings.Join(slices.Concat(lines[:at], more, lines[at+1:]), ""))
		}
		put()
		put(lines[at], lines[at])
		put(lines[at], "\n")
		put("\n")
		put(lines[at], "said \"\"\n")
		put(lines[at], "in z\n")
		put(lines[at], "out z\n")
		put(lines[at], "saw 2 4 \"z\" \"\"\n")
		put(lines[at], "wrote z \"\"\n")
		put(lines[at], "over 0 0 \"\"\n")
		put(lines[at], "look 3 \"\"\n")
		put(strings.TrimSuffix(lines[at], "\n") + " \n")
		put(strings.TrimSuffix(lines[at], "\n") + " \"\"\n")
		put(strings.TrimSuffix(lines[at], "\n") + " 0\n")
		for other := range at {
			swapped := slices.Clone(lines)
			swapped[at], swapped[other] = swapped[other], swapped[at]
			bent = append(bent, strings.Join(swapped, ""))
		}
	}
	return bent
}

// Promise 38: nothing else is read.
func TestYardReadNothingElse(t *testing.T) {
	counts := map[bool]int{}
	for _, form := range []string{"epoch 1\n", "epoch 10\n", "epoch 200\n", "file a \"\"\n", "file a \"q\\22 b\\0a\"\n", "file \" \"\\22 \\22\"\n", "drop a\n", "drop epoch\n", "clear\n", "ran n t \"\"\nout o\nover 0 0 \"\"\n", someKeptForm} {
		if !wantEntryRead(t, form) {
			t.Errorf("%q is not read", form)
		}
		for _, s := range bentTexts(form) {
			counts[wantEntryRead(t, s)]++
		}
	}
	// Such that are nearly forms may be forms of others.
	if counts[true] < 300 || counts[false] < 10000 {
		t.Error(counts)
	}
	wantNoEntry(t, "", "\n", " ", "x\n", "epoch\n", "epoch \n", "epoch  1\n", "epoch 1 \n", " epoch 1\n", "epoch 1", "epoch 1\n\n", "epoch 1\r\n", "epoch 01\n", "epoch +1\n", "epoch -1\n", "epoch 0\n", "epoch 201\n", "epoch 1.0\n", "epoch 1e1\n", "epoch 0x1\n", "epoch 1_0\n", "epoch 18446744073709551617\n", "epoch 99999999999999999999999\n", "epoch a\n", "epoch \"1\"\n", "Epoch 1\n", "epoch 1 2\n", "epoch 1\nepoch 2\n", "epoch1\n", "epochs 1\n")
	wantNoEntry(t, "file\n", "file a\n", "file a \n", "file a  \"\"\n", "file a \"\"\n\n", "file a \"\" \n", "file a \"\" \"\"\n", "file a \"", "file a \"\n", "file a \"\"", "file  \"\"\n", "file a b \"\"\n", "file \"a\" \n", "file a\t\"\"\n", "file a x\n", "file a \"\\6\"\n", "file a \"\\61\"\n", "file a \"\\0A\"\n", "file a \"\\20\"\n", "file a \"\\7e\"\n", "file a \"\x7f\"\n", "file a \"\\\"\n", "file a \"a\nb\"\n", "file a \"é\"\n", "file é \"\"\n", "file a \"\"\"\n", "file a ''\n", "file "+strings.Repeat("x", 61)+" \"\"\n", "file a \""+strings.Repeat("x", 3001)+"\"\n", "file a \""+strings.Repeat("\\0a", 3001)+"\"\n")
	wantNoEntry(t, "drop\n", "drop \n", "drop a b\n", "drop a \"\"\n", "drop a", "drop  a\n", "drop a\x7f\n", "drop "+strings.Repeat("x", 61)+"\n", "clear \n", "clear", "clear a\n", "clear\nclear\n", "\nclear\n", "clear\n\n")
	wantNoEntry(t, "ran n t \"\"\n", "ran n t\nout o\nover 0 0 \"\"\n", "ran n \"\"\nout o\nover 0 0 \"\"\n", "ran n t \"\"\nover 0 0 \"\"\n", "ran n t \"\"\nout o\n", "ran n t \"\"\nout o\nover 0 0\n", "ran n t \"\"\nout o\nover 0 \"\"\n", "ran n t \"\"\nout o\nover 6 0 \"\"\n", "ran n t \"\"\nout o\nover 0 4001 \"\"\n", "ran n t \"\"\nout o\nover -1 0 \"\"\n", "ran n t \"\"\nout o\nover 0 00 \"\"\n", "ran n t \"\"\nout o\nover 0 0 \"\"\nover 0 0 \"\"\n", "ran n t \"\"\nout o\nover 0 0 \"\"\nsaid \"\"\n", "ran n t \"\"\nout o\nin i\nover 0 0 \"\"\n", "ran n t \"\"\nsaw 1 0 \"i\" \"\"\nout o\nover 0 0 \"\"\n", "ran n t \"\"\nout o\nsaid \"\"\nwrote o \"\"\nover 0 0 \"\"\n", "ran n t \"\"\nout o\nwrote o \"\"\nsaw 1 0 \"i\" \"\"\nover 0 0 \"\"\n", "ran n t \"\"\nout o\nsaw 1 0 \"i\"\"\"\nover 0 0 \"\"\n", "ran n t \"\"\nout o\nsaw 1 0 \"i\"  \"\"\nover 0 0 \"\"\n", "ran n t \"\"\nout o\nsaw 1 0 i \"\"\nover 0 0 \"\"\n", "ran n t \"\"\nout o\nsaw 1 0 \"\" \"\"\nover 0 0 \"\"\n", "ran n t \"\"\nout o\nsaw 1 4 \"i\" \"x\"\nover 0 0 \"\"\n", "ran n t \"\"\nout o\nsaw 4 0 \"i\" \"\"\nover 0 0 \"\"\n", "ran n t \"\"\nout o\nsaw 1 0 \"i\" \"\\69\"\nover 0 0 \"\"\n", "ran n t \"\"\nout o\nsaw 1 0 \"\\69\" \"\"\nover 0 0 \"\"\n", "ran n t \"\"\nout p\nout o\nover 0 0 \"\"\n", "ran n t \"\"\nout o\nwrote p \"\"\nwrote o \"\"\nover 0 0 \"\"\n", "ran n t \"\"\nin j\nin i\nout o\nover 0 0 \"\"\n", "ran n t \"\"\n\nout o\nover 0 0 \"\"\n")
	// As many of each line as there may be, and one more.
	lines := func(ins, outs, saws, wrote, said int) string {
		s := "ran n t \"\"\n"
		for i := range ins {
			s += fmt.Sprintf("in i%03d\n", i)
		}
		for i := range outs {
			s += fmt.Sprintf("out o%03d\n", i)
		}
		s += strings.Repeat("saw 2 4 \"h\" \"\"\n", saws)
		for i := range wrote {
			s += fmt.Sprintf("wrote w%03d \"\"\n", i)
		}
		return s + strings.Repeat("said \"\"\n", said) + "over 0 0 \"\"\n"
	}
	for _, s := range []string{lines(200, 20, 301, 20, 50), lines(0, 1, 101, 0, 0)} {
		if !wantEntryRead(t, s) {
			t.Errorf("%.100q", s)
		}
	}
	wantNoEntry(t, lines(201, 1, 0, 0, 0), lines(0, 0, 0, 0, 0), lines(0, 21, 0, 0, 0), lines(0, 1, 102, 0, 0), lines(200, 1, 302, 0, 0), lines(0, 1, 0, 21, 0), lines(0, 1, 0, 0, 51))
	// However long.
	wantNoEntry(t, strings.Repeat("x", 1000000), "file a \""+strings.Repeat("x", 1000000), "epoch "+strings.Repeat("0", 1000000)+"1\n", lines(20000, 20000, 20000, 20000, 20000), strings.Repeat("\n", 1000000), "drop "+strings.Repeat("x", 1000000)+"\n")
}

// drawnKept is a run that could be one, honest or not.
func (a houseAuthor) drawnKept() impl.HouseKept {
	text := func() string {
		return a.pick("", "a", "\" \"", "\"", "\\", "\n", "\x00\xff", "a b", " ", "é", "\\22", "x\ny\n")
	}
	names := func(most int) []string {
		var some []string
		for range a.below(most) {
			some = append(some, a.pick("a", "b", "c", "~", "\"", "\\", "in", "a/b", "0", strings.Repeat("x", 60)))
		}
		return slices.Compact(slices.Sorted(slices.Values(some)))
	}
	name := a.pick("n", "\"", "over", "\\0a", "1")
	k := impl.HouseKept{Target: impl.ClayTarget{Name: name, Tool: a.pick("t", "\"\"", "ran"), Arg: text(), Ins: names(4), Outs: append(names(4), "~~")}}
	k.Made = impl.HouseMade{Name: name, Over: true, Code: a.below(6), Text: text(), Steps: []int{0, 1, 10, 4000}[a.below(4)]}
	for _, name := range names(4) {
		k.Made.Files = append(k.Made.Files, impl.MillFile{Name: name, Text: text()})
	}
	for range a.below(4) {
		k.Made.Said = append(k.Made.Said, text())
	}
	for range a.below(5) {
		one := impl.MillSeen{Kind: 1 + a.below(3), Name: a.pick("a", "\"", "\\", "\"\"", "x")}
		if one.Kind == 3 && a.below(2) == 0 {
			one.Name = ""
		}
		if code := a.pick("0", "0", "4", "5"); code == "0" {
			one.Reply.Text = text()
		} else {
			one.Reply.Code = decimalOf(code)
		}
		k.Made.Seen = append(k.Made.Seen, one)
	}
	return k
}

func (a houseAuthor) drawnEntry() impl.YardEntry {
	name, text := a.pick("a", "b", "c", "d/e", "\"", "~"), a.pick("", "1", "\" \"", "\n\x00\xff\\")
	switch a.below(8) {
	case 0:
		return impl.YardEntry{Kind: 1, Epoch: 1 + a.below(200)}
	case 1, 2:
		return fileEntry(name, text)
	case 3:
		return impl.YardEntry{Kind: 3, File: impl.MillFile{Name: name}}
	case 4:
		return impl.YardEntry{Kind: 5}
	}
	return ranOf(a.drawnKept())
}

// drawnBent is a text with some of its bytes or lines changed.
func (a houseAuthor) drawnBent(s string) string {
	for range 1 + a.below(2) {
		if s == "" {
			return s
		}
		at := a.below(len(s))
		switch a.below(5) {
		case 0:
			s = s[:at] + s[at+1:]
		case 1:
			s = s[:at] + a.pick(" ", "\n", "0", "\"", "\\", "a", "9", "\x00") + s[at:]
		case 2:
			s = s[:at] + a.pick(" ", "\n", "0", "\"", "\\", "a", "9", "\xff") + s[at+1:]
		default:
			lines := strings.SplitAfter(s, "\n")
			i, j := a.below(len(lines)), a.below(len(lines))
			if a.below(2) == 0 {
				lines[i], lines[j] = lines[j], lines[i]
			} else {
				lines = slices.Delete(lines, i, i+1)
			}
			s = strings.Join(lines, "")
		}
	}
	return s
}

// Promise 38 for drawn entries, and for texts that are nearly forms.
func TestYardEntriesDrawn(t *testing.T) {
	t.Parallel()
	dice := clayDice(2602)
	a := houseAuthor{&dice}
	counts := map[string]int{}
	for range 4000 {
		e := a.drawnEntry()
		form := wantForm(t, e)
		if form == "" {
			t.Fatalf("%s has no form", entryShown(e))
		}
		for range 5 {
			counts[fmt.Sprint("bent ", wantEntryRead(t, a.drawnBent(form)))]++
		}
		all := bentLeaves(e)
		for _, name := range slices.Sorted(maps.Keys(all)) {
			bent := all[name]
			counts[fmt.Sprint("a form ", wantForm(t, bent[a.below(len(bent))]) != "")]++
		}
		if t.Failed() {
			return
		}
	}
	for what, least := range map[string]int{"bent true": 1000, "bent false": 10000, "a form true": 3000, "a form false": 30000} {
		if counts[what] < least {
			t.Errorf("%s: %v", what, counts)
		}
	}
}

// Runs of drawn houses have forms.
func TestYardFormMeaningDrawn(t *testing.T) {
	t.Parallel()
	dice := clayDice(2603)
	a := houseAuthor{&dice}
	over := 0
	for range 150 {
		p := a.house()
		plan := impl.HousePlan(p, "main")
		for at, made := range impl.HouseMeaning(p, "main") {
			k := impl.HouseKept{Target: plan.Targets[at], Made: made}
			if form := wantForm(t, ranOf(k)); (form != "") != made.Over {
				t.Errorf("%v: %s", made.Over, keptShown(k))
			}
			if made.Over {
				over++
				wantForm(t, ranOf(a.bent(k)))
			}
		}
	}
	if over < 300 {
		t.Error(over)
	}
}

// yardReplayByRules is a second reading of a replay.
func yardReplayByRules(entries []string) impl.YardMemory {
	if len(entries) > 1000 {
		return impl.YardMemory{Code: 1}
	}
	var m impl.YardMemory
	for _, s := range entries {
		e, is := yardReadByRules(s)
		code := 0
		switch {
		case !is:
			code = 2
		case e.Kind == 1 && e.Epoch != m.Epoch+1:
			code = 2
		case e.Kind == 1:
			m.Epoch = e.Epoch
		case e.Kind == 2:
			m.Place, code = millLayByRules(m.Place, []impl.MillFile{e.File})
		case e.Kind == 3:
			many := len(m.Place.Files)
			m.Place = placeWithout(m.Place, e.File.Name)
			if len(m.Place.Files) == many {
				code = 2
			}
		case e.Kind == 4 && (len(m.Shelf.Kept) == 100 || slices.ContainsFunc(m.Shelf.Kept, func(k impl.HouseKept) bool { return isSameKept(k, e.Kept) })):
			code = 2
		case e.Kind == 4:
			m.Shelf.Kept = append(m.Shelf.Kept, e.Kept)
		default:
			m.Shelf.Kept = nil
		}
		if code != 0 {
			return impl.YardMemory{Code: 2}
		}
	}
	return m
}

func isSameMemory(a, b impl.YardMemory) bool {
	return a.Code == b.Code && a.Epoch == b.Epoch && isSameMillPlace(a.Place, b.Place) && slices.EqualFunc(a.Shelf.Kept, b.Shelf.Kept, isSameKept)
}

func memoryShown(m impl.YardMemory) string {
	return fmt.Sprintf("code %d, epoch %d, %s, %d kept", m.Code, m.Epoch, millPlaceShown(m.Place), len(m.Shelf.Kept))
}

func entriesShown(entries []string) string {
	return fmt.Sprintf("%d entries %.1500q", len(entries), strings.Join(entries, ""))
}

// wantReplay holds Replay against the second reading, and asks that with a code there is nothing else.
func wantReplay(t *testing.T, entries ...string) impl.YardMemory {
	t.Helper()
	kept := slices.Clone(entries)
	got, want := impl.YardReplay(entries), yardReplayByRules(entries)
	if !isSameMemory(got, want) {
		t.Errorf("%s: got %s, want %s", entriesShown(entries), memoryShown(got), memoryShown(want))
	}
	if got.Code != 0 && !isSameMemory(got, impl.YardMemory{Code: got.Code}) {
		t.Errorf("%s: %s", entriesShown(entries), memoryShown(got))
	}
	if !slices.Equal(entries, kept) {
		t.Errorf("%s: changed", entriesShown(entries))
	}
	return got
}

func wantReplayed(t *testing.T, want impl.YardMemory, entries ...string) {
	t.Helper()
	if got := wantReplay(t, entries...); !isSameMemory(got, want) {
		t.Errorf("%s: %s, want %s", entriesShown(entries), memoryShown(got), memoryShown(want))
	}
}

func wantReplayCode(t *testing.T, code int, entries ...string) {
	t.Helper()
	if got := wantReplay(t, entries...); got.Code != code {
		t.Errorf("%s: %s, want code %d", entriesShown(entries), memoryShown(got), code)
	}
}

// numberedRan is the form of a run that is none of the others.
func numberedRan(n int) string { return fmt.Sprintf("ran n%d t \"\"\nout o\nover 0 0 \"\"\n", n) }

func TestYardReplay(t *testing.T) {
	a, b := someKept(), someKept()
	b.Made.Text = "another"
	ran, other := impl.YardForm(ranOf(a)), impl.YardForm(ranOf(b))
	wantReplayed(t, impl.YardMemory{})
	wantReplayed(t, impl.YardMemory{Epoch: 1}, "epoch 1\n")
	wantReplayed(t, impl.YardMemory{Epoch: 3}, "epoch 1\n", "epoch 2\n", "epoch 3\n")
	wantReplayed(t, impl.YardMemory{Place: placeOf("a", "1")}, "file a \"1\"\n")
	wantReplayed(t, impl.YardMemory{Place: placeOf("a", "1", "b", "2", "c", "")}, "file b \"2\"\n", "file c \"\"\n", "file a \"1\"\n")
	wantReplayed(t, impl.YardMemory{Place: placeOf("a", "2", "b", "")}, "file a \"1\"\n", "file b \"\"\n", "file a \"2\"\n")
	wantReplayed(t, impl.YardMemory{Place: placeOf("a", "1", "c", "3")}, "file a \"1\"\n", "file b \"2\"\n", "file c \"3\"\n", "drop b\n")
	wantReplayed(t, impl.YardMemory{}, "file a \"1\"\n", "drop a\n")
	wantReplayed(t, impl.YardMemory{Place: placeOf("a", "2")}, "file a \"1\"\n", "drop a\n", "file a \"2\"\n")
	wantReplayed(t, impl.YardMemory{Shelf: shelfOf(a)}, ran)
	wantReplayed(t, impl.YardMemory{Shelf: shelfOf(a, b)}, ran, other)
	wantReplayed(t, impl.YardMemory{Shelf: shelfOf(b, a)}, other, ran)
	wantReplayed(t, impl.YardMemory{}, ran, other, "clear\n")
	wantReplayed(t, impl.YardMemory{}, "clear\n", "clear\n")
	wantReplayed(t, impl.YardMemory{Shelf: shelfOf(a)}, ran, "clear\n", ran)
	wantReplayed(t, impl.YardMemory{Shelf: shelfOf(b)}, "clear\n", ran, "clear\n", other)
	// Nothing but the shelf is cleared.
	wantReplayed(t, impl.YardMemory{Epoch: 2, Place: placeOf("a", "1"), Shelf: shelfOf(b)}, "epoch 1\n", "file a \"1\"\n", ran, "epoch 2\n", "clear\n", other)
	// An epoch that is not one more.
	for _, entries := range []string{"epoch 2\n", "epoch 200\n", "epoch 1\n,epoch 1\n", "epoch 1\n,epoch 3\n", "epoch 1\n,epoch 2\n,epoch 1\n", "epoch 1\n,epoch 2\n,epoch 2\n", "epoch 1\n,clear\n,epoch 1\n"} {
		wantReplayCode(t, 2, strings.Split(entries, ",")...)
	}
	// A file that is not there, or no longer.
	for _, entries := range []string{"drop a\n", "file a \"\"\n,drop b\n", "file a \"\"\n,drop a\n,drop a\n", "file ab \"\"\n,drop a\n", "file a \"\"\n,drop ab\n"} {
		wantReplayCode(t, 2, strings.Split(entries, ",")...)
	}
	// A run twice, beside another or behind a clear and again.
	wantReplayCode(t, 2, ran, ran)
	wantReplayCode(t, 2, ran, other, ran)
	wantReplayCode(t, 2, ran, "epoch 1\n", "file a \"\"\n", ran)
	wantReplayCode(t, 2, ran, "clear\n", ran, ran)
	// What is not read, wherever it stands.
	for _, wrong := range []string{"", "clear", "x\n", "epoch 01\n", "clear\nclear\n", "epoch 1\nclear\n", "file a\n", "epoch 0\n", ran + ran} {
		wantReplayCode(t, 2, wrong)
		wantReplayCode(t, 2, "epoch 1\n", wrong)
		wantReplayCode(t, 2, wrong, "epoch 1\n")
		wantReplayCode(t, 2, "epoch 1\n", "file a \"\"\n", ran, wrong, "clear\n")
	}
}

// A run differs from one that is on the shelf by any of its parts.
func TestYardReplayRuns(t *testing.T) {
	entries := []string{impl.YardForm(ranOf(someKept()))}
	for _, change := range yardKeptChanges() {
		form := impl.YardForm(ranOf(change.kept))
		if form == "" || len(entries) == 100 || slices.Contains(entries, form) {
			continue
		}
		entries = append(entries, form)
	}
	if len(entries) != 100 {
		t.Fatalf("%d runs", len(entries))
	}
	wantReplayCode(t, 0, entries...)
	for _, form := range entries {
		wantReplayCode(t, 2, entries[0], form, form)
	}
	one := someKept()
	for name, all := range bentLeaves(one) {
		for _, bent := range all {
			if form := impl.YardForm(ranOf(bent)); form != "" {
				if got := wantReplay(t, entries[0], form); got.Code != 0 || len(got.Shelf.Kept) != 2 {
					t.Errorf("%s: %s", name, memoryShown(got))
				}
			}
		}
	}
}

func TestYardReplayRoom(t *testing.T) {
	var files, runs []string
	for _, file := range manyFiles(41) {
		files = append(files, impl.YardForm(fileEntry(file.Name, file.Text)))
	}
	for i := range 101 {
		runs = append(runs, numberedRan(i))
	}
	wantReplayed(t, impl.YardMemory{Place: impl.MillPlace{Files: manyFiles(40)}}, files[:40]...)
	wantReplayCode(t, 2, files...)
	full := slices.Clip(files[:40])
	// In a full place a file may be changed, and one may go for another.
	wantReplayCode(t, 0, append(full, "file m000 \"new\"\n")...)
	wantReplayCode(t, 0, append(full, "drop m007\n", files[40])...)
	wantReplayCode(t, 2, append(full, "drop m007\n", files[40], files[7])...)
	wantReplayCode(t, 2, append(full, "clear\n", "epoch 1\n", "file a \"\"\n")...)
	wantReplayCode(t, 0, runs[:100]...)
	wantReplayCode(t, 2, runs...)
	shelf := slices.Clip(runs[:100])
	wantReplayCode(t, 0, append(shelf, "clear\n", runs[100], runs[0])...)
	wantReplayCode(t, 2, append(shelf, runs[0])...)
	wantReplayCode(t, 2, append(append(shelf, "clear\n"), runs...)...)
	wantReplayCode(t, 0, append(append(shelf, "clear\n"), runs[:100]...)...)
}

func TestYardReplayMost(t *testing.T) {
	for _, many := range []int{999, 1000, 1001, 1002, 5000} {
		code := 0
		if many > 1000 {
			code = 1
		}
		wantReplayCode(t, code, slices.Repeat([]string{"clear\n"}, many)...)
		wantReplayCode(t, code, slices.Repeat([]string{"file a \"1\"\n", "drop a\n"}, many)[:many]...)
		// How many there are is asked for first.
		wantReplayCode(t, max(code, 2-code), slices.Repeat([]string{"wrong"}, many)...)
		wantReplayCode(t, max(code, 2-code), append(slices.Repeat([]string{"clear\n"}, many-1), "wrong")...)
	}
	var epochs []string
	for i := range 200 {
		epochs = append(epochs, fmt.Sprintf("epoch %d\n", i+1))
	}
	wantReplayed(t, impl.YardMemory{Epoch: 200}, epochs...)
	wantReplayCode(t, 2, append(epochs, "epoch 201\n")...)
	wantReplayCode(t, 2, append(epochs, "epoch 1\n")...)
}

// Drawn logs: most entries can be done, some can't.
func TestYardReplayDrawn(t *testing.T) {
	t.Parallel()
	dice := clayDice(2604)
	a := houseAuthor{&dice}
	counts := map[int]int{}
	for range 1500 {
		var entries []string
		epoch := 0
		many := a.below(30)
		for range many {
			e := a.drawnEntry()
			if e.Kind == 1 && a.below(10) > 0 {
				epoch++
				e.Epoch = epoch
			}
			s := impl.YardForm(e)
			if a.below(100) == 0 {
				s = a.drawnBent(s)
			}
			// Few logs go far if each entry may end them.
			if a.below(5) > 0 && impl.YardReplay(append(slices.Clone(entries), s)).Code != 0 {
				continue
			}
			entries = append(entries, s)
		}
		got := wantReplay(t, entries...)
		counts[got.Code]++
		if len(got.Place.Files) > 2 && len(got.Shelf.Kept) > 2 && got.Epoch > 0 {
			counts[100]++
		}
		if t.Failed() {
			return
		}
	}
	if counts[0] < 300 || counts[2] < 300 || counts[100] < 50 {
		t.Error(counts)
	}
}

// No argument is changed, nor what lies behind its lists; answers are new memory, and no two parts of one share any.
func TestYardLogOwnMemory(t *testing.T) {
	dice := clayDice(2605)
	a := houseAuthor{&dice}
	pieces := 0
	entry := func(e impl.YardEntry) {
		t.Helper()
		roomy, seen := roomyOf(e)
		before := seen()
		form := impl.YardForm(roomy)
		wantNewMemory(t, form, roomy)
		if seen() != before {
			t.Errorf("%s: changed", entryShown(e))
		}
		if form == "" {
			return
		}
		back, _ := impl.YardRead(form)
		wantNewMemory(t, back, form)
		pieces += len(memoryOf(reflect.ValueOf(back), "", nil))
		again, _ := impl.YardRead(form)
		wantNewMemory(t, again, form, back)
	}
	goes := func(target impl.ClayTarget, seen []impl.MillSeen) {
		t.Helper()
		roomy, lies := roomyOf(target)
		looks, lie := roomyOf(seen)
		before := lies() + lie()
		turn := impl.YardGo(roomy, looks)
		wantNewMemory(t, turn, roomy, looks)
		pieces += len(memoryOf(reflect.ValueOf(turn), "", nil))
		if lies()+lie() != before {
			t.Errorf("%+v: changed", target)
		}
	}
	var entries []string
	for range 40 {
		e := a.drawnEntry()
		entry(e)
		entry(ranOf(a.drawnKept()))
	}
	entry(ranOf(someKept()))
	entry(ranOf(impl.HouseKept{}))
	for _, k := range honestRuns() {
		entry(ranOf(k))
		entries = append(entries, impl.YardForm(ranOf(k)))
		for many := range len(k.Made.Seen) + 1 {
			goes(k.Target, k.Made.Seen[:many])
		}
		goes(k.Target, append(slices.Clone(k.Made.Seen), k.Made.Seen...))
	}
	slices.Sort(entries)
	entries = append(slices.Compact(entries), "file a \"text\"\n", "file b \"text\"\n", "file a \"other\"\n", "epoch 1\n")
	roomy, seen := roomyOf(entries)
	before := seen()
	memory := impl.YardReplay(roomy)
	if memory.Code != 0 || len(memory.Shelf.Kept) < 20 || len(memory.Place.Files) != 2 || seen() != before {
		t.Errorf("%s", memoryShown(memory))
	}
	wantNewMemory(t, memory, roomy)
	kept := impl.YardReplay(entries)
	// What is done to an answer does not come back.
	for i := range memory.Shelf.Kept {
		for n := range memory.Shelf.Kept[i].Made.Seen {
			memory.Shelf.Kept[i].Made.Seen[n].Name = "other"
		}
	}
	memory.Place.Files[0].Text = "other"
	if again := impl.YardReplay(roomy); !isSameMemory(again, kept) {
		t.Errorf("%s, again %s", memoryShown(kept), memoryShown(again))
	}
	if pieces < 1500 {
		t.Errorf("only %d pieces of memory", pieces)
	}
}

// Many at once: nothing is kept between calls.
func TestYardLogKeepsNothing(t *testing.T) {
	var all []func() string
	for n := range 8 {
		k := someKept()
		k.Target.Arg = fmt.Sprint("arg ", n)
		file := fmt.Sprintf("file f%d \"%d\"\n", n, n)
		all = append(all, func() string {
			form := impl.YardForm(ranOf(k))
			back, is := impl.YardRead(form)
			m := impl.YardReplay([]string{"epoch 1\n", file, form})
			turn := impl.YardGo(k.Target, k.Made.Seen[:1])
			if !is || !isSameKept(back.Kept, k) || !isSameMemory(m, impl.YardMemory{Epoch: 1, Place: placeOf(fmt.Sprint("f", n), fmt.Sprint(n)), Shelf: shelfOf(k)}) || !isSameMillTurn(turn, impl.MillTurn{Kind: 1, Name: "j"}) {
				return entryShown(back) + memoryShown(m) + millTurnShown(turn)
			}
			return ""
		})
	}
	wantAtOnce(t, all)
}

func FuzzYardRead(f *testing.F) {
	for _, s := range []string{"epoch 1\n", "file a \"q\\22 b\\0a\"\n", "drop a\n", "clear\n", someKeptForm, "ran n t \"\"\nout o\nover 0 0 \"\"\n"} {
		f.Add(s)
	}
	f.Fuzz(func(t *testing.T, s string) {
		if wantEntryRead(t, s) {
			e, _ := impl.YardRead(s)
			wantForm(t, e)
		}
		wantReplay(t, "epoch 1\n", s, s)
	})
}

func FuzzYardGo(f *testing.F) {
	f.Add("n", "t", "a", "i", "o", inMain(`write "o", read(arg()) + list(""); return tool("u", "");`), "u", 1, 0)
	f.Add("n", "t", "a", "", "o", inMain(`if has("i") { } return "";`), "i", 2, 4)
	f.Fuzz(func(t *testing.T, name, tool, arg, in, out, src, look string, kind, code int) {
		if tree, _ := impl.MillParse(src); len(tree.Nodes) > 300 || len(src) > 2000 {
			return
		}
		target := impl.ClayTarget{Name: name, Tool: tool, Arg: arg, Outs: []string{out}}
		if in != "" {
			target.Ins = []string{in}
		}
		var seen []impl.MillSeen
		for range 6 {
			turn := wantGo(t, target, seen)
			if turn.Kind == 0 {
				break
			}
			next := impl.MillSeen{Kind: turn.Kind, Name: turn.Name, Reply: impl.MillReply{Text: src}}
			wantGo(t, target, append(slices.Clone(seen), impl.MillSeen{Kind: kind, Name: look, Reply: impl.MillReply{Code: code}}))
			seen = append(seen, next)
		}
	})
}
