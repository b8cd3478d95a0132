package tests

import (
	"fmt"
	"math"
	"reflect"
	"runtime"
	"slices"
	"strings"
	"testing"
	"time"

	"loop.example/kilnyard/impl"
)

// shiftPicks are none, one, several, ones below 0 and very great ones.
func shiftPicks() [][]int {
	return [][]int{nil, {}, {0}, {1}, {2}, {-1}, {2, 0, 1}, {7, 1, 1, 0, 5}, {-3, 4}, {math.MinInt, 3, math.MinInt}, {1000000007}, {math.MaxInt}, {math.MaxInt, math.MaxInt - 1, 0, 59, -59}, slices.Repeat([]int{0, 1, 3, 2}, 500)}
}

// shiftMosts are the least, one more, some that part instructions in odd places, and very great ones.
func shiftMosts() []int {
	return []int{20, 21, 23, 37, 100, 1999, 99999, 100000, 100001, 1 << 40, math.MaxInt}
}

// handReader is a hand of a second reading, which has a machine as the document says it.
type handReader struct {
	target  impl.ClayTarget
	seen    []impl.MillSeen
	machine *impl.MillMachine
}

// stands is the look at which a hand stands; kind is 0, if it stands at none.
func (hand *handReader) stands() (kind int, name string) {
	switch {
	case hand.machine == nil:
		return 1, append(slices.Clone(hand.target.Ins), hand.target.Tool)[len(hand.seen)]
	case hand.machine.Kind == impl.MillLookTool:
		return 1, hand.machine.Name
	}
	return hand.machine.Kind, hand.machine.Name
}

// turn does what a hand does in its turn, and gives the end of the run, if it comes to one.
func (hand *handReader) turn(answer func(kind int, name string) (impl.MillReply, bool), most int) impl.MillTurn {
	kind, name := hand.stands()
	if kind == 0 {
		return hand.has(impl.MillGo(*hand.machine, most))
	}
	y, _ := answer(kind, name)
	hand.seen = append(hand.seen, impl.MillSeen{Kind: kind, Name: name, Reply: y})
	switch {
	case hand.machine != nil:
		return hand.has(impl.MillAnswer(*hand.machine, y))
	case y.Code != 0:
		return millEndsBy(y.Code, name, 0)
	case len(hand.seen) <= len(hand.target.Ins):
		return impl.MillTurn{}
	}
	tree, fault := impl.MillParse(y.Text)
	if fault.Code != 0 || impl.MillCheck(tree).Code != 0 {
		return millBroke("tool", 0)
	}
	return hand.has(impl.MillStart(impl.MillCompile(tree), impl.MillJob{Arg: hand.target.Arg, Outs: hand.target.Outs}))
}

func (hand *handReader) has(m impl.MillMachine) impl.MillTurn {
	hand.machine = &m
	return impl.MillShown(m)
}

// houseShiftByRules is a shift, sentence by sentence as the document has it, and whose turn it was each time.
func houseShiftByRules(p impl.MillPlace, targets []impl.ClayTarget, picks []int, most int) (made []impl.HouseMade, turns []int) {
	h := &houseReader{place: p, targets: targets, made: make([]impl.HouseMade, len(targets))}
	var hands []*handReader
	for _, target := range targets {
		hands = append(hands, &handReader{target: target})
	}
	for {
		var can []int
		for at, hand := range hands {
			kind, name := hand.stands()
			answered := kind == 0
			if !answered && !h.made[at].Over {
				_, answered = h.look(kind, name)
			}
			if answered && !h.made[at].Over {
				can = append(can, at)
			}
		}
		if len(can) == 0 {
			break
		}
		q := 0
		if len(picks) > 0 {
			q = max(0, picks[len(turns)%len(picks)])
		}
		at := can[q%len(can)]
		turns = append(turns, at)
		if turn := hands[at].turn(h.look, most); turn.Over {
			h.made[at] = madeOver(targets[at].Name, turn, hands[at].seen...)
			hands[at] = &handReader{target: targets[at]}
		}
	}
	for at, hand := range hands {
		if !h.made[at].Over {
			_, name := hand.stands()
			h.made[at] = madeWaits(targets[at].Name, name, hand.seen...)
		}
	}
	return h.made, turns
}

// wantShift asks that a shift comes to what the house means.
func wantShift(t *testing.T, p impl.MillPlace, main string, picks []int, most int, want []impl.HouseMade) {
	t.Helper()
	if got := impl.HouseShift(p, main, picks, most); !slices.EqualFunc(got, want, isSameMade) {
		t.Errorf("%q in %s, picks %.100v, most %d: got %s, want %s", main, millPlaceShown(p), picks, most, madeShown(got), madeShown(want))
	}
}

// wantShifts asks for promise 32, for all those picks and all those most, and that the second reading of a shift comes to the same.
func wantShifts(t *testing.T, p impl.MillPlace) []impl.HouseMade {
	t.Helper()
	want := wantHouse(t, p, "main")
	for _, picks := range shiftPicks() {
		for _, most := range shiftMosts() {
			wantShift(t, p, "main", picks, most, want)
		}
	}
	wantShiftRead(t, p, []int{3, 0, 1}, 23, want)
	return want
}

// wantShiftRead asks that the second reading of a shift comes to what the house means.
func wantShiftRead(t *testing.T, p impl.MillPlace, picks []int, most int, want []impl.HouseMade) []int {
	t.Helper()
	read, turns := houseShiftByRules(p, impl.HousePlan(p, "main").Targets, picks, most)
	if !slices.EqualFunc(read, want, isSameMade) {
		t.Errorf("%s, picks %.100v, most %d: read %s, want %s", millPlaceShown(p), picks, most, madeShown(read), madeShown(want))
	}
	return turns
}

// wantShiftEnds asks for promise 32, and for the codes, texts and numbers of looks of all runs, or what they wait for.
func wantShiftEnds(t *testing.T, p impl.MillPlace, want ...string) {
	t.Helper()
	if ends := madeEnds(wantShifts(t, p)); !slices.Equal(ends, want) {
		t.Errorf("%s: got %q, want %q", millPlaceShown(p), ends, want)
	}
}

func TestHouseShiftConstants(t *testing.T) {
	if impl.HouseLeast != 20 {
		t.Errorf("%d", impl.HouseLeast)
	}
}

// Chains in all orders of names, by what programs read, by ins, by tools, and by several of these.
func TestHouseShiftChain(t *testing.T) {
	t.Parallel()
	for _, names := range []string{"a b c d", "d c b a", "b d a c", "c a d b"} {
		n := strings.Fields(names)
		want := []string{n[0] + ` 0 "got" 2`, n[1] + ` 0 "got" 3`, n[2] + ` 0 "got" 2`, n[3] + ` 0 "got" 4`}
		slices.Sort(want)
		wantShiftEnds(t, houseWith([]string{n[0] + " get 1>src > 1", n[1] + " get 2>1 < 1 > 2", n[2] + " get 3>2 > 3", n[3] + " get 4>src < 2 3 > 4"}), want...)
	}
	pass := houseWriter("3", houseWriter("2", houseWriter("1", "made", "one"), "two"), "three")
	wantShiftEnds(t, houseWith([]string{"a 2 > 1", "b 3 > 2", "c pass > 3", "d get 4>1 < src > 4"}, "pass", pass), `a 0 "one" 1`, `b 0 "two" 1`, `c 0 "three" 1`, `d 0 "got" 3`)
}

// What waits for itself or in a circle, and what waits behind that: it is never over, and has its Seen and its Wait.
func TestHouseShiftNeverOver(t *testing.T) {
	t.Parallel()
	saysFirst := inMain(`say "first"; write "o", "w"; if has("src") { say list("s"); } return read("src") + read("o");`)
	wantShiftEnds(t, houseWith([]string{"n get o>o > o"}), "n waits o 1")
	wantShiftEnds(t, houseWith([]string{"n get o>src < empty o src > o"}), "n waits o 1")
	wantShiftEnds(t, houseWith([]string{"n o o>src < src > o"}), "n waits o 1")
	wantShiftEnds(t, houseWith([]string{"n o > o"}), "n waits o 0")
	wantShiftEnds(t, houseWith([]string{"n tool o>o > o"}), "n waits o 1")
	wantShiftEnds(t, houseWith([]string{"n t > o p"}, "t", saysFirst), "n waits o 4")
	wantShiftEnds(t, houseWith([]string{"n get o>p>p > o p", "m get q>p > q"}), "m waits p 1", "n waits p 1")
	wantShiftEnds(t, houseWith([]string{"a get 1>2 > 1", "b get 2>src < src 1 > 2"}), "a waits 2 1", "b waits 1 0")
	wantShiftEnds(t, houseWith([]string{"a get 1>2 > 1", "b tool 2>3 > 2", "c 1 > 3", "d get 4>src < 1 > 4", "e get 5>5a > 5", "f get 5a>src > 5a"}), "a waits 2 1", "b waits 3 1", "c waits 1 0", "d waits 1 0", `e 0 "got" 2`, `f 0 "got" 2`)
	// What asks for one of them, lists it, or ends ahead of looking at it, is over.
	wantShiftEnds(t, houseWith([]string{"a get 1>2 > 1", "b get 2>1 > 2", "c has 3>1 > 3", "d list 4>1 > 4", "e ends 5>1 > 5", "f get 6>src < 0gone 1 > 6", "g get 7>src < 1 gone > 7"}), "a waits 2 1", "b waits 1 1", `c 0 "asked" 2`, `d 0 "listed" 2`, `e 1 "why" 1`, `f 4 "0gone" 1`, "g waits 1 0")
	// What waits there is told as it was seen.
	p := houseWith([]string{"n t > o p"}, "t", saysFirst)
	want := []impl.HouseMade{madeWaits("n", "o", sawRead("t", saysFirst), saw(2, "src", 0), sawList("s", "set\nsrc\n"), sawRead("src", "S"))}
	wantShift(t, p, "main", nil, 20, want)
	wantShift(t, p, "main", []int{5}, 1<<30, want)
}

// Ins and tools that are missing, below, or no programs, lying there or made.
func TestHouseShiftInsAndTool(t *testing.T) {
	t.Parallel()
	bad, badEnds := "z ends bad>1 > bad", `z 1 "why" 1`
	for target, ends := range map[string]string{
		"n get o>src < gone > o":           `n 4 "gone" 1`,
		"n get o>src < empty gone src > o": `n 4 "gone" 2`,
		"n get o>src < bad > o":            `n 5 "bad" 1`,
		"n get o>src < a bad > o":          `n 4 "a" 1`,
		"n get o>src < bad gone > o":       `n 5 "bad" 1`,
		"n get o>src < src empty > o":      `n 0 "got" 4`,
		"n gone o>src > o":                 `n 4 "gone" 1`,
		"n gone o>src < src > o":           `n 4 "gone" 2`,
		"n bad o>src < empty src > o":      `n 5 "bad" 3`,
		"n gone o>src < bad > o":           `n 5 "bad" 1`,
		"n src > o":                        `n 2 "tool" 1`,
		"n empty < src > o":                `n 2 "tool" 2`,
		"n unfit > o":                      `n 2 "tool" 1`,
		"n made > o":                       `n 2 "tool" 1`,
		"n made < bad made > o":            `n 5 "bad" 1`,
	} {
		all := []string{`m 0 "set" 1`, ends, badEnds}
		wantShiftEnds(t, houseWith([]string{target, "m set made>nothing > made", bad}, "unfit", inMain(`return 1;`)), all...)
	}
	// As many ins as there can be, made by ten others.
	src := `emit {name: "n", tool: "get", arg: "o>src", ins: ["i" + text(i) for i in range(200)], outs: ["o"]};`
	for i := range 10 {
		src += fmt.Sprintf(`emit {name: "m%d", tool: "many", arg: "%d", outs: ["i" + text(i) for i in cut(range(200), %d, %d)]};`, i, i*20, i*20, i*20+20)
	}
	many := inMain(`let i = num(arg()); let end = i + 20; while i < end { write "i" + dec(i), dec(i * i); i = i + 1; } return "";`)
	made := wantShifts(t, houseWith(nil, "main.clay", src, "many", many))
	if last := made[len(made)-1]; last.Code != 0 || len(last.Seen) != 202 {
		t.Errorf("%s", madeShown(made[len(made)-1:]))
	}
}

// Tools that are made, and looks inside programs: at outs, files, lists and at tools of every kind.
func TestHouseShiftLooks(t *testing.T) {
	t.Parallel()
	program := inMain(`write "o", arg() + read("src"); return tool("made2", "y");`)
	second := inMain(`return arg() + list("made");`)
	p := houseWith([]string{"n made x > o", "g gen > made", "h gen2 > made2"}, "gen", houseWriter("made", program, ""), "gen2", houseWriter("made2", second, ""))
	wantShiftEnds(t, p, `g 0 "" 1`, `h 0 "" 1`, `n 0 "ymade\nmade2\n" 4`)
	looks := inMain(`let s = ""; if has("m") { s = "h"; } s = s + list("m") + read("m") + read("src"); if has("gone") { s = s + "?"; } write arg(), s + read("m") + list("gone"); return s;`)
	for _, maker := range []string{"a", "n1x", "z"} {
		want := []string{`n1 0 "hm\nmain.clay\nMS" 8`, `n2 0 "hm\nmain.clay\nMS" 8`, maker + ` 0 "set" 1`}
		slices.Sort(want)
		wantShiftEnds(t, houseWith([]string{"n1 looks o1 > o1", "n2 looks o2 > o2", maker + " set m>M > m"}, "looks", looks), want...)
	}
	for name, ends := range map[string]string{"one": `n 0 "called" 2`, "inner": `n 0 "called" 4`, "made": `n 0 "called" 2`, "src": `n 2 "tool in main" 2`, "unfit": `n 2 "tool in main" 2`, "text": `n 2 "tool in main" 2`, "gone": `n 4 "gone" 2`, "bad": `n 5 "bad" 2`, "deep": `n 2 "deep in main" 41`, "calls": `n 2 "deep in f" 2`, "o": "n waits o 1", "fails": `n 1 "x" 2`, "says": `n 2 "said in main" 2`} {
		p := houseWith([]string{"n tool o>" + name + " > o", "m set text>x > text", "g gen > made", "z ends bad>1 > bad"},
			"gen", houseWriter("made", inMain(`return arg() + "made";`), ""), "one", inMain(`return arg() + arg();`), "inner", inMain(`return tool("made", arg() + "i") + tool("one", "1");`), "unfit", "fn main() { }",
			"deep", inMain(`return tool("deep", arg());`), "calls", `fn f() -> text { return f(); } `+inMain(`return f();`), "fails", inMain(`fail arg();`), "says", inMain(`while true { say arg(); } return "";`))
		wantShiftEnds(t, p, `g 0 "" 1`, `m 0 "set" 1`, ends, `z 1 "why" 1`)
	}
	// A list that is too long.
	src := emitsOf("n asks > n")
	for i := range 3 {
		var outs []string
		for j := range 20 {
			outs = append(outs, fmt.Sprintf("o/%02d%s", i*20+j, strings.Repeat("x", 56)))
		}
		src += fmt.Sprintf("load \"p%d\": p%d;", i, i)
		p, _ = millLayByRules(p, filesOf(fmt.Sprintf("p%d.clay", i), fmt.Sprintf("let p%d = 1;", i)+emitOf(impl.ClayTarget{Name: fmt.Sprint("m", i), Tool: "gone", Outs: outs})))
	}
	p, _ = millLayByRules(p, filesOf("main.clay", src, "asks", inMain(`write "n", list("o/"); return dec(len(list("o/"))) + dec(len(list("o/1")));`)))
	wantShiftEnds(t, p, `m0 4 "gone" 1`, `m1 4 "gone" 1`, `m2 4 "gone" 1`, `n 0 "0610" 4`)
}

// A run ends with each code of chapter 15, and others look at its outs.
func TestHouseShiftCodes(t *testing.T) {
	t.Parallel()
	for how, want := range map[string]string{"0": `0 "0" 1`, "1": `1 "why" 1`, "2": `2 "divide in main" 1`, "3": `3 "" 1`, "4": `4 "gone" 2`, "5": `5 "bad" 2`, "9": `2 "lacks p" 1`} {
		for _, name := range []string{"a", "y"} {
			p := houseWith([]string{name + " ends p>q>" + how + " > p q", "bad ends bad>1 > bad", "c get r>p > r", "d has s>q > s", "f get u>src < q > u", "g p v> > v", "h tool w>q > w", "k get x>r > x"})
			ends := []string{`c 0 "got" 2`, `f 0 "got" 3`, `g 2 "tool" 1`, `h 2 "tool in main" 2`, `k 0 "got" 2`}
			if how != "0" {
				ends = []string{`c 5 "p" 2`, `f 5 "q" 1`, `g 5 "p" 1`, `h 5 "q" 2`, `k 5 "r" 2`}
			}
			ends = append(ends, name+" "+want, `bad 1 "why" 1`, `d 0 "asked" 2`)
			slices.Sort(ends)
			wantShiftEnds(t, p, ends...)
		}
	}
	// A program says and writes, anew too, as often as it may, and once more; a name that is none, and one that is no out.
	for src, ends := range map[string]string{
		`while i < 50 { say dec(i); i = i + 1; } write "o", "1"; write "o", "2"; write "p", ""; return "s";`: `n 0 "s" 1`,
		`while i < 51 { say dec(i); i = i + 1; } return "s";`:                                                `n 2 "said in main" 1`,
		`write "o", "1"; say "o"; write "o" + dec(i), "2"; return "";`:                                       `n 2 "output in main" 1`,
		`write "o", "1"; say "o"; write "o " + dec(i), "2"; return "";`:                                      `n 2 "name in main" 1`,
		`write "p", "1"; say "p"; return "";`:                                                                `n 2 "lacks o" 1`,
		`say "p"; return read("a b");`:                                                                       `n 2 "name in main" 1`,
		`let s = "x"; while true { s = s + s; say dec(len(s)); } return s;`:                                  `n 2 "long in main" 1`,
		`return cut("abc", 2, i) + chr(at("abc", 3));`:                                                       `n 2 "range in main" 1`,
		`return dec(num(read("src")));`:                                                                      `n 2 "number in main" 2`,
	} {
		wantShiftEnds(t, houseWith([]string{"n t > o p"}, "t", inMain("let i = 0; "+src)), ends)
	}
}

// A run at its limits of looks and of steps, and one beyond them.
func TestHouseShiftLimits(t *testing.T) {
	t.Parallel()
	for _, look := range []string{`s = read("src");`, `if has("m") { }`, `s = list("m");`, `s = read("m");`, `s = tool("u", "");`} {
		for _, many := range []int{99, 100, 101} {
			src := inMain(fmt.Sprintf(`let i = 0; let s = ""; while i < %d { i = i + 1; %s } write "o", ""; return "done";`, many, look))
			end := fmt.Sprintf(`a 0 "done" %d`, many+2)
			if many > 100 {
				end = `a 3 "" 102`
			}
			wantShiftEnds(t, houseWith([]string{"a looks < src > o", "b set m>M > m"}, "looks", src, "u", inMain(`return "";`)), end, `b 0 "set" 1`)
		}
	}
	// The last look that may be made is the first that waits.
	src := inMain(`let i = 0; while i < 99 { i = i + 1; if has("m") { } } write "o", read(arg()); return "";`)
	for arg, want := range map[string]string{"m": `a 0 "" 101`, "o": "a waits o 100", "gone": `a 4 "gone" 101`} {
		wantShiftEnds(t, houseWith([]string{"a looks " + arg + " > o", "b set m>M > m"}, "looks", src), want, `b 0 "set" 1`)
	}
	// A tool's call and its return are steps as well.
	for ends, more := range map[string]int{`return "";`: 0, `fail "";`: 0, `return tool("u", "");`: 2} {
		for says := range 4 {
			src := inMain(`let i = 0; while i < 1996 { i = i + 1; } write "o", ""; ` + strings.Repeat(`say "";`, says) + ends)
			made := wantShifts(t, houseWith([]string{"a t > o"}, "t", src, "u", inMain(`return "";`)))[0]
			if steps := 3998 + says + more; made.Steps != min(steps, 4000) || (made.Code == 3) != (steps > 4000) {
				t.Errorf("%d: %s", steps, madeShown([]impl.HouseMade{made}))
			}
		}
	}
}

// Instructions are parted in every place: each most up to more than there are in a program, in the middle of calls, loops, tools and what ends a run.
func TestHouseShiftParts(t *testing.T) {
	t.Parallel()
	work := `fn twice(s text) -> text { say s; return s + s; } fn sum(n i64) -> i64 { if n <= 0 { return 0; } return n + sum(n - 1); } ` +
		`fn main() -> text { let s = twice("a" + twice(arg())); let b = true && (1 < 2 || 3u8 == 4u8); if b { write "o", tool("inner", s) + dec(sum(5) * -2); } else { fail "no"; } while len(s) > 3 { s = cut(s, 0, len(s) - 2); if len(s) == 6 { continue; } if find(s, "z") >= 0 { break; } } ENDS }`
	inner := inMain(`let i = 0; let s = arg(); while i < 4 { i = i + 1; s = s + dec(i) + chr(u8(i + 64)); } return s + read("m");`)
	for _, ends := range []string{`return s + dec(sum(3));`, `fail s + s;`, `return dec(7 / (len(s) - len(s)));`, `return s + dec(sum(50));`, `while true { s = twice(s); } return "";`, `return read("m") + read("gone");`, `return read("p") + s;`, `return s + tool("src", s);`} {
		p := houseWith([]string{"n work xyz > o p", "m set m>MM > m"}, "work", strings.Replace(work, "ENDS", ends, 1), "inner", inner)
		want := wantHouse(t, p, "main")
		fewest, mostTurns := math.MaxInt, 0
		for most := 20; most < 450; most++ {
			wantShift(t, p, "main", []int{most, most / 2, 1}, most, want)
			if most%40 == 0 || most < 24 {
				turns := len(wantShiftRead(t, p, []int{1, 0, most}, most, want))
				fewest, mostTurns = min(fewest, turns), max(mostTurns, turns)
			}
		}
		// Otherwise the instructions are too few to be parted.
		if mostTurns < fewest+10 {
			t.Errorf("%s: %d to %d turns", ends, fewest, mostTurns)
		}
	}
}

// Sixty hands, as many as there can be: in a row in both orders, all behind one, and in a ring; picks of every place, and of turns that come late.
func TestHouseShiftMany(t *testing.T) {
	t.Parallel()
	for _, behind := range []func(i int) int{func(i int) int { return i + 1 }, func(i int) int { return i - 1 }, func(i int) int { return 59 + i/59 }, func(i int) int { return (i + 1) % 60 }} {
		src := `def t(n, a) = {name: "n" + n, tool: "get", arg: "o" + n + ">" + a, outs: ["o" + n]};`
		for i := range 60 {
			from := "src"
			if one := behind(i); one >= 0 && one < 60 {
				from = fmt.Sprintf("o%02d", one)
			}
			src += fmt.Sprintf("emit t(\"%02d\", %q);", i, from)
		}
		p := houseWith(nil, "main.clay", src)
		want := impl.HouseMeaning(p, "main")
		if len(want) != 60 {
			t.Fatalf("%s", madeShown(want))
		}
		up := turnOf(60, true)
		for _, picks := range append(shiftPicks(), up, turnOf(60, false), append(slices.Repeat([]int{59}, 300), up...)) {
			wantShift(t, p, "main", picks, 20, want)
			wantShift(t, p, "main", picks, 1000, want)
		}
		wantShiftRead(t, p, up, 50, want)
	}
}

// Nothing: too few instructions at once, plans that have each of their codes, and no targets.
func TestHouseShiftNothing(t *testing.T) {
	ask := func(what string, p impl.MillPlace, main string, mosts ...int) {
		t.Helper()
		for _, most := range mosts {
			for _, picks := range shiftPicks() {
				if got := impl.HouseShift(p, main, picks, most); len(got) != 0 {
					t.Errorf("%s, picks %.100v, most %d: %s", what, picks, most, madeShown(got))
				}
			}
		}
	}
	few := []int{19, 18, 1, 0, -1, -19, -20, -21, math.MinInt}
	enough := []int{20, 21, 100000, math.MaxInt}
	good := houseWith([]string{"m set o>x > o", "n get p>p > p"})
	ask("most", good, "main", few...)
	wantShift(t, good, "main", nil, 20, wantHouse(t, good, "main"))
	ask("no targets", houseWith(nil), "main", append(few, enough...)...)
	for code, p := range map[int]impl.MillPlace{
		1: {Files: append(slices.Clone(good.Files), impl.MillFile{Name: "zz", Text: strings.Repeat("x", 3001)})},
		2: houseWith(nil, "main.clay", emitsOf("m set o>x > o")+"let"),
		3: houseWith(nil, "main.clay", emitsOf("m set o>x > o")+"emit {};"),
		4: houseWith(nil, "main.clay", emitsOf("m set o>x > o", "n t > src")),
	} {
		if plan := wantHousePlan(t, p, "main"); plan.Code != code {
			t.Errorf("%+v, want %d", plan, code)
		}
		ask(fmt.Sprint("code ", code), p, "main", append(few, enough...)...)
	}
	for _, main := range []string{"gone", "", "A", "m", "main.clay", "ma in"} {
		ask(main, good, main, 20, 19, math.MaxInt)
	}
	for what, wrong := range millWrongPlaces() {
		ask(what, wrong, "main", 20)
	}
	ask("too many packages", impl.MillPlace{Files: manyPacks(21)}, "p000", 20)
}

// drawnPicks are some, of every size.
func (a houseAuthor) drawnPicks() []int {
	var picks []int
	for range a.below(12) {
		q := a.below(8)
		switch a.below(6) {
		case 0:
			q = -q
		case 1:
			q = math.MaxInt - q
		case 2:
			q = math.MinInt + q
		}
		picks = append(picks, q)
	}
	return picks
}

// drawnMost is one that is enough.
func (a houseAuthor) drawnMost() int {
	switch a.below(4) {
	case 0:
		return 20 + a.below(3)
	case 1:
		return 20 + a.below(400)
	case 2:
		return math.MaxInt - a.below(3)
	}
	return 20 + a.below(60)
}

// wantDrawnShifts asks for promise 32 with drawn picks and most, and tells whether the turns of two shifts were of other hands.
func (a houseAuthor) wantDrawnShifts(t *testing.T, p impl.MillPlace, want []impl.HouseMade) (differ bool) {
	t.Helper()
	for range 6 {
		wantShift(t, p, "main", a.drawnPicks(), a.drawnMost(), want)
	}
	first := wantShiftRead(t, p, nil, 45, want)
	return !slices.Equal(first, wantShiftRead(t, p, a.drawnPicks(), 45, want))
}

// Promise 32 for drawn houses.
func TestHouseShiftDrawn(t *testing.T) {
	t.Parallel()
	dice := clayDice(2301)
	a := houseAuthor{&dice}
	counts := map[string]int{}
	for range 300 {
		p := a.house()
		want := impl.HouseMeaning(p, "main")
		for _, made := range want {
			if made.Over {
				counts[fmt.Sprint("code ", made.Code)]++
			} else {
				counts["waits"]++
			}
			for _, one := range made.Seen {
				counts[fmt.Sprint("look ", one.Kind, " code ", one.Reply.Code)]++
			}
		}
		if a.wantDrawnShifts(t, p, want) {
			counts["other turns"]++
		}
		if t.Failed() {
			return
		}
	}
	for _, what := range []string{"code 0", "code 1", "code 2", "code 3", "code 4", "code 5", "waits", "look 1 code 0", "look 1 code 4", "look 1 code 5", "look 2 code 0", "look 2 code 4", "look 3 code 0", "other turns"} {
		if counts[what] < 10 {
			t.Errorf("%s: %v", what, counts)
		}
	}
}

// drawnHouse is a house of three targets whose tools are drawn programs of every kind of statement, some of which look at what others make.
func (m *millMaker) drawnHouse(i int, texts []string) impl.MillPlace {
	_, p, tool, j := m.millDrawnAction(i, texts)
	outs := slices.DeleteFunc(j.Outs, func(out string) bool { return out == tool })
	if len(outs) == 0 {
		outs = []string{"out"}
	}
	taken := append(slices.Clone(outs), tool)
	other := func() []string {
		for {
			if out := m.pick(append(millPlaceNames, "more")...); !slices.Contains(taken, out) {
				taken = append(taken, out)
				return []string{out}
			}
		}
	}
	src := ""
	for _, target := range []impl.ClayTarget{
		{Name: m.pick("a", "z"), Tool: tool, Arg: j.Arg, Outs: outs},
		{Name: "m", Tool: m.pick(millPlaceNames...), Arg: m.text(), Outs: other()},
		{Name: "n", Tool: m.pick(millPlaceNames...), Ins: []string{m.pick(millPlaceNames...)}, Outs: other()},
	} {
		for _, out := range target.Outs {
			p = placeWithout(p, out)
		}
		src += emitOf(target)
	}
	p, _ = millLayByRules(p, filesOf("main.clay", src))
	return p
}

// Promise 32 for houses whose programs are drawn.
func TestHouseShiftDrawnPrograms(t *testing.T) {
	t.Parallel()
	dice := clayDice(2302)
	m := &millMaker{clayDice: &dice}
	a := houseAuthor{&dice}
	texts := m.millTextsFor(300)
	counts := map[string]int{}
	for i := range 500 {
		p := m.drawnHouse(i, texts)
		want := wantHouse(t, p, "main")
		if len(want) != 3 {
			t.Fatalf("%s: %+v", millPlaceShown(p), impl.HousePlan(p, "main"))
		}
		for _, made := range want {
			counts[fmt.Sprint("over ", made.Over, " code ", made.Code)]++
			if len(made.Seen) > 3 {
				counts["many looks"]++
			}
			if made.Steps > 10 {
				counts["many steps"]++
			}
			if len(made.Said) > 0 {
				counts["says"]++
			}
			if len(made.Files) > 0 {
				counts["writes"]++
			}
		}
		if a.wantDrawnShifts(t, p, want) {
			counts["other turns"]++
		}
		if t.Failed() {
			return
		}
	}
	for _, what := range []string{"over true code 0", "over true code 1", "over true code 2", "over true code 3", "over true code 4", "over true code 5", "over false code 0", "many looks", "many steps", "says", "writes", "other turns"} {
		if counts[what] < 10 {
			t.Errorf("%s: %v", what, counts)
		}
	}
}

// No hand is left behind when a shift has answered: where all runs are over, where some never are, and where nothing is answered.
func TestHouseShiftLeavesNoHands(t *testing.T) {
	whole := houseWith([]string{"a get 1>2 > 1", "b get 2>3 < src > 2", "c get 3>src > 3", "d gone > 4", "e ends 5>3 > 5"})
	never := houseWith([]string{"a get 1>2 > 1", "b get 2>1 > 2", "c o > o", "d get 4>src < 1 > 4", "e set 5>x > 5", "f list 6> < 5 6 > 6"})
	asked := map[string]func(picks []int, most int) []impl.HouseMade{
		"whole":      func(picks []int, most int) []impl.HouseMade { return impl.HouseShift(whole, "main", picks, most) },
		"never over": func(picks []int, most int) []impl.HouseMade { return impl.HouseShift(never, "main", picks, most) },
		"too few":    func(picks []int, most int) []impl.HouseMade { return impl.HouseShift(never, "main", picks, 19-most) },
		"no plan":    func(picks []int, most int) []impl.HouseMade { return impl.HouseShift(never, "gone", picks, most) },
		"no targets": func(picks []int, most int) []impl.HouseMade {
			return impl.HouseShift(houseWith(nil), "main", picks, most)
		},
	}
	for what, shift := range asked {
		before := runtime.NumGoroutine()
		for range 20 {
			for _, picks := range shiftPicks() {
				shift(picks, 20)
				shift(picks, 1000)
			}
		}
		// One that is at its very end may be counted for a moment.
		for tries := 0; runtime.NumGoroutine() > before; tries++ {
			if tries == 200 {
				t.Fatalf("%s: %d are under way, before %d", what, runtime.NumGoroutine(), before)
			}
			time.Sleep(5 * time.Millisecond)
		}
	}
}

// No argument is changed, nor what lies behind its lists; answers are new memory, and no two parts of one share any.
func TestHouseShiftOwnMemory(t *testing.T) {
	dice := clayDice(2303)
	a := houseAuthor{&dice}
	places := []impl.MillPlace{
		houseWith([]string{"a set o>p>text > o p", "b get q>o < o p > q", "c ends r>1 > r", "d get s>r > s", "e get u>u > u", "f list v> < o > v", "g get w>src < src > w", "h o > x", "k tool y>w > y", "l gone > z"}),
		houseWith([]string{"a looks > o", "b set m>M > m", "c looks < o > p"}, "looks", inMain(`let s = read("m"); say s; say s; write "o", s; return s;`)),
		houseWith(nil, "main.clay", "let"),
	}
	for range 20 {
		places = append(places, a.house())
	}
	pieces := 0
	for _, p := range places {
		want := impl.HouseMeaning(p, "main")
		roomy, seen := roomyOf(p)
		picks, seenPicks := roomyOf([]int{2, -1, math.MaxInt, 0})
		before := seen() + seenPicks()
		main := string([]byte("main"))
		for _, most := range []int{20, 300, 19} {
			made := impl.HouseShift(roomy, main, picks, most)
			wantNewMemory(t, made, roomy, main, picks)
			pieces += len(memoryOf(reflect.ValueOf(made), "", nil))
			if seen()+seenPicks() != before {
				t.Errorf("%s: changed", millPlaceShown(p))
			}
			// What is done to an answer does not come back.
			for i := range made {
				for n := range made[i].Seen {
					made[i].Seen[n].Name = "other"
				}
				made[i] = impl.HouseMade{Name: "other"}
			}
			wantShift(t, roomy, main, picks, 20, want)
		}
	}
	if pieces < 1000 {
		t.Errorf("only %d pieces of memory", pieces)
	}
}

// Many at once: nothing is kept between calls.
func TestHouseShiftKeepsNothing(t *testing.T) {
	var all []func() string
	for n := range 8 {
		text := fmt.Sprint("n", n)
		p := houseWith([]string{"a get 1>2 > 1", "b get 2>3 > 2", "c get 3>text > 3", "d get 4>4 > 4"}, "text", text)
		want := impl.HouseMeaning(p, "main")
		all = append(all, func() string {
			made := impl.HouseShift(p, "main", []int{n, 1, 0}, 20+n)
			if len(made) != 4 || made[0].Files[0].Text != text+"!!!" || made[3].Wait != "4" || !slices.EqualFunc(made, want, isSameMade) {
				return madeShown(made)
			}
			return ""
		})
	}
	wantAtOnce(t, all)
}

func FuzzHouseShift(f *testing.F) {
	f.Add(emitsOf("a t x < i > o", "b u > i"), inMain(`write "o", read("i") + list("") + arg(); return tool("u", "");`), inMain(`if has("o") { write "i", "1"; } return "";`), 3, -1, 20)
	f.Add(emitsOf("a t x < o > o p", "b o > q"), inMain(`return read("p");`), "S", 0, 0, 19)
	f.Add(emitsOf("a t > o"), inMain(`write "o", read("o"); return "";`), "", 1<<62, -1<<63, 1<<40)
	f.Fuzz(func(t *testing.T, main, first, second string, pick, next, most int) {
		for _, src := range []string{first, second} {
			if tree, _ := impl.MillParse(src); len(tree.Nodes) > 300 || len(src) > 3000 {
				return
			}
		}
		if len(main) > 3000 {
			return
		}
		p := placeOf("main.clay", main, "t", first, "u", second)
		want := impl.HouseMeaning(p, "main")
		wantShiftRead(t, p, []int{pick, next}, 20+(most&0xffff), want)
		wantShift(t, p, "main", []int{pick, next}, 20+(most&0xffff), want)
		if most < 20 {
			want = nil
		}
		wantShift(t, p, "main", []int{next, pick, pick}, most, want)
	})
}
