package tests

import (
	"fmt"
	"slices"
	"strings"
	"testing"

	"loop.example/kilnyard/impl"
)

// millLooked is a look that a run has come to, with what it had counted and said by then.
type millLooked struct {
	kind        int
	name        string
	steps, said int
}

// millWalk does what a program says by walking through its bush, word by word as the document says it.
type millWalk struct {
	outs    []string
	replies []impl.MillReply
	looked  []millLooked
	files   map[string]string
	said    []string
	calls   int
	steps   int
}

// millDesk is a program that is under way.
type millDesk struct {
	fns map[string]millBush
	arg string
}

// millSpot is where a walk is: in a program, in a function, with the names that blocks around have made, the innermost block last.
type millSpot struct {
	*millDesk
	fn     string
	blocks []map[string]impl.MillValue
}

// millEnding is thrown where a walk can't go on.
type millEnding impl.MillTurn

func millDeskOf(b millBush, arg string) *millDesk {
	d := &millDesk{map[string]millBush{}, arg}
	for _, fn := range b.kids {
		d.fns[fn.top.Text] = fn
	}
	return d
}

func millEndWalk(code int, text string) {
	panic(millEnding{Over: true, Code: code, Text: text})
}

func (s millSpot) breaks(word string) { millEndWalk(2, word+" in "+s.fn) }

func (s millSpot) inside() millSpot {
	s.blocks = append(slices.Clone(s.blocks), map[string]impl.MillValue{})
	return s
}

// holder is the block that has made a name.
func (s millSpot) holder(name string) map[string]impl.MillValue {
	for _, block := range slices.Backward(s.blocks) {
		if _, ok := block[name]; ok {
			return block
		}
	}
	panic("no name " + name)
}

func (w *millWalk) step() {
	if w.steps+1 > 4000 {
		millEndWalk(3, "")
	}
	w.steps++
}

func isMillFileName(name string) bool {
	return len(name) >= 1 && isMillListed(name)
}

func isMillListed(name string) bool {
	return len(name) <= 60 && strings.IndexFunc(name, func(r rune) bool { return r < 33 || r > 126 }) < 0
}

// look is the reply to a look; kind is that of the look as a turn tells it.
func (w *millWalk) look(s millSpot, kind int, name string) impl.MillReply {
	if kind == 3 && !isMillListed(name) || kind != 3 && !isMillFileName(name) {
		s.breaks("name")
	}
	if len(w.looked)+1 > 100 {
		millEndWalk(3, "")
	}
	at := len(w.looked)
	w.looked = append(w.looked, millLooked{kind, name, w.steps, len(w.said)})
	if at >= len(w.replies) {
		panic(millEnding{Kind: kind, Name: name})
	}
	return w.replies[at]
}

// read is what stands under a name, or the end.
func (w *millWalk) read(s millSpot, name string) string {
	y := w.look(s, 1, name)
	if y.Code != 0 {
		millEndWalk(y.Code, name)
	}
	return y.Text
}

// begin calls a function of a desk; s is where the call stands.
func (w *millWalk) begin(s millSpot, d *millDesk, name string, args []impl.MillValue) impl.MillValue {
	if w.calls+1 > 40 {
		s.breaks("deep")
	}
	w.step()
	w.calls++
	defer func() { w.calls-- }()
	fn := d.fns[name]
	inner := millSpot{d, name, nil}.inside()
	last := len(fn.kids) - 1
	for i, param := range fn.kids[:last] {
		inner.blocks[0][param.top.Text] = args[i]
	}
	_, value := w.block(inner, fn.kids[last])
	return value
}

// block does the statements of a block; how is empty, or the word of what leaves it.
func (w *millWalk) block(s millSpot, b millBush) (how string, value impl.MillValue) {
	s = s.inside()
	for _, statement := range b.kids {
		if how, value = w.statement(s, statement); how != "" {
			return how, value
		}
	}
	return "", impl.MillValue{}
}

func (w *millWalk) statement(s millSpot, b millBush) (how string, value impl.MillValue) {
	w.step()
	switch b.top.Kind {
	case impl.MillNodeIf:
		if w.e(s, b.kids[0]).N == 1 {
			return w.block(s, b.kids[1])
		}
		if len(b.kids) == 3 && b.kids[2].top.Kind == impl.MillNodeIf {
			return w.statement(s, b.kids[2])
		}
		if len(b.kids) == 3 {
			return w.block(s, b.kids[2])
		}
		return "", impl.MillValue{}
	case impl.MillNodeWhile:
		for {
			if w.step(); w.e(s, b.kids[0]).N == 0 {
				return "", impl.MillValue{}
			}
			switch how, value := w.block(s, b.kids[1]); how {
			case "break":
				return "", impl.MillValue{}
			case "return":
				return how, value
			}
		}
	case impl.MillNodeBreak:
		return "break", impl.MillValue{}
	case impl.MillNodeContinue:
		return "continue", impl.MillValue{}
	}
	var values []impl.MillValue
	for _, kid := range b.kids {
		values = append(values, w.e(s, kid))
	}
	switch b.top.Kind {
	case impl.MillNodeLet:
		s.blocks[len(s.blocks)-1][b.top.Text] = values[0]
	case impl.MillNodeSet:
		s.holder(b.top.Text)[b.top.Text] = values[0]
	case impl.MillNodeReturn:
		return "return", append(values, impl.MillValue{})[0]
	case impl.MillNodeFail:
		millEndWalk(1, values[0].Text)
	case impl.MillNodeWrite:
		if !isMillFileName(values[0].Text) {
			s.breaks("name")
		}
		if !slices.Contains(w.outs, values[0].Text) {
			s.breaks("output")
		}
		w.files[values[0].Text] = values[1].Text
	case impl.MillNodeSay:
		if len(w.said)+1 > 50 {
			s.breaks("said")
		}
		w.said = append(w.said, values[0].Text)
	}
	return "", impl.MillValue{}
}

func (w *millWalk) e(s millSpot, b millBush) impl.MillValue {
	switch n := b.top; n.Kind {
	case impl.MillNodeInt, impl.MillNodeText, impl.MillNodeBool:
		return b.literalValue()
	case impl.MillNodeName:
		return s.holder(n.Text)[n.Text]
	case impl.MillNodeBin:
		if n.Op <= impl.MillOpAnd {
			first := w.e(s, b.kids[0])
			if n.Op == impl.MillOpOr && first.N == 1 || n.Op == impl.MillOpAnd && first.N == 0 {
				return first
			}
			return w.e(s, b.kids[1])
		}
	}
	var values []impl.MillValue
	for _, kid := range b.kids {
		values = append(values, w.e(s, kid))
	}
	if b.top.Kind == impl.MillNodeCall {
		return w.begin(s, s.millDesk, b.top.Text, values)
	}
	switch what := millWhat(b.top); what {
	case "read":
		return millTextValue(w.read(s, values[0].Text))
	case "has":
		return millBoolValue(w.look(s, 2, values[0].Text).Code != 4)
	case "list":
		return millTextValue(w.look(s, 3, values[0].Text).Text)
	case "tool":
		tree, fault := impl.MillParse(w.read(s, values[0].Text))
		if fault.Code != 0 || impl.MillCheck(tree).Code != 0 {
			s.breaks("tool")
		}
		tool, _, _ := millBushOf(tree.Nodes)
		return w.begin(s, millDeskOf(tool, values[1].Text), "main", nil)
	case "arg":
		return millTextValue(s.arg)
	default:
		v, word := millDoByRules(what, values)
		if word != "" {
			s.breaks(word)
		}
		return v
	}
}

// millWalked is what a run of a program that fits comes to, and its looks.
func millWalked(b millBush, j impl.MillJob, replies []impl.MillReply) (turn impl.MillTurn, looked []millLooked) {
	w := &millWalk{outs: j.Outs, replies: replies, files: map[string]string{}}
	defer func() {
		switch thrown := recover().(type) {
		case nil:
		case millEnding:
			turn = impl.MillTurn(thrown)
		default:
			panic(thrown)
		}
		turn.Steps, turn.Said, looked = w.steps, w.said, w.looked
	}()
	text := w.begin(millSpot{}, millDeskOf(b, j.Arg), "main", nil).Text
	for _, out := range j.Outs {
		if _, ok := w.files[out]; !ok {
			millEndWalk(2, "lacks "+out)
		}
	}
	turn = impl.MillTurn{Over: true, Text: text}
	for name, is := range w.files {
		turn.Files = append(turn.Files, impl.MillFile{Name: name, Text: is})
	}
	slices.SortFunc(turn.Files, func(a, b impl.MillFile) int { return strings.Compare(a.Name, b.Name) })
	return turn, nil
}

func isSameMillTurn(a, b impl.MillTurn) bool {
	return a.Over == b.Over && a.Code == b.Code && a.Text == b.Text && a.Kind == b.Kind && a.Name == b.Name && a.Steps == b.Steps && slices.Equal(a.Files, b.Files) && slices.Equal(a.Said, b.Said)
}

// millTurnShown is a turn in short.
func millTurnShown(turn impl.MillTurn) string { return fmt.Sprintf("%.600q", fmt.Sprintf("%+v", turn)) }

// millMoreReplies are replies of which none is asked for.
var millMoreReplies = []impl.MillReply{{Text: "more"}, {Code: 4}, {Code: 5}, {Text: `fn main() -> text { return "more"; }`}}

// wantMillMeant asks Mean of a tree that fits, with a job and replies that are valid: it is the second reading; each beginning of the replies stops at the look behind it, and replies behind those that are asked for change nothing (promise 20); and the same of what it is folded to (promise 19), of its machine (promise 25), and of Again with its looks (promise 27).
func wantMillMeant(t *testing.T, b millBush, j impl.MillJob, replies []impl.MillReply) impl.MillTurn {
	t.Helper()
	tree := b.tree()
	keptTree, keptOuts, keptReplies := slices.Clone(tree.Nodes), slices.Clone(j.Outs), slices.Clone(replies)
	whole, looked := millWalked(b, j, replies)
	folded := impl.MillFold(tree)
	ask := func(replies []impl.MillReply, want impl.MillTurn) {
		t.Helper()
		if got := impl.MillMean(tree, j, replies); !isSameMillTurn(got, want) {
			t.Errorf("%.1500q with %.200q and %.500q: got %s, want %s", impl.MillPrint(tree), fmt.Sprint(j), fmt.Sprint(replies), millTurnShown(got), millTurnShown(want))
		}
		if got := impl.MillMean(folded, j, replies); !isSameMillTurn(got, want) {
			t.Errorf("%.1500q, folded to %.1500q, with %.200q and %.500q: got %s, want %s", impl.MillPrint(tree), impl.MillPrint(folded), fmt.Sprint(j), fmt.Sprint(replies), millTurnShown(got), millTurnShown(want))
		}
	}
	ask(replies, whole)
	used := min(len(looked), len(replies))
	var turns []impl.MillTurn
	for n, at := range looked {
		if n <= len(replies) {
			turns = append(turns, impl.MillTurn{Kind: at.kind, Name: at.name, Steps: at.steps, Said: whole.Said[:at.said]})
			ask(replies[:n:n], turns[n])
		}
	}
	if whole.Over {
		turns = append(turns, whole)
		more := append(slices.Clone(replies[:used]), millMoreReplies...)
		ask(replies[:used:used], whole)
		ask(more[:min(len(more), 100)], whole)
	}
	wantMillMachineMeant(t, tree, j, replies, turns)
	wantMillAgained(t, b, j, replies, looked, whole)
	if !slices.Equal(tree.Nodes, keptTree) || !slices.Equal(j.Outs, keptOuts) || !slices.Equal(replies, keptReplies) {
		t.Errorf("%.1500q: an argument was changed", impl.MillPrint(tree))
	}
	return whole
}

// millRow is a run and what it is to come to.
type millRow struct {
	src     string
	arg     string
	outs    string
	replies []impl.MillReply
	want    impl.MillTurn
}

// wantMillRow asks for what a row says, and for all that wantMillMeant asks for.
func wantMillRow(t *testing.T, row millRow) {
	t.Helper()
	b := millOf(t, row.src)
	if fault := impl.MillCheck(b.tree()); fault.Code != 0 {
		t.Fatalf("%.500q: %+v", row.src, fault)
	}
	j := impl.MillJob{Arg: row.arg, Outs: strings.Fields(row.outs)}
	if got := impl.MillMean(b.tree(), j, row.replies); !isSameMillTurn(got, row.want) {
		t.Errorf("%.1500q: got %s, want %s", row.src, millTurnShown(got), millTurnShown(row.want))
	}
	wantMillMeant(t, b, j, row.replies)
}

func wantMillRows(t *testing.T, rows ...millRow) {
	t.Helper()
	for _, row := range rows {
		wantMillRow(t, row)
	}
}

// inMain is a program of a main with these statements.
func inMain(statements string) string { return "fn main() -> text { " + statements + " }" }

// millGive is main's last statement, where it does not matter what is given.
const millGive = ` return "";`

func millDone(text string, steps int, said ...string) impl.MillTurn {
	return impl.MillTurn{Over: true, Text: text, Steps: steps, Said: said}
}

func millBroke(text string, steps int, said ...string) impl.MillTurn {
	return impl.MillTurn{Over: true, Code: 2, Text: text, Steps: steps, Said: said}
}

func millEndsBy(code int, text string, steps int, said ...string) impl.MillTurn {
	return impl.MillTurn{Over: true, Code: code, Text: text, Steps: steps, Said: said}
}

func millWaits(kind int, name string, steps int, said ...string) impl.MillTurn {
	return impl.MillTurn{Kind: kind, Name: name, Steps: steps, Said: said}
}

// millWrote is a turn with these files, each a name and a text.
func millWrote(turn impl.MillTurn, pairs ...string) impl.MillTurn {
	for i := 0; i < len(pairs); i += 2 {
		turn.Files = append(turn.Files, impl.MillFile{Name: pairs[i], Text: pairs[i+1]})
	}
	return turn
}

// there are replies with these texts.
func there(texts ...string) []impl.MillReply {
	var replies []impl.MillReply
	for _, text := range texts {
		replies = append(replies, impl.MillReply{Text: text})
	}
	return replies
}

func coded(codes ...int) []impl.MillReply {
	var replies []impl.MillReply
	for _, code := range codes {
		replies = append(replies, impl.MillReply{Code: code})
	}
	return replies
}

func TestMillMeanConstants(t *testing.T) {
	got := []int{
		impl.MillMaxSteps, impl.MillMaxLooks, impl.MillMaxCalls, impl.MillMaxOuts, impl.MillMaxSaid, impl.MillMaxPath, impl.MillMaxText,
		impl.MillDone, impl.MillFailed, impl.MillBroken, impl.MillSpent, impl.MillMissing, impl.MillBelow, impl.MillNotValid,
		impl.MillLookRead, impl.MillLookHas, impl.MillLookList, impl.MillLookTool,
	}
	if want := []int{4000, 100, 40, 20, 50, 60, 3000, 0, 1, 2, 3, 4, 5, 9, 1, 2, 3, 4}; !slices.Equal(got, want) {
		t.Errorf("got %v, want %v", got, want)
	}
}

// millNoNames are texts that no file has as its name; the empty one is not among them.
func millNoNames() []string {
	some := []string{" ", "a b", "a ", " a", "\n", "a\n", "\x00", "\x1f", "\x7f", "a\x7fb", "\x80", "\xff", "é", "a\tb", strings.Repeat("x", 61), strings.Repeat("x", 3000), strings.Repeat("x", 59) + "é"}
	for c := range 256 {
		if c < 33 || c > 126 {
			some = append(some, string([]byte{byte(c)}), "a"+string([]byte{byte(c)}), string([]byte{byte(c)})+"b")
		}
	}
	return some
}

// millNames are names of files.
func millNames() []string {
	some := []string{"a", "!", "~", "!~", "#", "\"", "\\", "a/b.c", "..", "/", strings.Repeat("x", 60), strings.Repeat("~", 59) + "!"}
	for c := 33; c <= 126; c++ {
		some = append(some, string(rune(c)))
	}
	return some
}

func TestMillValidJob(t *testing.T) {
	ask := func(want bool, arg string, outs ...string) {
		t.Helper()
		if got := impl.MillValidJob(impl.MillJob{Arg: arg, Outs: outs}); got != want {
			t.Errorf("arg of %d bytes, outs %.300q: %v", len(arg), outs, got)
		}
	}
	for _, arg := range []string{"", "x", "\x00\xff", strings.Repeat("x", 2999), strings.Repeat("x", 3000)} {
		ask(true, arg)
		ask(true, arg, "a", "b")
	}
	ask(false, strings.Repeat("x", 3001))
	ask(false, strings.Repeat("x", 3001), "a")
	ask(false, strings.Repeat("x", 100000))
	for _, name := range millNames() {
		ask(true, "", name)
	}
	ask(true, "", "!", "a", "aa", "b", "~")
	for _, name := range append(millNoNames(), "") {
		ask(false, "", name)
		if name > "a" {
			ask(false, "", "a", name)
		}
		if name < "z" {
			ask(false, "", name, "z")
		}
	}
	ask(false, "", "a", "a")
	ask(false, "", "b", "a")
	ask(false, "", "a", "c", "b")
	ask(false, "", "a", "b", "b")
	ask(false, "", "a", "b", "a")
	ask(false, "", "aa", "a")
	ask(false, "", "a", "B")
	var many []string
	for i := range 21 {
		many = append(many, string(rune('a'+i)))
	}
	ask(true, "", many[:19]...)
	ask(true, "", many[:20]...)
	ask(false, "", many...)
	ask(false, "", append(slices.Clone(many[:19]), "a")...)
}

func TestMillValidReply(t *testing.T) {
	for code := -300; code <= 300; code++ {
		for _, text := range []string{"", "x", "\x00", strings.Repeat("x", 3000), strings.Repeat("x", 3001)} {
			want := code == 0 && len(text) <= 3000 || (code == 4 || code == 5) && text == ""
			if got := impl.MillValidReply(impl.MillReply{Code: code, Text: text}); got != want {
				t.Errorf("code %d, text of %d bytes: %v", code, len(text), got)
			}
		}
	}
	for _, code := range []int{-1 << 63, 1<<63 - 1, 1 << 32, 4 + 1<<32, 5 - 1<<32, 1<<32 + 0} {
		if impl.MillValidReply(impl.MillReply{Code: code}) {
			t.Errorf("code %d", code)
		}
	}
}

func TestMillMeanNotValid(t *testing.T) {
	right := millOf(t, inMain(`say "said"; write "o", "x"; return read("a");`))
	job := impl.MillJob{Arg: "a", Outs: []string{"o"}}
	ask := func(what string, tree impl.MillTree, j impl.MillJob, replies []impl.MillReply) {
		t.Helper()
		if got := impl.MillMean(tree, j, replies); !isSameMillTurn(got, impl.MillTurn{Code: 9}) {
			t.Errorf("%s: %s", what, millTurnShown(got))
		}
	}
	ask("no nodes", impl.MillTree{}, job, nil)
	ask("not valid", impl.MillTree{Nodes: right.nodes()[:len(right.nodes())-1]}, job, nil)
	ask("not valid", impl.MillTree{Nodes: append(right.nodes(), right.nodes()...)}, job, nil)
	for _, src := range []string{
		`fn f() { }`, `fn main() { }`, `fn main(a text) -> text { return a; }`, `fn main() -> bool { return true; }`, inMain(`say 1;` + millGive), inMain(`return x;`), inMain(`f();` + millGive), inMain(`break;` + millGive), inMain(``), inMain(`return;`),
		inMain(millGive) + inMain(millGive), inMain(millGive + ` let a = 1; let a = 2;` + millGive), inMain(millGive) + ` fn f(a u8) { f(1); }`, inMain(millGive + millLets("a", 201) + millGive),
	} {
		ask(src, millOf(t, src).tree(), job, there("x"))
	}
	for _, j := range []impl.MillJob{
		{Arg: strings.Repeat("x", 3001)}, {Arg: strings.Repeat("x", 3001), Outs: []string{"o"}}, {Outs: []string{""}}, {Outs: []string{"o", "o"}}, {Outs: []string{"p", "o"}}, {Outs: []string{"a b"}}, {Outs: []string{strings.Repeat("x", 61)}}, {Outs: strings.Fields("a b c d e f g h i j k l m n o p q r s t u")},
	} {
		ask("job", right.tree(), j, there("x"))
	}
	for _, y := range []impl.MillReply{{Code: 1}, {Code: 2}, {Code: 3}, {Code: 6}, {Code: 9}, {Code: -1}, {Code: 4, Text: "x"}, {Code: 5, Text: "x"}, {Text: strings.Repeat("x", 3001)}} {
		// Also where it is left over.
		for at := range 5 {
			ask("reply", right.tree(), job, slices.Insert(there("a", "b", "c", "d"), at, y))
		}
		last := there(make([]string, 100)...)
		last[99] = y
		ask("reply", right.tree(), job, last)
	}
	for _, many := range []int{101, 102, 1000} {
		ask("replies", right.tree(), job, there(make([]string, many)...))
	}
	if got := impl.MillMean(right.tree(), job, there(make([]string, 100)...)); !isSameMillTurn(got, millWrote(millDone("", 4, "said"), "o", "x")) {
		t.Errorf("100 replies: %s", millTurnShown(got))
	}
}

func TestMillMeanEnds(t *testing.T) {
	wantMillRows(t,
		millRow{src: inMain(`return "x";`), want: millDone("x", 2)},
		millRow{src: inMain(`return arg() + arg();`), arg: "ab", want: millDone("abab", 2)},
		millRow{src: inMain(`return "";`), arg: "ab", want: millDone("", 2)},
		// Which main it is does not hang on where it stands.
		millRow{src: `fn a() -> text { return "a"; } ` + inMain(`return "m";`) + ` fn z() -> text { return "z"; }`, want: millDone("m", 2)},
		millRow{src: inMain(`write "o", "x"; return "y";`), outs: "o", want: millWrote(millDone("y", 3), "o", "x")},
		millRow{src: inMain(`return "y";`), outs: "o", want: millBroke("lacks o", 2)},
		millRow{src: inMain(`return "y";`), outs: "a b c", want: millBroke("lacks a", 2)},
		millRow{src: inMain(`write "a", ""; return "y";`), outs: "a b c", want: millBroke("lacks b", 3)},
		millRow{src: inMain(`write "a", ""; write "c", ""; return "y";`), outs: "a b c", want: millBroke("lacks b", 4)},
		millRow{src: inMain(`write "b", ""; write "c", ""; return "y";`), outs: "a b c", want: millBroke("lacks a", 4)},
		millRow{src: inMain(`write "b", ""; write "a", ""; return "y";`), outs: "a b c", want: millBroke("lacks c", 4)},
		millRow{src: inMain(`say "s"; say "t"; return "y";`), outs: "a", want: millBroke("lacks a", 4, "s", "t")},
		millRow{src: inMain(`fail "why";`), want: millEndsBy(1, "why", 2)},
		millRow{src: inMain(`fail "";`), want: millEndsBy(1, "", 2)},
		// Failed is told, not what lacks; nor is what was written.
		millRow{src: inMain(`write "a", "x"; say "s"; fail "why" + arg();`), arg: "!", outs: "a b", want: millEndsBy(1, "why!", 4, "s")},
		millRow{src: `fn f() -> i64 { fail "in f"; } ` + inMain(`return dec(f());`), want: millEndsBy(1, "in f", 4)},
		millRow{src: inMain(`while true { } ` + millGive), want: millEndsBy(3, "", 4000)},
		millRow{src: inMain(`say "s"; while true { } ` + millGive), outs: "o", want: millEndsBy(3, "", 4000, "s")},
		millRow{src: inMain(`return read("a");`), replies: coded(4), want: millEndsBy(4, "a", 2)},
		millRow{src: inMain(`return read("a");`), replies: coded(5), want: millEndsBy(5, "a", 2)},
		millRow{src: inMain(`say "s"; return tool("a/b", "c");`), replies: coded(4), outs: "o", want: millEndsBy(4, "a/b", 3, "s")},
		millRow{src: inMain(`return tool("a/b", "c");`), replies: coded(5), want: millEndsBy(5, "a/b", 2)},
		millRow{src: inMain(`write "o", "x"; return read("a") + read("b");`), outs: "o", replies: append(there("x"), coded(4)...), want: millEndsBy(4, "b", 3)},
	)
}

// millBreakers is an E, or statements, for each word, with what is needed for it.
func millBreakers() []millRow {
	long := `let l = "x"; while len(l) < 2048 { l = l + l; } `
	return []millRow{
		{src: `let d = 1 / arg_is;`, want: millBroke("divide", 0)},
		{src: `let d = 1u8 % u8(arg_is);`, want: millBroke("divide", 0)},
		{src: long + `say l + l;`, want: millBroke("long", 0)},
		{src: `say cut("abc", 1, 4 + arg_is);`, want: millBroke("range", 0)},
		{src: `let d = at("abc", arg_is - 1);`, want: millBroke("range", 0)},
		{src: `let d = num("x" + arg());`, want: millBroke("number", 0)},
		{src: `write "", "x";`, want: millBroke("name", 0)},
		{src: `write "a b", "x";`, want: millBroke("name", 0)},
		{src: `write "p", "x";`, want: millBroke("output", 0)},
		{src: `let d = read("");`, want: millBroke("name", 0)},
		{src: `let d = has("");`, want: millBroke("name", 0)},
		{src: `let d = list(" ");`, want: millBroke("name", 0)},
		{src: `let d = tool("", "");`, want: millBroke("name", 0)},
		{src: `let d = tool("t", "");`, replies: there("no program"), want: millBroke("tool", 0)},
		{src: `let i = 0; while true { say "s"; i = i + 1; }`, want: millBroke("said", 0)},
		{src: `deep(0);`, want: millBroke("deep", 0)},
	}
}

// Each word with the name of the function whose node it is: main, one that was called, one of a tool.
func TestMillMeanBroken(t *testing.T) {
	words := map[string]int{}
	for _, row := range millBreakers() {
		word := row.want.Text
		words[word]++
		for _, fn := range []string{"main", "f", "a_name_of_thirty_bytes_0123456"} {
			body := `{ let arg_is = 0; ` + row.src + ` return ""; }`
			src := `fn deep(n i64) { if n < 100 { deep(n + 1); } } fn main() -> text ` + body
			if fn != "main" {
				src = `fn deep(n i64) { if n < 100 { deep(n + 1); } } fn ` + fn + `() -> text ` + body + inMain(`return `+fn+`();`)
			}
			want := word + " in " + fn
			if word == "deep" {
				// Its node is in deep itself.
				want = "deep in deep"
			}
			in := func(src string, replies []impl.MillReply) {
				t.Helper()
				b := millOf(t, src)
				if fault := impl.MillCheck(b.tree()); fault.Code != 0 {
					t.Fatalf("%q: %+v", src, fault)
				}
				got := wantMillMeant(t, b, impl.MillJob{Outs: []string{"o"}}, replies)
				if mean := impl.MillMean(b.tree(), impl.MillJob{Outs: []string{"o"}}, replies); !isSameMillTurn(mean, got) || mean.Code != 2 || mean.Text != want || !mean.Over || mean.Files != nil {
					t.Errorf("%q: got %s, want %q", src, millTurnShown(mean), want)
				}
			}
			in(src, row.replies)
			in(`fn f() -> text { return tool("u", ""); } `+inMain(`return f();`), append(there(src), row.replies...))
			in(inMain(`return tool("v", "");`), append(there(`fn other() -> text { return tool("u", ""); } `+inMain(`return other();`), src), row.replies...))
		}
	}
	for _, word := range strings.Fields("divide long range number deep name output said tool") {
		if words[word] == 0 {
			t.Errorf("no row for %s", word)
		}
	}
}

func TestMillMeanSteps(t *testing.T) {
	more := ` fn none() { } fn two() { none(); none(); } fn one(n i64) -> i64 { return n; } fn put(s text) -> text { return s; }`
	steps := func(statements string, extra int, said ...string) {
		t.Helper()
		// The call of main and its return are two.
		wantMillRow(t, millRow{src: inMain(statements+millGive) + more, outs: "", want: millDone("", 2+extra, said...)})
	}
	steps(``, 0)
	steps(`let a = 1;`, 1)
	steps(`let a = 1 + 2 * 3; a = a + a; a = 7;`, 3)
	steps(`say "s";`, 1, "s")
	steps(`none();`, 2)
	steps(`none(); none();`, 4)
	steps(`two();`, 6)
	steps(`let a = one(1);`, 3)
	steps(`one(1);`, 3)
	steps(`let a = one(one(one(1)));`, 7)
	steps(`let a = one(1) + one(2) * one(3);`, 7)
	steps(`say put("s") + put(put("t"));`, 7, "st")
	steps(`if true { }`, 1)
	steps(`if false { }`, 1)
	steps(`if true { let a = 1; } else { let a = 1; let b = 2; }`, 2)
	steps(`if false { let a = 1; } else { let a = 1; let b = 2; }`, 3)
	steps(`if true { } else { }`, 1)
	steps(`if false { } else { }`, 1)
	// An if behind else is a statement, begun if it is come to.
	steps(`if true { } else if true { }`, 1)
	steps(`if false { } else if true { }`, 2)
	steps(`if false { } else if false { }`, 2)
	steps(`if false { } else if false { } else { }`, 2)
	steps(`if false { } else if false { } else { let a = 1; }`, 3)
	steps(`if false { } else if false { } else if true { let a = 1; }`, 4)
	steps(`if false { } else if false { } else if false { } else if false { } else { }`, 4)
	steps(`if false { } else { if false { } }`, 2)
	steps(`if one(1) == 1 { }`, 3)
	steps(`while false { }`, 2)
	steps(`while one(1) == 2 { }`, 4)
	steps(`let i = 0; while i < 1 { i = i + 1; }`, 1+1+2+1)
	steps(`let i = 0; while i < 5 { i = i + 1; }`, 1+1+6+5)
	steps(`let i = 0; while one(i) < 5 { i = i + 1; }`, 1+1+6*3+5)
	steps(`while true { break; }`, 3)
	steps(`while true { while true { break; } break; }`, 6)
	steps(`let i = 0; while i < 3 { i = i + 1; continue; }`, 1+1+4+6)
	steps(`let i = 0; while i < 3 { i = i + 1; if true { continue; } say "no"; }`, 1+1+4+9)
	steps(`let i = 0; while true { i = i + 1; if i == 3 { break; } }`, 1+1+3+3+3+1)
	steps(`if true || one(1) == 1 { }`, 1)
	steps(`if one(1) == 1 || one(1) == 1 { }`, 3)
	steps(`if one(1) == 2 || one(1) == 1 { }`, 5)
	steps(`if one(1) == 2 && one(1) == 1 { }`, 3)
	steps(`if one(1) == 1 && one(1) == 1 { }`, 5)
	wantMillRows(t,
		millRow{src: inMain(`write "o", "x";` + millGive), outs: "o", want: millWrote(millDone("", 3), "o", "x")},
		millRow{src: inMain(`fail "x";`), want: millEndsBy(1, "x", 2)},
		millRow{src: `fn f() { return; } ` + inMain(`f();`+millGive), want: millDone("", 5)},
		millRow{src: `fn f() { let a = 1; return; let b = 2; } ` + inMain(`f();`+millGive), want: millDone("", 6)},
		millRow{src: inMain(`if true { return "a"; } return "b";`), want: millDone("a", 3)},
		millRow{src: inMain(`while true { return "a"; } return "b";`), want: millDone("a", 4)},
		// Of a look, and of what stands around it, there is no step; the step of its statement is there.
		millRow{src: inMain(`let a = read("x") + read("y");` + millGive), replies: there("1", "2"), want: millDone("", 3)},
		millRow{src: inMain(`return tool("t", "");`), replies: there(inMain(`return "";`)), want: millDone("", 4)},
		millRow{src: inMain(`return tool("t", "") + tool("t", "");`), replies: there(inMain(`return "";`), inMain(`let a = 1; return "";`)), want: millDone("", 7)},
	)
}

// millPad is statements, with the name i, that are so many steps; at least 4.
func millPad(steps int) string {
	pad := fmt.Sprintf("let i = 0; while i < %d { i = i + 1; } ", (steps-3)/2)
	if steps%2 == 0 {
		return pad + "i = 0; "
	}
	return pad
}

func TestMillMeanMostSteps(t *testing.T) {
	t.Parallel()
	// The last step of each row is number MaxSteps; with one more in front of it, it is one too many.
	for _, row := range []struct {
		front   int
		back    string
		more    string
		replies []impl.MillReply
		want    impl.MillTurn
	}{
		{3998, `return "r";`, "", nil, millDone("r", 4000)},
		{3996, `return one("r");`, `fn one(s text) -> text { return s; }`, nil, millDone("r", 4000)},
		{3998, `fail "f";`, "", nil, millEndsBy(1, "f", 4000)},
		{3998, `let a = 1 / 0; return "";`, "", nil, millBroke("divide in main", 4000)},
		{3998, `i = 1 / 0; return "";`, "", nil, millBroke("divide in main", 4000)},
		{3998, `say dec(1 / 0); return "";`, "", nil, millBroke("divide in main", 4000)},
		{3998, `write "", ""; return "";`, "", nil, millBroke("name in main", 4000)},
		{3998, `if 1 / 0 == 1 { } return "";`, "", nil, millBroke("divide in main", 4000)},
		{3997, `if false { } else if 1 / 0 == 1 { } return "";`, "", nil, millBroke("divide in main", 4000)},
		{3997, `if true { say dec(1 / 0); } return "";`, "", nil, millBroke("divide in main", 4000)},
		{3997, `if false { } else { say dec(1 / 0); } return "";`, "", nil, millBroke("divide in main", 4000)},
		{3997, `while 1 / 0 == 1 { } return "";`, "", nil, millBroke("divide in main", 4000)},
		{3994, `let b = 1; while 1 / b == 1 { b = 0; } return "";`, "", nil, millBroke("divide in main", 4000)},
		{3998, `none(1 / 0); return "";`, `fn none(n i64) { }`, nil, millBroke("divide in main", 4000)},
		{3995, `while true { break; } return "";`, "", nil, millDone("", 4000)},
		{3996, `none(); return "";`, `fn none() { }`, nil, millDone("", 4000)},
		{3996, `none(); return "";`, `fn none() { fail "f"; }`, nil, millEndsBy(1, "f", 4000)},
		{3996, `return tool("t", "x");`, "", there(inMain(`return arg();`)), millDone("x", 4000)},
		{3998, `return tool("t", "x");`, "", coded(4), millEndsBy(4, "t", 4000)},
		{3998, `return tool("t", "x");`, "", there("fn"), millBroke("tool in main", 4000)},
		{3998, `return read("t");`, "", there("x"), millDone("x", 4000)},
	} {
		wantMillRow(t, millRow{src: inMain(millPad(row.front)+row.back) + row.more, replies: row.replies, want: row.want})
		wantMillRow(t, millRow{src: inMain(millPad(row.front+1)+row.back) + row.more, replies: row.replies, want: millEndsBy(3, "", 4000)})
		row.want.Steps--
		wantMillRow(t, millRow{src: inMain(millPad(row.front-1)+row.back) + row.more, replies: row.replies, want: row.want})
	}
	// At a step too many there is no look: the run is over without a reply.
	wantMillRow(t, millRow{src: inMain(millPad(3999) + `return read("t");`), want: millEndsBy(3, "", 4000)})
	wantMillRow(t, millRow{src: inMain(millPad(3998) + `return read("t");`), want: millWaits(1, "t", 4000)})
	// A tool's call is behind its look.
	wantMillRow(t, millRow{src: inMain(millPad(3998) + `return tool("t", "");`), want: millWaits(1, "t", 4000)})
	wantMillRow(t, millRow{src: inMain(millPad(3998) + `return tool("t", "");`), replies: there(inMain(millGive)), want: millEndsBy(3, "", 4000)})
	// What was said and written by then.
	wantMillRow(t, millRow{src: inMain(`write "o", "x"; say "s"; ` + millPad(3996) + `say "t"; return "";`), outs: "o", want: millEndsBy(3, "", 4000, "s", "t")})
	wantMillRow(t, millRow{src: inMain(`write "o", "x"; say "s"; ` + millPad(3997) + `say "t"; return "";`), outs: "o", want: millEndsBy(3, "", 4000, "s")})
	// A tool's steps are the run's.
	wantMillRow(t, millRow{src: inMain(millPad(2000) + `return tool("t", "");`), replies: there(inMain(millPad(1996) + `return "r";`)), want: millDone("r", 4000)})
	wantMillRow(t, millRow{src: inMain(millPad(2000) + `return tool("t", "");`), replies: there(inMain(millPad(1997) + `return "r";`)), want: millEndsBy(3, "", 4000)})
}

// millDown is a program in which so many calls are under way, main among them, where the innermost does something ahead of its return.
func millDown(calls int, does string) string {
	return fmt.Sprintf(`fn down(n i64) -> text { if n == %d { %s return "end"; } return down(n + 1); } `, calls, does) + inMain(`return down(2);`)
}

func TestMillMeanMostCalls(t *testing.T) {
	// A round of down is three steps: the call, the if, the return.
	wantMillRows(t,
		millRow{src: millDown(39, ``), want: millDone("end", 2+3*38)},
		millRow{src: millDown(40, ``), want: millDone("end", 2+3*39)},
		millRow{src: millDown(41, ``), want: millBroke("deep in down", 2+3*39)},
		millRow{src: millDown(40, `say "s"; f(); `) + ` fn f() { }`, want: millBroke("deep in down", 2+3*39+1, "s")},
		millRow{src: millDown(39, `say "s"; f(); `) + ` fn f() { }`, want: millDone("end", 2+3*38+3, "s")},
		millRow{src: millDown(39, `say "s"; f(); `) + ` fn f() { g(); } fn g() { }`, want: millBroke("deep in f", 1+3*38+4, "s")},
		// Calls that have returned are under way no more, whichever way they returned.
		millRow{src: inMain(`let i = 0; while i < 100 { i = f(i); }`+millGive) + ` fn f(n i64) -> i64 { return n + 1; }`, want: millDone("", 4+101+300)},
		millRow{src: inMain(`let i = 0; while i < 100 { i = i + 1; f(); }`+millGive) + ` fn f() { while true { if true { return; } } }`, want: millDone("", 4+101+100*7)},
		millRow{src: inMain(`let i = 0; while i < 100 { i = i + 1; f(); }`+millGive) + ` fn f() { }`, want: millDone("", 4+101+300)},
		millRow{src: millDown(39, `f(); f(); f(); `) + ` fn f() { }`, want: millDone("end", 2+3*38+6)},
		millRow{src: `fn even(n i64) -> bool { if n == 0 { return true; } return odd(n - 1); } fn odd(n i64) -> bool { if n == 0 { return false; } return even(n - 1); } ` + inMain(`if even(38) && odd(37) { return "y"; } return "n";`), want: millDone("y", 2+3*39+3*38+1)},
		millRow{src: `fn even(n i64) -> bool { if n == 0 { return true; } return odd(n - 1); } fn odd(n i64) -> bool { if n == 0 { return false; } return even(n - 1); } ` + inMain(`if even(39) { return "y"; } return "n";`), want: millBroke("deep in even", 2+3*39)},
		// A tool's main is one.
		millRow{src: millDown(39, `return tool("t", "x"); `), replies: there(inMain(`return arg();`)), want: millDone("x", 2+3*38+2)},
		millRow{src: millDown(40, `return tool("t", "x"); `), replies: there(inMain(`return arg();`)), want: millBroke("deep in down", 2+3*39)},
		millRow{src: millDown(39, `return tool("t", "x"); `), replies: there(inMain(`return f();`) + ` fn f() -> text { return ""; }`), want: millBroke("deep in main", 2+3*38+2)},
		millRow{src: millDown(38, `return tool("t", "x"); `), replies: there(inMain(`return f();`) + ` fn f() -> text { return arg(); }`), want: millDone("x", 2+3*37+4)},
		millRow{src: millDown(20, `return tool("t", "x"); `), replies: there(millDown(20, ``)), want: millDone("end", 2+3*19+2+3*19)},
		millRow{src: millDown(20, `return tool("t", "x"); `), replies: there(millDown(21, ``)), want: millBroke("deep in down", 2+3*19+2+3*19)},
		// Behind a tool that has returned they are as many as before.
		millRow{src: millDown(39, `tool_twice(); `) + ` fn tool_twice() { }`, want: millDone("end", 2+3*38+2)},
		millRow{src: millDown(39, `return tool("t", "x") + tool("t", "y"); `), replies: there(inMain(`return arg();`), inMain(`return arg();`)), want: millDone("xy", 2+3*38+4)},
	)
	again := inMain(`return tool("t", arg() + "x");`)
	wantMillRow(t, millRow{src: again, replies: there(slices.Repeat([]string{again}, 40)...), want: millBroke("deep in main", 80)})
	wantMillRow(t, millRow{src: again, replies: append(there(slices.Repeat([]string{again}, 38)...), there(inMain(`return arg();`))...), want: millDone(strings.Repeat("x", 39), 80)})
	wantMillRow(t, millRow{src: again, replies: there(slices.Repeat([]string{again}, 39)...), want: millWaits(1, "t", 80)})
}

// The orders that the chapter names, and those of the kids of an E.
func TestMillMeanOrders(t *testing.T) {
	more := ` fn t(s text) -> text { say s; return s; } fn n(s text, n i64) -> i64 { say s; return n; } fn y(s text, b bool) -> bool { say s; return b; } fn three(a text, b i64, c bool) -> text { say "three"; return a; } fn none() { }`
	// deep ahead of the step: at the call both would be too many.
	wantMillRows(t,
		millRow{src: millDown(40, millPad(4000-118-1)+`f(); `) + ` fn f() { }`, want: millBroke("deep in down", 4000)},
		millRow{src: millDown(39, millPad(4000-115-1)+`f(); `) + ` fn f() { }`, want: millEndsBy(3, "", 4000)},
		millRow{src: millDown(40, millPad(4000-118)+`f(); `) + ` fn f() { }`, want: millEndsBy(3, "", 4000)},
		millRow{src: millDown(40, millPad(4000-118-1)+`return tool("t", ""); `), replies: there(inMain(millGive)), want: millBroke("deep in down", 4000)},
		millRow{src: millDown(39, millPad(4000-115-1)+`return tool("t", ""); `), replies: there(inMain(millGive)), want: millEndsBy(3, "", 4000)},
		// tool ahead of deep and of the step.
		millRow{src: millDown(40, millPad(4000-118-1)+`return tool("t", ""); `), replies: there("fn"), want: millBroke("tool in down", 4000)},
		millRow{src: millDown(40, `return tool("t", ""); `), replies: there("fn"), want: millBroke("tool in down", 2+3*39)},
		millRow{src: millDown(40, `return tool("t", ""); `), replies: coded(4), want: millEndsBy(4, "t", 2+3*39)},
		millRow{src: millDown(40, `return tool("t", ""); `), want: millWaits(1, "t", 2+3*39)},
		millRow{src: millDown(40, `return tool("", ""); `), want: millBroke("name in down", 2+3*39)},
		// The kids of a call are evaluated ahead of deep.
		millRow{src: millDown(40, `return down(1 / 0); `), want: millBroke("divide in down", 2+3*39)},
		millRow{src: millDown(40, `return down(len(read("x"))); `), want: millWaits(1, "x", 2+3*39)},
	)
	// name ahead of Spent at a look, Spent ahead of the reply.
	for _, look := range []string{`read("NAME")`, `list("NAME")`, `tool("NAME", "")`, `dec(u8(len("x"))) + t(read("NAME"))`} {
		src := func(name string) string {
			return inMain(`let i = 0; while i < 100 { i = i + 1; if has("a") { } } return `+strings.Replace(look, "NAME", name, 1)+`;`) + more
		}
		steps := 1 + 1 + 1 + 101 + 200 + 1
		wantMillRow(t, millRow{src: src("b"), replies: coded(slices.Repeat([]int{4}, 100)...), want: millEndsBy(3, "", steps)})
		wantMillRow(t, millRow{src: src("b c"), replies: coded(slices.Repeat([]int{4}, 100)...), want: millBroke("name in main", steps)})
		if !strings.HasPrefix(look, "list") {
			wantMillRow(t, millRow{src: src(""), replies: coded(slices.Repeat([]int{5}, 100)...), want: millBroke("name in main", steps)})
		}
	}
	wantMillRow(t, millRow{src: inMain(`let i = 0; while i < 100 { i = i + 1; if has("a") { } } if has("") { }` + millGive), replies: coded(slices.Repeat([]int{4}, 100)...), want: millBroke("name in main", 305)})
	wantMillRows(t,
		// name ahead of output at a write.
		millRow{src: inMain(`write "a b", "x";` + millGive), outs: "o", want: millBroke("name in main", 2)},
		millRow{src: inMain(`write "", "x";` + millGive), want: millBroke("name in main", 2)},
		millRow{src: inMain(`write "p", "x";` + millGive), outs: "o", want: millBroke("output in main", 2)},
		millRow{src: inMain(`write "p", "x";` + millGive), want: millBroke("output in main", 2)},
		millRow{src: inMain(`write "o", "x"; write "p", "x";`+millGive) + more, outs: "o", want: millBroke("output in main", 3)},
		// All kids ahead of what is done with them.
		millRow{src: inMain(`write "", dec(1 / 0);` + millGive), want: millBroke("divide in main", 2)},
		millRow{src: inMain(`write "", read("x");` + millGive), want: millWaits(1, "x", 2)},
		millRow{src: inMain(`write t("a"), t("b");`+millGive) + more, outs: "a", want: millWrote(millDone("", 9, "a", "b"), "a", "b")},
		millRow{src: inMain(`return tool("", dec(1 / 0));`), want: millBroke("divide in main", 2)},
		millRow{src: inMain(`return tool("", read("x"));`), want: millWaits(1, "x", 2)},
		millRow{src: inMain(`return tool(read("a"), read("b"));`), replies: there("t", "x", inMain(`return arg();`)), want: millDone("x", 4)},
		millRow{src: inMain(`return read(read("a"));`), replies: there("b", "c"), want: millDone("c", 2)},
		millRow{src: inMain(`return three(t("a"), n("b", 1), y("c", true));`) + more, want: millDone("a", 14, "a", "b", "c", "three")},
		millRow{src: inMain(`return three(t("a"), n("b", 1 / 0), y("c", true));`) + more, want: millBroke("divide in main", 5, "a")},
		millRow{src: inMain(`return cut(t("abc"), n("b", 1), n("c", 2));`) + more, want: millDone("b", 11, "abc", "b", "c")},
		millRow{src: inMain(`return cut(t("abc"), n("b", 7), n("c", 2));`) + more, want: millBroke("range in main", 11, "abc", "b", "c")},
		millRow{src: inMain(`return dec(at(t("abc"), n("b", 7)));`) + more, want: millBroke("range in main", 8, "abc", "b")},
		millRow{src: inMain(`return dec(find(t("abc"), t("c")));`) + more, want: millDone("2", 8, "abc", "c")},
		millRow{src: inMain(`return dec(n("a", 7) - n("b", 2) * n("c", 3));`) + more, want: millDone("1", 11, "a", "b", "c")},
		millRow{src: inMain(`return dec((n("a", 7) - n("b", 2)) * n("c", 3));`) + more, want: millDone("15", 11, "a", "b", "c")},
		millRow{src: inMain(`return dec(n("a", 7) / n("b", 0));`) + more, want: millBroke("divide in main", 8, "a", "b")},
		millRow{src: inMain(`if t("a") < t("b") { return "y"; } return "n";`) + more, want: millDone("y", 9, "a", "b")},
		millRow{src: inMain(`if y("a", true) == y("b", false) { return "y"; } return "n";`) + more, want: millDone("n", 9, "a", "b")},
		millRow{src: inMain(`let a = 1 / 0 + num("x");` + millGive), want: millBroke("divide in main", 2)},
		millRow{src: inMain(`let a = num("x") + 1 / 0;` + millGive), want: millBroke("number in main", 2)},
		millRow{src: inMain(`say t("a") + t("b");`+millGive) + more, want: millDone("", 9, "a", "b", "ab")},
		millRow{src: inMain(`fail t("a") + t("b");`) + more, want: millEndsBy(1, "ab", 8, "a", "b")},
	)
}

func TestMillMeanAndOr(t *testing.T) {
	more := ` fn y(s text, b bool) -> bool { say s; return b; } `
	main := func(e string) string { return inMain(`if `+e+` { return "y"; } return "n";`) + more }
	rows := []millRow{
		{src: main(`true || 1 / 0 == 1`), want: millDone("y", 3)},
		{src: main(`false && 1 / 0 == 1`), want: millDone("n", 3)},
		{src: main(`false || 1 / 0 == 1`), want: millBroke("divide in main", 2)},
		{src: main(`true && 1 / 0 == 1`), want: millBroke("divide in main", 2)},
		{src: main(`1 / 0 == 1 || true`), want: millBroke("divide in main", 2)},
		{src: main(`1 / 0 == 1 && false`), want: millBroke("divide in main", 2)},
		{src: main(`true || has("a")`), want: millDone("y", 3)},
		{src: main(`false && has("a")`), want: millDone("n", 3)},
		{src: main(`true || has("")`), want: millDone("y", 3)},
		{src: main(`false || has("a")`), want: millWaits(2, "a", 2)},
		{src: main(`has("a") || has("b")`), replies: there(""), want: millDone("y", 3)},
		{src: main(`has("a") || has("b")`), replies: coded(4), want: millWaits(2, "b", 2)},
		{src: main(`has("a") || has("b")`), replies: coded(4, 5), want: millDone("y", 3)},
		{src: main(`has("a") || has("b")`), replies: coded(4, 4), want: millDone("n", 3)},
		{src: main(`has("a") && has("b")`), replies: coded(4), want: millDone("n", 3)},
		{src: main(`has("a") && has("b")`), replies: coded(5), want: millWaits(2, "b", 2)},
		{src: main(`has("a") && has("b")`), replies: coded(0, 0), want: millDone("y", 3)},
		{src: main(`has("a") && has("b")`), replies: coded(0, 4), want: millDone("n", 3)},
		{src: main(`true || tool("t", "") == ""`), want: millDone("y", 3)},
		{src: main(`true || fails()`) + `fn fails() -> bool { fail "f"; }`, want: millDone("y", 3)},
		{src: main(`false || fails()`) + `fn fails() -> bool { fail "f"; }`, want: millEndsBy(1, "f", 4)},
		// The second may be of a kind that is left out in its turn.
		{src: main(`false || true || 1 / 0 == 1`), want: millDone("y", 3)},
		{src: main(`false || (true || 1 / 0 == 1)`), want: millDone("y", 3)},
		{src: main(`true && (false && 1 / 0 == 1)`), want: millDone("n", 3)},
		{src: main(`false && 1 / 0 == 1 || true`), want: millDone("y", 3)},
		{src: main(`true || 1 / 0 == 1 && 1 / 0 == 1`), want: millDone("y", 3)},
		{src: main(`(true || 1 / 0 == 1) && y("a", true)`), want: millDone("y", 6, "a")},
		{src: main(`!(true || 1 / 0 == 1)`), want: millDone("n", 3)},
	}
	for i := range 16 {
		a, b, or, first := i&1 == 1, i&2 == 2, i&4 == 4, i&8 == 8
		mark, gives, said := "&&", a && b, []string{"a"}
		if or {
			mark, gives = "||", a || b
		}
		if a != or {
			said = append(said, "b")
		}
		e := fmt.Sprintf(`y("a", %v) %s y("b", %v)`, a, mark, b)
		if first {
			// As a value that is kept.
			src := inMain(`let v = `+e+`; if v == true { return "y"; } return "n";`) + more
			rows = append(rows, millRow{src: src, want: millDone(map[bool]string{true: "y", false: "n"}[gives], 4+3*len(said), said...)})
			continue
		}
		rows = append(rows, millRow{src: main(e), want: millDone(map[bool]string{true: "y", false: "n"}[gives], 3+3*len(said), said...)})
	}
	wantMillRows(t, rows...)
}

// millQuoted is a text as it stands in a program.
func millQuoted(text string) string {
	return millGrowText(impl.MillNodeText, text).text(noBrackets)
}

func TestMillMeanLooks(t *testing.T) {
	wantMillRows(t,
		millRow{src: inMain(`return read("a");`), want: millWaits(1, "a", 2)},
		millRow{src: inMain(`return read("a");`), replies: there("x"), want: millDone("x", 2)},
		millRow{src: inMain(`return read("a");`), replies: there(""), want: millDone("", 2)},
		millRow{src: inMain(`return read("a");`), replies: there("\x00\xff\n"), want: millDone("\x00\xff\n", 2)},
		millRow{src: inMain(`return read("a");`), replies: there(strings.Repeat("x", 3000)), want: millDone(strings.Repeat("x", 3000), 2)},
		millRow{src: inMain(`return read("a") + read("a");`), replies: there("x", "y"), want: millDone("xy", 2)},
		millRow{src: inMain(`return read("a") + read("b") + read("c");`), replies: there("x", "y"), want: millWaits(1, "c", 2)},
		millRow{src: inMain(`if has("a") { return "y"; } return "n";`), want: millWaits(2, "a", 2)},
		millRow{src: inMain(`if has("a") { return "y"; } return "n";`), replies: coded(0), want: millDone("y", 3)},
		millRow{src: inMain(`if has("a") { return "y"; } return "n";`), replies: there("text"), want: millDone("y", 3)},
		millRow{src: inMain(`if has("a") { return "y"; } return "n";`), replies: coded(4), want: millDone("n", 3)},
		millRow{src: inMain(`if has("a") { return "y"; } return "n";`), replies: coded(5), want: millDone("y", 3)},
		millRow{src: inMain(`if has("a") == has("b") { return "y"; } return "n";`), replies: coded(5, 0), want: millDone("y", 3)},
		millRow{src: inMain(`return list("a");`), want: millWaits(3, "a", 2)},
		millRow{src: inMain(`return list("");`), want: millWaits(3, "", 2)},
		millRow{src: inMain(`return list("a");`), replies: there("a\nab\n"), want: millDone("a\nab\n", 2)},
		millRow{src: inMain(`return list("a") + "!";`), replies: coded(4), want: millDone("!", 2)},
		millRow{src: inMain(`return list("a") + "!";`), replies: coded(5), want: millDone("!", 2)},
		millRow{src: inMain(`return list("") + list("b");`), replies: there("x"), want: millWaits(3, "b", 2)},
		millRow{src: inMain(`return tool("a", "b");`), want: millWaits(1, "a", 2)},
		millRow{src: inMain(`say "s"; let a = read("a"); say a; return read(a);`), replies: there("b"), want: millWaits(1, "b", 5, "s", "b")},
		// What was written is not told of a run that stops.
		millRow{src: inMain(`write "o", "x"; return read("a");`), outs: "o", want: millWaits(1, "a", 3)},
		millRow{src: inMain(`write "o", "x"; return read("o");`), outs: "o", replies: there("y"), want: millWrote(millDone("y", 3), "o", "x")},
		// An end that comes ahead of a look.
		millRow{src: inMain(`fail "f"; return read("a");`), want: millEndsBy(1, "f", 2)},
	)
	for _, name := range millNames() {
		q := millQuoted(name)
		wantMillRows(t,
			millRow{src: inMain(`return read(` + q + `);`), want: millWaits(1, name, 2)},
			millRow{src: inMain(`if has(` + q + `) { }` + millGive), want: millWaits(2, name, 2)},
			millRow{src: inMain(`return list(` + q + `);`), want: millWaits(3, name, 2)},
			millRow{src: inMain(`return tool(` + q + `, "");`), want: millWaits(1, name, 2)},
			millRow{src: inMain(`return read(` + q + `);`), replies: coded(4), want: millEndsBy(4, name, 2)},
			millRow{src: inMain(`write ` + q + `, "x";` + millGive), outs: name, want: millWrote(millDone("", 3), name, "x")},
			millRow{src: inMain(millGive), outs: name, want: millBroke("lacks "+name, 2)},
		)
	}
	broke := millBroke("name in main", 2)
	for _, name := range append(millNoNames(), "") {
		q := millQuoted(name)
		for _, statement := range []string{`return read(` + q + `);`, `if has(` + q + `) { }` + millGive, `return list(` + q + `);`, `return tool(` + q + `, "");`, `write ` + q + `, "";` + millGive} {
			if name == "" && strings.Contains(statement, "list") {
				continue
			}
			wantMillRow(t, millRow{src: inMain(statement), outs: "o", want: broke})
			wantMillRow(t, millRow{src: inMain(statement), outs: "o", replies: there("x"), want: broke})
		}
	}
}

func TestMillMeanMostLooks(t *testing.T) {
	t.Parallel()
	for _, look := range []struct {
		e    string
		kind int
	}{{`len(read("a"))`, 1}, {`find(list("a"), "x")`, 3}, {`len(tool("a", ""))`, 1}} {
		src := func(many int) string {
			return inMain(fmt.Sprintf(`let i = 0; while i < %d { i = i + 1; let x = %s; }`, many, look.e) + millGive)
		}
		replies := there(slices.Repeat([]string{inMain(millGive)}, 100)...)
		inTool := 0
		if strings.HasPrefix(look.e, "len(tool") {
			inTool = 2
		}
		wantMillRow(t, millRow{src: src(100), replies: replies, want: millDone("", 4+101+(2+inTool)*100)})
		wantMillRow(t, millRow{src: src(101), replies: replies, want: millEndsBy(3, "", 3+101+(2+inTool)*100+2)})
		wantMillRow(t, millRow{src: src(100), replies: replies[:99], want: millWaits(look.kind, "a", 3+100+(2+inTool)*99+2)})
		wantMillRow(t, millRow{src: src(101), replies: replies[:50], want: millWaits(look.kind, "a", 3+51+(2+inTool)*50+2)})
	}
	// Looks of a tool are the run's.
	tool := inMain(`let i = 0; while i < 50 { i = i + 1; if has("b") { } }` + millGive)
	all := append(append(there(tool), coded(slices.Repeat([]int{4}, 50)...)...), append(there(tool), coded(slices.Repeat([]int{4}, 48)...)...)...)
	wantMillRow(t, millRow{src: inMain(`say "a"; say tool("t", ""); say "b"; say tool("t", ""); return "";`), replies: all, want: millEndsBy(3, "", 1+2+(1+2+51+100+1)+2+(1+2+49+98), "a", "", "b")})
	// Those of all kinds count together.
	wantMillRow(t, millRow{src: inMain(`let i = 0; while true { i = i + 1; let a = read("a") + list("b"); if has("c") { } a = tool("d", ""); } return "";`), replies: slices.Repeat(there("x", "y", "z", inMain(millGive)), 25), want: millEndsBy(3, "", 3+26+25*(4+2)+2)})
}

func TestMillMeanTools(t *testing.T) {
	wantMillRows(t,
		millRow{src: inMain(`return tool("t", "in") + arg();`), arg: "out", replies: there(inMain(`return arg() + arg();`)), want: millDone("ininout", 4)},
		millRow{src: inMain(`return arg() + tool("t", arg() + "b") + arg();`), arg: "a", replies: there(inMain(`return "<" + arg() + ">";`)), want: millDone("a<ab>a", 4)},
		millRow{src: inMain(`return tool("t", "");`), arg: "out", replies: there(inMain(`return arg();`)), want: millDone("", 4)},
		// A function that is called does not change arg, in a tool neither.
		millRow{src: inMain(`return f() + tool("t", "b") + f();`) + ` fn f() -> text { return arg(); }`, arg: "a", replies: there(inMain(`return arg() + f() + arg();`) + ` fn f() -> text { return "f" + arg(); }`), want: millDone("abfbba", 10)},
		// A tool that calls a tool.
		millRow{src: inMain(`return tool("t", "1") + arg();`), arg: "0", replies: there(inMain(`return arg() + tool("u", "2") + arg();`), inMain(`return arg() + tool("v", "3") + arg();`), inMain(`return arg();`)), want: millDone("123210", 8)},
		millRow{src: inMain(`return tool("t", "1");`), replies: there(inMain(`return tool("u", "2");`)), want: millWaits(1, "u", 4)},
		millRow{src: inMain(`return tool("t", "1");`), replies: append(there(inMain(`return tool("u", "2");`)), coded(4)...), want: millEndsBy(4, "u", 4)},
		millRow{src: inMain(`return tool("t", "1");`), replies: append(there(inMain(`return read("u");`)), coded(5)...), want: millEndsBy(5, "u", 4)},
		millRow{src: inMain(`return tool("t", tool("u", "x"));`), replies: there(inMain(`return arg() + "1";`), inMain(`return arg() + "2";`)), want: millDone("x12", 6)},
		// Functions of one name in both.
		millRow{src: `fn f() -> text { return "out"; } ` + inMain(`return f() + tool("t", "") + f();`), replies: there(`fn f() -> text { return "in"; } ` + inMain(`return f();`)), want: millDone("outinout", 10)},
		millRow{src: `fn f(n i64) -> i64 { return n; } ` + inMain(`return dec(f(1)) + tool("t", "") + dec(f(2));`), replies: there(`fn f(s text, b bool) -> text { if b { return s; } return "n"; } ` + inMain(`return f("s", true);`)), want: millDone("1s2", 11)},
		millRow{src: `fn f() -> text { return tool("t", ""); } ` + inMain(`return f();`), replies: there(`fn f() -> text { return dec(1 / 0); } ` + inMain(`return f();`)), want: millBroke("divide in f", 8)},
		// Names of one text in both.
		millRow{src: inMain(`let a = 1; let b = "b"; a = a + len(tool("t", "")); return dec(a) + b;`), replies: there(inMain(`let b = 5; let a = "aaa"; b = b + 1; return a + dec(b);`)), want: millDone("5b", 10)},
		// Ends inside are the run's.
		millRow{src: inMain(`return tool("t", "");`), replies: there(inMain(`fail "in";`)), want: millEndsBy(1, "in", 4)},
		millRow{src: inMain(`return tool("t", "");`), replies: there(inMain(`return read("");`)), want: millBroke("name in main", 4)},
		millRow{src: inMain(`return tool("t", "");`), replies: there(inMain(`while true { } return "";`)), want: millEndsBy(3, "", 4000)},
		millRow{src: inMain(`say "a"; let r = tool("t", ""); say r; return r;`), replies: there(inMain(`say "b"; return "c";`)), want: millDone("c", 8, "a", "b", "c")},
		// Outs are the run's: a tool may write them, and its main may return while some are not written.
		millRow{src: inMain(`write "o", "1"; return tool("t", "");`), outs: "o p", replies: there(inMain(`write "p", "2"; return "r";`)), want: millWrote(millDone("r", 6), "o", "1", "p", "2")},
		millRow{src: inMain(`let r = tool("t", ""); write "p", "2"; write "o", r; return "";`), outs: "o p", replies: there(inMain(`return "r";`)), want: millWrote(millDone("", 7), "o", "r", "p", "2")},
		millRow{src: inMain(`write "o", "1"; let r = tool("t", ""); return "";`), outs: "o", replies: there(inMain(`write "o", "2"; return "r";`)), want: millWrote(millDone("", 7), "o", "2")},
		millRow{src: inMain(`return tool("t", "");`), outs: "o", replies: there(inMain(`return "r";`)), want: millBroke("lacks o", 4)},
		millRow{src: inMain(`return tool("t", "");`), outs: "o", replies: there(inMain(`write "p", ""; return "r";`)), want: millBroke("output in main", 4)},
		// Only what the first main returns ends the run.
		millRow{src: inMain(`tools(); return "r";`) + ` fn tools() { if tool("t", "") == "x" { say "x"; } }`, replies: there(inMain(`return "x";`)), want: millDone("r", 8, "x")},
		// main may be called like others.
		millRow{src: inMain(`if has("a") { return "x"; } return main() + "y";`), replies: coded(4, 4, 0), want: millDone("xyy", 9)},
		millRow{src: inMain(`return tool("t", "");`), outs: "o", replies: append(there(inMain(`if has("a") { return "x"; } return main() + arg();`)), coded(4, 0)...), want: millBroke("lacks o", 8)},
	)
	fault := millBroke("tool in f", 4)
	long := inMain(`return "r"; `)
	for text, want := range map[string]impl.MillTurn{
		"": fault, "x": fault, "fn": fault, "fn main()": fault, inMain(`return "r"`): fault, inMain(`return "r";`) + "}": fault, "\xff": fault, `fn main() -> text { return "r; }`: fault, inMain(`return 256u8;`): fault,
		// Read, but it does not fit.
		`fn f() { }`: fault, `fn main() { }`: fault, `fn main(a text) -> text { return a; }`: fault, inMain(`return 1;`): fault, inMain(`return x;`): fault, inMain(`say "r";`): fault, inMain(`break; return "r";`): fault, inMain(`return "r";`) + inMain(`return "r";`): fault, inMain(`return g();`): fault, inMain(`return f();`): fault,
		// Deep, with many kids, or long.
		inMain(strings.Repeat("if true { ", 60) + strings.Repeat("} ", 60) + `return "r";`): fault,
		inMain(strings.Repeat("if true { ", 28) + strings.Repeat("} ", 28) + `return "r";`): millDone("r", 6+28),
		inMain(`return "r";`): millDone("r", 6), "# note\n" + inMain(`return "r";`) + " # note": millDone("r", 6), inMain(`return "r";`) + ` fn f() { } fn g() { }`: millDone("r", 6),
		long + strings.Repeat(" ", 3000-len(long)): millDone("r", 6), long + strings.Repeat(" ", 2999-len(long)) + "}": fault,
		strings.Repeat("x", 3000): fault,
	} {
		wantMillRow(t, millRow{src: `fn f() -> text { return tool("t", "x"); } ` + inMain(`return f();`), replies: there(text), want: want})
	}
}

// What leaves a block leaves just those blocks that it is said to leave.
func TestMillMeanLeaves(t *testing.T) {
	wantMillRows(t,
		millRow{src: inMain(`let i = 0; while i < 3 { i = i + 1; let j = 0; while true { j = j + 1; if j == 2 { break; } say dec(i) + dec(j); } } return "";`), want: millDone("", 3+4+3*(1+1+1+(1+1+1+1)+(1+1+1+1))+1, "11", "21", "31")},
		millRow{src: inMain(`let i = 0; while i < 3 { i = i + 1; let j = 0; while j < 3 { j = j + 1; if j == 2 { continue; } say dec(i) + dec(j); } } return "";`), want: millDone("", 3+4+3*(3+4+3*3)+1, "11", "13", "21", "23", "31", "33")},
		millRow{src: inMain(`while true { if true { if true { if true { break; } say "no"; } say "no"; } say "no"; } say "yes"; return "";`), want: millDone("", 9, "yes")},
		millRow{src: inMain(`let i = 0; while i < 2 { i = i + 1; if true { if true { continue; } say "no"; } say "no"; } return dec(i);`), want: millDone("2", 3+3+8+1)},
		millRow{src: inMain(`while true { while true { if true { return "a"; } } say "no"; } return "b";`), want: millDone("a", 7)},
		millRow{src: inMain(`while true { while true { break; } say "yes"; break; } return "b";`), want: millDone("b", 9, "yes")},
		millRow{src: inMain(`let i = 0; while i < 2 { i = i + 1; while true { break; } continue; } return "b";`), want: millDone("b", 3+3+2*(1+1+1+1+1)+1)},
		millRow{src: inMain(`if false { } else { while true { if false { } else if true { break; } } } return "b";`), want: millDone("b", 8)},
		millRow{src: `fn f() { while true { while true { return; } } say "no"; } ` + inMain(`f(); while true { f(); break; } return "b";`), want: millDone("b", 1+7+2+7+1+1)},
		millRow{src: `fn f(n i64) -> i64 { while true { n = n + 1; if n > 5 { return n; } } return 0; } ` + inMain(`return dec(f(3));`), want: millDone("6", 4+3+3+3+1)},
		// A break of a function's loop is none of the caller's loop.
		millRow{src: `fn f() { while true { break; } } ` + inMain(`let i = 0; while i < 2 { f(); i = i + 1; } return "b";`), want: millDone("b", 3+3+2*(2+3+1)+1)},
		millRow{src: `fn f() -> text { while true { return "f"; } return "g"; } ` + inMain(`let i = 0; while i < 2 { say f(); i = i + 1; } return "b";`), want: millDone("b", 3+3+2*(1+1+3+1)+1, "f", "f")},
		millRow{src: inMain(`let i = 0; while i < 2 { i = i + 1; say tool("t", ""); } return "b";`), replies: there(inMain(`while true { while true { return "x"; } } return "y";`), inMain(`while true { break; } return "z";`)), want: millDone("b", 3+3+2*2+6+5+1, "x", "z")},
		// Nothing is done behind what leaves.
		millRow{src: inMain(`return "a"; return dec(1 / 0);`), want: millDone("a", 2)},
		millRow{src: inMain(`while true { break; say dec(1 / 0); } return "a";`), want: millDone("a", 5)},
		millRow{src: `fn f() { return; fail "no"; } ` + inMain(`f(); return "a";`), want: millDone("a", 5)},
	)
}

func TestMillMeanFilesAndSaid(t *testing.T) {
	wantMillRows(t,
		millRow{src: inMain(`write "c", "3"; write "a", "1"; write "b", "2"; return "";`), outs: "a b c", want: millWrote(millDone("", 5), "a", "1", "b", "2", "c", "3")},
		millRow{src: inMain(`write "a", "1"; write "b", "2"; write "a", "3"; return "";`), outs: "a b", want: millWrote(millDone("", 5), "a", "3", "b", "2")},
		millRow{src: inMain(`write "a", "1"; write "a", ""; return "";`), outs: "a", want: millWrote(millDone("", 4), "a", "")},
		millRow{src: inMain(`write "B", "1"; write "a", "2"; write "!", "3"; write "~", "4"; return "";`), outs: "! B a ~", want: millWrote(millDone("", 6), "!", "3", "B", "1", "a", "2", "~", "4")},
		millRow{src: inMain(`write "a" + "b", "x" + dec(1); return "";`), outs: "ab", want: millWrote(millDone("", 3), "ab", "x1")},
		millRow{src: inMain(`write "a", "1"; say "s"; let d = 1 / 0; return "";`), outs: "a", want: millBroke("divide in main", 4, "s")},
		millRow{src: inMain(`write "a", "1"; say "s"; return read("x");`), outs: "a", replies: coded(4), want: millEndsBy(4, "x", 4, "s")},
		millRow{src: inMain(`write "a", "1"; say "s"; return read("x");`), outs: "a", replies: coded(5), want: millEndsBy(5, "x", 4, "s")},
		millRow{src: inMain(`write "a", "1"; say "s"; while true { } return "";`), outs: "a", want: millEndsBy(3, "", 4000, "s")},
		millRow{src: inMain(`write "a", "1"; say "s"; return "";`), outs: "a b", want: millBroke("lacks b", 4, "s")},
		millRow{src: inMain(`write "a", "1"; say "s"; fail "f";`), outs: "a", want: millEndsBy(1, "f", 4, "s")},
		millRow{src: inMain(`write "a", "1"; say "s"; return "r";`), outs: "a", want: millWrote(millDone("r", 4, "s"), "a", "1")},
		millRow{src: inMain(`say "b"; say "a"; say "b"; say ""; say "\00\ff"; return "";`), want: millDone("", 7, "b", "a", "b", "", "\x00\xff")},
		// A name is one of Outs only as a whole.
		millRow{src: inMain(`write "a", "1"; return "";`), outs: "aa", want: millBroke("output in main", 2)},
		millRow{src: inMain(`write "aa", "1"; return "";`), outs: "a", want: millBroke("output in main", 2)},
		millRow{src: inMain(`write "A", "1"; return "";`), outs: "a", want: millBroke("output in main", 2)},
	)
	var outs, pairs []string
	writes := ""
	for i := range 20 {
		name := string(rune('a' + i))
		outs, pairs = append(outs, name), append(pairs, name, strings.Repeat(name, i))
		writes = `write "` + name + `", "` + strings.Repeat(name, i) + `"; ` + writes
	}
	wantMillRow(t, millRow{src: inMain(writes + millGive), outs: strings.Join(outs, " "), want: millWrote(millDone("", 22), pairs...)})
	for at := range outs {
		less := strings.Replace(writes, `write "`+outs[at]+`", `, `say `, 1)
		wantMillRow(t, millRow{src: inMain(less + millGive), outs: strings.Join(outs, " "), want: millBroke("lacks "+outs[at], 22, strings.Repeat(outs[at], at))})
	}
	long := strings.Repeat("x", 3000)
	wantMillRow(t, millRow{src: inMain(`let r = read("a"); say r; write "o", r; return r;`), outs: "o", replies: there(long), want: millWrote(millDone(long, 5, long), "o", long)})
	wantMillRow(t, millRow{src: inMain(`fail read("a");`), replies: there(long), want: millEndsBy(1, long, 2)})
	said := func(many int) string {
		return inMain(fmt.Sprintf(`let i = 0; while i < %d { i = i + 1; say dec(i); }`, many) + millGive)
	}
	var texts []string
	for i := range 50 {
		texts = append(texts, fmt.Sprint(i+1))
	}
	wantMillRow(t, millRow{src: said(49), want: millDone("", 4+50+98, texts[:49]...)})
	wantMillRow(t, millRow{src: said(50), want: millDone("", 4+51+100, texts...)})
	wantMillRow(t, millRow{src: said(51), want: millBroke("said in main", 3+51+102, texts...)})
	// What a tool says counts, too.
	tool := strings.Replace(said(25), millGive, ` return "t";`, 1)
	wantMillRow(t, millRow{src: inMain(`say tool("a", ""); return "";`), replies: there(said(49)), want: millDone("", 3+4+50+98, append(slices.Clone(texts[:49]), "")...)})
	wantMillRow(t, millRow{src: inMain(`say tool("a", ""); return "";`), replies: there(said(50)), want: millBroke("said in main", 2+4+51+100, texts...)})
	wantMillRow(t, millRow{src: inMain(`return tool("a", "") + tool("a", "");`), replies: there(tool, tool), want: millDone("tt", 2+2*(4+26+50), slices.Concat(texts[:25], texts[:25])...)})
	wantMillRow(t, millRow{src: inMain(`let r = tool("a", "") + tool("a", ""); f(); return "";`) + ` fn f() { say "x"; }`, replies: there(tool, tool), want: millBroke("said in f", 2+2*(4+26+50)+3, slices.Concat(texts[:25], texts[:25])...)})
	// The text is evaluated ahead of it.
	wantMillRow(t, millRow{src: strings.Replace(said(50), millGive, ` say dec(1 / 0);`+millGive, 1), want: millBroke("divide in main", 4+51+100, texts...)})
}

func TestMillMeanNames(t *testing.T) {
	wantMillRows(t,
		millRow{src: inMain(`let a = 1; let b = a + 1; a = b + a; return dec(a) + dec(b);`), want: millDone("32", 5)},
		// A NodeLet in a loop's block is done anew each time round.
		millRow{src: inMain(`let i = 0; while i < 3 { let a = 10; a = a + i; i = i + 1; say dec(a); } return "";`), want: millDone("", 3+4+12+1, "10", "11", "12")},
		millRow{src: inMain(`let i = 0; while i < 4 { i = i + 1; if i == 2 { continue; } let a = i * i; say dec(a); } return "";`), want: millDone("", 3+5+4*2+3*2+1+1, "1", "9", "16")},
		// A name of an outer block stays what an inner block sets it to.
		millRow{src: inMain(`let a = "a"; if true { a = a + "b"; while len(a) < 5 { a = a + "c"; } } return a;`), want: millDone("abccc", 6+4+3)},
		// Names of one text in blocks beside each other, of different types, and behind them.
		millRow{src: inMain(`if true { let a = 1; say dec(a); } if true { let a = "x"; say a; } else { let a = true; } let a = 7u8; return dec(a);`), want: millDone("7", 9, "1", "x")},
		millRow{src: inMain(`let i = 0; while i < 2 { if i == 0 { let a = "first"; say a; } else { let a = 2; let b = a; say dec(b); } i = i + 1; } return "";`), want: millDone("", 3+3+(1+2+1)+(1+3+1)+1, "first", "2")},
		millRow{src: inMain(`if true { let b = 1; let a = b; say dec(a); } if true { let a = "x"; let b = a + "y"; say b + a; } return "";`), want: millDone("", 10, "1", "xyx")},
		// Parameters may be set; the caller's names stay.
		millRow{src: `fn f(a i64, b text) -> text { a = a + 1; b = b + dec(a); return b; } ` + inMain(`let a = 5; let b = "x"; let c = f(a, b); return dec(a) + b + c;`), want: millDone("5xx6", 1+3+1+3+1)},
		millRow{src: `fn f(a text, b text, c text) -> text { return c + b + a; } ` + inMain(`return f("1", "2", "3") + f("a", f("x", "y", "z"), "c");`), want: millDone("321czyxa", 8)},
		// Each call has names of its own.
		millRow{src: `fn f(n i64) -> i64 { let m = n * 2; if n > 0 { let r = f(n - 1); return r + m; } return m; } ` + inMain(`return dec(f(3));`), want: millDone("12", 2+5*3+4)},
		millRow{src: `fn f(n i64) -> text { let s = dec(n); if n == 0 { return s; } let deep = f(n - 1); return s + deep + s; } ` + inMain(`return f(2);`), want: millDone("21012", 2+2*5+4)},
		// Names may be those of functions.
		millRow{src: `fn f(f i64) -> i64 { return f + 1; } ` + inMain(`let f = f(1); let main = f(f); return dec(main);`), want: millDone("3", 8)},
		// A parameter that is not used, and one that is set ahead of its use.
		millRow{src: `fn f(a bool, b text) -> text { a = false; if a { return "no"; } return b; } ` + inMain(`return f(true, "b");`), want: millDone("b", 6)},
	)
	// As many names as may be visible.
	var sum strings.Builder
	for i := range 200 {
		fmt.Fprintf(&sum, " let a%d = %d;", i, i)
	}
	wantMillRow(t, millRow{src: inMain(sum.String() + ` a0 = a199; return dec(a0 + a100 + a198);`), want: millDone("497", 203)})
	params := `fn f(a u8, b i8, c u16, d i16, e u32, f i32, g u64, h i64) -> text { return dec(a) + " " + dec(b) + " " + dec(c) + " " + dec(d) + " " + dec(e) + " " + dec(f) + " " + dec(g) + " " + dec(h); } `
	wantMillRow(t, millRow{src: params + inMain(`return f(255u8, i8(128), 65535u16, -2i16, ~0u32, -(1i32 << 31i32), ~0u64, -9223372036854775807 - 1);`), want: millDone("255 -128 65535 -2 4294967295 -2147483648 18446744073709551615 -9223372036854775808", 4)})
}

// Promise 20: each beginning of a run's replies stops at the next look; with all it ends; what is left over changes nothing.
func TestMillMeanBeginnings(t *testing.T) {
	b := millOf(t, `fn f(s text) -> text { say "f" + s; if has(s) { return read(s); } return list(s); } `+inMain(`write "o", "x"; say "1"; let a = f("a"); let b = f("b"); say a + b; let c = tool("t", a); say c; if a == "yes" { return tool("u", b); } fail c + read("last");`))
	j := impl.MillJob{Arg: "arg", Outs: []string{"o"}}
	tool := inMain(`say "in"; if has("z") { return arg() + read("y"); } return arg();`)
	replies := slices.Concat(coded(0), there("text of a"), coded(4), there("list of b"), there(tool), coded(5), there("text of y"), there("text of last"))
	stops := []impl.MillTurn{
		millWaits(2, "a", 7, "1", "fa"),
		millWaits(1, "a", 8, "1", "fa"),
		millWaits(2, "b", 12, "1", "fa", "fb"),
		millWaits(3, "b", 13, "1", "fa", "fb"),
		millWaits(1, "t", 15, "1", "fa", "fb", "text of alist of b"),
		millWaits(2, "z", 18, "1", "fa", "fb", "text of alist of b", "in"),
		millWaits(1, "y", 19, "1", "fa", "fb", "text of alist of b", "in"),
		millWaits(1, "last", 22, "1", "fa", "fb", "text of alist of b", "in", "text of atext of y"),
	}
	end := millEndsBy(1, "text of atext of ytext of last", 22, stops[7].Said...)
	for n, want := range append(stops, end) {
		if got := impl.MillMean(b.tree(), j, replies[:n]); !isSameMillTurn(got, want) {
			t.Errorf("%d replies: got %s, want %s", n, millTurnShown(got), millTurnShown(want))
		}
	}
	for _, more := range [][]impl.MillReply{there("x"), coded(4), coded(5), there(tool, tool), slices.Repeat(there("x"), 92)} {
		if got := impl.MillMean(b.tree(), j, slices.Concat(replies, more)); !isSameMillTurn(got, end) {
			t.Errorf("with more: got %s, want %s", millTurnShown(got), millTurnShown(end))
		}
	}
	wantMillMeant(t, b, j, replies)
	// Another reply in the middle leads elsewhere; what came before it stays.
	other := slices.Clone(replies)
	other[1] = impl.MillReply{Text: "yes"}
	for n, want := range stops[:2] {
		if got := impl.MillMean(b.tree(), j, other[:n]); !isSameMillTurn(got, want) {
			t.Errorf("%d other replies: got %s", n, millTurnShown(got))
		}
	}
	if got, want := impl.MillMean(b.tree(), j, other[:7]), millWaits(1, "u", 22, "1", "fa", "fb", "yeslist of b", "in", "yestext of y"); !isSameMillTurn(got, want) {
		t.Errorf("got %s, want %s", millTurnShown(got), millTurnShown(want))
	}
	wantMillMeant(t, b, j, other)
}

// Promise 19: what is folded does the same, step by step, with each job and all replies.
func TestMillMeanFolded(t *testing.T) {
	t.Parallel()
	jobs := []impl.MillJob{{}, {Arg: "a"}, {Arg: "12", Outs: []string{"o"}}, {Arg: strings.Repeat("x", 3000), Outs: []string{"a", "ab", "o"}}}
	tool := inMain(`return arg() + dec(1 + 2);`)
	all := [][]impl.MillReply{nil, there("x"), coded(4), coded(5), coded(4, 4, 4, 4, 4, 4), coded(0, 5, 0, 5, 0, 5), there(tool, tool, "x", tool), slices.Repeat(there("7", tool), 50)}
	changed, ended := 0, map[string]int{}
	for _, src := range []string{
		inMain(`return dec(1 + 2 * 3);`),
		inMain(`if 1 < 2 && has("a" + "b") || has("o") { write "o", "a" + "b"; } return read("a" + dec(1));`),
		inMain(`if true || has("a") { say "x" + "y"; } if false && has("a") { say "no"; } while false || has("b") { say dec(len("abc")); } return "";`),
		inMain(`if false || f(1 + 1) { say "f"; } if true && f(2 - 1) && !f(3) { say "g"; } write "o", cut("hello", 1, 3); return dec(~0u8);`) + ` fn f(n i64) -> bool { return n == 1 * 2 && true; }`,
		inMain(`let a = 1 / (2 - 2); return "";`),
		inMain(`let a = 1 - 2; return dec(a / (0 - 1)) + dec(-1 >> 70);`),
		inMain(`say dec(at("abc", 1 + 5)); return "";`),
		inMain(`say cut("abc", 2, 1); return "";`),
		inMain(`return dec(num("1" + "x"));`),
		inMain(`return dec(num("1" + "2") + num(arg()));`),
		inMain(`let s = "0123456789" + "0123456789"; while len(s) < 1 + 2999 { s = s + s; } return s;`),
		inMain(`write "" + "", dec(1); return "";`),
		inMain(`write chr(u8(97)) + "b", dec(300u16 & 255u16); write "a", arg(); write "o", ""; return tool("t" + "u", "x" + "y");`),
		inMain(`let i = 0; while i < 10 * 500 { i = i + (2 - 1); } return "";`),
		inMain(`let i = 0 + 0; while !(1 == 2) { i = i + 1; if i > 60 * 1 { break; } say dec(i); } return "";`),
		`fn f() { if true && true { f(); } } ` + inMain(`f(); return "";`),
		inMain(`fail "a" + ("b" + arg());`),
		inMain(`return list("" + "") + list("a" + " ");`),
		inMain(`return tool("t", "1" + "2") + tool("t", arg() + ("3" + "4"));`),
		inMain(`return dec(u64(0 - 1)) + dec(i8(255)) + dec(255u8 + 1u8) + dec(-0);`),
		inMain(`let a = true || 1 / 0 == 1; let b = false && 1 / 0 == 1; let c = a == b || 1 / 0 == 1; return "";`),
		inMain(`return "` + strings.Repeat("x", 2000) + `" + "` + strings.Repeat("y", 1001) + `";`),
	} {
		b := millOf(t, src)
		if folded := wantMillFolded(t, b.tree()); len(folded.Nodes) < b.size() {
			changed++
		}
		for _, j := range jobs {
			for _, replies := range all {
				turn := wantMillMeant(t, b, j, replies)
				before, after := impl.MillMean(b.tree(), j, replies), impl.MillMean(impl.MillFold(b.tree()), j, replies)
				if !isSameMillTurn(before, after) {
					t.Errorf("%q: %s, folded %s", src, millTurnShown(before), millTurnShown(after))
				}
				ended[strings.Split(turn.Text+" ", " ")[0]]++
				ended[millEndOf(turn)]++
			}
		}
	}
	if changed < 18 {
		t.Errorf("only %d are folded", changed)
	}
	for _, what := range []string{"divide", "range", "number", "long", "name", "output", "said", "deep", "tool", "lacks", "done", "failed", "broken", "spent", "missing", "below", "waits"} {
		if ended[what] == 0 {
			t.Errorf("no run with %s: %v", what, ended)
		}
	}
}

// millEndOf is a word for the Code of a turn.
func millEndOf(turn impl.MillTurn) string {
	if !turn.Over {
		return "waits"
	}
	return strings.Fields("done failed broken spent missing below")[turn.Code]
}

// All programs of three statements out of some, two of them in a loop's block.
func TestMillMeanAllSmallPrograms(t *testing.T) {
	t.Parallel()
	if testing.Short() {
		t.Skip()
	}
	some := []string{
		``, `break;`, `continue;`, `return "r";`, `say "s";`, `i = i + 1;`, `if has("a") { break; } else { say "e"; }`, `if i == 1 { continue; }`, `i = f(i);`, `write "o", dec(i);`, `let V = read("x"); say V;`, `fail "f";`, `while true { i = i + 1; if i > 2 { break; } }`,
		`if i == 2 { } else if has("b") { return "q"; } else { let V = 1; i = i + V; }`, `say tool("t", dec(i));`,
	}
	tool := inMain(`let i = "t"; while has("c") { i = i + arg(); if len(i) > 4 { return i; } } return i;`)
	all := [][]impl.MillReply{
		{{Code: 4}, {Text: "x"}, {Code: 4}, {Text: tool}, {Code: 4}, {Text: tool}, {Code: 4}},
		{{Text: tool}, {Text: tool}, {Code: 0}, {Text: tool}, {Code: 4}, {Text: tool}, {Code: 5}},
	}
	codes := map[string]int{}
	for at := range len(some) * len(some) * len(some) {
		a, b, c := some[at%len(some)], some[at/len(some)%len(some)], some[at/len(some)/len(some)]
		outside := strings.NewReplacer("V", "w", "break;", "", "continue;", "say dec(i);").Replace(c)
		src := `fn f(n i64) -> i64 { if n < 2 { return n + 1; } return f(n - 1); } ` + inMain(`let i = 0; while i < 3 { i = i + 1; `+strings.ReplaceAll(a, "V", "u")+` `+strings.ReplaceAll(b, "V", "v")+` } `+strings.ReplaceAll(outside, "while true { i = i + 1; if i > 2 { } }", "while i < 5 { i = i + 1; }")+` return dec(i);`)
		program := millOf(t, src)
		if fault := impl.MillCheck(program.tree()); fault.Code != 0 {
			t.Fatalf("%q: %+v", src, fault)
		}
		for _, replies := range all {
			turn := wantMillMeant(t, program, impl.MillJob{Outs: []string{"o"}[:at%2]}, replies)
			codes[millEndOf(turn)]++
		}
		if t.Failed() {
			return
		}
	}
	for _, code := range strings.Fields("done failed broken spent missing waits") {
		if codes[code] < 50 {
			t.Errorf("codes %v", codes)
		}
	}
}

// millTamed is a drawn bush in which most of what ends a run at once is taken out.
func (d *clayDice) millTamed(b millBush) millBush {
	kids := make([]millBush, len(b.kids))
	for i, kid := range b.kids {
		kids[i] = d.millTamed(kid)
	}
	name := func() millBush {
		return millGrowText(impl.MillNodeText, d.pick("a", "b", "if", "#", "9", "\"", "\\", "o/p", "a\"b", ""))
	}
	b = millGrow(b.top, kids...)
	if d.below(8) == 0 {
		return b
	}
	switch n := b.top; {
	case n.Kind == impl.MillNodeBuilt && n.Op <= impl.MillBuiltTool || n.Kind == impl.MillNodeWrite:
		b.kids[0] = name()
	case n.Kind == impl.MillNodeBin && (n.Op == impl.MillOpDiv || n.Op == impl.MillOpRem) && b.kids[1].top.Kind == impl.MillNodeInt:
		b.kids[1].top.N = 3
	case n.Kind == impl.MillNodeBuilt && n.Op == impl.MillBuiltNum:
		b.kids[0] = millGrowBuilt(impl.MillBuiltDec, millGrowBuilt(impl.MillBuiltLen, b.kids[0]))
	case n.Kind == impl.MillNodeBuilt && (n.Op == impl.MillBuiltAt || n.Op == impl.MillBuiltCut):
		b.kids[0] = millGrowBin(impl.MillOpAdd, millGrowText(impl.MillNodeText, "abcd"), b.kids[0])
		for i := range b.kids[1:] {
			b.kids[1+i] = millGrowBin(impl.MillOpRem, millGrowBin(impl.MillOpMask, b.kids[1+i], millGrowInt(impl.MillTypeI64, 1<<40)), millGrowInt(impl.MillTypeI64, int64(2+2*i)))
		}
	case n.Kind == impl.MillNodeBlock:
		// The last one of a block may have to end it.
		for i := range len(kids) - 1 {
			if kids[i].top.Kind == impl.MillNodeFail || kids[i].top.Kind == impl.MillNodeReturn && len(kids[i].kids) == 1 && d.below(2) == 0 {
				kids[i] = millGrowKind(impl.MillNodeIf, millGrowBuilt(impl.MillBuiltHas, name()), millGrowBlock(kids[i]))
			}
		}
	}
	return b
}

// millDrawnReplies are replies of all codes, programs among their texts.
func (m *millMaker) millDrawnReplies() []impl.MillReply {
	var replies []impl.MillReply
	for range m.below(12) {
		y := impl.MillReply{}
		switch m.below(8) {
		case 0:
			y.Code = impl.MillMissing
		case 1:
			y.Code = impl.MillBelow
		case 2:
			y.Text = m.text()
		case 3:
			y.Text = inMain(`return arg() + "t";`)
		default:
			tool := &millMaker{clayDice: m.clayDice}
			if text := impl.MillPrint(m.millTamed(tool.program(m.below(3), m.below(3))).tree()); len(text) <= 3000 {
				y.Text = text
			}
		}
		replies = append(replies, y)
	}
	return replies
}

// millDrawnJob is a job whose outs are most of those that a program may write, and at times one more.
func (d *clayDice) millDrawnJob(b millBush) impl.MillJob {
	var outs []string
	for _, write := range b.all(millIs(impl.MillNodeWrite)) {
		if name := write.kids[0].top.Text; write.kids[0].isLiteral() && isMillFileName(name) && d.below(8) > 0 {
			outs = append(outs, name)
		}
	}
	if d.below(8) == 0 {
		outs = append(outs, "z")
	}
	slices.Sort(outs)
	return impl.MillJob{Arg: d.text(), Outs: slices.Compact(outs)}
}

// Promises 19 and 20 for drawn programs, jobs and replies, against the second reading.
func TestMillMeanDrawnPrograms(t *testing.T) {
	t.Parallel()
	dice := clayDice(53)
	m := &millMaker{clayDice: &dice}
	ends := map[string]int{}
	for i := range 6000 {
		b := m.program(dice.below(4), i%4)
		if i%5 != 0 {
			b = dice.millTamed(b)
		}
		if b.size() > 800 {
			continue
		}
		if fault := impl.MillCheck(b.tree()); fault.Code != 0 {
			t.Fatalf("%s%+v", b.text(noBrackets), fault)
		}
		replies := m.millDrawnReplies()
		turn := wantMillMeant(t, b, dice.millDrawnJob(b), replies)
		if t.Failed() {
			return
		}
		ends[millEndOf(turn)]++
		if turn.Code == 2 {
			ends[strings.Split(turn.Text, " ")[0]]++
		}
		if len(turn.Files) > 0 {
			ends["files"]++
		}
	}
	for _, what := range strings.Fields("done failed broken spent missing below waits divide range number name output deep tool lacks files") {
		if ends[what] < 10 {
			t.Errorf("%s: %d of %v", what, ends[what], ends)
		}
	}
}

// Trees that can't be read from a text do the same: those of many nodes, deep ones, texts of any bytes.
func TestMillMeanLargeTrees(t *testing.T) {
	t.Parallel()
	text := func(s string) millBush { return millGrowText(impl.MillNodeText, s) }
	ret := millGrowKind(impl.MillNodeReturn, text("r"))
	main := func(statements ...millBush) millBush {
		return millGrowProgram(millGrowFn("main", impl.MillTypeText, millGrowBlock(append(statements, ret)...)))
	}
	says := millMany(3990, func(i int) millBush {
		return millGrowText(impl.MillNodeLet, fmt.Sprintf("a%d", i), millGrowOne())
	})
	for i := range says {
		// Blocks of 100, so that not too many names are visible.
		says[i] = millGrowText(impl.MillNodeLet, fmt.Sprintf("a%d", i%100), millGrowOne())
	}
	var blocks []millBush
	for from := 0; from < len(says); from += 100 {
		blocks = append(blocks, millGrowKind(impl.MillNodeIf, millGrowBool(1), millGrowBlock(says[from:min(from+100, len(says))]...)))
	}
	if turn := wantMillMeant(t, main(blocks...), impl.MillJob{}, nil); turn.Steps != 4000 || turn.Code != 3 {
		t.Errorf("%s", millTurnShown(turn))
	}
	if turn := wantMillMeant(t, main(blocks[:39]...), impl.MillJob{}, nil); turn.Steps != 2+39*101 || turn.Code != 0 {
		t.Errorf("%s", millTurnShown(turn))
	}
	// A condition of many nodes, evaluated each time round.
	sum := millGrowInt(impl.MillTypeI64, 0)
	for range 8 {
		sum = millGrowBin(impl.MillOpAdd, sum, sum)
	}
	loop := millGrowKind(impl.MillNodeWhile, millGrowBin(impl.MillOpSame, sum, millGrowBin(impl.MillOpMul, millGrowName("z"), millGrowInt(impl.MillTypeI64, 0))), millGrowBlock())
	if turn := wantMillMeant(t, main(millGrowText(impl.MillNodeLet, "z", millGrowOne()), loop), impl.MillJob{}, nil); turn.Steps != 4000 || turn.Code != 3 {
		t.Errorf("%s", millTurnShown(turn))
	}
	// As deep as a tree may be: marks, and blocks.
	deep := millGrowBuilt(impl.MillBuiltHas, text("a"))
	for deep.depth() < impl.MillMaxNest-4 {
		deep = millGrowUn(impl.MillOpNot, deep)
	}
	if turn := wantMillMeant(t, main(millGrowKind(impl.MillNodeIf, deep, millGrowBlock(millGrowKind(impl.MillNodeSay, text("yes"))))), impl.MillJob{}, coded(4)); turn.Code != 0 {
		t.Errorf("%s", millTurnShown(turn))
	}
	nest := millGrowBlock(millGrowKind(impl.MillNodeSay, text("in")))
	for nest.depth() < impl.MillMaxNest-4 {
		nest = millGrowBlock(millGrowKind(impl.MillNodeIf, millGrowBool(1), nest))
	}
	if turn := wantMillMeant(t, main(millGrowKind(impl.MillNodeIf, millGrowBool(1), nest)), impl.MillJob{}, nil); turn.Code != 0 || !slices.Equal(turn.Said, []string{"in"}) {
		t.Errorf("%s", millTurnShown(turn))
	}
	long := text(strings.Repeat("\x00\xff", 1500))
	if turn := wantMillMeant(t, main(millGrowKind(impl.MillNodeSay, long), millGrowKind(impl.MillNodeSay, millGrowBin(impl.MillOpAdd, long, text("x")))), impl.MillJob{}, nil); turn.Text != "long in main" || len(turn.Said) != 1 {
		t.Errorf("%s", millTurnShown(turn))
	}
}

// depth is how many nodes lie below the top, one below the other.
func (b millBush) depth() int {
	deep := 0
	for _, kid := range b.kids {
		deep = max(deep, kid.depth()+1)
	}
	return deep
}

// millTurnTexts are all texts of a turn.
func millTurnTexts(turn impl.MillTurn) []string {
	texts := []string{turn.Text, turn.Name}
	for _, file := range turn.Files {
		texts = append(texts, file.Name, file.Text)
	}
	return append(texts, turn.Said...)
}

func TestMillMeanAnswersNewMemory(t *testing.T) {
	rows := []millRow{
		{src: inMain(`say arg(); say "a literal"; write "first", "a literal"; write "second", arg(); return arg();`)},
		{src: inMain(`let r = read("name"); say r; say r; write "first", r; write "second", r; return r;`), replies: there("a text of a reply")},
		{src: inMain(`write "first", ""; write "second", ""; return "a literal";`)},
		{src: inMain(`say cut("a literal", 2, 5); write "first", cut(arg(), 0, len(arg())); write "second", "" + arg(); return cut(list(""), 1, 4);`), replies: there("a list of names")},
		{src: inMain(`return "x";`)},
		{src: inMain(`write "first", "x"; return "x";`)},
		{src: inMain(`fail "a literal";`)},
		{src: inMain(`fail arg();`)},
		{src: inMain(`fail read("name");`), replies: there("a text of a reply")},
		{src: inMain(`return read("a name");`)},
		{src: inMain(`say arg(); return read("name");`)},
		{src: inMain(`say "said"; if has(arg()) { }` + millGive)},
		{src: inMain(`return read(list("a"));`), replies: there("name")},
		{src: inMain(`return read(arg());`), replies: coded(4)},
		{src: inMain(`return tool("name", "arg of a tool");`), replies: there(`fn func() -> text { say "said in a tool"; return "a literal of a tool"; } ` + inMain(`write "first", arg(); write "second", func(); say arg(); return func();`))},
		{src: inMain(`return tool("name", arg());`), replies: append(there(`fn func() -> text { return dec(1 / 0); } `+inMain(`return func();`)), coded(4)...)},
		{src: inMain(`return tool("name", arg());`), replies: append(there(inMain(`return read(arg() + "!");`)), coded(5)...)},
	}
	texts := 0
	for _, row := range rows {
		nodes, longNodes := withRoom(millOf(t, row.src).nodes(), impl.MillNode{Kind: 99, Text: "room"})
		outs, longOuts := withRoom([]string{string([]byte("first")), string([]byte("second"))}, "room")
		replies, longReplies := withRoom(row.replies, impl.MillReply{Code: 77, Text: "room"})
		given := []string{outs[0], outs[1]}
		for i, n := range nodes {
			nodes[i].Text = string([]byte(n.Text))
			given = append(given, nodes[i].Text)
		}
		for i, y := range replies {
			replies[i].Text = string([]byte(y.Text))
			given = append(given, replies[i].Text)
		}
		j := impl.MillJob{Arg: string([]byte("arg-of-the-job")), Outs: outs}
		given = append(given, j.Arg)
		keptNodes, keptOuts, keptReplies := slices.Clone(longNodes), slices.Clone(longOuts), slices.Clone(longReplies)
		tree := impl.MillTree{Nodes: nodes}
		got := impl.MillMean(tree, j, replies)
		if got.Code == 9 {
			t.Errorf("%q: %s", row.src, millTurnShown(got))
		}
		all := millTurnTexts(got)
		for at, text := range all {
			texts += min(len(text), 1)
			for _, other := range given {
				if sharesBytes(other, text) || sharesBytes(text, other) {
					t.Errorf("%q: the text %q shares memory with an argument", row.src, text)
				}
			}
			for _, other := range all[at+1:] {
				if sharesBytes(other, text) || sharesBytes(text, other) {
					t.Errorf("%q: the text %q stands in two places", row.src, text)
				}
			}
		}
		want, other := fmt.Sprintf("%q", all), impl.MillMean(tree, j, replies)
		for i := range got.Files[:cap(got.Files)] {
			got.Files[:cap(got.Files)][i] = impl.MillFile{Name: "other", Text: "other"}
		}
		for i := range got.Said[:cap(got.Said)] {
			got.Said[:cap(got.Said)][i] = "other"
		}
		if again := impl.MillMean(tree, j, replies); fmt.Sprintf("%q", millTurnTexts(again)) != want || fmt.Sprintf("%q", millTurnTexts(other)) != want {
			t.Errorf("%q: asked again: %s", row.src, millTurnShown(again))
		}
		if !slices.Equal(longNodes, keptNodes) || !slices.Equal(longOuts, keptOuts) || !slices.Equal(longReplies, keptReplies) {
			t.Errorf("%q: an argument was changed", row.src)
		}
		if !impl.MillValidJob(j) || !slices.Equal(longOuts, keptOuts) {
			t.Errorf("%q: the job was changed", row.src)
		}
	}
	if texts < 40 {
		t.Errorf("only %d texts", texts)
	}
}

// wantAtOnce does things beside each other, each several times over; what one tells is wrong.
func wantAtOnce(t *testing.T, all []func() (wrong string)) {
	t.Helper()
	done := make(chan string)
	for _, do := range all {
		go func() {
			wrong := ""
			for i := 0; i < 20 && wrong == ""; i++ {
				wrong = do()
			}
			done <- wrong
		}()
	}
	for range all {
		if wrong := <-done; wrong != "" {
			t.Error(wrong)
		}
	}
}

// Many at once: nothing is kept between calls.
func TestMillMeanKeepsNothing(t *testing.T) {
	b := millOf(t, inMain(`let i = 0; while i < 30 { i = i + 1; say arg() + dec(i); write "o", arg(); } return read(arg());`))
	var all []func() string
	for n := range 8 {
		arg := fmt.Sprint("n", n)
		all = append(all, func() string {
			turn := impl.MillMean(b.tree(), impl.MillJob{Arg: arg, Outs: []string{"o"}}, there(arg+"!"))
			if turn.Text != arg+"!" || len(turn.Said) != 30 || turn.Said[29] != arg+"30" || len(turn.Files) != 1 || turn.Files[0].Text != arg {
				return millTurnShown(turn)
			}
			return ""
		})
	}
	wantAtOnce(t, all)
}

func FuzzMillMean(f *testing.F) {
	f.Add(`fn f(n i64) -> bool { if n == 0 { return has("a"); } else if n > 3 { fail "x"; } return !f(n - 1); } fn main() -> text { let s = arg(); while len(s) < 5 && f(len(s)) { s = s + read("b"); if s == "" { continue; } write "o", s; } say list(""); return tool("t", s); }`, "a", "o", "x", inMain(`return arg() + "!";`))
	f.Add(inMain(`let i = 0u8; while true { i = i * 3u8 + 1u8; if i == 40u8 { break; } say dec(i); } return cut(arg(), 0, 1 + 1);`), "abc", "", "", "")
	f.Fuzz(func(t *testing.T, src, arg, out, first, second string) {
		tree, fault := impl.MillParse(src)
		if fault.Code != 0 || len(tree.Nodes) > 1000 || len(src) > 2000 {
			return
		}
		j := impl.MillJob{Arg: arg, Outs: []string{out}}
		if out == "" {
			j.Outs = nil
		}
		replies := append(there(first, second, first), impl.MillReply{Code: 4})
		if impl.MillCheck(tree).Code != 0 || len(arg) > 3000 || len(first) > 3000 || len(second) > 3000 || out != "" && !isMillFileName(out) {
			if got := impl.MillMean(tree, j, replies); !isSameMillTurn(got, impl.MillTurn{Code: 9}) {
				t.Errorf("%q: %s", src, millTurnShown(got))
			}
			return
		}
		b, _, _ := millBushOf(tree.Nodes)
		wantMillMeant(t, b, j, replies)
	})
}
