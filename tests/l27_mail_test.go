package tests

import (
	"fmt"
	"hash/fnv"
	"maps"
	"reflect"
	"slices"
	"strings"
	"testing"

	"loop.example/kilnyard/impl"
)

// yardSealed is lines behind their tag.
func yardSealed(lines, key string) string {
	sum := fnv.New64a()
	sum.Write([]byte(key + "\x00" + lines))
	return string(sum.Sum(nil)) + lines
}

func couldTurnByRules(turn impl.MillTurn) bool {
	if turn.Over {
		return turn.Kind == 0 && turn.Name == "" && couldEndByRules(turn)
	}
	return couldLookByRules(turn.Kind, turn.Name) && isSameMillTurn(turn, impl.MillTurn{Kind: turn.Kind, Name: turn.Name})
}

func yardTurnForm(turn impl.MillTurn) string {
	if turn.Over {
		return yardEndForm(turn)
	}
	return fmt.Sprintf("look %d %s\n", turn.Kind, clayQuoted(turn.Name))
}

// yardLinesByRules is a second reading of how the lines of a message are written.
func yardLinesByRules(m impl.YardMessage) string {
	noSeen, noTurn := len(m.Seen) == 0, isSameMillTurn(m.Turn, impl.MillTurn{})
	isTime := m.Epoch >= 1 && m.Epoch <= 200 && m.Edit >= 0 && m.Edit <= 1000
	toWorker, fromWorker := m.To >= 1 && m.To <= 4 && m.From == 0, m.From >= 1 && m.From <= 4 && m.To == 0
	target := m.Target
	switch {
	case m.Kind == 1 && toWorker && isTime && couldBeOrderByRules(target) && couldSeeByRules(target, m.Seen) && m.Count == 0 && noTurn:
		return fmt.Sprintf("offer %d %d %d %s %s %s\n", m.To, m.Epoch, m.Edit, target.Name, target.Tool, clayQuoted(target.Arg)) + yardLooksForm(target, m.Seen)
	case m.Kind == 2 && fromWorker && isTime && isSameTarget(target, impl.ClayTarget{Name: target.Name}) && isMillFileName(target.Name) && noSeen && m.Count >= 0 && m.Count <= 301 && couldTurnByRules(m.Turn):
		return fmt.Sprintf("turn %d %d %d %s %d\n", m.From, m.Epoch, m.Edit, target.Name, m.Count) + yardTurnForm(m.Turn)
	case m.Kind == 3 && fromWorker && m.Epoch == 0 && m.Edit == 0 && isSameTarget(target, impl.ClayTarget{}) && noSeen && m.Count == 0 && noTurn:
		return fmt.Sprintf("here %d\n", m.From)
	}
	return ""
}

func yardPackByRules(m impl.YardMessage, key string) string {
	lines := yardLinesByRules(m)
	if lines == "" || len(key) > 30 {
		return ""
	}
	return yardSealed(lines, key)
}

// yardOpenByRules is a second reading of a text as a message: lines are read loosely, and what comes of them has to be written just so.
func yardOpenByRules(s, key string) (impl.YardMessage, bool) {
	if len(s) <= 8 {
		return impl.YardMessage{}, false
	}
	r := yardLinesOf(s[8:])
	var m impl.YardMessage
	switch {
	case r.begins("offer"):
		parts := r.take("offer")
		m = impl.YardMessage{Kind: 1, To: decimalOf(parts[0]), Epoch: decimalOf(parts[1]), Edit: decimalOf(parts[2]), Target: impl.ClayTarget{Name: parts[3], Tool: parts[4], Arg: parts[5]}}
		m.Seen = r.looks(&m.Target)
	case r.begins("turn"):
		parts := r.take("turn")
		m = impl.YardMessage{Kind: 2, From: decimalOf(parts[0]), Epoch: decimalOf(parts[1]), Edit: decimalOf(parts[2]), Target: impl.ClayTarget{Name: parts[3]}, Count: decimalOf(parts[4])}
		if r.begins("look") {
			parts = r.take("look")
			m.Turn = impl.MillTurn{Kind: decimalOf(parts[0]), Name: parts[1]}
		} else {
			m.Turn = r.end()
		}
	case r.begins("here"):
		m = impl.YardMessage{Kind: 3, From: decimalOf(r.take("here")[0])}
	}
	if r.wrong || len(r.lines) > 0 || yardPackByRules(m, key) != s {
		return impl.YardMessage{}, false
	}
	return m, true
}

func isSameMessage(a, b impl.YardMessage) bool {
	return a.Kind == b.Kind && a.To == b.To && a.From == b.From && a.Epoch == b.Epoch && a.Edit == b.Edit && a.Count == b.Count && isSameTarget(a.Target, b.Target) && slices.Equal(a.Seen, b.Seen) && isSameMillTurn(a.Turn, b.Turn)
}

func messageShown(m impl.YardMessage) string { return fmt.Sprintf("%.2500q", fmt.Sprintf("%+v", m)) }

// wantPack holds Pack against the second reading, and asks for promise 38 of what has a form.
func wantPack(t *testing.T, m impl.YardMessage, key string) string {
	t.Helper()
	before := fmt.Sprint(m)
	got, want := impl.YardPack(m, key), yardPackByRules(m, key)
	if got != want {
		t.Errorf("%s under %q: got %.1000q, want %.1000q", messageShown(m), key, got, want)
	}
	if fmt.Sprint(m) != before {
		t.Errorf("%s: changed", messageShown(m))
	}
	if got == "" {
		return ""
	}
	if back, is := impl.YardOpen(got, key); !is || !isSameMessage(back, m) {
		t.Errorf("%s under %q: read back %v: %s", messageShown(m), key, is, messageShown(back))
	}
	if back, is := impl.YardOpen(got, key+"x"); is || !isSameMessage(back, impl.YardMessage{}) {
		t.Errorf("%s under %q: read back with another key: %s", messageShown(m), key, messageShown(back))
	}
	return got
}

// wantMailed asks for the lines of a message; empty ones, if it has no form.
func wantMailed(t *testing.T, m impl.YardMessage, lines string) {
	t.Helper()
	want := ""
	if lines != "" {
		want = yardSealed(lines, "k")
	}
	if got := wantPack(t, m, "k"); got != want {
		t.Errorf("%s: %.1000q, want %.1000q", messageShown(m), got, want)
	}
}

// wantMessageOpen holds Open against the second reading: what is read is written as the same text; with false there is nothing.
func wantMessageOpen(t *testing.T, s, key string) bool {
	t.Helper()
	got, is := impl.YardOpen(s, key)
	want, wants := yardOpenByRules(s, key)
	switch {
	case is != wants || !isSameMessage(got, want):
		t.Errorf("%.1000q under %q: got %v, %s, want %v, %s", s, key, is, messageShown(got), wants, messageShown(want))
	case is && impl.YardPack(got, key) != s:
		t.Errorf("%.1000q is read, but written %.1000q", s, impl.YardPack(got, key))
	case !is && !isSameMessage(got, impl.YardMessage{}):
		t.Errorf("%.1000q: %s", s, messageShown(got))
	}
	return is
}

// wantNoMail asks that lines are none of a message, though their tag is right.
func wantNoMail(t *testing.T, all ...string) {
	t.Helper()
	for _, lines := range all {
		if wantMessageOpen(t, yardSealed(lines, "k"), "k") {
			t.Errorf("%.1000q is read", lines)
		}
	}
}

// someOffer, someEnd, someLook and someHere are messages with something in each part that they use.
func someOffer() impl.YardMessage {
	k := someKept()
	return impl.YardMessage{Kind: 1, To: 2, Epoch: 7, Edit: 3, Target: k.Target, Seen: k.Made.Seen}
}

func someEnd() impl.YardMessage {
	return impl.YardMessage{Kind: 2, From: 3, Epoch: 7, Edit: 12, Target: impl.ClayTarget{Name: "n"}, Count: 4, Turn: endOf(someKept().Made)}
}

func someLook() impl.YardMessage {
	m := someEnd()
	m.Turn = impl.MillTurn{Kind: 2, Name: "\"h\""}
	return m
}

func someHere() impl.YardMessage { return impl.YardMessage{Kind: 3, From: 4} }

const (
	someOfferLines = "offer 2 7 3 n t \"arg\"\nin i\nin j\nout o\nout p\nsaw 1 0 \"i\" \"I\"\nsaw 2 4 \"h\" \"\"\nsaw 3 0 \"\" \"a\\0ab\\0a\"\nsaw 1 5 \"j\" \"\"\n"
	someEndLines   = "turn 3 7 12 n 4\nwrote o \"A\"\nwrote p \"\\22B\\22\"\nsaid \"\"\nsaid \"b c\"\nover 1 12 \"x\\0a\"\n"
	someLookLines  = "turn 3 7 12 n 4\nlook 2 \"\\22h\\22\"\n"
	someHereLines  = "here 4\n"
)

func someMessages() map[string]impl.YardMessage {
	return map[string]impl.YardMessage{someOfferLines: someOffer(), someEndLines: someEnd(), someLookLines: someLook(), someHereLines: someHere()}
}

func TestYardMailConstants(t *testing.T) {
	if impl.YardMaxEdits != 1000 || impl.YardMaxWorkers != 4 {
		t.Error(impl.YardMaxEdits, impl.YardMaxWorkers)
	}
	if impl.YardOffer != 1 || impl.YardTurn != 2 || impl.YardHere != 3 {
		t.Error(impl.YardOffer, impl.YardTurn, impl.YardHere)
	}
}

func TestYardPack(t *testing.T) {
	for lines, m := range someMessages() {
		wantMailed(t, m, lines)
	}
	// By hand, with its tag.
	if got := wantPack(t, someHere(), "k"); got != "\x05\x59\xa1\xf0\x32\x83\x9b\x52here 4\n" {
		t.Errorf("%q", got)
	}
	offer := someOffer()
	offer.Seen = nil
	wantMailed(t, offer, "offer 2 7 3 n t \"arg\"\nin i\nin j\nout o\nout p\n")
	offer.Target = orderOf("n t > o")
	wantMailed(t, offer, "offer 2 7 3 n t \"\"\nout o\n")
	turn := someEnd()
	turn.Turn = impl.MillTurn{Over: true}
	wantMailed(t, turn, "turn 3 7 12 n 4\nover 0 0 \"\"\n")
	turn.Turn = impl.MillTurn{Kind: 3}
	wantMailed(t, turn, "turn 3 7 12 n 4\nlook 3 \"\"\n")
	turn.Turn = impl.MillTurn{Kind: 1, Name: "look"}
	wantMailed(t, turn, "turn 3 7 12 n 4\nlook 1 \"look\"\n")
	turn.Turn = impl.MillTurn{}
	wantMailed(t, turn, "")
	for _, kind := range []int{-1, 0, 4, 5, 1 << 40, -1 << 63} {
		for _, m := range someMessages() {
			m.Kind = kind
			wantMailed(t, m, "")
		}
		wantMailed(t, impl.YardMessage{Kind: kind}, "")
	}
	for kind := range 4 {
		wantMailed(t, impl.YardMessage{Kind: kind}, "")
	}
}

// To, From, Epoch, Edit and Count at the ends of their bounds, and behind them.
func TestYardPackBounds(t *testing.T) {
	far := []int{-1 << 63, -1 << 32, 1 << 32, 1<<32 + 1, 1<<63 - 1}
	ask := func(what string, least, most int, m impl.YardMessage, change func(m *impl.YardMessage, n int)) {
		t.Helper()
		for _, n := range append(far, least-2, least-1, least, least+1, most-1, most, most+1, most+2, 10*most) {
			bent := m
			change(&bent, n)
			if got := wantPack(t, bent, "k"); (got != "") != (n >= least && n <= most) {
				t.Errorf("%s %d of kind %d: %.300q", what, n, m.Kind, got)
			}
		}
	}
	ask("To", 1, 4, someOffer(), func(m *impl.YardMessage, n int) { m.To = n })
	for _, m := range []impl.YardMessage{someEnd(), someLook(), someHere()} {
		ask("From", 1, 4, m, func(m *impl.YardMessage, n int) { m.From = n })
		ask("To", 0, 0, m, func(m *impl.YardMessage, n int) { m.To = n })
	}
	for _, m := range []impl.YardMessage{someOffer(), someEnd(), someLook()} {
		ask("Epoch", 1, 200, m, func(m *impl.YardMessage, n int) { m.Epoch = n })
		ask("Edit", 0, 1000, m, func(m *impl.YardMessage, n int) { m.Edit = n })
	}
	for _, m := range []impl.YardMessage{someEnd(), someLook()} {
		ask("Count", 0, 301, m, func(m *impl.YardMessage, n int) { m.Count = n })
	}
	ask("Count", 0, 0, someOffer(), func(m *impl.YardMessage, n int) { m.Count = n })
	ask("From", 0, 0, someOffer(), func(m *impl.YardMessage, n int) { m.From = n })
	for _, change := range []func(m *impl.YardMessage, n int){
		func(m *impl.YardMessage, n int) { m.Epoch = n }, func(m *impl.YardMessage, n int) { m.Edit = n }, func(m *impl.YardMessage, n int) { m.Count = n },
	} {
		ask("what is not used", 0, 0, someHere(), change)
	}
}

func TestYardPackOffers(t *testing.T) {
	ask := func(what string, is bool, change func(m *impl.YardMessage)) {
		t.Helper()
		m := someOffer()
		change(&m)
		if got := wantPack(t, m, "k"); (got != "") != is {
			t.Errorf("%s: %.300q", what, got)
		}
	}
	for _, order := range yardOrders() {
		ask(order.what, order.is, func(m *impl.YardMessage) { m.Target = order.target })
		ask(order.what+", no looks", order.is, func(m *impl.YardMessage) { m.Target, m.Seen = order.target, nil })
	}
	for _, look := range yardLooksOf() {
		ask(look.what, look.is, func(m *impl.YardMessage) { m.Seen = []impl.MillSeen{look.one} })
		ask(look.what+" at the end", look.is, func(m *impl.YardMessage) { m.Seen = append(slices.Clip(m.Seen), look.one) })
	}
	for _, ins := range []int{0, 1, 2, 200} {
		for _, more := range []int{0, 1, 99, 100, 101, 102} {
			ask(fmt.Sprint(ins, " ins, ", ins+1+more, " looks"), more <= 100, func(m *impl.YardMessage) {
				m.Target.Ins, m.Seen = numberedNames("i", ins), slices.Repeat([]impl.MillSeen{saw(2, "x", 4)}, ins+1+more)
			})
		}
	}
	ask("all at most", true, func(m *impl.YardMessage) {
		long := strings.Repeat("\xff", 3000)
		m.To, m.Epoch, m.Edit = 4, 200, 1000
		m.Target = impl.ClayTarget{Name: strings.Repeat("n", 60), Tool: strings.Repeat("t", 60), Arg: long, Ins: numberedNames(strings.Repeat("i", 57), 200), Outs: numberedNames(strings.Repeat("o", 57), 20)}
		m.Seen = slices.Repeat([]impl.MillSeen{sawList(strings.Repeat("s", 60), long)}, 301)
	})
}

func TestYardPackTurns(t *testing.T) {
	ask := func(what string, is bool, turn impl.MillTurn) {
		t.Helper()
		m := someEnd()
		m.Turn = turn
		if got := wantPack(t, m, "k"); (got != "") != is {
			t.Errorf("%s: %.300q", what, got)
		}
	}
	for what, end := range yardEnds() {
		ask(what, couldEndByRules(end), end)
		// Over, it has no look.
		for _, look := range []impl.MillTurn{{Kind: 1, Name: "a"}, {Kind: 3}, {Kind: -1}, {Name: "a"}, {Name: " "}} {
			bent := end
			bent.Kind, bent.Name = look.Kind, look.Name
			ask(what+" with a look", false, bent)
		}
		// Not over, it has nothing of an end.
		end.Over = false
		ask(what+", but not over", false, end)
		end.Kind, end.Name = 1, "a"
		ask(what+", but at a look", isSameMillTurn(end, impl.MillTurn{Kind: 1, Name: "a"}), end)
	}
	for _, look := range yardLooksOf() {
		turn := impl.MillTurn{Kind: look.one.Kind, Name: look.one.Name}
		ask(look.what, couldLookByRules(turn.Kind, turn.Name), turn)
	}
	for _, name := range slices.Concat(millNames(), millNoNames(), []string{""}) {
		for _, m := range []impl.YardMessage{someEnd(), someLook()} {
			m.Target.Name = name
			if got := wantPack(t, m, "k"); (got != "") != isMillFileName(name) {
				t.Errorf("%q: %.300q", name, got)
			}
		}
	}
}

// Of all that is in a message, what its kind does not use is nothing.
func TestYardPackNotUsed(t *testing.T) {
	if many := len(leavesOf(reflect.TypeFor[impl.YardMessage]())); many != 20 {
		t.Fatalf("%d fields", many)
	}
	uses := map[string]string{
		someOfferLines: "To Epoch Edit Target.Name Target.Tool Target.Arg Target.Ins Target.Outs Seen",
		someEndLines:   "From Epoch Edit Target.Name Count Turn.Code Turn.Text Turn.Steps Turn.Files Turn.Said",
		someLookLines:  "From Epoch Edit Target.Name Count Turn.Kind Turn.Name",
		someHereLines:  "From",
	}
	for lines, m := range someMessages() {
		used := strings.Fields(uses[lines])
		changed := 0
		for name, all := range bentLeaves(m) {
			for _, bent := range all {
				got := wantPack(t, bent, "k")
				if got != "" {
					changed++
				}
				if !slices.Contains(used, name) && got != "" {
					t.Errorf("%s of kind %d: %q", name, m.Kind, got)
				}
			}
		}
		if changed < len(used) {
			t.Errorf("%s: only %d have a form", messageShown(m), changed)
		}
		// Empty lists are none.
		empty := m
		for _, list := range []*[]string{&empty.Target.Ins, &empty.Target.Outs, &empty.Turn.Said} {
			if *list == nil {
				*list = []string{}
			}
		}
		if empty.Seen == nil {
			empty.Seen = []impl.MillSeen{}
		}
		if empty.Turn.Files == nil {
			empty.Turn.Files = []impl.MillFile{}
		}
		wantMailed(t, empty, lines)
	}
	// One that has all that another kind uses, too.
	for _, a := range someMessages() {
		for _, b := range someMessages() {
			both := a
			if both.Kind != b.Kind {
				both.To, both.From = max(a.To, b.To), max(a.From, b.From)
				both.Epoch, both.Edit, both.Count = max(a.Epoch, b.Epoch), max(a.Edit, b.Edit), max(a.Count, b.Count)
				wantPack(t, both, "k")
				both.Kind = b.Kind
				wantPack(t, both, "k")
				both.Target, both.Seen, both.Turn = b.Target, b.Seen, b.Turn
				wantPack(t, both, "k")
			}
		}
	}
}

// Every byte, in each text that stands in quotes, also beside the other text of the line.
func TestYardPackQuotes(t *testing.T) {
	texts := []string{"", "\" \"", "\\22", "\" \"\n", "look 1 \"a\"\n", "\nover 0 0 \"\"\n", "é"}
	all := ""
	for b := range 256 {
		one := string([]byte{byte(b)})
		all += one
		texts = append(texts, one, "\""+one+"\"", " "+one+" ")
	}
	for _, text := range append(texts, all) {
		offer, end := someOffer(), someEnd()
		offer.Target.Arg, offer.Seen[0].Reply.Text, offer.Seen[2].Reply.Text = text, text, text
		end.Turn.Text, end.Turn.Said, end.Turn.Files[0].Text = text, []string{text, "", text}, text
		for _, m := range []impl.YardMessage{offer, end} {
			if form := wantPack(t, m, "k"); form == "" || !wantMessageOpen(t, form, "k") {
				t.Errorf("%q: %q", text, form)
			}
		}
	}
	for _, name := range append(millNames(), "") {
		offer, look := someOffer(), someLook()
		offer.Seen[2], look.Turn = sawList(name, name+"\" \""+name), impl.MillTurn{Kind: 3, Name: name}
		for _, m := range []impl.YardMessage{offer, look} {
			if form := wantPack(t, m, "k"); !strings.Contains(form, clayQuoted(name)) {
				t.Errorf("%q: %q", name, form)
			}
		}
	}
}

func TestYardMailKeys(t *testing.T) {
	keys := []string{"", "a", "b", "k", "ab", "ba", "\x00", "\x00\x00", "k\x00", "\x00k", "\x80", "\xff", "\n", "here 4\n", strings.Repeat("k", 29), strings.Repeat("k", 30), strings.Repeat("\xff", 30)}
	none := []string{strings.Repeat("k", 31), strings.Repeat("\x00", 31), strings.Repeat("k", 1000), strings.Repeat("é", 16)}
	for lines, m := range someMessages() {
		for _, key := range keys {
			form := wantPack(t, m, key)
			if form != yardSealed(lines, key) {
				t.Errorf("%q: %.300q", key, form)
			}
			for _, other := range append(keys, none...) {
				if is := wantMessageOpen(t, form, other); is != (other == key) {
					t.Errorf("%q under %q, opened with %q: %v", lines, key, other, is)
				}
			}
		}
		// With what is no key nothing is written, and nothing is read: neither with no tag, nor with the one that it would have.
		for _, key := range none {
			if got := wantPack(t, m, key); got != "" {
				t.Errorf("%q: %.300q", key, got)
			}
			for _, s := range []string{lines, yardSealed(lines, key), strings.Repeat("\x00", 8) + lines} {
				if wantMessageOpen(t, s, key) {
					t.Errorf("%q under %q is read", s, key)
				}
			}
		}
	}
	// Where a key ends its byte 0 could be the first one of the lines.
	wantNoMail(t, "\x00here 4\n", "\x00\x00here 4\n")
	if wantMessageOpen(t, yardSealed("\x00here 4\n", ""), "\x00") || wantMessageOpen(t, yardSealed("here 4\n", "\x00"), "") {
		t.Error("the byte 0 behind the key")
	}
}

// A tag, or what it stands ahead of, with one bit changed; and with less.
func TestYardMailBits(t *testing.T) {
	for _, m := range someMessages() {
		form := wantPack(t, m, "k")
		for at := range len(form) {
			for bit := range 8 {
				bytes := []byte(form)
				bytes[at] ^= 1 << bit
				if wantMessageOpen(t, string(bytes), "k") {
					t.Errorf("bit %d of byte %d: %q", bit, at, bytes)
				}
			}
			for _, s := range []string{form[:at], form[at+1:], form[:at] + form[at+1:], form[:at] + form[at:at+1] + form[at:]} {
				if wantMessageOpen(t, s, "k") {
					t.Errorf("%q", s)
				}
			}
		}
		for _, s := range []string{form + "\n", form + form, "\x00" + form, form[8:], form[8:] + form[:8], form[:8] + form} {
			if wantMessageOpen(t, s, "k") {
				t.Errorf("%q", s)
			}
		}
	}
	// Fewer than 8 bytes, and just these.
	for size := range 9 {
		for _, s := range []string{"here 4\nhere", "\x00\x00\x00\x00\x00\x00\x00\x00", yardSealed("", "k"), yardSealed("", ""), yardSealed("here 4\n", "k"), "\n\n\n\n\n\n\n\n"} {
			for _, key := range []string{"k", "", "\x00", strings.Repeat("k", 31)} {
				if wantMessageOpen(t, s[:size], key) {
					t.Errorf("%q is read", s[:size])
				}
			}
		}
	}
}

// Promise 38: nothing else is read, also where its tag is right.
func TestYardOpenNothingElse(t *testing.T) {
	counts := map[bool]int{}
	more := []string{"offer 1 1 0 n t \"\"\nout o\n", "turn 1 200 1000 n 301\nlook 1 \"a\"\n", "turn 1 1 0 n 0\nover 0 0 \"\"\n", "turn 1 1 0 look 10\nlook 3 \"\"\n", "here 1\n"}
	for _, lines := range append(slices.Sorted(maps.Keys(someMessages())), more...) {
		if !wantMessageOpen(t, yardSealed(lines, "k"), "k") {
			t.Errorf("%q is not read", lines)
		}
		for _, bent := range bentTexts(lines) {
			counts[wantMessageOpen(t, yardSealed(bent, "k"), "k")]++
		}
	}
	if counts[true] < 300 || counts[false] < 10000 {
		t.Error(counts)
	}
	wantNoMail(t, "", "\n", " ", "x\n", "here\n", "here \n", "here 0\n", "here 5\n", "here 01\n", "here +1\n", "here -1\n", "here 1 \n", "here  1\n", " here 1\n", "here 1", "here 1\n\n", "here 1\r\n", "here 1\nhere 1\n", "here 1\nhere 2\n", "Here 1\n", "here 1 2\n", "here1\n", "here a\n", "here \"1\"\n", "here 18446744073709551617\n", "here 1\nover 0 0 \"\"\n", "here 1\nlook 3 \"\"\n")
	wantNoMail(t, "offer 1 1 0 n t \"\"\n", "offer 1 1 0 n t\nout o\n", "offer 1 1 0 n \"\"\nout o\n", "offer 1 1 n t \"\"\nout o\n", "offer 0 1 0 n t \"\"\nout o\n", "offer 5 1 0 n t \"\"\nout o\n", "offer 1 0 0 n t \"\"\nout o\n", "offer 1 201 0 n t \"\"\nout o\n", "offer 1 1 -1 n t \"\"\nout o\n", "offer 1 1 1001 n t \"\"\nout o\n", "offer 1 1 00 n t \"\"\nout o\n", "offer 1 1 0 n t \"\"\nout o\nin i\n", "offer 1 1 0 n t \"\"\nin j\nin i\nout o\n", "offer 1 1 0 n t \"\"\nout o\nout o\n", "offer 1 1 0 n t \"\"\nout o\nover 0 0 \"\"\n", "offer 1 1 0 n t \"\"\nout o\nlook 3 \"\"\n", "offer 1 1 0 n t \"\"\nsaw 1 0 \"i\" \"\"\nout o\n", "offer 1 1 0 n t \"\"\nout o\nsaw 4 0 \"i\" \"\"\n", "offer 1 1 0 n t \"\"\nout o\nsaw 1 4 \"i\" \"x\"\n", "offer 1 1 0 n t \"\"\nout o\nsaw 1 0 \"i\"\"\"\n", "offer 1 1 0 n t \"\"\nout o\nsaw 1 0 \"\\69\" \"\"\n", "offer 1 1 0 n t \"\\6e\"\nout o\n", "offer 1 1 0 n t \"\"\nout o\nwrote o \"\"\n")
	wantNoMail(t, "turn 1 1 0 n 0\n", "turn 1 1 0 n\nlook 3 \"\"\n", "turn 1 1 0 n 0\nlook 3 \"\"\nover 0 0 \"\"\n", "turn 1 1 0 n 0\nover 0 0 \"\"\nlook 3 \"\"\n", "turn 1 1 0 n 0\nlook 3 \"\"\nlook 3 \"\"\n", "turn 1 1 0 n 0\nsaid \"\"\nlook 3 \"\"\n", "turn 1 1 0 n 0\nwrote o \"\"\nlook 3 \"\"\n", "turn 1 1 0 n 0\nlook 1 \"\"\n", "turn 1 1 0 n 0\nlook 0 \"\"\n", "turn 1 1 0 n 0\nlook 4 \"a\"\n", "turn 1 1 0 n 0\nlook 1 \"a b\"\n", "turn 1 1 0 n 0\nlook 1 \"\\61\"\n", "turn 1 1 0 n 0\nlook 1 a\n", "turn 1 1 0 n 0\nlook 1\n", "turn 1 1 0 n 0\nlook 1 \"a\" \"\"\n", "turn 1 1 0 n 302\nlook 3 \"\"\n", "turn 1 1 0 n -1\nlook 3 \"\"\n", "turn 0 1 0 n 0\nlook 3 \"\"\n", "turn 5 1 0 n 0\nlook 3 \"\"\n", "turn 1 0 0 n 0\nlook 3 \"\"\n", "turn 1 201 0 n 0\nlook 3 \"\"\n", "turn 1 1 1001 n 0\nlook 3 \"\"\n", "turn 1 1 0  0\nlook 3 \"\"\n", "turn 1 1 0 "+strings.Repeat("n", 61)+" 0\nlook 3 \"\"\n", "turn 1 1 0 n 0\nover 6 0 \"\"\n", "turn 1 1 0 n 0\nover 0 4001 \"\"\n", "turn 1 1 0 n 0\nover 0 0\n", "turn 1 1 0 n 0\nsaid \"\"\nwrote o \"\"\nover 0 0 \"\"\n", "turn 1 1 0 n 0\nin i\nover 0 0 \"\"\n", "turn 1 1 0 n t \"\" 0\nlook 3 \"\"\n")
	// However long.
	wantNoMail(t, strings.Repeat("x", 1000000), "here "+strings.Repeat("0", 1000000)+"1\n", strings.Repeat("here 1\n", 100000), "turn 1 1 0 n 0\n"+strings.Repeat("said \"\"\n", 100000)+"over 0 0 \"\"\n", "offer 1 1 0 n t \""+strings.Repeat("x", 1000000))
}

// Entries are no messages, and messages no entries.
func TestYardMailNoEntries(t *testing.T) {
	for _, form := range []string{"epoch 1\n", "file a \"\"\n", "drop a\n", "clear\n", someKeptForm} {
		wantNoMail(t, form)
		if wantMessageOpen(t, form, "k") {
			t.Errorf("%q", form)
		}
	}
	for lines := range someMessages() {
		wantNoEntry(t, lines, yardSealed(lines, "k"), yardSealed(lines, ""))
	}
}

// What a worker is offered and what it answers has a form, however far the run has come.
func TestYardMailRuns(t *testing.T) {
	ask := func(k impl.HouseKept) {
		t.Helper()
		for many := range len(k.Made.Seen) + 1 {
			offer := someOffer()
			offer.Target, offer.Seen = k.Target, k.Made.Seen[:many]
			back, is := impl.YardOpen(wantPack(t, offer, "k"), "k")
			if !is {
				t.Fatalf("%s has no form", messageShown(offer))
			}
			turn := someEnd()
			turn.Target.Name, turn.Count, turn.Turn = back.Target.Name, len(back.Seen), impl.YardGo(back.Target, back.Seen)
			if wantPack(t, turn, "k") == "" || turn.Turn.Over != (k.Made.Over && many == len(k.Made.Seen)) {
				t.Errorf("%s", messageShown(turn))
			}
		}
	}
	for _, k := range honestRuns() {
		ask(k)
	}
	dice := clayDice(2701)
	a := houseAuthor{&dice}
	for range 40 {
		p := a.house()
		plan := impl.HousePlan(p, "main")
		for at, made := range impl.HouseMeaning(p, "main") {
			ask(impl.HouseKept{Target: plan.Targets[at], Made: made})
		}
	}
}

func (a houseAuthor) drawnMessage() impl.YardMessage {
	k := a.drawnKept()
	m := impl.YardMessage{Epoch: 1 + a.below(200), Edit: a.below(1001)}
	switch a.below(6) {
	case 0, 1:
		m.Kind, m.To, m.Target, m.Seen = 1, 1+a.below(4), k.Target, k.Made.Seen
	case 2, 3:
		m.Kind, m.From, m.Target.Name, m.Count, m.Turn = 2, 1+a.below(4), k.Target.Name, a.below(302), endOf(k.Made)
	case 4:
		m.Kind, m.From, m.Target.Name, m.Count = 2, 1+a.below(4), k.Target.Name, a.below(302)
		m.Turn = impl.MillTurn{Kind: 1 + a.below(3), Name: a.pick("a", "\"", "\\", "\"\"", "over", "0")}
	default:
		m = impl.YardMessage{Kind: 3, From: 1 + a.below(4)}
	}
	return m
}

// Promise 38 for drawn messages and keys, and for texts that are nearly forms.
func TestYardMessagesDrawn(t *testing.T) {
	t.Parallel()
	dice := clayDice(2702)
	a := houseAuthor{&dice}
	counts := map[string]int{}
	for range 3000 {
		m, key := a.drawnMessage(), a.pick("", "k", "\x00", "key\xff", strings.Repeat("k", 30))
		form := wantPack(t, m, key)
		if form == "" {
			t.Fatalf("%s has no form", messageShown(m))
		}
		for range 4 {
			counts[fmt.Sprint("bent lines ", wantMessageOpen(t, yardSealed(a.drawnBent(form[8:]), key), key))]++
			counts[fmt.Sprint("bent ", wantMessageOpen(t, a.drawnBent(form), key))]++
		}
		all := bentLeaves(m)
		for _, name := range slices.Sorted(maps.Keys(all)) {
			bent := all[name]
			counts[fmt.Sprint("a form ", wantPack(t, bent[a.below(len(bent))], key) != "")]++
		}
		if t.Failed() {
			return
		}
	}
	// A bent text is read only where it was bent back.
	for what, least := range map[string]int{"bent lines true": 1000, "bent lines false": 5000, "bent false": 10000, "a form true": 5000, "a form false": 30000} {
		if counts[what] < least {
			t.Errorf("%s: %v", what, counts)
		}
	}
}

// No argument is changed, nor what lies behind its lists; answers are new memory, and no two parts of one share any.
func TestYardMailOwnMemory(t *testing.T) {
	dice := clayDice(2703)
	a := houseAuthor{&dice}
	all := slices.Collect(maps.Values(someMessages()))
	all = append(all, impl.YardMessage{}, impl.YardMessage{Kind: 1, To: 1, Epoch: 1, Target: orderOf("a a a < a b > a b"), Seen: []impl.MillSeen{sawRead("a", "a"), sawRead("b", "a")}})
	for range 200 {
		all = append(all, a.drawnMessage())
	}
	pieces := 0
	for _, m := range all {
		roomy, seen := roomyOf(m)
		before, key := seen(), string([]byte("key"))
		form := impl.YardPack(roomy, key)
		wantNewMemory(t, form, roomy, key)
		if seen() != before {
			t.Errorf("%s: changed", messageShown(m))
		}
		back, _ := impl.YardOpen(form, key)
		wantNewMemory(t, back, form, key)
		pieces += len(memoryOf(reflect.ValueOf(back), "", nil))
		again, _ := impl.YardOpen(form, key)
		wantNewMemory(t, again, form, back)
		// What is done to an answer does not come back.
		for i := range back.Seen {
			back.Seen[i].Name = "other"
		}
		if third, _ := impl.YardOpen(form, key); !isSameMessage(third, again) {
			t.Errorf("%s, again %s", messageShown(again), messageShown(third))
		}
	}
	if pieces < 1000 {
		t.Errorf("only %d pieces of memory", pieces)
	}
}

// Many at once: nothing is kept between calls.
func TestYardMailKeepsNothing(t *testing.T) {
	var all []func() string
	for n := range 8 {
		for lines, m := range someMessages() {
			key := fmt.Sprint("key ", n)
			all = append(all, func() string {
				form := impl.YardPack(m, key)
				back, is := impl.YardOpen(form, key)
				other, opens := impl.YardOpen(form, key+"0")
				if form != yardSealed(lines, key) || !is || !isSameMessage(back, m) || opens || !isSameMessage(other, impl.YardMessage{}) {
					return messageShown(back) + messageShown(other)
				}
				return ""
			})
		}
	}
	wantAtOnce(t, all)
}

func FuzzYardOpen(f *testing.F) {
	for lines := range someMessages() {
		f.Add(lines, "k")
	}
	f.Add("turn 1 1 0 n 0\nlook 3 \"\"\n", "")
	f.Fuzz(func(t *testing.T, s, key string) {
		wantMessageOpen(t, s, key)
		if wantMessageOpen(t, yardSealed(s, key), key) {
			m, _ := impl.YardOpen(yardSealed(s, key), key)
			wantPack(t, m, key)
		}
	})
}
