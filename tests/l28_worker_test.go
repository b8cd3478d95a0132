package tests

import (
	"fmt"
	"maps"
	"reflect"
	"slices"
	"testing"

	"loop.example/kilnyard/impl"
)

// hasOfferForm says whether a message is an offer that has a form.
func hasOfferForm(m impl.YardMessage) bool { return m.Kind == 1 && yardLinesByRules(m) != "" }

func isSameWorker(a, b impl.YardWorker) bool {
	return a.Number == b.Number && a.Up == b.Up && a.Has == b.Has && isSameMessage(a.Offer, b.Offer)
}

func workerShown(w impl.YardWorker) string {
	return fmt.Sprintf("%d, up %v, has %v, offer %s", w.Number, w.Up, w.Has, messageShown(w.Offer))
}

// isWorkerByRules, workerTakesByRules and workerTicksByRules are a second reading of workers.
func isWorkerByRules(w impl.YardWorker) bool {
	isOffer := hasOfferForm(w.Offer) && w.Offer.To == w.Number
	return w.Number >= 1 && w.Number <= 4 && (!w.Has || w.Up && isOffer) && (w.Has || isSameMessage(w.Offer, impl.YardMessage{}))
}

func workerTakesByRules(w impl.YardWorker, m impl.YardMessage) impl.YardWorker {
	if !isWorkerByRules(w) {
		return impl.YardWorker{}
	}
	if w.Up && hasOfferForm(m) && m.To == w.Number {
		w.Has, w.Offer = true, m
	}
	return w
}

func workerTicksByRules(w impl.YardWorker) (impl.YardWorker, []impl.YardMessage) {
	if !isWorkerByRules(w) {
		return impl.YardWorker{}, nil
	}
	if !w.Up {
		return w, nil
	}
	sent := []impl.YardMessage{{Kind: 3, From: w.Number}}
	if w.Has {
		o := w.Offer
		sent = append(sent, impl.YardMessage{Kind: 2, From: w.Number, Epoch: o.Epoch, Edit: o.Edit, Target: impl.ClayTarget{Name: o.Target.Name}, Count: len(o.Seen), Turn: yardGoByRules(o.Target, o.Seen)})
	}
	return impl.YardWorker{Number: w.Number, Up: true}, sent
}

func wantWorker(t *testing.T, what string, want bool, w impl.YardWorker) {
	t.Helper()
	if got, rules := impl.YardValidWorker(w), isWorkerByRules(w); got != want || rules != want {
		t.Errorf("%s: %v, by rules %v: %s", what, got, rules, workerShown(w))
	}
}

// wantTaken holds Take against the second reading; what comes of it is valid (promise 41).
func wantTaken(t *testing.T, w impl.YardWorker, m impl.YardMessage) impl.YardWorker {
	t.Helper()
	before := workerShown(w) + messageShown(m)
	got, want := impl.YardWorkerTake(w, m), workerTakesByRules(w, m)
	if !isSameWorker(got, want) {
		t.Errorf("%s takes %s: got %s, want %s", workerShown(w), messageShown(m), workerShown(got), workerShown(want))
	}
	if impl.YardValidWorker(w) != impl.YardValidWorker(got) {
		t.Errorf("%s takes %s: not valid: %s", workerShown(w), messageShown(m), workerShown(got))
	}
	if workerShown(w)+messageShown(m) != before {
		t.Errorf("%s takes %s: changed", workerShown(w), messageShown(m))
	}
	return got
}

// wantWorked holds Tick against the second reading; what comes of it is valid, and what it sends has a form, if its offer is such as a run comes to (promise 41).
func wantWorked(t *testing.T, w impl.YardWorker) (impl.YardWorker, []impl.YardMessage) {
	t.Helper()
	before := workerShown(w)
	got, sent := impl.YardWorkerTick(w)
	want, sends := workerTicksByRules(w)
	if !isSameWorker(got, want) || !slices.EqualFunc(sent, sends, isSameMessage) {
		t.Errorf("%s: got %s, %+v, want %s, %+v", workerShown(w), workerShown(got), sent, workerShown(want), sends)
	}
	if impl.YardValidWorker(w) != impl.YardValidWorker(got) || workerShown(w) != before {
		t.Errorf("%s: not valid, or changed: %s", workerShown(w), workerShown(got))
	}
	for _, m := range sent {
		isRun := m.Kind == 3 || !isSameMillTurn(yardGoByRules(w.Offer.Target, w.Offer.Seen), impl.MillTurn{})
		if hasForm := impl.YardPack(m, "") != ""; hasForm != isRun {
			t.Errorf("%s sends %s: a form: %v", workerShown(w), messageShown(m), hasForm)
		}
	}
	return got, sent
}

// workerWith is a worker that has been offered the run of a target with its first looks.
func workerWith(t *testing.T, number int, target impl.ClayTarget, seen ...impl.MillSeen) impl.YardWorker {
	t.Helper()
	w := wantTaken(t, impl.YardWorker{Number: number, Up: true}, impl.YardMessage{Kind: 1, To: number, Epoch: 7, Edit: 3, Target: target, Seen: seen})
	if !w.Has {
		t.Fatalf("no offer: %s", workerShown(w))
	}
	return w
}

func TestYardValidWorker(t *testing.T) {
	offer := someOffer()
	for number := -2; number <= 7; number++ {
		is := number >= 1 && number <= 4
		wantWorker(t, "up", is, impl.YardWorker{Number: number, Up: true})
		wantWorker(t, "down", is, impl.YardWorker{Number: number})
		own := offer
		own.To = number
		wantWorker(t, "with an offer", is, impl.YardWorker{Number: number, Up: true, Has: true, Offer: own})
		wantWorker(t, "down with an offer", false, impl.YardWorker{Number: number, Has: true, Offer: own})
		wantWorker(t, "another's offer", number == 2, impl.YardWorker{Number: number, Up: true, Has: true, Offer: offer})
		wantWorker(t, "an offer that it has not", false, impl.YardWorker{Number: number, Up: true, Offer: own})
		wantWorker(t, "down, an offer that it has not", false, impl.YardWorker{Number: number, Offer: own})
		wantWorker(t, "no offer", false, impl.YardWorker{Number: number, Up: true, Has: true})
	}
	wantWorker(t, "nothing", false, impl.YardWorker{})
	for _, m := range []impl.YardMessage{someEnd(), someLook(), someHere()} {
		m.To, m.From = 2, 0
		wantWorker(t, "no offer but another message", false, impl.YardWorker{Number: 2, Up: true, Has: true, Offer: m})
		m.To, m.From = 0, 2
		wantWorker(t, "no offer but another message", false, impl.YardWorker{Number: 2, Up: true, Has: true, Offer: m})
	}
	for what, all := range bentLeaves(offer) {
		for _, bent := range all {
			wantWorker(t, "an offer with another "+what, hasOfferForm(bent) && bent.To == 2, impl.YardWorker{Number: 2, Up: true, Has: true, Offer: bent})
			wantWorker(t, "an offer that it has not, with another "+what, false, impl.YardWorker{Number: 2, Up: true, Offer: bent})
		}
	}
	// Each part of an offer that is none counts.
	for what, all := range bentLeaves(impl.YardMessage{}) {
		for _, bent := range all {
			wantWorker(t, "no offer, but a "+what, isSameMessage(bent, impl.YardMessage{}), impl.YardWorker{Number: 2, Up: true, Offer: bent})
		}
	}
	wantWorker(t, "lists that are empty, not nil", true, impl.YardWorker{Number: 2, Up: true, Offer: impl.YardMessage{Seen: []impl.MillSeen{}, Target: impl.ClayTarget{Ins: []string{}, Outs: []string{}}, Turn: impl.MillTurn{Files: []impl.MillFile{}, Said: []string{}}}})
}

func TestYardWorkerTake(t *testing.T) {
	offer := someOffer()
	other := offer
	other.Epoch, other.Edit, other.Target, other.Seen = 9, 0, orderOf("m t > o"), nil
	for number := range 6 {
		idle := impl.YardWorker{Number: number, Up: true}
		has := number == 2
		if w := wantTaken(t, idle, offer); w.Has != has || has && !isSameMessage(w.Offer, offer) {
			t.Errorf("worker %d: %s", number, workerShown(w))
		}
		wantTaken(t, impl.YardWorker{Number: number}, offer)
		for _, m := range []impl.YardMessage{{}, someEnd(), someLook(), someHere()} {
			wantTaken(t, idle, m)
			m.To = number
			wantTaken(t, idle, m)
			m.From = 0
			wantTaken(t, idle, m)
			m.To, m.From = 0, number
			wantTaken(t, idle, m)
		}
		// In place of the one that it has; one that is none leaves it.
		if has {
			w := wantTaken(t, wantTaken(t, idle, offer), other)
			if !w.Has || !isSameMessage(w.Offer, other) {
				t.Errorf("%s", workerShown(w))
			}
			bad := other
			bad.To = 3
			if w = wantTaken(t, w, bad); !isSameMessage(w.Offer, other) {
				t.Errorf("%s", workerShown(w))
			}
			if w = wantTaken(t, w, someHere()); !isSameMessage(w.Offer, other) {
				t.Errorf("%s", workerShown(w))
			}
		}
	}
	wantTaken(t, impl.YardWorker{}, offer)
	wantTaken(t, impl.YardWorker{Number: 2, Has: true, Offer: offer}, offer)
	wantTaken(t, impl.YardWorker{Number: 2, Up: true, Offer: offer}, offer)
	wantTaken(t, impl.YardWorker{Number: 2, Up: true, Has: true}, offer)
	for _, all := range bentLeaves(offer) {
		for _, bent := range all {
			wantTaken(t, impl.YardWorker{Number: 2, Up: true}, bent)
			wantTaken(t, impl.YardWorker{Number: 2, Up: true, Has: true, Offer: other}, bent)
			wantTaken(t, impl.YardWorker{Number: 2, Up: true, Has: true, Offer: bent}, other)
		}
	}
}

func TestYardWorkerTick(t *testing.T) {
	for number := 1; number <= 4; number++ {
		if w, sent := wantWorked(t, impl.YardWorker{Number: number}); w.Number != number || w.Up || len(sent) != 0 {
			t.Errorf("%s: %+v", workerShown(w), sent)
		}
		if w, sent := wantWorked(t, impl.YardWorker{Number: number, Up: true}); !w.Up || len(sent) != 1 || !isSameMessage(sent[0], impl.YardMessage{Kind: 3, From: number}) {
			t.Errorf("%s: %+v", workerShown(w), sent)
		}
		target := orderOf("n get o>src < empty > o")
		seen := []impl.MillSeen{sawRead("empty", ""), sawRead("get", houseGet), sawRead("src", "S")}
		for many := range 4 {
			w, sent := wantWorked(t, workerWith(t, number, target, seen[:many]...))
			if w.Has || !w.Up || len(sent) != 2 {
				t.Fatalf("%d looks: %s, %+v", many, workerShown(w), sent)
			}
			want := impl.YardMessage{Kind: 2, From: number, Epoch: 7, Edit: 3, Target: impl.ClayTarget{Name: "n"}, Count: many}
			if many < 3 {
				want.Turn = impl.MillTurn{Kind: 1, Name: seen[many].Name}
			} else {
				want.Turn = impl.MillTurn{Over: true, Text: "got", Steps: sent[1].Turn.Steps, Files: filesOf("o", "S!")}
			}
			if !isSameMessage(sent[1], want) {
				t.Errorf("%d looks: %s", many, messageShown(sent[1]))
			}
			// Then it has none.
			if _, sent = wantWorked(t, w); len(sent) != 1 {
				t.Errorf("%+v", sent)
			}
		}
		// An offer of looks that no run makes: nothing is told of the run.
		_, sent := wantWorked(t, workerWith(t, number, target, seen[1:]...))
		if len(sent) != 2 || !isSameMillTurn(sent[1].Turn, impl.MillTurn{}) || sent[1].Count != 2 {
			t.Errorf("%+v", sent)
		}
	}
	for _, w := range []impl.YardWorker{{}, {Number: 5, Up: true}, {Number: 2, Has: true, Offer: someOffer()}, {Number: 2, Up: true, Has: true}, {Number: 2, Up: true, Offer: someOffer()}, {Number: 3, Up: true, Has: true, Offer: someOffer()}} {
		if got, sent := wantWorked(t, w); !isSameWorker(got, impl.YardWorker{}) || sent != nil {
			t.Errorf("%s: %s, %+v", workerShown(w), workerShown(got), sent)
		}
	}
}

// Runs of all sorts, each led by one worker from its first look to its end.
func TestYardWorkerRuns(t *testing.T) {
	for what, k := range honestRuns() {
		for many := range len(k.Made.Seen) + 1 {
			_, sent := wantWorked(t, workerWith(t, 1+many%4, k.Target, k.Made.Seen[:many]...))
			if turn := sent[1].Turn; turn.Over != (many == len(k.Made.Seen)) || turn.Over && !isSameMillTurn(turn, endOf(k.Made)) || !turn.Over && (turn.Kind != k.Made.Seen[many].Kind || turn.Name != k.Made.Seen[many].Name) {
				t.Errorf("%s, %d looks: %s", what, many, messageShown(sent[1]))
			}
		}
	}
}

// Promise 41 for drawn workers and messages.
func TestYardWorkersDrawn(t *testing.T) {
	t.Parallel()
	dice := clayDice(2801)
	a := houseAuthor{&dice}
	var honest []impl.HouseKept
	runs := honestRuns()
	for _, what := range slices.Sorted(maps.Keys(runs)) {
		honest = append(honest, runs[what])
	}
	counts := map[string]int{}
	for range 300 {
		w := impl.YardWorker{Number: 1 + a.below(4), Up: a.below(5) > 0}
		for range 20 {
			switch a.below(6) {
			case 0:
				w = wantTaken(t, w, a.drawnMessage())
			case 1:
				k := honest[a.below(len(honest))]
				w = wantTaken(t, w, impl.YardMessage{Kind: 1, To: 1 + a.below(4), Epoch: 1 + a.below(200), Edit: a.below(1001), Target: k.Target, Seen: k.Made.Seen[:a.below(len(k.Made.Seen)+1)]})
			case 2:
				all := bentLeaves(w)
				bent := all[a.pick(slices.Sorted(maps.Keys(all))...)]
				other := bent[a.below(len(bent))]
				wantWorker(t, "bent", isWorkerByRules(other), other)
				wantTaken(t, other, a.drawnMessage())
				wantWorked(t, other)
				counts[fmt.Sprint("bent, valid ", isWorkerByRules(other))]++
			default:
				var sent []impl.YardMessage
				had := w.Has
				w, sent = wantWorked(t, w)
				counts[fmt.Sprint(len(sent), " sent")]++
				if had {
					counts[fmt.Sprint("over ", sent[1].Turn.Over, ", a look ", sent[1].Turn.Kind > 0)]++
				}
			}
			if t.Failed() {
				return
			}
		}
	}
	for what, least := range map[string]int{"bent, valid true": 20, "bent, valid false": 200, "0 sent": 100, "1 sent": 500, "2 sent": 100, "over true, a look false": 20, "over false, a look true": 20, "over false, a look false": 20} {
		if counts[what] < least {
			t.Errorf("%s: %v", what, counts)
		}
	}
}

// No argument is changed, nor what lies behind its lists; answers are new memory, and no two parts of one share any.
func TestYardWorkersOwnMemory(t *testing.T) {
	var offers []impl.YardMessage
	for _, k := range honestRuns() {
		for many := range len(k.Made.Seen) + 1 {
			offers = append(offers, impl.YardMessage{Kind: 1, To: 2, Epoch: 7, Edit: 3, Target: k.Target, Seen: k.Made.Seen[:many]})
		}
	}
	offers = append(offers, someOffer(), impl.YardMessage{Kind: 1, To: 2, Epoch: 1, Target: orderOf("a a a < a b > a b"), Seen: []impl.MillSeen{sawRead("a", "a"), sawRead("b", "a")}})
	for _, m := range append(offers, someEnd(), someLook()) {
		message, seenMessage := roomyOf(m)
		idle := impl.YardWorker{Number: 2, Up: true}
		before := seenMessage()
		wantNewMemory(t, impl.YardWorkerTake(idle, message), message)
		if seenMessage() != before {
			t.Errorf("%s: changed", messageShown(m))
		}
		if m.Kind != 1 {
			continue
		}
		busy, seen := roomyOf(impl.YardWorker{Number: 2, Up: true, Has: true, Offer: m})
		before = seen()
		impl.YardValidWorker(busy)
		wantNewMemory(t, impl.YardWorkerTake(busy, someHere()), busy)
		w, sent := impl.YardWorkerTick(busy)
		wantNewMemory(t, struct {
			Worker impl.YardWorker
			Sent   []impl.YardMessage
		}{w, sent}, busy)
		if seen() != before {
			t.Errorf("%s: changed", messageShown(m))
		}
		if pieces := memoryOf(reflect.ValueOf(sent), "", nil); len(pieces) < 2 {
			t.Errorf("%d pieces", len(pieces))
		}
	}
}

// Many at once: nothing is kept between calls.
func TestYardWorkersKeepNothing(t *testing.T) {
	var all []func() string
	for what, k := range honestRuns() {
		for number := 1; number <= 4; number++ {
			w := workerWith(t, number, k.Target, k.Made.Seen...)
			all = append(all, func() string {
				got, sent := impl.YardWorkerTick(w)
				if want, sends := workerTicksByRules(w); !isSameWorker(got, want) || !slices.EqualFunc(sent, sends, isSameMessage) {
					return what + workerShown(got)
				}
				return ""
			})
		}
	}
	wantAtOnce(t, all)
}
