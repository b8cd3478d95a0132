package tests

import (
	"fmt"
	"maps"
	"runtime"
	"slices"
	"strings"
	"testing"
	"time"

	"loop.example/kilnyard/impl"
)

// isWorldByRules is a second reading of which worlds are valid.
func isWorldByRules(w impl.YardWorld) bool {
	if len(w.Key) > 30 || !isBossByRules(w.Boss) || len(w.Workers) != len(w.Boss.Heard) || len(w.Flight) > 300 || len(w.Answers) > 60 {
		return false
	}
	for at, worker := range w.Workers {
		if worker.Number != at+1 || !isWorkerByRules(worker) {
			return false
		}
	}
	for _, parcel := range w.Flight {
		if parcel.To < 0 || parcel.To > len(w.Workers) {
			return false
		}
	}
	return true
}

// worldReader is a second reading of what happens in a world: each thing is done to its parts as they are shown, one after the other.
type worldReader struct{ w impl.YardWorld }

func readWorld(w impl.YardWorld) *worldReader {
	roomy, _ := roomyOf(w)
	return &worldReader{roomy}
}

func (r *worldReader) send(all []impl.YardMessage) {
	for _, m := range all {
		to := 0
		if m.Kind == 1 {
			to = m.To
		}
		if form := yardPackByRules(m, r.w.Key); form != "" && len(r.w.Flight) < 300 {
			r.w.Flight = append(r.w.Flight, impl.YardParcel{To: to, Sent: form, Bytes: form})
		}
	}
}

func (r *worldReader) tick() {
	did := impl.YardBossTick(r.w.Boss)
	r.w.Boss = did.Boss
	r.send(did.Out)
	for i := range r.w.Workers {
		worker, sent := impl.YardWorkerTick(r.w.Workers[i])
		r.w.Workers[i] = worker
		r.send(sent)
	}
	for _, one := range did.Answers {
		if len(r.w.Answers) < 60 {
			r.w.Answers = append(r.w.Answers, one)
		}
	}
}

func (r *worldReader) bring(at int) {
	parcel := r.w.Flight[at]
	r.w.Flight = slices.Delete(r.w.Flight, at, at+1)
	m, reads := yardOpenByRules(parcel.Bytes, r.w.Key)
	if !reads {
		return
	}
	if parcel.To == 0 {
		r.w.Boss = impl.YardBossTake(r.w.Boss, m).Boss
	} else {
		r.w.Workers[parcel.To-1] = impl.YardWorkerTake(r.w.Workers[parcel.To-1], m)
	}
	if parcel.Bytes != parcel.Sent && r.w.Forged == "" {
		r.w.Forged = parcel.Bytes
	}
}

func (r *worldReader) bend(at, place, bits int) {
	var bent []byte
	for i := range len(r.w.Flight[at].Bytes) {
		b := r.w.Flight[at].Bytes[i]
		if i == place && bits >= 0 {
			b ^= byte(bits % 256)
		}
		bent = append(bent, b)
	}
	r.w.Flight[at].Bytes = string(bent)
}

// did takes what a boss did.
func (r *worldReader) did(did impl.YardDid) {
	if did.Code == 0 {
		r.w.Boss = did.Boss
	}
}

func (r *worldReader) happen(e impl.YardEvent) {
	isParcel := e.A >= 0 && e.A < len(r.w.Flight)
	isWorker := e.A >= 1 && e.A <= len(r.w.Workers)
	switch {
	case e.Kind == 1:
		r.tick()
	case e.Kind == 2 && isParcel:
		r.bring(e.A)
	case e.Kind == 3 && isParcel && len(r.w.Flight) < 300:
		r.w.Flight = append(r.w.Flight, r.w.Flight[e.A])
	case e.Kind == 4 && isParcel:
		r.w.Flight = slices.Delete(r.w.Flight, e.A, e.A+1)
	case e.Kind == 5 && isParcel:
		r.bend(e.A, e.B, e.C)
	case e.Kind == 6 && e.A == 0:
		r.w.Boss = impl.YardBossFall(r.w.Boss, e.B)
	case e.Kind == 6 && isWorker:
		r.w.Workers[e.A-1] = impl.YardWorker{Number: e.A}
	case e.Kind == 7 && e.A == 0:
		r.w.Boss = impl.YardBossRise(r.w.Boss)
	case e.Kind == 7 && isWorker:
		r.w.Workers[e.A-1].Up = true
	case e.Kind == 8:
		r.did(impl.YardBossAsk(r.w.Boss, e.Name))
	case e.Kind == 9:
		r.did(impl.YardBossEdit(r.w.Boss, e.Entry))
	case e.Kind == 10:
		r.did(impl.YardBossPack(r.w.Boss))
	}
}

func (r *worldReader) calm(rounds int) {
	for range min(max(rounds, 0), 2000) {
		r.tick()
		for range len(r.w.Flight) {
			r.bring(0)
		}
	}
}

// isRightByRules is a second reading of what is right.
func isRightByRules(w impl.YardWorld) bool {
	for _, one := range w.Answers {
		y, comes := impl.HouseComes(one.Place, "main", one.Name)
		if impl.HousePlan(one.Place, "main").Code != 0 {
			y, comes = impl.MillReply{Code: 4}, true
			for _, file := range one.Place.Files {
				if file.Name == one.Name {
					y = impl.MillReply{Text: file.Text}
					break
				}
			}
		}
		if comes && (one.Never || one.Reply != y) || !comes && (!one.Never || one.Reply != impl.MillReply{}) {
			return false
		}
	}
	return isWorldByRules(w)
}

func isSameWorld(a, b impl.YardWorld) bool {
	return a.Key == b.Key && isSameBoss(a.Boss, b.Boss) && slices.EqualFunc(a.Workers, b.Workers, isSameWorker) && slices.Equal(a.Flight, b.Flight) && a.Forged == b.Forged &&
		slices.EqualFunc(a.Answers, b.Answers, isSameYardAnswer)
}

// flightShown tells what is in flight: to whom, and which message; `?` is one that is not read, `!` one that is not what was sent.
func flightShown(w impl.YardWorld) string {
	var all []string
	for _, parcel := range w.Flight {
		one := fmt.Sprint(parcel.To, ":")
		switch m, reads := yardOpenByRules(parcel.Bytes, w.Key); {
		case !reads:
			one += "?"
		case m.Kind == 1:
			one += fmt.Sprintf("offer%d %s%d", m.To, m.Target.Name, len(m.Seen))
		case m.Kind == 2:
			one += fmt.Sprintf("turn%d %s%d", m.From, m.Target.Name, m.Count)
		default:
			one += fmt.Sprint("here", m.From)
		}
		if parcel.Sent != parcel.Bytes {
			one += "!"
		}
		all = append(all, one)
	}
	return strings.Join(all, ", ")
}

func worldShown(w impl.YardWorld) string {
	var workers []string
	for _, worker := range w.Workers {
		one := fmt.Sprint(worker.Number, " up ", worker.Up)
		if worker.Has {
			one += fmt.Sprintf(" has %s%d", worker.Offer.Target.Name, len(worker.Offer.Seen))
		}
		workers = append(workers, one)
	}
	return fmt.Sprintf("key %q, %s; workers %s; flight %.1000s; forged %.100q; answers %.1000s", w.Key, bossShown(w.Boss), strings.Join(workers, ", "), flightShown(w), w.Forged, answersShown(w.Answers))
}

func eventShown(e impl.YardEvent) string {
	return fmt.Sprintf("event %d %d %d %d %.100q %.300s", e.Kind, e.A, e.B, e.C, e.Name, entryShown(e.Entry))
}

// wantWorldDone holds what came of a world against the second reading. What is valid stays so, and of all that was sent there is a form (promise 41).
func wantWorldDone(t *testing.T, what string, w impl.YardWorld, does func(w impl.YardWorld) impl.YardWorld, rules func(r *worldReader)) impl.YardWorld {
	t.Helper()
	roomy, seen := roomyOf(w)
	before := seen()
	got := does(roomy)
	if seen() != before {
		t.Errorf("%s in %s: changed", what, worldShown(w))
	}
	var want impl.YardWorld
	is := isWorldByRules(w)
	if is {
		r := readWorld(w)
		rules(r)
		want = r.w
	}
	if !isSameWorld(got, want) {
		t.Errorf("%s in %s:\ngot  %s\nwant %s", what, worldShown(w), worldShown(got), worldShown(want))
	}
	if impl.YardValidWorld(got) != is {
		t.Errorf("%s in %s: valid is no longer %v: %s", what, worldShown(w), is, worldShown(got))
	}
	for _, parcel := range got.Flight {
		if _, reads := impl.YardOpen(parcel.Sent, got.Key); !reads && !slices.ContainsFunc(w.Flight, func(old impl.YardParcel) bool { return old.Sent == parcel.Sent }) {
			t.Errorf("%s in %s: sends %.300q", what, worldShown(w), parcel.Sent)
		}
	}
	return got
}

func wantHappen(t *testing.T, w impl.YardWorld, e impl.YardEvent) impl.YardWorld {
	t.Helper()
	event, seen := roomyOf(e)
	before := seen()
	got := wantWorldDone(t, eventShown(e), w, func(w impl.YardWorld) impl.YardWorld { return impl.YardDo(w, event) }, func(r *worldReader) { r.happen(e) })
	if seen() != before {
		t.Errorf("%s: changed", eventShown(e))
	}
	return got
}

// wantEvent is an event of a kind, with numbers.
func wantEvent(t *testing.T, w impl.YardWorld, kind int, numbers ...int) impl.YardWorld {
	t.Helper()
	numbers = append(numbers, 0, 0, 0)
	return wantHappen(t, w, impl.YardEvent{Kind: kind, A: numbers[0], B: numbers[1], C: numbers[2]})
}

func wantNothingHappens(t *testing.T, w impl.YardWorld, e impl.YardEvent) {
	t.Helper()
	if got := wantHappen(t, w, e); !isSameWorld(got, w) {
		t.Errorf("%s in %s: got %s", eventShown(e), worldShown(w), worldShown(got))
	}
}

func wantCalmWorld(t *testing.T, w impl.YardWorld, rounds int) impl.YardWorld {
	t.Helper()
	return wantWorldDone(t, fmt.Sprint("calm ", rounds), w, func(w impl.YardWorld) impl.YardWorld { return impl.YardCalm(w, rounds) }, func(r *worldReader) { r.calm(rounds) })
}

func wantRight(t *testing.T, what string, want bool, w impl.YardWorld) {
	t.Helper()
	roomy, seen := roomyOf(w)
	before := seen()
	if got, rules := impl.YardRight(roomy), isRightByRules(w); got != want || rules != want {
		t.Errorf("%s: %v, by rules %v, want %v: %s", what, got, rules, want, worldShown(w))
	}
	if seen() != before {
		t.Errorf("%s: changed", what)
	}
}

// wantValidWorld asks whether a world is valid; in one that is not nothing happens.
func wantValidWorld(t *testing.T, what string, want bool, w impl.YardWorld) {
	t.Helper()
	roomy, seen := roomyOf(w)
	before := seen()
	if got, rules := impl.YardValidWorld(roomy), isWorldByRules(w); got != want || rules != want {
		t.Errorf("%s: %v, by rules %v: %s", what, got, rules, worldShown(w))
		return
	}
	if seen() != before {
		t.Errorf("%s: changed", what)
	}
	for kind := range 12 {
		wantHappen(t, w, impl.YardEvent{Kind: kind, B: 1, C: 1, Name: "asked", Entry: impl.YardEntry{Kind: 5}})
	}
	wantCalmWorld(t, w, 2)
	wantRight(t, what, isRightByRules(w), w)
	if got := impl.YardCalm(w, 0); !want && (!isSameWorld(got, impl.YardWorld{}) || impl.YardRight(w)) {
		t.Errorf("%s: %s", what, worldShown(got))
	}
}

// worldIn is a new world of so many workers in which a place was made.
func worldIn(t *testing.T, workers int, p impl.MillPlace) impl.YardWorld {
	t.Helper()
	w := impl.YardNewWorld(workers, "key")
	for _, file := range p.Files {
		w = worldEdited(t, w, fileEntry(file.Name, file.Text))
	}
	return w
}

// worldEdited is a world with a change of its place or shelf, which has to be one.
func worldEdited(t *testing.T, w impl.YardWorld, e impl.YardEntry) impl.YardWorld {
	t.Helper()
	got := impl.YardDo(w, impl.YardEvent{Kind: 9, Entry: e})
	if isSameWorld(got, w) {
		t.Fatalf("%s: not done in %s", entryShown(e), worldShown(w))
	}
	return got
}

func worldAsked(t *testing.T, w impl.YardWorld, names string) impl.YardWorld {
	t.Helper()
	for _, name := range strings.Fields(names) {
		w = wantHappen(t, w, impl.YardEvent{Kind: 8, Name: name})
	}
	return w
}

// worldWith is a world of two workers with targets told by words and more files, asked for names.
func worldWith(t *testing.T, targets []string, names string, more ...string) impl.YardWorld {
	t.Helper()
	return worldAsked(t, worldIn(t, 2, houseWith(targets, more...)), names)
}

// parcelOf is a message in flight, as it was sent.
func parcelOf(m impl.YardMessage, key string) impl.YardParcel {
	form := yardPackByRules(m, key)
	return impl.YardParcel{To: m.To, Sent: form, Bytes: form}
}

// worldOfAll is a world with something in each of its parts: worker 2 has an offer, worker 3 is down; what is in flight is for all of them, one parcel is bent, and one was never sent.
func worldOfAll(t *testing.T) impl.YardWorld {
	t.Helper()
	w := impl.YardWorld{Key: "k", Boss: bossOfAll(t), Forged: "forged"}
	run := w.Boss.Runs[0].Made
	target := impl.HousePlan(w.Boss.Place, "main").Targets[0]
	offer := impl.YardMessage{Kind: 1, To: 2, Epoch: 1, Edit: w.Boss.Edit, Target: target, Seen: run.Seen}
	turn := impl.YardMessage{Kind: 2, From: 2, Epoch: 1, Edit: w.Boss.Edit, Target: impl.ClayTarget{Name: "n1"}, Count: 1, Turn: impl.MillTurn{Kind: 1, Name: "src"}}
	w.Workers = []impl.YardWorker{{Number: 1, Up: true}, {Number: 2, Up: true, Has: true, Offer: offer}, {Number: 3}}
	bent := parcelOf(turn, "k")
	bent.Bytes = bent.Bytes[:20] + "?" + bent.Bytes[21:]
	other := offer
	other.To = 1
	forged := parcelOf(other, "k")
	forged.Sent = "another"
	w.Flight = []impl.YardParcel{parcelOf(impl.YardMessage{Kind: 3, From: 3}, "k"), bent, parcelOf(turn, "k"), forged, parcelOf(offer, "k"), {To: 3, Sent: "sent", Bytes: "bytes"}}
	w.Answers = []impl.YardAnswer{{Name: "src", Place: w.Boss.Place, Reply: impl.MillReply{Text: "S"}}, {Name: "gone", Reply: impl.MillReply{Code: 4}}}
	return w
}

func TestYardWorldConstants(t *testing.T) {
	kinds := []int{impl.YardEvTick, impl.YardEvBring, impl.YardEvDouble, impl.YardEvLose, impl.YardEvBend, impl.YardEvFall, impl.YardEvRise, impl.YardEvAsk, impl.YardEvEdit, impl.YardEvPack}
	if impl.YardMaxFlight != 300 || impl.YardMaxAnswers != 60 || impl.YardMaxCalm != 2000 || !slices.Equal(kinds, []int{1, 2, 3, 4, 5, 6, 7, 8, 9, 10}) {
		t.Error(impl.YardMaxFlight, impl.YardMaxAnswers, impl.YardMaxCalm, kinds)
	}
}

func TestYardNewWorld(t *testing.T) {
	for workers := -2; workers <= 7; workers++ {
		for _, key := range []string{"", "k", "\x00\xff key", strings.Repeat("k", 29), strings.Repeat("k", 30), strings.Repeat("k", 31), strings.Repeat("k", 1000)} {
			w := impl.YardNewWorld(workers, key)
			if workers < 1 || workers > 4 || len(key) > 30 {
				if !isSameWorld(w, impl.YardWorld{}) || impl.YardValidWorld(w) {
					t.Errorf("%d workers, key %q: %s", workers, key, worldShown(w))
				}
				continue
			}
			want := impl.YardWorld{Key: key, Boss: impl.YardNewBoss(workers)}
			for number := 1; number <= workers; number++ {
				want.Workers = append(want.Workers, impl.YardWorker{Number: number, Up: true})
			}
			if !isSameWorld(w, want) {
				t.Errorf("%d workers, key %q: %s", workers, key, worldShown(w))
			}
			if len(key) < 2 {
				wantValidWorld(t, "new", true, w)
			}
		}
	}
}

// worldBend is a world with one part changed.
type worldBend struct {
	what   string
	is     bool
	change func(w *impl.YardWorld)
}

// worldBends are changes of worldOfAll.
func worldBends() []worldBend {
	parcels := func(many int) []impl.YardParcel { return slices.Repeat([]impl.YardParcel{{To: 1, Sent: "s"}}, many) }
	answers := func(many int) []impl.YardAnswer { return slices.Repeat([]impl.YardAnswer{{Name: "n"}}, many) }
	return []worldBend{
		{"as it is", true, func(w *impl.YardWorld) {}},
		{"nothing", false, func(w *impl.YardWorld) { *w = impl.YardWorld{} }},
		{"no key", true, func(w *impl.YardWorld) { w.Key = "" }},
		{"another key", true, func(w *impl.YardWorld) { w.Key = "\x00\xff\n" }},
		{"the longest key", true, func(w *impl.YardWorld) { w.Key = strings.Repeat("k", 30) }},
		{"a longer key", false, func(w *impl.YardWorld) { w.Key = strings.Repeat("k", 31) }},
		{"a boss that is not valid", false, func(w *impl.YardWorld) { w.Boss.Now = -1 }},
		{"no boss", false, func(w *impl.YardWorld) { w.Boss = impl.YardBoss{} }},
		{"a boss that is down", true, func(w *impl.YardWorld) { w.Boss = impl.YardBossFall(w.Boss, 3) }},
		{"a new boss", true, func(w *impl.YardWorld) { w.Boss = impl.YardNewBoss(3) }},
		{"a new boss of fewer workers", false, func(w *impl.YardWorld) { w.Boss = impl.YardNewBoss(2) }},
		{"a new boss of more workers", false, func(w *impl.YardWorld) { w.Boss = impl.YardNewBoss(4) }},
		{"no workers", false, func(w *impl.YardWorld) { w.Workers = nil }},
		{"no workers, and none heard", false, func(w *impl.YardWorld) { w.Workers, w.Boss.Heard, w.Boss.Jobs, w.Flight = nil, nil, nil, nil }},
		{"a worker less", false, func(w *impl.YardWorld) { w.Workers = w.Workers[:2] }},
		{"a worker more", false, func(w *impl.YardWorld) { w.Workers = append(w.Workers, impl.YardWorker{Number: 4}) }},
		{"a worker more, and heard", true, func(w *impl.YardWorld) {
			w.Workers, w.Boss.Heard = append(w.Workers, impl.YardWorker{Number: 4}), append(w.Boss.Heard, 7)
		}},
		{"one more than can be", false, func(w *impl.YardWorld) {
			w.Workers, w.Boss.Heard = append(w.Workers, impl.YardWorker{Number: 4}, impl.YardWorker{Number: 5}), append(w.Boss.Heard, 7, 8)
		}},
		{"a worker less, and heard", false, func(w *impl.YardWorld) { w.Workers, w.Boss.Heard = w.Workers[:2], w.Boss.Heard[:2] }},
		{"a worker less, and heard, and nothing for it", true, func(w *impl.YardWorld) {
			w.Workers, w.Boss.Heard, w.Flight = w.Workers[:2], w.Boss.Heard[:2], w.Flight[:5]
		}},
		{"workers from 0", false, func(w *impl.YardWorld) {
			w.Workers = []impl.YardWorker{{Number: 0}, {Number: 1}, {Number: 2}}
		}},
		{"workers from 2", false, func(w *impl.YardWorld) {
			w.Workers = []impl.YardWorker{{Number: 2}, {Number: 3}, {Number: 4}}
		}},
		{"workers turned around", false, func(w *impl.YardWorld) { slices.Reverse(w.Workers) }},
		{"a worker twice", false, func(w *impl.YardWorld) { w.Workers[1] = w.Workers[0] }},
		{"a worker that is not valid", false, func(w *impl.YardWorld) { w.Workers[0].Has = true }},
		{"one that is down, with an offer", false, func(w *impl.YardWorld) { w.Workers[1].Up = false }},
		{"one with an offer that it has not", false, func(w *impl.YardWorld) { w.Workers[1].Has = false }},
		{"the last one not valid", false, func(w *impl.YardWorld) { w.Workers[2].Offer.Epoch = 1 }},
		{"all workers down", true, func(w *impl.YardWorld) { w.Workers = []impl.YardWorker{{Number: 1}, {Number: 2}, {Number: 3}} }},
		{"an offer of another epoch", true, func(w *impl.YardWorld) { w.Workers[1].Offer.Epoch = 200 }},
		{"nothing in flight", true, func(w *impl.YardWorld) { w.Flight = nil }},
		{"as many parcels as can be", true, func(w *impl.YardWorld) { w.Flight = parcels(300) }},
		{"a parcel more", false, func(w *impl.YardWorld) { w.Flight = parcels(301) }},
		{"a parcel to -1", false, func(w *impl.YardWorld) { w.Flight[2].To = -1 }},
		{"a parcel to the boss", true, func(w *impl.YardWorld) { w.Flight[4].To = 0 }},
		{"a parcel to the last worker", true, func(w *impl.YardWorld) { w.Flight[2].To = 3 }},
		{"a parcel to one more", false, func(w *impl.YardWorld) { w.Flight[2].To = 4 }},
		{"the last parcel to one more", false, func(w *impl.YardWorld) { w.Flight[5].To = 4 }},
		{"a parcel of nothing", true, func(w *impl.YardWorld) { w.Flight[0] = impl.YardParcel{} }},
		{"a parcel of much", true, func(w *impl.YardWorld) { w.Flight[0].Bytes = strings.Repeat("\xff", 100000) }},
		{"nothing forged", true, func(w *impl.YardWorld) { w.Forged = "" }},
		{"much forged", true, func(w *impl.YardWorld) { w.Forged = strings.Repeat("\x00", 100000) }},
		{"no answers", true, func(w *impl.YardWorld) { w.Answers = nil }},
		{"as many answers as can be", true, func(w *impl.YardWorld) { w.Answers = answers(60) }},
		{"an answer more", false, func(w *impl.YardWorld) { w.Answers = answers(61) }},
		{"answers of any kind", true, func(w *impl.YardWorld) {
			w.Answers = []impl.YardAnswer{{}, {Name: "a b", Never: true, Reply: impl.MillReply{Code: -77, Text: strings.Repeat("x", 5000)}}, {Place: impl.MillPlace{Files: filesOf("b", "", "a", "", "a", "", "", "")}}}
		}},
	}
}

func TestYardValidWorld(t *testing.T) {
	t.Parallel()
	all := worldOfAll(t)
	for _, bend := range worldBends() {
		w, _ := roomyOf(all)
		bend.change(&w)
		wantValidWorld(t, bend.what, bend.is, w)
	}
	for _, what := range slices.Sorted(maps.Keys(bentLeaves(all))) {
		for _, bent := range bentLeaves(all)[what] {
			is := isWorldByRules(bent)
			if got := impl.YardValidWorld(bent); got != is {
				t.Errorf("another %s: %v", what, got)
			}
			wantEvent(t, bent, 1)
		}
	}
}

// wantFlies asks what is in flight.
func wantFlies(t *testing.T, what string, w impl.YardWorld, want string) {
	t.Helper()
	if got := flightShown(w); got != want {
		t.Errorf("%s: %s, want %s", what, got, want)
	}
}

// worldBrought is a world in which all that is in flight has come.
func worldBrought(t *testing.T, w impl.YardWorld) impl.YardWorld {
	t.Helper()
	for len(w.Flight) > 0 && !t.Failed() {
		w = wantEvent(t, w, 2)
	}
	return w
}

// The boss sends first, then the workers, each in its order; what is in flight stays ahead.
func TestYardEvTick(t *testing.T) {
	targets := []string{"a get a.o>src > a.o", "b has b.o>src > b.o", "c get c.o>a.o < a.o > c.o"}
	w := worldWith(t, targets, "c.o src b.o nowhere")
	for at, want := range []struct{ flies, answers string }{
		{"0:here1, 0:here2", `src=0"S" nowhere=4""`},
		{"1:offer1 a1, 2:offer2 b1, 0:here1, 0:here2", ""},
		{"0:here1, 0:turn1 a1, 0:here2, 0:turn2 b1", ""},
		{"1:offer1 a2, 2:offer2 b2, 0:here1, 0:here2", ""},
		{"0:here1, 0:turn1 a2, 0:here2, 0:turn2 b2", ""},
		{"1:offer1 c2, 0:here1, 0:here2", `b.o=0"yes"`},
		{"0:here1, 0:turn1 c2, 0:here2", ""},
		{"1:offer1 c3, 0:here1, 0:here2", ""},
		{"0:here1, 0:turn1 c3, 0:here2", ""},
		{"0:here1, 0:here2", `c.o=0"S!!"`},
	} {
		many := len(w.Answers)
		w = wantEvent(t, w, 1)
		wantFlies(t, fmt.Sprint("tick ", at+1), w, want.flies)
		if got := answersShown(w.Answers[many:]); got != want.answers || w.Boss.Now != at+1 {
			t.Errorf("tick %d: %s, %s", at+1, got, worldShown(w))
		}
		w = worldBrought(t, w)
	}
	if len(w.Boss.Roots) != 0 || answersShown(w.Answers) != `src=0"S" nowhere=4"" b.o=0"yes" c.o=0"S!!"` {
		t.Error(worldShown(w))
	}
	wantRight(t, "all told", true, w)
	// What is not brought stays where it is.
	w = worldWith(t, targets, "c.o")
	w = wantEvent(t, wantEvent(t, w, 1), 1)
	wantFlies(t, "late", w, "0:here1, 0:here2, 0:here1, 0:here2")
	w = wantEvent(t, wantEvent(t, w, 2, 1), 1)
	wantFlies(t, "one is heard", w, "0:here1, 0:here1, 0:here2, 2:offer2 a1, 0:here1, 0:here2")
	// Four workers, all of them with offers.
	w = worldIn(t, 4, houseWith([]string{"a get a.o>src > a.o", "b get b.o>src > b.o", "c get c.o>src > c.o", "d get d.o>src > d.o", "e get e.o>src > e.o"}))
	w = worldAsked(t, w, "e.o d.o c.o b.o a.o")
	w = wantCalmWorld(t, w, 2)
	for number, worker := range w.Workers {
		if !worker.Has || worker.Offer.Target.Name != []string{"a", "b", "c", "d"}[number] {
			t.Error(workerShown(worker))
		}
	}
	w = wantEvent(t, w, 1)
	wantFlies(t, "four", w, "0:here1, 0:turn1 a1, 0:here2, 0:turn2 b1, 0:here3, 0:turn3 c1, 0:here4, 0:turn4 d1")
	// Roots are told in their order, whatever the targets are.
	w = wantCalmWorld(t, w, 12)
	if got := answersShown(w.Answers); got != `d.o=0"S!" c.o=0"S!" b.o=0"S!" a.o=0"S!" e.o=0"S!"` {
		t.Error(got)
	}
	w = wantEvent(t, worldAsked(t, w, "e.o d.o c.o b.o a.o"), 1)
	if got := answersShown(w.Answers[5:]); got != `e.o=0"S!" d.o=0"S!" c.o=0"S!" b.o=0"S!" a.o=0"S!"` {
		t.Error(got)
	}
}

// Who is down sends nothing; a boss at the end of time does nothing, while its workers go on.
func TestYardEvTickDown(t *testing.T) {
	targets := []string{"a get a.o>src > a.o", "b has b.o>src > b.o"}
	w := wantCalmWorld(t, worldWith(t, targets, "a.o b.o src"), 1)
	busy := wantCalmWorld(t, w, 1)
	if !busy.Workers[0].Has || !busy.Workers[1].Has {
		t.Fatal(worldShown(busy))
	}
	down := wantEvent(t, busy, 6, 0, 100)
	wantFlies(t, "the boss is down", wantEvent(t, down, 1), "0:here1, 0:turn1 a1, 0:here2, 0:turn2 b1")
	if got := wantEvent(t, down, 1); !isSameBoss(got.Boss, down.Boss) {
		t.Error(worldShown(got))
	}
	wantFlies(t, "worker 1 is down", wantEvent(t, wantEvent(t, busy, 6, 1), 1), "0:here2, 0:turn2 b1")
	wantFlies(t, "worker 2 is down", wantEvent(t, wantEvent(t, busy, 6, 2), 1), "0:here1, 0:turn1 a1")
	both := wantEvent(t, wantEvent(t, w, 6, 1), 6, 2)
	wantFlies(t, "both are down", wantEvent(t, both, 1), "1:offer1 a1, 2:offer2 b1")
	none := wantEvent(t, both, 6)
	wantNothingHappens(t, none, impl.YardEvent{Kind: 1})
	if got := wantCalmWorld(t, none, 5); !isSameWorld(got, none) {
		t.Error(worldShown(got))
	}
	last := busy
	last.Boss.Now, last.Boss.Jobs = 1000000, nil
	got := wantEvent(t, last, 1)
	wantFlies(t, "at the end of time", got, "0:here1, 0:turn1 a1, 0:here2, 0:turn2 b1")
	if !isSameBoss(got.Boss, last.Boss) || !isSameWorld(wantCalmWorld(t, last, 3), impl.YardCalm(impl.YardCalm(last, 1), 2)) {
		t.Error(worldShown(got))
	}
	last.Boss.Now, last.Boss.Heard = 999999, []int{999996, 999999}
	if got := wantEvent(t, last, 1); got.Boss.Now != 1000000 || !strings.HasPrefix(flightShown(got), "1:offer1 a1, 2:offer2 b1, ") {
		t.Error(worldShown(got))
	}
}

// What has no form, or for which there is no room, is left out, be it in flight or among the answers.
func TestYardEvTickRoom(t *testing.T) {
	targets := []string{"a get a.o>src > a.o", "b has b.o>src > b.o"}
	filler := impl.YardParcel{To: 1, Sent: "s", Bytes: "b"}
	begun := wantCalmWorld(t, worldWith(t, targets, "a.o b.o"), 1)
	busy := begun
	// All four send: the boss two offers, one worker two messages, the other one.
	busy.Workers = slices.Clone(begun.Workers)
	busy.Workers[0].Has, busy.Workers[0].Offer = true, impl.YardMessage{Kind: 1, To: 1, Epoch: 1, Edit: 3, Target: orderOf("x get x.o>src > x.o")}
	whole := wantEvent(t, busy, 1)
	wantFlies(t, "all", whole, "1:offer1 a1, 2:offer2 b1, 0:here1, 0:turn1 x0, 0:here2")
	for many := 290; many <= 300; many++ {
		full := busy
		full.Flight = slices.Repeat([]impl.YardParcel{filler}, many)
		got := wantEvent(t, full, 1)
		room := min(300-many, 5)
		if len(got.Flight) != many+room || !slices.Equal(got.Flight[many:], whole.Flight[:room]) || !isSameBoss(got.Boss, whole.Boss) || got.Workers[0].Has {
			t.Errorf("%d in flight: %s", many, worldShown(got))
		}
	}
	// An offer of looks that the run does not make: nothing is told of it, and it takes no room.
	none := busy
	none.Workers = slices.Clone(busy.Workers)
	none.Workers[0].Offer.Seen = []impl.MillSeen{sawRead("src", "S")}
	got := wantEvent(t, none, 1)
	wantFlies(t, "no form", got, "1:offer1 a1, 2:offer2 b1, 0:here1, 0:here2")
	if got.Workers[0].Has {
		t.Error(worldShown(got))
	}
	none.Flight = slices.Repeat([]impl.YardParcel{filler}, 296)
	if got := wantEvent(t, none, 1); len(got.Flight) != 300 || !strings.HasSuffix(flightShown(got), ", 0:here1, 0:here2") {
		t.Error(worldShown(got))
	}
	// Answers that do not fit are gone.
	asked := worldAsked(t, begun, "src empty nowhere get")
	for many := 54; many <= 60; many++ {
		full := asked
		full.Answers = slices.Repeat([]impl.YardAnswer{{Name: "old"}}, many)
		got := wantEvent(t, full, 1)
		room := min(60-many, 4)
		var names []string
		for _, one := range got.Answers[many:] {
			names = append(names, one.Name)
		}
		if len(got.Answers) != many+room || !slices.Equal(names, []string{"src", "empty", "nowhere", "get"}[:room]) || !slices.Equal(got.Boss.Roots, []string{"a.o", "b.o"}) {
			t.Errorf("%d answers: %s", many, worldShown(got))
		}
	}
	if got := wantEvent(t, asked, 1); len(got.Answers) != 4 || !isSameMillPlace(got.Answers[2].Place, asked.Boss.Place) {
		t.Error(worldShown(got))
	}
}

func TestYardEvBring(t *testing.T) {
	all := worldOfAll(t)
	all.Forged = ""
	wantFlies(t, "all", all, "0:here3, 0:?!, 0:turn2 n1"+"1, 1:offer1 n1"+"1!, 2:offer2 n1"+"1, 3:?!")
	for _, at := range []int{-1000, -2, -1, 6, 7, 1000} {
		for kind := 2; kind <= 5; kind++ {
			wantNothingHappens(t, all, impl.YardEvent{Kind: kind, A: at, C: 1})
		}
	}
	brought := func(at int) impl.YardWorld {
		t.Helper()
		got := wantEvent(t, all, 2, at)
		if want := slices.Delete(slices.Clone(all.Flight), at, at+1); !slices.Equal(got.Flight, want) {
			t.Errorf("%d: %s", at, flightShown(got))
		}
		return got
	}
	if got := brought(0); got.Boss.Heard[2] != 100 || got.Forged != "" {
		t.Error(worldShown(got))
	}
	// Bytes that are not what was sent are not read, mostly.
	if got := brought(1); !isSameBoss(got.Boss, all.Boss) || got.Forged != "" {
		t.Error(worldShown(got))
	}
	if got := brought(2); got.Boss.Heard[1] != 100 || got.Boss.Runs[0].Wait != "src" || len(got.Boss.Jobs) != 0 || got.Forged != "" {
		t.Error(worldShown(got))
	}
	// If they are, they are done, and shown.
	forged := brought(3)
	if !forged.Workers[0].Has || forged.Forged != all.Flight[3].Bytes {
		t.Error(worldShown(forged))
	}
	if got := brought(4); !got.Workers[1].Has || got.Forged != "" {
		t.Error(worldShown(got))
	}
	if got := brought(5); !slices.EqualFunc(got.Workers, all.Workers, isSameWorker) || got.Forged != "" {
		t.Error(worldShown(got))
	}
	// The first that is shown stays, whatever comes behind it.
	here := parcelOf(impl.YardMessage{Kind: 3, From: 1}, "k")
	here.Sent = ""
	forged.Flight = []impl.YardParcel{here, parcelOf(impl.YardMessage{Kind: 3, From: 1}, "k")}
	next := wantEvent(t, wantEvent(t, forged, 2), 2)
	if next.Forged != forged.Forged || next.Boss.Heard[0] != 100 || len(next.Flight) != 0 {
		t.Error(worldShown(next))
	}
	forged.Forged = "any"
	if next := wantEvent(t, forged, 2); next.Forged != "any" || next.Boss.Heard[0] != 100 {
		t.Error(worldShown(next))
	}
	forged.Forged = ""
	if next := wantEvent(t, wantEvent(t, forged, 2, 1), 2); next.Forged != here.Bytes {
		t.Error(worldShown(next))
	}
}

// Whoever is down, or for whom a message is not, takes nothing; it is shown all the same, if it is not what was sent.
func TestYardEvBringTo(t *testing.T) {
	all := worldOfAll(t)
	all.Forged = ""
	turn, offer := all.Flight[2], all.Flight[4]
	here := parcelOf(impl.YardMessage{Kind: 3, From: 1}, "k")
	other := parcelOf(impl.YardMessage{Kind: 3, From: 1}, "another key")
	down := wantEvent(t, all, 6, 0, 9)
	idle := wantEvent(t, wantEvent(t, all, 6, 2), 7, 2)
	asleep := wantEvent(t, all, 6, 2)
	for what, row := range map[string]struct {
		w      impl.YardWorld
		to     int
		parcel impl.YardParcel
		taken  bool
		reads  bool
	}{
		"a turn to the boss":              {all, 0, turn, true, true},
		"a turn to a boss that is down":   {down, 0, turn, false, true},
		"a turn to a worker":              {all, 2, turn, false, true},
		"an offer to the boss":            {all, 0, offer, false, true},
		"an offer to its worker":          {idle, 2, offer, true, true},
		"an offer to one that is down":    {asleep, 2, offer, false, true},
		"an offer to another worker":      {idle, 1, offer, false, true},
		"a here to the boss":              {all, 0, here, true, true},
		"a here to the worker":            {all, 1, here, false, true},
		"a here under another key":        {all, 0, other, false, false},
		"an empty parcel to the boss":     {all, 0, impl.YardParcel{}, false, false},
		"an empty parcel to a worker":     {all, 1, impl.YardParcel{}, false, false},
		"an entry of the log to the boss": {all, 0, impl.YardParcel{Bytes: "epoch 2\n"}, false, false},
	} {
		for _, sent := range []string{row.parcel.Bytes, "another"} {
			w := row.w
			w.Flight = []impl.YardParcel{{To: row.to, Sent: sent, Bytes: row.parcel.Bytes}}
			got := wantEvent(t, w, 2)
			if same := isSameBoss(got.Boss, w.Boss) && slices.EqualFunc(got.Workers, w.Workers, isSameWorker); same == row.taken || len(got.Flight) != 0 {
				t.Errorf("%s: %s", what, worldShown(got))
			}
			want := ""
			if sent == "another" && row.reads {
				want = row.parcel.Bytes
			}
			if got.Forged != want {
				t.Errorf("%s, %q was sent: forged %.100q", what, sent, got.Forged)
			}
		}
	}
}

func TestYardEvDoubleAndLose(t *testing.T) {
	all := worldOfAll(t)
	for at, parcel := range all.Flight {
		if got := wantEvent(t, all, 3, at); !slices.Equal(got.Flight, append(slices.Clone(all.Flight), parcel)) {
			t.Errorf("double %d: %s", at, flightShown(got))
		}
		if got := wantEvent(t, all, 4, at); !slices.Equal(got.Flight, slices.Delete(slices.Clone(all.Flight), at, at+1)) || !isSameBoss(got.Boss, all.Boss) || got.Forged != "forged" {
			t.Errorf("lose %d: %s", at, flightShown(got))
		}
	}
	for many := range 4 {
		full := all
		full.Flight = nil
		for n := range 297 + many {
			full.Flight = append(full.Flight, impl.YardParcel{To: n % 4, Sent: fmt.Sprint("s", n), Bytes: fmt.Sprint("b", n)})
		}
		got := wantEvent(t, full, 3, 7)
		if many == 3 {
			wantNothingHappens(t, full, impl.YardEvent{Kind: 3, A: 7})
		} else if len(got.Flight) != 298+many || got.Flight[297+many] != full.Flight[7] {
			t.Errorf("%d in flight: %s", 297+many, flightShown(got))
		}
		if got := wantEvent(t, full, 4, 296+many); len(got.Flight) != 296+many {
			t.Errorf("%d in flight: %s", 297+many, flightShown(got))
		}
	}
}

func TestYardEvBend(t *testing.T) {
	w := impl.YardNewWorld(1, "k")
	text := "\x00ab\xff\x80"
	w.Flight = []impl.YardParcel{{Sent: "sent", Bytes: "first"}, {To: 1, Sent: text, Bytes: text}, {To: 1, Sent: text}}
	for _, place := range []int{-1000, -1, 0, 1, 2, 3, 4, 5, 6, 1000} {
		for _, bits := range []int{-1 << 60, -257, -256, -255, -1, 0, 1, 2, 127, 128, 255, 256, 257, 511, 512, 1 << 40, 1<<40 + 77} {
			e := impl.YardEvent{Kind: 5, A: 1, B: place, C: bits}
			if place < 0 || place > 4 || bits < 0 || bits%256 == 0 {
				wantNothingHappens(t, w, e)
				continue
			}
			got := wantHappen(t, w, e)
			want := []byte(text)
			want[place] ^= byte(bits)
			if got.Flight[1] != (impl.YardParcel{To: 1, Sent: text, Bytes: string(want)}) || got.Flight[0] != w.Flight[0] {
				t.Errorf("%s: %s", eventShown(e), flightShown(got))
			}
			if again := wantHappen(t, got, e); !isSameWorld(again, w) {
				t.Errorf("%s, twice: %s", eventShown(e), flightShown(again))
			}
		}
		wantNothingHappens(t, w, impl.YardEvent{Kind: 5, A: 2, B: place, C: 1})
	}
	// Each byte of a message counts, and so does each bit of it: it is not read, and nothing is shown.
	w = impl.YardNewWorld(1, "k")
	w = wantEvent(t, w, 1)
	wantFlies(t, "here", w, "0:here1")
	for place := range w.Flight[0].Bytes {
		for bit := range 8 {
			bent := wantEvent(t, w, 5, 0, place, 1<<bit)
			wantFlies(t, "bent", bent, "0:?!")
			if got := impl.YardDo(bent, impl.YardEvent{Kind: 2}); got.Boss.Heard[0] != -1 || got.Forged != "" || len(got.Flight) != 0 {
				t.Errorf("place %d, bit %d: %s", place, bit, worldShown(got))
			}
			// Bent back it is what was sent.
			if got := wantEvent(t, wantEvent(t, bent, 5, 0, place, 1<<bit), 2); got.Boss.Heard[0] != 1 || got.Forged != "" {
				t.Errorf("place %d, bit %d: %s", place, bit, worldShown(got))
			}
		}
	}
}

func TestYardEvFallAndRise(t *testing.T) {
	all := worldOfAll(t)
	for _, who := range []int{-1000, -1, 4, 5, 1000} {
		for _, keep := range []int{-1, 0, 3} {
			wantNothingHappens(t, all, impl.YardEvent{Kind: 6, A: who, B: keep})
			wantNothingHappens(t, all, impl.YardEvent{Kind: 7, A: who, B: keep})
		}
	}
	for keep := -3; keep <= 9; keep++ {
		down := wantEvent(t, all, 6, 0, keep)
		want := all
		want.Boss = impl.YardBossFall(all.Boss, keep)
		if !isSameWorld(down, want) || down.Boss.Up {
			t.Errorf("keep %d: %s", keep, worldShown(down))
		}
		if again := wantEvent(t, down, 6, 0, 0); !isSameWorld(again, down) {
			t.Errorf("keep %d, again: %s", keep, worldShown(again))
		}
		risen := wantEvent(t, down, 7, 0, keep)
		want.Boss = impl.YardBossRise(want.Boss)
		if !isSameWorld(risen, want) || !risen.Boss.Up || risen.Boss.Epoch != 2 {
			t.Errorf("keep %d: %s", keep, worldShown(risen))
		}
		wantNothingHappens(t, risen, impl.YardEvent{Kind: 7})
	}
	for number := 1; number <= 3; number++ {
		for _, keep := range []int{-1, 0, 3} {
			down := wantEvent(t, all, 6, number, keep)
			want := all
			want.Workers = slices.Clone(all.Workers)
			want.Workers[number-1] = impl.YardWorker{Number: number}
			if !isSameWorld(down, want) {
				t.Errorf("worker %d: %s", number, worldShown(down))
			}
			wantNothingHappens(t, down, impl.YardEvent{Kind: 6, A: number, B: keep})
			risen := wantEvent(t, down, 7, number, keep)
			want.Workers[number-1].Up = true
			if !isSameWorld(risen, want) {
				t.Errorf("worker %d: %s", number, worldShown(risen))
			}
			wantNothingHappens(t, risen, impl.YardEvent{Kind: 7, A: number, B: keep})
		}
	}
	// One that is up keeps its offer.
	wantNothingHappens(t, all, impl.YardEvent{Kind: 7, A: 2})
	wantNothingHappens(t, all, impl.YardEvent{Kind: 7})
	// A boss that can't rise stays down.
	last := impl.YardWorld{Key: "k", Boss: impl.YardBoss{Heard: []int{-1}}, Workers: []impl.YardWorker{{Number: 1}}}
	for n := range 200 {
		last.Boss.Log.Safe = append(last.Boss.Log.Safe, fmt.Sprintf("epoch %d\n", n+1))
	}
	wantNothingHappens(t, last, impl.YardEvent{Kind: 7})
	last.Boss.Log.Safe = last.Boss.Log.Safe[:199]
	if risen := wantEvent(t, last, 7); risen.Boss.Epoch != 200 {
		t.Error(worldShown(risen))
	}
}

// A call that is refused changes nothing.
func TestYardEvAskEditPack(t *testing.T) {
	all := worldOfAll(t)
	down := wantEvent(t, all, 6, 0, 9)
	roots := all
	roots.Boss.Roots = numberedNames("r", 10)
	full := all
	full.Boss = bossFilled(t, impl.YardBossTick(all.Boss).Boss, 1000)
	last := all
	last.Boss.Edit = 1000
	crowded := worldIn(t, 1, impl.MillPlace{})
	for n := range 40 {
		crowded = worldEdited(t, crowded, fileEntry(fmt.Sprintf("f%02d", n), ""))
	}
	ask := func(name string) impl.YardEvent { return impl.YardEvent{Kind: 8, Name: name} }
	edit := func(e impl.YardEntry) impl.YardEvent { return impl.YardEvent{Kind: 9, Entry: e} }
	lie := cloneOf(honestRuns()["code 1"])
	lie.Made.Text += "!"
	for what, row := range map[string]struct {
		w    impl.YardWorld
		e    impl.YardEvent
		done bool
	}{
		"ask": {all, ask("new"), true}, "ask no name": {all, ask("a b"), false}, "ask what is asked": {all, ask("src"), false}, "ask one more": {roots, ask("new"), false}, "ask one that is down": {down, ask("new"), false},
		"a file": {all, edit(fileEntry("new", "")), true}, "no name": {all, edit(fileEntry("", "")), false}, "an epoch": {all, edit(impl.YardEntry{Kind: 1, Epoch: 2}), false}, "a lie": {all, edit(ranOf(lie)), false}, "a run": {all, edit(ranOf(honestRuns()["code 1"])), true},
		"a run that is there": {all, edit(ranOf(all.Boss.Shelf.Kept[0])), false}, "clear": {all, edit(impl.YardEntry{Kind: 5}), true}, "drop": {all, edit(impl.YardEntry{Kind: 3, File: impl.MillFile{Name: "src"}}), true}, "drop what is not there": {all, edit(impl.YardEntry{Kind: 3, File: impl.MillFile{Name: "new"}}), false},
		"a full log": {full, edit(fileEntry("new", "")), false}, "the last edit": {last, edit(fileEntry("new", "")), false}, "the last edit, clear": {last, edit(impl.YardEntry{Kind: 5}), true}, "a file too many": {crowded, edit(fileEntry("~", "")), false}, "an old file": {crowded, edit(fileEntry("f07", "7")), true},
		"edit one that is down": {down, edit(fileEntry("new", "")), false}, "pack, loose ones": {all, impl.YardEvent{Kind: 10}, false}, "pack one that is down": {down, impl.YardEvent{Kind: 10}, false}, "pack": {full, impl.YardEvent{Kind: 10}, true},
	} {
		got := wantHappen(t, row.w, row.e)
		if isSameWorld(got, row.w) == row.done {
			t.Errorf("%s: %s", what, worldShown(got))
		}
		// Behind a refusal all goes on as before.
		if next := wantEvent(t, got, 1); !row.done && !isSameWorld(next, impl.YardDo(row.w, impl.YardEvent{Kind: 1})) {
			t.Errorf("%s: %s", what, worldShown(next))
		}
		other := got
		other.Boss = row.w.Boss
		if !isSameWorld(other, row.w) {
			t.Errorf("%s: more than the boss is another: %s", what, worldShown(got))
		}
	}
}

func TestYardEvOther(t *testing.T) {
	all := worldOfAll(t)
	for _, kind := range []int{-1 << 62, -1000, -10, -2, -1, 0, 11, 12, 13, 255, 257, 1000, 1 << 40} {
		for n := -1; n <= 3; n++ {
			wantNothingHappens(t, all, impl.YardEvent{Kind: kind, A: n, B: n + 1, C: n + 2, Name: "new", Entry: fileEntry("new", "")})
		}
	}
	// What an event does not use does not matter.
	for kind := 1; kind <= 10; kind++ {
		plain := impl.YardEvent{Kind: kind, A: 2, B: 3, C: 4, Name: "new", Entry: fileEntry("new", "")}
		got := wantHappen(t, all, plain)
		for what, change := range map[string]func(e *impl.YardEvent){
			"A": func(e *impl.YardEvent) { e.A = 1 }, "B": func(e *impl.YardEvent) { e.B = 1 }, "C": func(e *impl.YardEvent) { e.C = 1 },
			"Name": func(e *impl.YardEvent) { e.Name = "a b" }, "Entry": func(e *impl.YardEvent) { e.Entry = impl.YardEntry{Kind: -1} },
		} {
			uses := map[string]int{"A": 1<<2 | 1<<3 | 1<<4 | 1<<5 | 1<<6, "B": 1 << 5, "C": 1 << 5, "Name": 1 << 8, "Entry": 1 << 9}[what]
			e := plain
			change(&e)
			if other := wantHappen(t, all, e); isSameWorld(other, got) != (uses&(1<<kind) == 0) {
				t.Errorf("kind %d, another %s: %s", kind, what, worldShown(other))
			}
		}
	}
}

func TestYardCalm(t *testing.T) {
	all := worldOfAll(t)
	for _, rounds := range []int{-1 << 62, -1000, -1, 0} {
		if got := wantCalmWorld(t, all, rounds); !isSameWorld(got, all) {
			t.Errorf("%d rounds: %s", rounds, worldShown(got))
		}
	}
	// All that is in flight behind the tick is brought, what was there ahead of it as well.
	for rounds := 1; rounds <= 8; rounds++ {
		if got := wantCalmWorld(t, all, rounds); got.Boss.Now != 100+rounds || len(got.Flight) != 0 {
			t.Errorf("%d rounds: %s", rounds, worldShown(got))
		}
	}
	one := wantCalmWorld(t, all, 1)
	ticked := worldBrought(t, wantEvent(t, all, 1))
	if !isSameWorld(one, ticked) || !one.Workers[0].Has || one.Boss.Heard[2] != 101 {
		t.Errorf("%s\n%s", worldShown(one), worldShown(ticked))
	}
	// An offer comes in the round in which it is sent; what the worker tells of it in the next one.
	w := wantCalmWorld(t, worldWith(t, []string{"a get a.o>src > a.o"}, "a.o"), 2)
	wantStands(t, "two rounds", w.Boss, "a:work1@1<8")
	if !w.Workers[0].Has {
		t.Error(worldShown(w))
	}
	w = wantCalmWorld(t, w, 1)
	wantStands(t, "three rounds", w.Boss, "a:work1?src")
	w = wantCalmWorld(t, w, 1)
	wantStands(t, "four rounds", w.Boss, "a:work2@1<10")
	w = wantCalmWorld(t, w, 2)
	if got := answersShown(w.Answers); got != `a.o=0"S!"` || w.Boss.Now != 6 {
		t.Error(worldShown(w))
	}
	many := impl.YardCalm(w, 2000)
	if many.Boss.Now != 2006 || len(many.Boss.Heard) != 2 || many.Boss.Heard[1] != 2006 {
		t.Error(worldShown(many))
	}
	for _, rounds := range []int{2001, 5000, 1 << 40, 1<<63 - 1} {
		if got := impl.YardCalm(w, rounds); !isSameWorld(got, many) {
			t.Errorf("%d rounds: %s", rounds, worldShown(got))
		}
	}
	if got := impl.YardCalm(w, 1999); got.Boss.Now != 2005 {
		t.Error(worldShown(got))
	}
	last := w
	last.Boss.Now, last.Boss.Heard = 999998, []int{-1, 7}
	if got := wantCalmWorld(t, last, 5); got.Boss.Now != 1000000 || got.Boss.Heard[0] != 1000000 {
		t.Error(worldShown(got))
	}
	for _, bad := range []impl.YardWorld{{}, impl.YardNewWorld(5, ""), {Key: "k", Boss: w.Boss}} {
		for _, rounds := range []int{-1, 0, 1, 2000} {
			if got := impl.YardCalm(bad, rounds); !isSameWorld(got, impl.YardWorld{}) {
				t.Errorf("%d rounds: %s", rounds, worldShown(got))
			}
		}
	}
}

// Promise 48 for worlds by hand: rounds go by one by one as they do at once.
func TestYardCalmOfCalm(t *testing.T) {
	t.Parallel()
	chain := []string{"a get a.o>src > a.o", "b has b.o>a.o > b.o", "c list c.o>c > c.o", "d tool d.o>set > d.o", "e get e.o>d.o < a.o b.o c.o d.o > e.o", "f get f.o>f.o > f.o", "g ends g.o>4 > g.o"}
	for what, w := range map[string]impl.YardWorld{"of all": worldOfAll(t), "a chain": worldWith(t, chain, "e.o f.o g.o g nowhere"), "new": impl.YardNewWorld(3, ""), "down": wantEvent(t, worldOfAll(t), 6, 0, 4)} {
		steps := []impl.YardWorld{w}
		for len(steps) <= 30 {
			steps = append(steps, impl.YardCalm(steps[len(steps)-1], 1))
		}
		for a := range steps {
			if got := impl.YardCalm(w, a); !isSameWorld(got, steps[a]) {
				t.Errorf("%s: %d rounds: %s, one by one %s", what, a, worldShown(got), worldShown(steps[a]))
			}
			if got := impl.YardCalm(steps[a], 30-a); !isSameWorld(got, steps[30]) {
				t.Errorf("%s: %d and %d rounds: %s, want %s", what, a, 30-a, worldShown(got), worldShown(steps[30]))
			}
		}
		whole := impl.YardCalm(w, 2000)
		for _, a := range []int{0, 1, 999, 1999, 2000} {
			if got := impl.YardCalm(impl.YardCalm(w, a), 2000-a); !isSameWorld(got, whole) {
				t.Errorf("%s: %d and %d rounds: %s", what, a, 2000-a, worldShown(got))
			}
		}
	}
}

func TestYardRight(t *testing.T) {
	chain := houseWith([]string{"a get a.o>src > a.o", "b ends b.o>4 > b.o", "c get c.o>c.o > c.o", "d get d.o>c.o > d.o", "e ends e.o>1 > e.o"})
	broken := placeWith(t, chain, "main.clay", "emit {};")
	invalid := impl.MillPlace{Files: filesOf("z", "Z", "a b", "blank", "", "no name", "src", strings.Repeat("x", 3001), "z", "Z2")}
	y := func(code int, text string) impl.MillReply { return impl.MillReply{Code: code, Text: text} }
	one := func(p impl.MillPlace, name string, never bool, reply impl.MillReply) impl.YardAnswer {
		return impl.YardAnswer{Name: name, Place: p, Never: never, Reply: reply}
	}
	base := impl.YardNewWorld(2, "key")
	wantRight(t, "no answers", true, base)
	rights := []impl.YardAnswer{
		one(chain, "a.o", false, y(0, "S!")), one(chain, "src", false, y(0, "S")), one(chain, "empty", false, y(0, "")), one(chain, "nowhere", false, y(4, "")), one(chain, "a b", false, y(4, "")), one(chain, "", false, y(4, "")), one(chain, "b.o", false, y(5, "")), one(chain, "e.o", false, y(5, "")),
		one(chain, "c.o", true, y(0, "")), one(chain, "d.o", true, y(0, "")), one(broken, "a.o", false, y(4, "")), one(broken, "src", false, y(0, "S")), one(broken, "c.o", false, y(4, "")), one(broken, "a b", false, y(4, "")),
		one(impl.MillPlace{}, "src", false, y(4, "")), one(impl.MillPlace{}, "", false, y(4, "")), one(houseOf("x", "X"), "x", false, y(0, "X")),
		one(invalid, "z", false, y(0, "Z")), one(invalid, "a b", false, y(0, "blank")), one(invalid, "", false, y(0, "no name")), one(invalid, "src", false, y(0, strings.Repeat("x", 3001))), one(invalid, "a.o", false, y(4, "")), one(invalid, "main.clay", false, y(4, "")),
	}
	with := func(answers ...impl.YardAnswer) impl.YardWorld {
		w := base
		w.Answers = answers
		return w
	}
	for _, right := range rights {
		what := fmt.Sprintf("%s in %d files", right.Name, len(right.Place.Files))
		wantRight(t, what, true, with(right))
		for _, bent := range []impl.YardAnswer{
			one(right.Place, right.Name, !right.Never, right.Reply),
			one(right.Place, right.Name, right.Never, y(right.Reply.Code+1, right.Reply.Text)), one(right.Place, right.Name, right.Never, y(right.Reply.Code, right.Reply.Text+"!")), one(right.Place, right.Name, right.Never, y(5, "S!")),
			one(right.Place, right.Name, !right.Never, y(0, "S!")), one(right.Place, right.Name, true, y(4, "")), one(right.Place, right.Name, true, y(0, "x")),
		} {
			wantRight(t, what+": "+answersShown([]impl.YardAnswer{bent}), false, with(bent))
		}
	}
	wantRight(t, "all", true, with(rights...))
	slices.Reverse(rights)
	wantRight(t, "all, turned around", true, with(rights...))
	for at := range rights {
		bent := slices.Clone(rights)
		bent[at].Reply.Text += "!"
		wantRight(t, fmt.Sprint("one of many ", at), false, with(bent...))
	}
	// Each goes by its own place, not by the boss's, nor by that of the one ahead.
	other := placeWith(t, chain, "src", "T")
	wantRight(t, "two places", true, with(one(chain, "a.o", false, y(0, "S!")), one(other, "a.o", false, y(0, "T!")), one(chain, "a.o", false, y(0, "S!"))))
	wantRight(t, "the one ahead", false, with(one(chain, "a.o", false, y(0, "S!")), one(other, "a.o", false, y(0, "S!"))))
	wantRight(t, "the first place", false, with(one(chain, "a.o", false, y(0, "S!")), one(other, "a.o", false, y(0, "T!")), one(chain, "a.o", false, y(0, "T!"))))
	wantRight(t, "no place behind one", false, with(one(chain, "src", false, y(0, "S")), one(impl.MillPlace{}, "src", false, y(0, "S"))))
	full := slices.Repeat([]impl.YardAnswer{one(chain, "a.o", false, y(0, "S!"))}, 60)
	wantRight(t, "sixty", true, with(full...))
	wantRight(t, "too many", false, with(append(full, full[0])...))
	bad := with(one(chain, "a.o", false, y(0, "S!")))
	bad.Boss.Now = -1
	wantRight(t, "not valid", false, bad)
	wantRight(t, "nothing", false, impl.YardWorld{})
	forged := with(one(chain, "a.o", false, y(0, "S!")))
	forged.Forged = "forged"
	wantRight(t, "forged", true, forged)
	wantRight(t, "down", true, wantEvent(t, with(rights...), 6))
}

// houseAsks asks for a hundred names that are not there, but for the last: this it reads.
const houseAsks = houseOuts + `fn main() -> text { let i = 0; while i < 99 { if has(behind() + dec(i)) { say "has"; } i = i + 1; } outs(read(behind()) + "!"); return ""; }`

// roundsUntil lets calm rounds go by until a world is asked for nothing, and tells how many; none above most.
func roundsUntil(w impl.YardWorld, most int) (impl.YardWorld, int) {
	rounds := 0
	for len(w.Boss.Roots) > 0 && rounds < most {
		next := min(20, most-rounds)
		w = impl.YardCalm(w, next)
		rounds += next
	}
	return w, rounds
}

// wantLively asks for promise 45: behind so many calm rounds a world with a boss and a worker is asked for nothing, and all is answered.
func wantLively(t *testing.T, what string, w impl.YardWorld) impl.YardWorld {
	t.Helper()
	if !w.Boss.Up || w.Forged != "" || !slices.ContainsFunc(w.Workers, func(worker impl.YardWorker) bool { return worker.Up }) {
		t.Fatalf("%s: not lively: %s", what, worldShown(w))
	}
	most := 20 + 210*len(impl.HousePlan(w.Boss.Place, "main").Targets)
	got, rounds := roundsUntil(w, most)
	if len(got.Workers) == 0 {
		t.Fatalf("%s: nothing is left of %s", what, worldShown(w))
	}
	if len(got.Boss.Roots) > 0 {
		t.Errorf("%s: %d rounds: %s", what, rounds, worldShown(got))
	}
	for _, name := range w.Boss.Roots {
		is := func(one impl.YardAnswer) bool { return one.Name == name && isSameMillPlace(one.Place, w.Boss.Place) }
		if !slices.ContainsFunc(got.Answers[len(w.Answers):], is) && len(got.Answers) < 60 {
			t.Errorf("%s: %q is not answered: %s", what, name, worldShown(got))
		}
	}
	wantRight(t, what, true, got)
	return got
}

// Promise 45 for worlds by hand: the longest runs, one behind the other, begun where much is lost.
func TestYardWorldLively(t *testing.T) {
	t.Parallel()
	targets := []string{"a asks a.o>src > a.o", "b asks b.o>a.o > b.o", "c asks c.o>b.o > c.o"}
	w := worldWith(t, targets, "c.o src nowhere", "asks", houseAsks)
	got := wantLively(t, "long", w)
	if answersShown(got.Answers) != `src=0"S" nowhere=4"" c.o=0"S!!!"` || got.Boss.Now < 600 || len(got.Boss.Runs[2].Made.Seen) != 101 {
		t.Error(worldShown(got))
	}
	// Remembered, it takes one round.
	again, rounds := roundsUntil(worldAsked(t, got, "c.o"), 1)
	if rounds != 1 || len(again.Answers) != 4 {
		t.Error(worldShown(again))
	}
	// The offers have just gone to workers that fall, and no more is let through.
	busy := impl.YardCalm(w, 40)
	for _, fallen := range []int{1, 2} {
		w := wantEvent(t, busy, 6, fallen)
		w.Flight = slices.Repeat([]impl.YardParcel{{To: fallen, Sent: "s"}}, 300)
		wantLively(t, fmt.Sprint(fallen, " fell"), w)
		w = worldAsked(t, wantEvent(t, wantEvent(t, w, 6, 0, 0), 7), "b.o c.o")
		wantLively(t, fmt.Sprint(fallen, " fell, and the boss"), w)
	}
	late := busy
	wantStands(t, "busy", late.Boss, "c:work20@1<46")
	late.Boss.Now, late.Boss.Heard = 980000, []int{979999, 979998}
	late.Boss.Jobs = []impl.YardJob{{Name: "c", Worker: 2, Until: 980006}}
	wantLively(t, "late", late)
	// What never comes is answered as well, and so is what has no orders.
	never := worldWith(t, []string{"a get a.o>b.o > a.o", "b get b.o>a.o > b.o", "c get c.o>src > c.o"}, "a.o c.o b.o")
	if got := wantLively(t, "never", never); answersShown(got.Answers) != `a.o=0""never c.o=0"S!" b.o=0""never` {
		t.Error(worldShown(got))
	}
	if got := wantLively(t, "no orders", worldWith(t, nil, "src main.clay a.o", "main.clay", "emit 1;")); answersShown(got.Answers) != `src=0"S" main.clay=0"emit 1;" a.o=4""` {
		t.Error(worldShown(got))
	}
	// Without a worker there is no end, and no answer but of what needs none.
	down := wantEvent(t, wantEvent(t, w, 6, 1), 6, 2)
	if got := impl.YardCalm(down, 1000); !slices.Equal(got.Boss.Roots, []string{"c.o"}) || answersShown(got.Answers) != `src=0"S" nowhere=4""` {
		t.Error(worldShown(got))
	}
}

// worldWalk is a world that is led by drawn events.
type worldWalk struct {
	houseAuthor
	t      *testing.T
	w      impl.YardWorld
	counts map[string]int
}

// event is a drawn one; most of them let something go on.
func (w *worldWalk) event() impl.YardEvent {
	parcel := w.below(min(len(w.w.Flight), 4) + 1)
	if w.below(8) == 0 {
		parcel = w.below(len(w.w.Flight)+3) - 1
	}
	kind := w.below(46)
	if kind > 13 && len(w.w.Flight) == 0 {
		return impl.YardEvent{Kind: 1}
	}
	switch kind {
	case 0, 1, 2, 3:
		return impl.YardEvent{Kind: 8, Name: w.pick(append(strings.Fields("o1 o2 o3 o4 o5 o6 l/o7 l/o8"), "f1", "gone", "a b")...)}
	case 4, 5:
		led := &yardWalk{houseAuthor: w.houseAuthor, t: w.t, b: w.w.Boss}
		return impl.YardEvent{Kind: 9, Entry: led.entry()}
	case 6, 7:
		return impl.YardEvent{Kind: 10}
	case 8, 9:
		return impl.YardEvent{Kind: 6, A: w.below(6) - 1, B: w.below(6) - 1}
	case 10, 11, 12, 13:
		return impl.YardEvent{Kind: 7, A: w.below(6) - 1, B: w.below(6) - 1}
	case 25:
		return impl.YardEvent{Kind: w.below(40) - 15, A: w.below(6) - 1, B: w.below(6) - 1, C: w.below(300) - 20, Name: w.pick(houseNames...), Entry: w.drawnEntry()}
	case 14, 15, 16:
		return impl.YardEvent{Kind: 3, A: parcel}
	case 17:
		return impl.YardEvent{Kind: 4, A: parcel}
	case 18, 19, 20:
		return impl.YardEvent{Kind: 5, A: parcel, B: w.below(16) - 1, C: w.below(600) - 30}
	case 21, 22, 23, 24:
		return impl.YardEvent{Kind: 1}
	}
	return impl.YardEvent{Kind: 2, A: parcel}
}

// forge puts a message in flight that nobody sent, and may let it come at once.
func (w *worldWalk) forge() {
	m := w.drawnMessage()
	b := w.w.Boss
	ready := slices.DeleteFunc(slices.Clone(b.Runs), func(run impl.YardRun) bool { return run.Mode != 1 || run.Wait != "" })
	if len(ready) > 0 && w.below(4) > 0 {
		run := ready[w.below(len(ready))]
		m = impl.YardMessage{Kind: 2, From: 1 + w.below(len(b.Heard)), Epoch: b.Epoch, Edit: b.Edit, Target: impl.ClayTarget{Name: run.Made.Name}, Count: len(run.Made.Seen), Turn: endOf(w.drawnKept().Made)}
	}
	parcel := parcelOf(m, w.w.Key)
	parcel.To = min(parcel.To, len(w.w.Workers))
	parcel.Sent = w.pick("sent", "", parcel.Sent+"!")
	if len(w.w.Flight) < 300 {
		w.w.Flight = slices.Insert(slices.Clone(w.w.Flight), 0, parcel)
	}
	if w.below(2) == 0 {
		w.w = wantEvent(w.t, w.w, 2)
	}
}

// calm lets some rounds go by, at once and one by one (promise 48).
func (w *worldWalk) calm() {
	a, b := w.below(5), w.below(5)
	first := wantCalmWorld(w.t, w.w, a)
	whole := impl.YardCalm(w.w, a+b)
	if got := impl.YardCalm(first, b); !isSameWorld(got, whole) {
		w.t.Errorf("%d and %d rounds of %s: %s, want %s", a, b, worldShown(w.w), worldShown(got), worldShown(whole))
	}
	w.w = whole
	w.counts["calm"]++
}

// settle asks whether all is right where nothing was forged (promises 42 and 43).
func (w *worldWalk) settle() {
	if w.w.Forged != "" {
		right := isRightByRules(w.w)
		w.counts[fmt.Sprint("forged, right ", right)]++
		wantRight(w.t, "forged", right, w.w)
		return
	}
	wantRight(w.t, "walked", true, w.w)
	wantMeant(w.t, w.w.Boss, w.w.Answers)
	w.counts["right"]++
}

func (w *worldWalk) step() {
	e := w.event()
	before := w.w
	w.w = wantHappen(w.t, w.w, e)
	if e.Kind < 1 || e.Kind > 10 {
		w.counts["other kinds"]++
	} else {
		w.counts[fmt.Sprintf("kind %d, done %v", e.Kind, !isSameWorld(before, w.w))]++
	}
	if before.Forged != "" && w.w.Forged != before.Forged {
		w.t.Errorf("forged anew: %s", worldShown(w.w))
	}
	// Some are forgotten, since each has a place of its own to be looked at.
	if len(w.w.Answers) > 12 {
		w.countAnswers(w.w.Answers[:8])
		w.w.Answers = w.w.Answers[8:]
	}
}

// wake raises the boss and a worker.
func (w *worldWalk) wake() impl.YardWorld {
	woken := w.w
	for _, who := range []int{0, 1 + w.below(len(woken.Workers))} {
		woken = wantEvent(w.t, woken, 7, who)
	}
	return woken
}

func (w *worldWalk) countAnswers(answers []impl.YardAnswer) {
	for _, one := range answers {
		w.counts[fmt.Sprintf("answer %d, never %v", one.Reply.Code, one.Never)]++
	}
}

// walkIn is a walk that begins with a drawn house.
func walkIn(t *testing.T, a houseAuthor, counts map[string]int) *worldWalk {
	t.Helper()
	return &worldWalk{a, t, worldIn(t, 1+a.below(4), a.house()), counts}
}

// Promises 41, 42, 43, 45 and 48 for drawn worlds, led by events of all kinds; in some groups there are messages that nobody sent.
func TestYardWorldsDrawn(t *testing.T) {
	for group := range 8 {
		t.Run(fmt.Sprint(group), func(t *testing.T) {
			t.Parallel()
			dice := clayDice(3001 + group)
			a := houseAuthor{&dice}
			counts := map[string]int{}
			for range 4 {
				w := walkIn(t, a, counts)
				for range 200 {
					if group%4 == 0 && a.below(20) == 0 {
						w.forge()
					}
					w.step()
					if a.below(12) == 0 {
						w.settle()
					}
					if a.below(15) == 0 {
						w.calm()
					}
					if t.Failed() {
						return
					}
				}
				w.settle()
				w.countAnswers(w.w.Answers)
				woken := w.wake()
				woken.Boss.Roots = nil
				woken = worldAsked(t, woken, "o1 o2 o4 l/o7 f1")
				if woken.Boss.Up && woken.Forged == "" {
					wantLively(t, "woken", woken)
					counts["lively"]++
				}
			}
			wantCounts(t, group%4 == 0, counts)
		})
	}
}

// wantCounts asks whether a walk met with all that there is.
func wantCounts(t *testing.T, forges bool, counts map[string]int) {
	t.Helper()
	least := map[string]int{"calm": 25, "other kinds": 3, "answer 0, never false": 1, "answer 5, never false": 1}
	for kind, many := range [][2]int{1: {80, 0}, {80, 20}, {8, 5}, {3, 0}, {4, 2}, {6, 2}, {4, 8}, {15, 5}, {4, 1}, {2, 5}} {
		least[fmt.Sprintf("kind %d, done true", kind)], least[fmt.Sprintf("kind %d, done false", kind)] = many[0], many[1]
	}
	if forges {
		maps.Copy(least, map[string]int{"forged, right true": 3, "forged, right false": 3})
	} else {
		maps.Copy(least, map[string]int{"right": 30, "lively": 3})
	}
	for what, many := range least {
		if counts[what] < many {
			t.Errorf("%s: %v", what, counts)
		}
	}
}

// worldOther is a world that is to answer as another one does, since its place is the same, or means the same.
type worldOther struct {
	what string
	w    impl.YardWorld
}

// learnt is a world with runs of another house on its shelf, honest ones.
func (w *worldWalk) learnt(world impl.YardWorld) impl.YardWorld {
	place := w.changed(w.t, world.Boss.Place)
	shelf := impl.HouseBuild(place, "main", impl.HouseShelf{}, strings.Fields("o1 o2 o3 o4 o5 o6 l/o7 l/o8")).Shelf
	for _, k := range shelf.Kept {
		world = wantHappen(w.t, world, impl.YardEvent{Kind: 9, Entry: ranOf(k)})
	}
	return world
}

// tidied is a world whose packages are written anew.
func (w *worldWalk) tidied(world impl.YardWorld, how int) impl.YardWorld {
	p := world.Boss.Place
	q := impl.HouseTidy(p, packNames(p), how)
	h := houseFactsOf(p)
	changed := changedFiles(p, q)
	if h.reads(changed) || how == impl.HouseFold && h.orders.Code == 2 {
		return world
	}
	for _, file := range q.Files {
		if changed[file.Name] {
			world = worldEdited(w.t, world, fileEntry(file.Name, file.Text))
		}
	}
	w.counts[fmt.Sprint("tidied ", len(changed) > 0)]++
	return world
}

// others are worlds that are to answer as this one does.
func (w *worldWalk) others(world impl.YardWorld) []worldOther {
	t := w.t
	safe := wantEvent(t, world, 1)
	others := []worldOther{
		{"cleared", wantHappen(t, world, impl.YardEvent{Kind: 9, Entry: impl.YardEntry{Kind: 5}})},
		{"learnt", w.learnt(world)},
		{"learnt and cleared", wantHappen(t, w.learnt(world), impl.YardEvent{Kind: 9, Entry: impl.YardEntry{Kind: 5}})},
		{"packed", wantEvent(t, safe, 10)},
		{"fallen, all kept", wantEvent(t, wantEvent(t, world, 6, 0, 1000), 7)},
		{"fallen, none kept", wantEvent(t, wantEvent(t, safe, 6, 0, 0), 7)},
		{"fallen twice", wantEvent(t, wantEvent(t, wantEvent(t, wantEvent(t, safe, 6, 0, 0), 7), 6, 0, 0), 7)},
		{"ticked", safe},
	}
	lost := world
	lost.Flight = nil
	others = append(others, worldOther{"all lost", lost})
	for number, worker := range world.Workers {
		if !worker.Up {
			others = append(others, worldOther{fmt.Sprint(number+1, " risen"), wantEvent(t, world, 7, number+1)})
		} else if len(world.Workers) > 1 {
			others = append(others, worldOther{fmt.Sprint(number+1, " fallen"), wantEvent(t, wantEvent(t, world, 7, 1+(number+1)%len(world.Workers)), 6, number+1)})
		}
	}
	for _, how := range tidyWays {
		others = append(others, worldOther{fmt.Sprint("tidied by ", how), w.tidied(world, how)})
	}
	return others
}

// repliesOf are what a world answers to names, told one by one.
func (w *worldWalk) repliesOf(what string, world impl.YardWorld, names []string) string {
	many := len(world.Answers)
	for _, name := range names {
		world = impl.YardDo(world, impl.YardEvent{Kind: 8, Name: name})
	}
	answers := wantLively(w.t, what, world).Answers[many:]
	told := make([]string, len(names))
	for i, name := range names {
		for _, one := range answers {
			if one.Name == name {
				told[i] = answersShown([]impl.YardAnswer{one})
			}
		}
	}
	return strings.Join(told, " ")
}

// Promise 46 for drawn worlds: what is done beside the place changes no reply.
func TestYardWorldsAnswerTheSame(t *testing.T) {
	for group := range 4 {
		t.Run(fmt.Sprint(group), func(t *testing.T) {
			t.Parallel()
			dice := clayDice(3051 + group)
			a := houseAuthor{&dice}
			counts := map[string]int{}
			for range 12 {
				w := &worldWalk{a, t, worldIn(t, 1+a.below(4), a.wordyHouse(t)), counts}
				for range 60 {
					w.step()
				}
				woken := w.wake()
				// An old root would stand in the way of what is asked for, and its answer might be told ahead.
				woken.Boss.Roots, woken.Answers = nil, nil
				names := a.some(strings.Fields("o1 o2 o3 o4 o5 o6 l/o7 l/o8"))
				slices.Sort(names)
				names = append(slices.Compact(names), "f1", "gone")
				want := w.repliesOf("as it is", woken, names)
				for _, other := range w.others(woken) {
					if got := w.repliesOf(other.what, other.w, names); got != want {
						t.Errorf("%s: %s, want %s", other.what, got, want)
					}
				}
				if t.Failed() {
					return
				}
				counts["worlds"]++
			}
			if counts["tidied true"] < 5 {
				t.Error(counts)
			}
		})
	}
}

// Promise 46 for a world by hand, whose shelf, log and workers are others.
func TestYardWorldSameAnswers(t *testing.T) {
	chain := []string{"a get a.o>src > a.o", "b has b.o>src > b.o", "m get m.o>a.o < b.o > m.o"}
	w := worldWith(t, chain, "m.o")
	want := `m.o=0"S!!"`
	told := func(what string, w impl.YardWorld) {
		t.Helper()
		got := wantLively(t, what, w)
		if last := answersShown(got.Answers[len(w.Answers):]); last != want {
			t.Errorf("%s: %s", what, last)
		}
	}
	told("as it is", w)
	for rounds := range 12 {
		at := impl.YardCalm(w, rounds)
		told("calm", worldAsked(t, at, "m.o"))
		told("cleared", worldAsked(t, worldEdited(t, at, impl.YardEntry{Kind: 5}), "m.o"))
		told("learnt", worldAsked(t, worldEdited(t, at, ranOf(keptIn(houseWith(chain, "src", "T"), chain[0]))), "m.o"))
		told("packed", worldAsked(t, wantEvent(t, wantEvent(t, at, 1), 10), "m.o"))
		for keep := range 3 {
			down := wantEvent(t, wantEvent(t, at, 1), 6, 0, keep)
			told("fallen", worldAsked(t, wantEvent(t, down, 7), "m.o"))
		}
		for number := 1; number <= 2; number++ {
			told("a worker fallen", worldAsked(t, wantEvent(t, at, 6, number), "m.o"))
			told("a worker fallen and risen", worldAsked(t, wantEvent(t, wantEvent(t, at, 6, number), 7, number), "m.o"))
		}
		tidied := impl.HouseTidy(at.Boss.Place, []string{"main.clay"}, impl.HousePrint)
		told("tidied", worldAsked(t, worldEdited(t, at, fileEntry("main.clay", tidied.Files[slices.IndexFunc(tidied.Files, func(file impl.MillFile) bool { return file.Name == "main.clay" })].Text)), "m.o"))
	}
	// The place does.
	want = `m.o=0"T!!"`
	told("another place", worldAsked(t, worldEdited(t, w, fileEntry("src", "T")), "m.o"))
}

// Promise 42 where a place is changed while it is being made: each answer is what the house meant when it was told.
func TestYardWorldAsItWas(t *testing.T) {
	chain := []string{"a get a.o>src > a.o", "m get m.o>a.o > m.o"}
	w := worldWith(t, chain, "m.o")
	texts := 0
	for round := range 60 {
		w = impl.YardCalm(w, 1+round%7)
		w = worldAsked(t, w, "m.o")
		if round%5 == 4 {
			w = worldEdited(t, w, fileEntry("src", fmt.Sprint("text ", texts)))
			texts++
		}
		wantRight(t, fmt.Sprint("round ", round), true, w)
	}
	replies := map[string]int{}
	for _, one := range w.Answers {
		replies[one.Reply.Text]++
		if place := impl.MillSee(one.Place, 1, "src"); place.Text+"!!" != one.Reply.Text {
			t.Errorf("%q of %q", one.Reply.Text, place.Text)
		}
	}
	if len(replies) < 6 {
		t.Error(replies)
	}
}

// No argument is changed, nor what lies behind its lists; answers are new memory, and no two parts of one share any.
func TestYardWorldsOwnMemory(t *testing.T) {
	chain := []string{"a get a.o>src > a.o", "b get b.o>src > b.o", "m get m.o>a.o < b.o > m.o", "z a.o z.o> > z.o"}
	begun := worldWith(t, chain, "m.o src z.o nowhere")
	busy := impl.YardCalm(begun, 2)
	told := worldAsked(t, impl.YardCalm(begun, 30), "m.o z.o src")
	all := worldOfAll(t)
	all.Flight[0].Bytes = all.Flight[0].Sent
	for at, w := range []impl.YardWorld{begun, busy, impl.YardDo(busy, impl.YardEvent{Kind: 1}), told, all, wantEvent(t, all, 6, 0, 2), {}} {
		check := func(what string, does func(w impl.YardWorld) any, args ...any) {
			roomy, seen := roomyOf(w)
			before := seen()
			got := does(roomy)
			wantNewMemory(t, got, append(args, roomy)...)
			if seen() != before {
				t.Errorf("%d, %s: changed", at, what)
			}
		}
		for kind := range 12 {
			for parcel := range 6 {
				e := impl.YardEvent{Kind: kind, A: parcel, B: 4, C: 5, Name: string([]byte("asked")), Entry: ranOf(honestRuns()["asks"])}
				if parcel%2 == 0 {
					e.Entry = fileEntry("new", "text")
				}
				roomy, seen := roomyOf(e)
				before := seen()
				check(eventShown(e), func(w impl.YardWorld) any { return impl.YardDo(w, roomy) }, roomy)
				if seen() != before {
					t.Errorf("%d: %s changed", at, eventShown(e))
				}
			}
		}
		for _, rounds := range []int{-1, 0, 1, 5} {
			check(fmt.Sprint("calm ", rounds), func(w impl.YardWorld) any { return impl.YardCalm(w, rounds) })
		}
		check("right", func(w impl.YardWorld) any { return impl.YardRight(w) })
		check("valid", func(w impl.YardWorld) any { return impl.YardValidWorld(w) })
	}
	for workers := range 5 {
		key := string([]byte("key"))
		wantNewMemory(t, impl.YardNewWorld(workers, key), key, impl.YardNewWorld(workers, key))
	}
}

// Many at once: nothing is kept between calls, and it does not matter which goroutine is done first.
func TestYardWorldsKeepNothing(t *testing.T) {
	var all []func() string
	for n := range 8 {
		w := worldIn(t, 2+n%3, houseWith([]string{fmt.Sprintf("a get a.o>f%d > a.o", n), "m get m.o>a.o > m.o", "n has n.o>a.o > n.o"}, fmt.Sprint("f", n), fmt.Sprint("text ", n)))
		w = worldAsked(t, w, "m.o n.o")
		want := impl.YardCalm(w, 15)
		if got := answersShown(want.Answers); got != fmt.Sprintf(`n.o=0"yes" m.o=0"text %d!!"`, n) {
			t.Error(got)
		}
		all = append(all, func() string {
			got := w
			for range 15 {
				got = impl.YardCalm(got, 1)
			}
			if !isSameWorld(got, want) || !impl.YardRight(got) {
				return worldShown(got)
			}
			return ""
		})
	}
	wantAtOnce(t, all)
}

// No goroutine is left behind.
func TestYardWorldsLeaveNone(t *testing.T) {
	w := worldWith(t, []string{"a get a.o>src > a.o", "b has b.o>src > b.o"}, "a.o b.o")
	full := worldOfAll(t)
	full.Flight = slices.Repeat([]impl.YardParcel{{To: 1, Sent: "s"}}, 300)
	before := runtime.NumGoroutine()
	for range 20 {
		impl.YardCalm(w, 20)
		impl.YardDo(full, impl.YardEvent{Kind: 1})
		impl.YardDo(impl.YardWorld{}, impl.YardEvent{Kind: 1})
	}
	// One that is at its very end may be counted for a moment.
	for tries := 0; runtime.NumGoroutine() > before; tries++ {
		if tries == 200 {
			t.Fatalf("%d are under way, before %d", runtime.NumGoroutine(), before)
		}
		time.Sleep(5 * time.Millisecond)
	}
}

// A world whose events are told by bytes.
func FuzzYardWorld(f *testing.F) {
	for n := range 4 {
		f.Add(n, strings.Repeat("\x00\x0bqc\x1c", 20))
	}
	f.Fuzz(func(t *testing.T, seed int, steps string) {
		dice := clayDice(seed)
		w := walkIn(t, houseAuthor{&dice}, map[string]int{})
		for _, b := range []byte(steps[:min(len(steps), 100)]) {
			switch b {
			case 'q':
				w.forge()
			case 'c':
				w.calm()
			}
			w.step()
		}
		w.settle()
	})
}
