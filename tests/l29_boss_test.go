package tests

import (
	"fmt"
	"maps"
	"slices"
	"strings"
	"testing"

	"loop.example/kilnyard/impl"
)

// bossReader is a second reading of what a boss does: its runs stand in a list that is gone through again and again, and all that it knows is looked for anew each time.
type bossReader struct {
	b       impl.YardBoss
	targets []impl.ClayTarget
	out     []impl.YardMessage
	answers []impl.YardAnswer
}

func readBoss(b impl.YardBoss) *bossReader {
	roomy, _ := roomyOf(b)
	return &bossReader{b: roomy, targets: impl.HousePlan(b.Place, "main").Targets}
}

// target is the one of a name, and whether there is one.
func (r *bossReader) target(name string) (impl.ClayTarget, bool) {
	for _, target := range r.targets {
		if target.Name == name {
			return target, true
		}
	}
	return impl.ClayTarget{}, false
}

func (r *bossReader) maker(out string) (impl.ClayTarget, bool) {
	for _, target := range r.targets {
		if slices.Contains(target.Outs, out) {
			return target, true
		}
	}
	return impl.ClayTarget{}, false
}

// run is the run of a name; nil, if there is none.
func (r *bossReader) run(name string) *impl.YardRun {
	for i := range r.b.Runs {
		if r.b.Runs[i].Made.Name == name {
			return &r.b.Runs[i]
		}
	}
	return nil
}

func (r *bossReader) look(kind int, name string) (impl.MillReply, bool) {
	h := &houseReader{r.b.Place, r.targets, make([]impl.HouseMade, len(r.targets))}
	maker, isOut := r.maker(name)
	if kind != 1 || !isOut {
		return h.look(kind, name)
	}
	run := r.run(maker.Name)
	switch {
	case run == nil || run.Mode != 2:
		return impl.MillReply{}, false
	case run.Made.Code != 0:
		return impl.MillReply{Code: 5}, true
	}
	for _, file := range run.Made.Files {
		if file.Name == name {
			return impl.MillReply{Text: file.Text}, true
		}
	}
	// Only a stranger tells of a run that ended well without all its outs.
	return impl.MillReply{}, true
}

func (r *bossReader) want(name string) {
	maker, isOut := r.maker(name)
	if !isOut || r.run(maker.Name) != nil {
		return
	}
	r.b.Runs = append(r.b.Runs, impl.YardRun{Made: impl.HouseMade{Name: maker.Name}})
	slices.SortFunc(r.b.Runs, func(a, b impl.YardRun) int { return strings.Compare(a.Made.Name, b.Made.Name) })
}

func (r *bossReader) wait(name, wait string) {
	r.run(name).Wait = wait
	r.want(wait)
}

// finish ends a run and keeps it.
func (r *bossReader) finish(name string, turn impl.MillTurn) {
	run := r.run(name)
	run.Mode, run.Wait = 2, ""
	run.Made = impl.HouseMade{Name: name, Over: true, Code: turn.Code, Text: turn.Text, Steps: turn.Steps, Files: turn.Files, Said: turn.Said, Seen: run.Made.Seen}
	target, _ := r.target(name)
	k := impl.HouseKept{Target: target, Made: run.Made}
	form := yardFormByRules(ranOf(k))
	if form == "" || len(r.b.Log.Safe)+len(r.b.Log.Loose) >= 1000 || len(r.b.Shelf.Kept) >= 100 || slices.ContainsFunc(r.b.Shelf.Kept, func(l impl.HouseKept) bool { return isSameKept(k, l) }) {
		return
	}
	r.b.Shelf.Kept = append(slices.Clip(r.b.Shelf.Kept), k)
	r.b.Log.Loose = append(slices.Clip(r.b.Log.Loose), form)
}

func (r *bossReader) standAhead(name string) {
	target, _ := r.target(name)
	run := r.run(name)
	ahead := append(slices.Clone(target.Ins), target.Tool)
	many := len(run.Made.Seen)
	if many >= 1 && many <= len(ahead) {
		last := run.Made.Seen[many-1]
		tree, fault := impl.MillParse(last.Reply.Text)
		if last.Reply.Code != 0 {
			r.finish(name, impl.MillTurn{Code: last.Reply.Code, Text: last.Name})
			return
		}
		if many == len(ahead) && (fault.Code != 0 || impl.MillCheck(tree).Code != 0) {
			r.finish(name, impl.MillTurn{Code: 2, Text: "tool"})
			return
		}
	}
	if many < len(ahead) {
		r.wait(name, ahead[many])
	}
}

// visit does for a run what settling does when it comes by.
func (r *bossReader) visit(name string) {
	run := r.run(name)
	target, _ := r.target(name)
	switch {
	case run.Mode == 0:
		for _, k := range r.b.Shelf.Kept {
			if !isSameTarget(k.Target, target) || !isHonestByRules(k) {
				continue
			}
			other := false
			for _, one := range k.Made.Seen {
				y, is := r.look(one.Kind, one.Name)
				if !is {
					r.wait(name, one.Name)
					return
				}
				if other = y != one.Reply; other {
					break
				}
			}
			if !other {
				run.Mode, run.Wait, run.Made = 2, "", k.Made
				return
			}
		}
		run.Mode, run.Wait = 1, ""
		r.standAhead(name)
	case run.Mode == 1 && run.Wait != "" && len(run.Made.Seen) < len(target.Ins)+101:
		if y, is := r.look(1, run.Wait); is {
			run.Made.Seen = append(slices.Clip(run.Made.Seen), impl.MillSeen{Kind: 1, Name: run.Wait, Reply: y})
			run.Wait = ""
			r.standAhead(name)
		}
	}
}

func (r *bossReader) settle() {
	for changed := true; changed; {
		before := runsShown(r.b)
		// Runs that come while they are gone through are met in this turn, if they stand behind.
		for name, there := "", true; there; {
			there = false
			for _, run := range r.b.Runs {
				if run.Made.Name > name {
					name, there = run.Made.Name, true
					break
				}
			}
			if there {
				r.visit(name)
			}
		}
		changed = runsShown(r.b) != before
	}
}

func (r *bossReader) tick() {
	if !r.b.Up || r.b.Now == 1000000 {
		return
	}
	r.b.Now++
	r.b.Log = impl.YardLog{Safe: slices.Concat(r.b.Log.Safe, r.b.Log.Loose)}
	r.b.Jobs = slices.DeleteFunc(r.b.Jobs, func(job impl.YardJob) bool { return job.Until < r.b.Now })
	for _, name := range r.b.Roots {
		r.want(name)
	}
	r.settle()
	for _, run := range r.b.Runs {
		hasJob := slices.ContainsFunc(r.b.Jobs, func(job impl.YardJob) bool { return job.Name == run.Made.Name })
		if run.Mode != 1 || run.Wait != "" || hasJob {
			continue
		}
		for number := 1; number <= len(r.b.Heard); number++ {
			heard := r.b.Heard[number-1]
			isBusy := slices.ContainsFunc(r.b.Jobs, func(job impl.YardJob) bool { return job.Worker == number })
			if heard == -1 || heard < r.b.Now-4 || isBusy {
				continue
			}
			target, _ := r.target(run.Made.Name)
			r.b.Jobs = append(r.b.Jobs, impl.YardJob{Name: run.Made.Name, Worker: number, Until: r.b.Now + 6})
			r.out = append(r.out, impl.YardMessage{Kind: 1, To: number, Epoch: r.b.Epoch, Edit: r.b.Edit, Target: target, Seen: run.Made.Seen})
			break
		}
	}
	slices.SortFunc(r.b.Jobs, func(a, b impl.YardJob) int { return strings.Compare(a.Name, b.Name) })
	never := !slices.ContainsFunc(r.b.Runs, func(run impl.YardRun) bool { return run.Mode == 1 && run.Wait == "" })
	var left []string
	for _, name := range r.b.Roots {
		y, is := r.look(1, name)
		if is || never {
			r.answers = append(r.answers, impl.YardAnswer{Name: name, Place: r.b.Place, Never: !is, Reply: y})
		} else {
			left = append(left, name)
		}
	}
	r.b.Roots = left
}

func (r *bossReader) take(m impl.YardMessage) {
	if !r.b.Up || m.From < 1 || m.From > len(r.b.Heard) || yardLinesByRules(m) == "" {
		return
	}
	r.b.Heard[m.From-1] = r.b.Now
	name := m.Target.Name
	run := r.run(name)
	if m.Kind != 2 || m.Epoch != r.b.Epoch || m.Edit != r.b.Edit || run == nil || run.Mode != 1 || run.Wait != "" || len(run.Made.Seen) != m.Count {
		return
	}
	target, _ := r.target(name)
	if !m.Turn.Over && m.Count >= len(target.Ins)+101 {
		return
	}
	r.b.Jobs = slices.DeleteFunc(r.b.Jobs, func(job impl.YardJob) bool { return job.Name == name })
	switch {
	case m.Turn.Over:
		r.finish(name, m.Turn)
	case m.Turn.Kind == 1:
		r.wait(name, m.Turn.Name)
	default:
		y, _ := r.look(m.Turn.Kind, m.Turn.Name)
		run.Made.Seen = append(slices.Clip(run.Made.Seen), impl.MillSeen{Kind: m.Turn.Kind, Name: m.Turn.Name, Reply: y})
	}
}

// ask, edit and pack give a code.
func (r *bossReader) ask(name string) int {
	switch {
	case !r.b.Up || !isMillFileName(name):
		return 2
	case slices.Contains(r.b.Roots, name):
		return 0
	case len(r.b.Roots) == 10:
		return 3
	}
	r.b.Roots = append(slices.Clip(r.b.Roots), name)
	return 0
}

func (r *bossReader) edit(e impl.YardEntry) int {
	form := yardFormByRules(e)
	if !r.b.Up || e.Kind < 2 || e.Kind > 5 || form == "" {
		return 2
	}
	isPlace := e.Kind == 2 || e.Kind == 3
	all := slices.Concat(r.b.Log.Safe, r.b.Log.Loose, []string{form})
	memory := impl.YardReplay(all)
	if memory.Code != 0 || e.Kind == 4 && !isHonestByRules(e.Kept) || isPlace && r.b.Edit == 1000 {
		return 3
	}
	r.b.Place, r.b.Shelf = memory.Place, memory.Shelf
	r.b.Log.Loose = append(slices.Clip(r.b.Log.Loose), form)
	if isPlace {
		r.b.Edit++
		r.b.Runs, r.b.Jobs = nil, nil
	}
	return 0
}

func (r *bossReader) pack() int {
	switch {
	case !r.b.Up:
		return 2
	case len(r.b.Log.Loose) > 0:
		return 3
	}
	r.b.Log = impl.YardLog{}
	for epoch := 1; epoch <= r.b.Epoch; epoch++ {
		r.b.Log.Safe = append(r.b.Log.Safe, fmt.Sprintf("epoch %d\n", epoch))
	}
	for _, file := range r.b.Place.Files {
		r.b.Log.Safe = append(r.b.Log.Safe, yardFormByRules(fileEntry(file.Name, file.Text)))
	}
	for _, k := range r.b.Shelf.Kept {
		r.b.Log.Safe = append(r.b.Log.Safe, yardFormByRules(ranOf(k)))
	}
	return 0
}

func (r *bossReader) fall(keep int) {
	safe := slices.Clone(r.b.Log.Safe)
	for at, form := range r.b.Log.Loose {
		if at < keep {
			safe = append(safe, form)
		}
	}
	heard := make([]int, len(r.b.Heard))
	for i := range heard {
		heard[i] = -1
	}
	r.b = impl.YardBoss{Now: r.b.Now, Log: impl.YardLog{Safe: safe}, Heard: heard}
}

func (r *bossReader) rise() {
	all := slices.Concat(r.b.Log.Safe, r.b.Log.Loose)
	memory := impl.YardReplay(all)
	if r.b.Up || memory.Epoch == 200 || len(all) == 1000 {
		return
	}
	r.b.Up, r.b.Epoch, r.b.Place, r.b.Shelf = true, memory.Epoch+1, memory.Place, memory.Shelf
	r.b.Log.Loose = append(slices.Clip(r.b.Log.Loose), fmt.Sprintf("epoch %d\n", r.b.Epoch))
}

// isBossByRules is a second reading of what is valid.
func isBossByRules(b impl.YardBoss) bool {
	memory := impl.YardReplay(slices.Concat(b.Log.Safe, b.Log.Loose))
	if memory.Code != 0 || b.Now < 0 || b.Now > 1000000 || len(b.Heard) < 1 || len(b.Heard) > 4 {
		return false
	}
	for _, heard := range b.Heard {
		if heard < -1 || heard > b.Now || !b.Up && heard != -1 {
			return false
		}
	}
	if !b.Up {
		return isSameBoss(b, impl.YardBoss{Now: b.Now, Log: b.Log, Heard: b.Heard})
	}
	if b.Epoch != memory.Epoch || b.Epoch < 1 || !isSameMillPlace(b.Place, memory.Place) || !slices.EqualFunc(b.Shelf.Kept, memory.Shelf.Kept, isSameKept) || b.Edit < 0 || b.Edit > 1000 {
		return false
	}
	names := map[string]bool{}
	for _, name := range b.Roots {
		if !isMillFileName(name) || names[name] {
			return false
		}
		names[name] = true
	}
	r := &bossReader{b: b, targets: impl.HousePlan(b.Place, "main").Targets}
	return len(b.Roots) <= 10 && r.areRuns() && r.areJobs()
}

func (r *bossReader) areRuns() bool {
	for at, run := range r.b.Runs {
		made := run.Made
		target, is := r.target(made.Name)
		if !is || at > 0 && r.b.Runs[at-1].Made.Name >= made.Name || !couldSeeByRules(target, made.Seen) || made.Wait != "" {
			return false
		}
		hasNothing := isSameMade(made, impl.HouseMade{Name: made.Name, Seen: made.Seen})
		mayWait := run.Wait == "" || isMillFileName(run.Wait)
		switch {
		case run.Mode == 0 && hasNothing && mayWait && len(made.Seen) == 0:
		case run.Mode == 1 && hasNothing && mayWait:
		case run.Mode == 2 && run.Wait == "" && couldBeKeptByRules(impl.HouseKept{Target: target, Made: made}):
		default:
			return false
		}
	}
	return true
}

func (r *bossReader) areJobs() bool {
	workers := map[int]bool{}
	for at, job := range r.b.Jobs {
		run := r.run(job.Name)
		if run == nil || run.Mode != 1 || run.Wait != "" || at > 0 && r.b.Jobs[at-1].Name >= job.Name {
			return false
		}
		if job.Worker < 1 || job.Worker > len(r.b.Heard) || workers[job.Worker] || job.Until < r.b.Now || job.Until > r.b.Now+6 {
			return false
		}
		workers[job.Worker] = true
	}
	return true
}

func isSameRun(a, b impl.YardRun) bool {
	return a.Mode == b.Mode && a.Wait == b.Wait && isSameMade(a.Made, b.Made)
}

func isSameBoss(a, b impl.YardBoss) bool {
	return a.Up == b.Up && a.Now == b.Now && a.Epoch == b.Epoch && a.Edit == b.Edit && slices.Equal(a.Log.Safe, b.Log.Safe) && slices.Equal(a.Log.Loose, b.Log.Loose) &&
		isSameMillPlace(a.Place, b.Place) && slices.EqualFunc(a.Shelf.Kept, b.Shelf.Kept, isSameKept) && slices.Equal(a.Heard, b.Heard) && slices.Equal(a.Roots, b.Roots) &&
		slices.EqualFunc(a.Runs, b.Runs, isSameRun) && slices.Equal(a.Jobs, b.Jobs)
}

func isSameYardAnswer(a, b impl.YardAnswer) bool {
	return a.Name == b.Name && isSameMillPlace(a.Place, b.Place) && a.Never == b.Never && a.Reply == b.Reply
}

func isSameDid(a, b impl.YardDid) bool {
	return a.Code == b.Code && isSameBoss(a.Boss, b.Boss) && slices.EqualFunc(a.Out, b.Out, isSameMessage) && slices.EqualFunc(a.Answers, b.Answers, isSameYardAnswer)
}

// runsShown tells runs and jobs: name:mode, the looks so far, for which name it waits, or the code that it ended with, and who has it until when.
func runsShown(b impl.YardBoss) string {
	var all []string
	for _, run := range b.Runs {
		one := fmt.Sprintf("%s:%s%d", run.Made.Name, []string{"recall", "work", "over"}[min(max(run.Mode, 0), 2)], len(run.Made.Seen))
		if run.Mode == 2 {
			one += fmt.Sprintf("=%d", run.Made.Code)
		}
		if run.Wait != "" {
			one += "?" + run.Wait
		}
		for _, job := range b.Jobs {
			if job.Name == run.Made.Name {
				one += fmt.Sprintf("@%d<%d", job.Worker, job.Until)
			}
		}
		all = append(all, one)
	}
	return strings.Join(all, " ")
}

func bossShown(b impl.YardBoss) string {
	return fmt.Sprintf("up %v, now %d, epoch %d.%d, log %d+%d, %d files, %d kept, heard %v, roots %q, runs %s, jobs %v", b.Up, b.Now, b.Epoch, b.Edit, len(b.Log.Safe), len(b.Log.Loose), len(b.Place.Files), len(b.Shelf.Kept), b.Heard, b.Roots, runsShown(b), b.Jobs)
}

// answersShown tells answers without their places.
func answersShown(answers []impl.YardAnswer) string {
	var all []string
	for _, one := range answers {
		told := fmt.Sprintf("%s=%d%q", one.Name, one.Reply.Code, one.Reply.Text)
		if one.Never {
			told += "never"
		}
		all = append(all, told)
	}
	return strings.Join(all, " ")
}

func didShown(d impl.YardDid) string {
	return fmt.Sprintf("code %d, %s, sends %.1500q, answers %s", d.Code, bossShown(d.Boss), fmt.Sprint(d.Out), answersShown(d.Answers))
}

// wantDid holds what a boss did against the second reading. With a code there is nothing else; what is valid stays so; what is sent has a form (promise 41).
func wantDid(t *testing.T, what string, b impl.YardBoss, did func(b impl.YardBoss) impl.YardDid, rules func(r *bossReader) int) impl.YardDid {
	t.Helper()
	roomy, seen := roomyOf(b)
	before := seen()
	got := did(roomy)
	if seen() != before {
		t.Errorf("%s of %s: changed", what, bossShown(b))
	}
	want := impl.YardDid{Code: 1}
	if isBossByRules(b) {
		r := readBoss(b)
		want = impl.YardDid{Code: rules(r)}
		if want.Code == 0 {
			want = impl.YardDid{Boss: r.b, Out: r.out, Answers: r.answers}
		}
	}
	if !isSameDid(got, want) {
		t.Errorf("%s of %s:\ngot  %s\nwant %s\nlog %.3000q\nwant %.3000q", what, bossShown(b), didShown(got), didShown(want), got.Boss.Log.Loose, want.Boss.Log.Loose)
	}
	if got.Code == 0 && !impl.YardValidBoss(got.Boss) {
		t.Errorf("%s of %s: not valid: %s", what, bossShown(b), didShown(got))
	}
	for _, m := range got.Out {
		if impl.YardPack(m, "") == "" {
			t.Errorf("%s of %s: sends %s", what, bossShown(b), messageShown(m))
		}
	}
	return got
}

// wantTick also asks for promise 44: all changes of the place are there behind any fall and rise.
func wantTick(t *testing.T, b impl.YardBoss) impl.YardDid {
	t.Helper()
	got := wantDid(t, "tick", b, impl.YardBossTick, func(r *bossReader) int { r.tick(); return 0 })
	if got.Boss.Up && b.Now < 1000000 {
		for _, keep := range []int{0, len(got.Boss.Log.Loose)} {
			risen := impl.YardBossRise(impl.YardBossFall(got.Boss, keep))
			if isFull := got.Boss.Epoch == 200 || len(got.Boss.Log.Safe)+min(max(keep, 0), len(got.Boss.Log.Loose)) == 1000; risen.Up == isFull || risen.Up && !isSameMillPlace(risen.Place, b.Place) {
				t.Errorf("tick of %s: behind a fall with %d kept: %s", bossShown(b), keep, bossShown(risen))
			}
		}
	}
	return got
}

func wantTake(t *testing.T, b impl.YardBoss, m impl.YardMessage) impl.YardBoss {
	t.Helper()
	message, seen := roomyOf(m)
	before := seen()
	got := wantDid(t, "take "+messageShown(m), b, func(b impl.YardBoss) impl.YardDid { return impl.YardBossTake(b, message) }, func(r *bossReader) int { r.take(m); return 0 })
	if seen() != before {
		t.Errorf("%s: changed", messageShown(m))
	}
	return got.Boss
}

func wantAsk(t *testing.T, b impl.YardBoss, name string) impl.YardDid {
	t.Helper()
	return wantDid(t, fmt.Sprintf("ask %.100q", name), b, func(b impl.YardBoss) impl.YardDid { return impl.YardBossAsk(b, name) }, func(r *bossReader) int { return r.ask(name) })
}

func wantEdit(t *testing.T, b impl.YardBoss, e impl.YardEntry) impl.YardDid {
	t.Helper()
	entry, seen := roomyOf(e)
	before := seen()
	got := wantDid(t, "edit "+entryShown(e), b, func(b impl.YardBoss) impl.YardDid { return impl.YardBossEdit(b, entry) }, func(r *bossReader) int { return r.edit(e) })
	if seen() != before {
		t.Errorf("%s: changed", entryShown(e))
	}
	return got
}

// wantPacked also asks for promise 47.
func wantPacked(t *testing.T, b impl.YardBoss) impl.YardDid {
	t.Helper()
	got := wantDid(t, "pack", b, impl.YardBossPack, func(r *bossReader) int { return r.pack() })
	if got.Code == 0 {
		if p := got.Boss; p.Epoch != b.Epoch || !isSameMillPlace(p.Place, b.Place) || !slices.EqualFunc(p.Shelf.Kept, b.Shelf.Kept, isSameKept) || len(p.Log.Safe) > len(b.Log.Safe) {
			t.Errorf("%s packed: %s", bossShown(b), bossShown(p))
		}
	}
	return got
}

func wantFall(t *testing.T, b impl.YardBoss, keep int) impl.YardBoss {
	t.Helper()
	return wantBoss(t, fmt.Sprint("fall ", keep), b, func(b impl.YardBoss) impl.YardBoss { return impl.YardBossFall(b, keep) }, func(r *bossReader) { r.fall(keep) })
}

func wantRise(t *testing.T, b impl.YardBoss) impl.YardBoss {
	t.Helper()
	return wantBoss(t, "rise", b, impl.YardBossRise, (*bossReader).rise)
}

// wantBoss is for what gives nothing but a boss.
func wantBoss(t *testing.T, what string, b impl.YardBoss, did func(b impl.YardBoss) impl.YardBoss, rules func(r *bossReader)) impl.YardBoss {
	t.Helper()
	code := 0
	if !isBossByRules(b) {
		code = 1
	}
	return wantDid(t, what, b, func(b impl.YardBoss) impl.YardDid { return impl.YardDid{Code: code, Boss: did(b)} }, func(r *bossReader) int { rules(r); return 0 }).Boss
}

// wantValid asks whether a boss is valid; with one that is not nothing can be done.
func wantValid(t *testing.T, what string, want bool, b impl.YardBoss) {
	t.Helper()
	if got, rules := impl.YardValidBoss(b), isBossByRules(b); got != want || rules != want {
		t.Errorf("%s: %v, by rules %v: %s", what, got, rules, bossShown(b))
		return
	}
	wantAll(t, b)
}

// wantAll holds all that can be done with a boss against the second reading.
func wantAll(t *testing.T, b impl.YardBoss) {
	t.Helper()
	wantTick(t, b)
	wantTake(t, b, someHere())
	wantAsk(t, b, "asked")
	wantEdit(t, b, impl.YardEntry{Kind: 5})
	wantPacked(t, b)
	wantRise(t, wantFall(t, b, 1))
	wantRise(t, b)
}

// wantStands asks how the runs of a boss stand.
func wantStands(t *testing.T, what string, b impl.YardBoss, want string) {
	t.Helper()
	if got := runsShown(b); got != want {
		t.Errorf("%s: %s, want %s", what, got, want)
	}
}

// bossIn is a boss of so many workers with a place.
func bossIn(t *testing.T, workers int, p impl.MillPlace) impl.YardBoss {
	t.Helper()
	b := impl.YardNewBoss(workers)
	for _, file := range p.Files {
		did := impl.YardBossEdit(b, fileEntry(file.Name, file.Text))
		if did.Code != 0 {
			t.Fatalf("%q: code %d", file.Name, did.Code)
		}
		b = did.Boss
	}
	return b
}

// bossWith is a boss of two workers, both there, with targets told by words and more files, and asked for names.
func bossWith(t *testing.T, targets []string, names string, more ...string) impl.YardBoss {
	t.Helper()
	b := bossIn(t, 2, houseWith(targets, more...))
	for number := range 2 {
		b = impl.YardBossTake(b, impl.YardMessage{Kind: 3, From: number + 1}).Boss
	}
	return bossAsked(t, b, names)
}

func bossAsked(t *testing.T, b impl.YardBoss, names string) impl.YardBoss {
	t.Helper()
	for _, name := range strings.Fields(names) {
		did := wantAsk(t, b, name)
		if did.Code != 0 {
			t.Fatalf("%q: code %d", name, did.Code)
		}
		b = did.Boss
	}
	return b
}

// turnOfOffer is what a worker tells of an offer.
func turnOfOffer(t *testing.T, offer impl.YardMessage) impl.YardMessage {
	t.Helper()
	_, sent := wantWorked(t, wantTaken(t, impl.YardWorker{Number: offer.To, Up: true}, offer))
	if len(sent) != 2 {
		t.Fatalf("%s: %+v", messageShown(offer), sent)
	}
	return sent[1]
}

// wantCalm leads a boss through ticks, all its offers being done, until it is asked for nothing.
func wantCalm(t *testing.T, b impl.YardBoss) (impl.YardBoss, []impl.YardAnswer) {
	t.Helper()
	var answers []impl.YardAnswer
	for rounds := 0; len(b.Roots) > 0; rounds++ {
		if rounds > 300 || t.Failed() {
			t.Fatalf("no end: %s", bossShown(b))
		}
		did := wantTick(t, b)
		b = did.Boss
		answers = append(answers, did.Answers...)
		for _, offer := range did.Out {
			b = wantTake(t, b, turnOfOffer(t, offer))
		}
		for number := range b.Heard {
			b = wantTake(t, b, impl.YardMessage{Kind: 3, From: number + 1})
		}
	}
	return b, answers
}

// wantMeant asks for promise 43: runs that are over are what the house means, and the others are on their way there; and that answers are what it means as well.
func wantMeant(t *testing.T, b impl.YardBoss, answers []impl.YardAnswer) {
	t.Helper()
	meaning := map[string]impl.HouseMade{}
	for _, made := range impl.HouseMeaning(b.Place, "main") {
		meaning[made.Name] = made
	}
	for _, run := range b.Runs {
		made := meaning[run.Made.Name]
		if run.Mode == 2 && !isSameMade(run.Made, made) {
			t.Errorf("%s: %s, want %s", bossShown(b), madeShown([]impl.HouseMade{run.Made}), madeShown([]impl.HouseMade{made}))
		}
		if many := len(run.Made.Seen); many > len(made.Seen) || !slices.Equal(run.Made.Seen, made.Seen[:many]) {
			t.Errorf("%s: %s does not begin %s", bossShown(b), madeShown([]impl.HouseMade{run.Made}), madeShown([]impl.HouseMade{made}))
		}
	}
	for _, one := range answers {
		y, comes := impl.HouseComes(one.Place, "main", one.Name)
		if impl.HousePlan(one.Place, "main").Code != 0 {
			y, comes = millSeeByRules(one.Place, 1, one.Name), true
		}
		if one.Reply != y || one.Never == comes {
			t.Errorf("%s: %+v, want %+v, %v", answersShown([]impl.YardAnswer{one}), one.Reply, y, comes)
		}
	}
}

// yardWalk is a boss and workers that are led step by step, with what is between them.
type yardWalk struct {
	houseAuthor
	t       *testing.T
	b       impl.YardBoss
	workers []impl.YardWorker
	flight  []impl.YardMessage
	// forged is set when a message came that nobody sent.
	forged bool
	counts map[string]int
}

func (w *yardWalk) count(what string) { w.counts[what]++ }

func (w *yardWalk) tick() {
	did := wantTick(w.t, w.b)
	if did.Boss.Up && did.Boss.Now > w.b.Now && !isSameBoss(did.Boss, w.b) {
		w.count("ticks")
	}
	w.b = did.Boss
	w.flight = append(w.flight, did.Out...)
	for i := range w.workers {
		var sent []impl.YardMessage
		w.workers[i], sent = wantWorked(w.t, w.workers[i])
		w.flight = append(w.flight, sent...)
	}
	for _, one := range did.Answers {
		w.count(fmt.Sprintf("answer %d, never %v", one.Reply.Code, one.Never))
	}
	for _, run := range w.b.Runs {
		w.count(fmt.Sprintf("mode %d, waits %v", run.Mode, run.Wait != ""))
	}
	if !w.forged {
		wantMeant(w.t, w.b, did.Answers)
	}
}

func (w *yardWalk) bring() {
	if len(w.flight) == 0 {
		return
	}
	at := w.below(min(len(w.flight), 4))
	m := w.flight[at]
	if w.below(6) > 0 {
		w.flight = slices.Delete(w.flight, at, at+1)
	}
	if m.To > 0 {
		w.workers[m.To-1] = wantTaken(w.t, w.workers[m.To-1], m)
		return
	}
	before := w.b
	w.b = wantTake(w.t, w.b, m)
	if m.Kind == 2 {
		w.count(fmt.Sprint("turn taken ", runsShown(before) != runsShown(w.b)))
	}
}

// forge brings the boss a message that nobody sent.
func (w *yardWalk) forge() {
	w.forged = true
	m := w.drawnMessage()
	if len(w.b.Runs) > 0 && w.below(6) > 0 {
		run := w.b.Runs[w.below(len(w.b.Runs))]
		for _, other := range w.b.Runs {
			if w.below(3) > 0 && other.Mode == 1 && other.Wait == "" {
				run = other
			}
		}
		m = impl.YardMessage{Kind: 2, From: 1 + w.below(4), Epoch: w.b.Epoch, Edit: w.b.Edit, Target: impl.ClayTarget{Name: run.Made.Name}, Count: len(run.Made.Seen)}
		if w.below(2) == 0 {
			m.Turn = endOf(w.drawnKept().Made)
		} else {
			m.Turn = impl.MillTurn{Kind: 1 + w.below(3), Name: w.pick(houseNames...)}
		}
	}
	before := runsShown(w.b)
	w.b = wantTake(w.t, w.b, m)
	w.count(fmt.Sprint("forged turn taken ", before != runsShown(w.b)))
}

// entry is a change of the place, or of the shelf.
func (w *yardWalk) entry() impl.YardEntry {
	switch w.below(9) {
	case 0:
		return impl.YardEntry{Kind: 5}
	case 1:
		return w.drawnEntry()
	case 2:
		return impl.YardEntry{Kind: 3, File: impl.MillFile{Name: w.pick("f1", "f2", "l/f", "t1", "t3", "gen", "gone")}}
	case 3, 4, 5:
		plan := impl.HousePlan(w.b.Place, "main")
		for at, made := range impl.HouseMeaning(w.changed(w.t, w.b.Place), "main") {
			if made.Over && len(made.Seen) > 0 && at < len(plan.Targets) && w.below(3) == 0 {
				k := impl.HouseKept{Target: plan.Targets[at], Made: made}
				if w.below(3) == 0 {
					k = w.bent(k)
				}
				return ranOf(k)
			}
		}
	}
	p := w.changed(w.t, w.b.Place)
	for _, file := range p.Files {
		if !slices.Contains(w.b.Place.Files, file) {
			return impl.YardEntry{Kind: 2, File: file}
		}
	}
	return fileEntry("z", "")
}

// done is the boss behind what it did; the same, if there was a code.
func (w *yardWalk) done(what string, did impl.YardDid) impl.YardBoss {
	w.count(fmt.Sprint(what, " code ", did.Code))
	if did.Code != 0 {
		return w.b
	}
	return did.Boss
}

// drawnRun is a run of a target, as it could stand or not.
func (w *yardWalk) drawnRun(target impl.ClayTarget) impl.YardRun {
	k := w.drawnKept()
	run := impl.YardRun{Mode: 1 + w.below(3) - w.below(2), Wait: w.pick("", "", "o1", "o3", "f1", "gone", "t1"), Made: impl.HouseMade{Name: target.Name, Seen: k.Made.Seen}}
	if w.below(2) == 0 {
		run.Made.Seen = nil
		for _, in := range append(slices.Clone(target.Ins), target.Tool) {
			run.Made.Seen = append(run.Made.Seen, impl.MillSeen{Kind: 1, Name: in, Reply: impl.MillReply{Code: []int{0, 0, 0, 4, 5}[w.below(5)]}})
		}
		run.Made.Seen = run.Made.Seen[:w.below(len(run.Made.Seen)+1)]
	}
	if run.Mode == 2 {
		run.Made, run.Wait = k.Made, ""
		run.Made.Name = target.Name
	}
	if run.Mode == 0 && w.below(4) > 0 {
		run.Made.Seen = nil
	}
	return run
}

// bendRuns sets some runs and jobs anew, so that they could be so, or not.
func (w *yardWalk) bendRuns(b *impl.YardBoss) {
	b.Runs, b.Jobs = nil, nil
	for _, target := range impl.HousePlan(b.Place, "main").Targets {
		if w.below(3) > 0 {
			b.Runs = append(b.Runs, w.drawnRun(target))
		}
		if last := len(b.Runs) - 1; last >= 0 && b.Runs[last].Made.Name == target.Name && b.Runs[last].Mode == 1 && b.Runs[last].Wait == "" && w.below(2) == 0 {
			b.Jobs = append(b.Jobs, impl.YardJob{Name: target.Name, Worker: 1 + w.below(len(b.Heard)), Until: b.Now + w.below(7)})
		}
	}
}

// bend asks of a boss that nothing led to whether it is valid, and what it does.
func (w *yardWalk) bend() {
	b, _ := roomyOf(w.b)
	if b.Up && w.below(4) > 0 {
		w.bendRuns(&b)
	}
	switch w.below(6) {
	case 0:
		all := bentLeaves(b)
		bent := all[w.pick(slices.Sorted(maps.Keys(all))...)]
		b = bent[w.below(len(bent))]
	case 1:
		b.Heard[w.below(len(b.Heard))] += w.below(3) - 1
	case 2:
		if len(b.Runs) > 1 {
			b.Runs[0], b.Runs[1] = b.Runs[1], b.Runs[0]
		}
	case 3:
		b.Jobs = append(b.Jobs, impl.YardJob{Name: w.pick("n0", "m1", "z2"), Worker: 1 + w.below(len(b.Heard)), Until: b.Now + w.below(9) - 1})
	}
	is := isBossByRules(b)
	w.count(fmt.Sprint("bent, valid ", is))
	wantValid(w.t, "bent", is, b)
	for _, run := range b.Runs {
		m := impl.YardMessage{Kind: 2, From: 1 + w.below(len(b.Heard)), Epoch: b.Epoch, Edit: b.Edit, Target: impl.ClayTarget{Name: run.Made.Name}, Count: len(run.Made.Seen), Turn: impl.MillTurn{Kind: 1 + w.below(3), Name: w.pick(houseNames...)}}
		wantTake(w.t, b, m)
		m.Turn = endOf(w.drawnKept().Made)
		wantTake(w.t, b, m)
	}
}

func (w *yardWalk) step() {
	switch w.below(48) {
	case 0, 1, 2, 3, 4:
		w.b = w.done("ask", wantAsk(w.t, w.b, w.pick(append(strings.Fields("o1 o2 o3 o4 o5 o6 l/o7 l/o8"), "f1", "gone", "a b")...)))
	case 5:
		w.b = w.done("edit", wantEdit(w.t, w.b, w.entry()))
	case 6:
		w.b = w.done("pack", wantPacked(w.t, w.b))
	case 7:
		number := w.below(len(w.workers))
		if w.below(4) == 0 {
			w.b = wantFall(w.t, w.b, w.below(6)-1)
		} else {
			w.workers[number] = impl.YardWorker{Number: number + 1}
		}
	case 8, 9:
		w.b = wantRise(w.t, w.b)
		number := w.below(len(w.workers))
		w.workers[number].Up = true
	case 10:
		if len(w.flight) > 0 {
			at := w.below(len(w.flight))
			w.flight = slices.Delete(w.flight, at, at+1)
		}
	case 45:
		w.bend()
	case 11, 12, 13, 14, 15, 16, 17, 18, 19, 20, 21, 22:
		w.tick()
	case 23, 24, 25, 26, 27, 28:
		for len(w.flight) > 0 {
			w.bring()
		}
	default:
		w.bring()
	}
}

// Promises 40, 41, 43, 44 and 47 for drawn houses, whose bosses and workers are led through asks, edits, ticks, messages that are lost, doubled and late, falls and rises; some with messages that nobody sent.
func TestYardBossDrawn(t *testing.T) {
	for group := range 8 {
		t.Run(fmt.Sprint(group), func(t *testing.T) {
			t.Parallel()
			dice := clayDice(2901 + group)
			a := houseAuthor{&dice}
			counts := map[string]int{}
			for range 4 {
				w := &yardWalk{houseAuthor: a, t: t, counts: counts}
				w.b = bossIn(t, 1+a.below(4), a.house())
				for number := range w.b.Heard {
					w.workers = append(w.workers, impl.YardWorker{Number: number + 1, Up: true})
				}
				for range 250 {
					if group%4 == 0 && a.below(15) == 0 {
						w.forge()
					}
					w.step()
					if t.Failed() {
						return
					}
				}
			}
			for what, least := range map[string]int{"ticks": 100, "turn taken true": 5, "turn taken false": 3, "mode 1, waits true": 40, "mode 1, waits false": 40, "mode 2, waits false": 100, "edit code 0": 5, "pack code 0": 5, "bent, valid true": 2, "bent, valid false": 6, "ask code 0": 40, "ask code 2": 5} {
				if counts[what] < least {
					t.Errorf("%s: %v", what, counts)
				}
			}
		})
	}
}

func TestYardBossConstants(t *testing.T) {
	if impl.YardLease != 6 || impl.YardMaxTime != 1000000 || impl.YardMaxRoots != 10 || impl.YardRecall != 0 || impl.YardWork != 1 || impl.YardOver != 2 {
		t.Error(impl.YardLease, impl.YardMaxTime, impl.YardMaxRoots, impl.YardRecall, impl.YardWork, impl.YardOver)
	}
}

func TestYardNewBoss(t *testing.T) {
	for workers := -3; workers <= 8; workers++ {
		b := impl.YardNewBoss(workers)
		if workers < 1 || workers > 4 {
			if !isSameBoss(b, impl.YardBoss{}) || impl.YardValidBoss(b) {
				t.Errorf("%d workers: %s", workers, bossShown(b))
			}
			continue
		}
		want := impl.YardBoss{Up: true, Epoch: 1, Log: impl.YardLog{Loose: []string{"epoch 1\n"}}, Heard: []int{-1, -1, -1, -1}[:workers]}
		if !isSameBoss(b, want) {
			t.Errorf("%d workers: %s", workers, bossShown(b))
		}
		wantValid(t, "new", true, b)
	}
}

// bossOfAll is a boss with something in each of its parts: n1 is at work, n2 is ready, n3 waits for n1, n4 may be remembered, n5 and n6 are over, n7 has no run.
func bossOfAll(t *testing.T) impl.YardBoss {
	t.Helper()
	p := houseWith([]string{"n1 get o1>src > o1", "n2 has o2>src < empty src > o2", "n3 get o3>o1 > o3", "n4 set o4>x > o4", "n5 set o5>x > o5", "n6 set o6>x < gone > o6", "n7 set o7>x > o7"})
	b := bossIn(t, 3, p)
	b.Now = 100
	b.Heard = []int{98, 100, -1}
	ended := impl.HouseKept{Target: orderOf("n5 set o5>x > o5"), Made: madeOver("n5", impl.MillTurn{Text: "set", Steps: 7, Files: filesOf("o5", "x")}, sawRead("set", houseSet))}
	b = wantEdit(t, b, ranOf(honestRuns()["done"])).Boss
	b.Log = impl.YardLog{Safe: b.Log.Loose[:5:5], Loose: b.Log.Loose[5:]}
	b.Roots = []string{"o3", "src", "o6"}
	at := func(mode int, wait string, made impl.HouseMade) impl.YardRun {
		return impl.YardRun{Mode: mode, Wait: wait, Made: made}
	}
	b.Runs = []impl.YardRun{
		at(1, "", impl.HouseMade{Name: "n1", Seen: []impl.MillSeen{sawRead("get", houseGet)}}),
		at(1, "", impl.HouseMade{Name: "n2", Seen: []impl.MillSeen{sawRead("empty", ""), sawRead("src", "S"), sawRead("has", houseHas), saw(2, "src", 0)}}),
		at(1, "o1", impl.HouseMade{Name: "n3", Seen: []impl.MillSeen{sawRead("get", houseGet)}}),
		at(0, "", impl.HouseMade{Name: "n4"}),
		at(2, "", ended.Made),
		at(2, "", madeOver("n6", impl.MillTurn{Code: 4, Text: "gone"}, saw(1, "gone", 4))),
	}
	b.Jobs = []impl.YardJob{{Name: "n1", Worker: 2, Until: 103}}
	return b
}

// bossBend is a boss with one part changed.
type bossBend struct {
	what   string
	is     bool
	change func(b *impl.YardBoss)
}

// bossBends are changes of bossOfAll: of its first parts.
func bossBends() []bossBend {
	bends := []bossBend{
		{"no worker", false, func(b *impl.YardBoss) { b.Heard, b.Jobs = nil, nil }},
		{"one worker, and the job of another", false, func(b *impl.YardBoss) { b.Heard = b.Heard[:1] }},
		{"one worker, no job", true, func(b *impl.YardBoss) { b.Heard, b.Jobs = b.Heard[:1], nil }},
		{"two workers", true, func(b *impl.YardBoss) { b.Heard = b.Heard[:2] }},
		{"four workers", true, func(b *impl.YardBoss) { b.Heard = append(b.Heard, 0) }},
		{"five workers", false, func(b *impl.YardBoss) { b.Heard = append(b.Heard, 0, 0) }},
		{"heard never", true, func(b *impl.YardBoss) { b.Heard[0] = -1 }},
		{"heard ahead of that", false, func(b *impl.YardBoss) { b.Heard[0] = -2 }},
		{"heard now", true, func(b *impl.YardBoss) { b.Heard[2] = 100 }},
		{"heard later", false, func(b *impl.YardBoss) { b.Heard[2] = 101 }},
		{"at the end of time", true, func(b *impl.YardBoss) { b.Now, b.Jobs[0].Until = 1000000, 1000006 }},
		{"behind the end of time", false, func(b *impl.YardBoss) { b.Now, b.Jobs[0].Until = 1000001, 1000006 }},
		{"at the first tick", true, func(b *impl.YardBoss) { b.Now, b.Jobs[0].Until, b.Heard = 0, 6, []int{0, -1, 0} }},
		{"ahead of time", false, func(b *impl.YardBoss) { b.Now, b.Jobs[0].Until, b.Heard = -1, 5, []int{-1, -1, -1} }},
		{"all safe", true, func(b *impl.YardBoss) { b.Log = impl.YardLog{Safe: slices.Concat(b.Log.Safe, b.Log.Loose)} }},
		{"all loose", true, func(b *impl.YardBoss) { b.Log = impl.YardLog{Loose: slices.Concat(b.Log.Safe, b.Log.Loose)} }},
		{"the log turned around", true, func(b *impl.YardBoss) { b.Log.Safe, b.Log.Loose = b.Log.Loose, b.Log.Safe }},
		{"an entry more", false, func(b *impl.YardBoss) { b.Log.Loose = append(b.Log.Loose, "epoch 2\n") }},
		{"an entry that changes nothing", true, func(b *impl.YardBoss) { b.Log.Loose = append(b.Log.Loose, "file src \"S\"\n") }},
		{"an entry that is none", false, func(b *impl.YardBoss) { b.Log.Loose = append(b.Log.Loose, "file src\n") }},
		{"an entry that can't be done", false, func(b *impl.YardBoss) { b.Log.Safe = append(b.Log.Safe, "drop gone\n") }},
		{"the last entry gone", false, func(b *impl.YardBoss) { b.Log.Loose = b.Log.Loose[:len(b.Log.Loose)-1] }},
		{"the first entry gone", false, func(b *impl.YardBoss) { b.Log.Safe = b.Log.Safe[1:] }},
		{"no log", false, func(b *impl.YardBoss) { b.Log = impl.YardLog{} }},
		{"nothing but a log that is empty", false, func(b *impl.YardBoss) { *b = impl.YardBoss{Up: true, Heard: []int{-1}} }},
		{"the same, in the first epoch", false, func(b *impl.YardBoss) { *b = impl.YardBoss{Up: true, Epoch: 1, Heard: []int{-1}} }},
		{"an epoch of which the log knows", true, func(b *impl.YardBoss) { b.Epoch, b.Log.Loose = 2, append(b.Log.Loose, "epoch 2\n") }},
		{"another epoch", false, func(b *impl.YardBoss) { b.Epoch = 2 }},
		{"no epoch", false, func(b *impl.YardBoss) { b.Epoch = 0 }},
		{"the first edit", true, func(b *impl.YardBoss) { b.Edit = 0 }},
		{"an edit below that", false, func(b *impl.YardBoss) { b.Edit = -1 }},
		{"the last edit", true, func(b *impl.YardBoss) { b.Edit = 1000 }},
		{"an edit above that", false, func(b *impl.YardBoss) { b.Edit = 1001 }},
		{"another text of a file", false, func(b *impl.YardBoss) { b.Place.Files[1].Text += " " }},
		{"a file more", false, func(b *impl.YardBoss) { b.Place.Files = append(b.Place.Files, impl.MillFile{Name: "~"}) }},
		{"a file less", false, func(b *impl.YardBoss) { b.Place.Files = b.Place.Files[1:] }},
		{"files in another order", false, func(b *impl.YardBoss) { slices.Reverse(b.Place.Files) }},
		{"an empty shelf", false, func(b *impl.YardBoss) { b.Shelf.Kept = nil }},
		{"a run more on the shelf", false, func(b *impl.YardBoss) { b.Shelf.Kept = append(b.Shelf.Kept, someKept()) }},
		{"another run on the shelf", false, func(b *impl.YardBoss) { b.Shelf.Kept[0].Made.Steps++ }},
		{"a run on the shelf for another target", false, func(b *impl.YardBoss) { b.Shelf.Kept[0].Target.Arg += "x" }},
		{"one in the log and on the shelf", true, func(b *impl.YardBoss) {
			b.Shelf.Kept, b.Log.Loose = append(b.Shelf.Kept, someKept()), append(b.Log.Loose, someKeptForm)
		}},
		{"cleared", true, func(b *impl.YardBoss) { b.Shelf.Kept, b.Log.Loose = nil, append(b.Log.Loose, "clear\n") }},
		{"no roots", true, func(b *impl.YardBoss) { b.Roots = nil }},
		{"as many roots as can be", true, func(b *impl.YardBoss) { b.Roots = numberedNames("r", 10) }},
		{"a root more", false, func(b *impl.YardBoss) { b.Roots = numberedNames("r", 11) }},
		{"a root twice", false, func(b *impl.YardBoss) { b.Roots = []string{"a", "b", "a"} }},
		{"a root without a name", false, func(b *impl.YardBoss) { b.Roots[1] = "" }},
		{"a root with a blank", false, func(b *impl.YardBoss) { b.Roots[1] = "a b" }},
		{"the longest root", true, func(b *impl.YardBoss) { b.Roots[1] = strings.Repeat("x", 60) }},
		{"a root that is too long", false, func(b *impl.YardBoss) { b.Roots[1] = strings.Repeat("x", 61) }},
	}
	return append(append(bends, bossRunBends()...), bossJobBends()...)
}

// bossRunBends are changes of the runs of bossOfAll.
func bossRunBends() []bossBend {
	bends := []bossBend{
		{"no runs", false, func(b *impl.YardBoss) { b.Runs = nil }},
		{"no runs, no jobs", true, func(b *impl.YardBoss) { b.Runs, b.Jobs = nil, nil }},
		{"runs in another order", false, func(b *impl.YardBoss) { b.Runs[3], b.Runs[4] = b.Runs[4], b.Runs[3] }},
		{"a run twice", false, func(b *impl.YardBoss) { b.Runs = slices.Insert(b.Runs, 3, b.Runs[3]) }},
		{"a run in the middle gone", true, func(b *impl.YardBoss) { b.Runs = slices.Delete(b.Runs, 3, 4) }},
		{"a run of no target", false, func(b *impl.YardBoss) { b.Runs[3].Made.Name = "n40" }},
		{"a run without a name", false, func(b *impl.YardBoss) { b.Runs = slices.Insert(b.Runs, 0, impl.YardRun{}) }},
		{"a run of each target", true, func(b *impl.YardBoss) { b.Runs = append(b.Runs, impl.YardRun{Made: impl.HouseMade{Name: "n7"}}) }},
		{"a place without orders", false, func(b *impl.YardBoss) {
			b.Log.Loose = append(b.Log.Loose, "drop main.clay\n")
			b.Place.Files = slices.DeleteFunc(b.Place.Files, func(file impl.MillFile) bool { return file.Name == "main.clay" })
		}},
		{"a place without orders, and no runs", true, func(b *impl.YardBoss) {
			b.Log.Loose = append(b.Log.Loose, "drop main.clay\n")
			b.Place.Files = slices.DeleteFunc(b.Place.Files, func(file impl.MillFile) bool { return file.Name == "main.clay" })
			b.Runs, b.Jobs = nil, nil
		}},
	}
	put := func(what string, is bool, at int, change func(run *impl.YardRun)) {
		bends = append(bends, bossBend{fmt.Sprint("run ", at, ": ", what), is, func(b *impl.YardBoss) { change(&b.Runs[at]) }})
	}
	for at, mode := range []int{1, 1, 1, 0, 2, 2} {
		put("mode -1", false, at, func(run *impl.YardRun) { run.Mode = -1 })
		put("mode 3", false, at, func(run *impl.YardRun) { run.Mode = 3 })
		put("the made one waits", false, at, func(run *impl.YardRun) { run.Made.Wait = "x" })
		put("over, or not", false, at, func(run *impl.YardRun) { run.Made.Over = !run.Made.Over })
		put("with a code", mode == 2, at, func(run *impl.YardRun) { run.Made.Code++ })
		put("with a text", mode == 2, at, func(run *impl.YardRun) { run.Made.Text += "x" })
		put("with a step", mode == 2, at, func(run *impl.YardRun) { run.Made.Steps++ })
		put("with a file", mode == 2, at, func(run *impl.YardRun) { run.Made.Files = append(run.Made.Files, impl.MillFile{Name: "~"}) })
		put("with what is said", mode == 2, at, func(run *impl.YardRun) { run.Made.Said = append(run.Made.Said, "") })
		put("with a look", mode != 0, at, func(run *impl.YardRun) { run.Made.Seen = append(run.Made.Seen, saw(2, "x", 4)) })
		put("with a look that is none", false, at, func(run *impl.YardRun) { run.Made.Seen = append(run.Made.Seen, saw(4, "x", 0)) })
		put("with a reply that is none", false, at, func(run *impl.YardRun) { run.Made.Seen = append(run.Made.Seen, saw(1, "x", 3)) })
		put("waits for a name that is none", false, at, func(run *impl.YardRun) { run.Wait = "a b" })
		put("waits for a name that is too long", false, at, func(run *impl.YardRun) { run.Wait = strings.Repeat("x", 61) })
		// The first one has a job.
		put("waits for a long name", mode != 2 && at != 0, at, func(run *impl.YardRun) { run.Wait = strings.Repeat("x", 60) })
		put("waits for nothing", true, at, func(run *impl.YardRun) { run.Wait = "" })
		put("no look", true, at, func(run *impl.YardRun) { run.Made.Seen = nil })
	}
	many := slices.Repeat([]impl.MillSeen{saw(2, "x", 4)}, 110)
	put("as many looks as can be", true, 0, func(run *impl.YardRun) { run.Made.Seen = many[:101] })
	put("a look more", false, 0, func(run *impl.YardRun) { run.Made.Seen = many[:102] })
	put("as many looks as can be, with ins", true, 1, func(run *impl.YardRun) { run.Made.Seen = many[:103] })
	put("a look more, with ins", false, 1, func(run *impl.YardRun) { run.Made.Seen = many[:104] })
	put("work that may be remembered, with looks", false, 1, func(run *impl.YardRun) { run.Mode = 0 })
	put("work that may be remembered", true, 1, func(run *impl.YardRun) { run.Mode, run.Made.Seen = 0, nil })
	put("work that is over", false, 1, func(run *impl.YardRun) { run.Mode = 2 })
	put("work that is over, so told", true, 1, func(run *impl.YardRun) { run.Mode, run.Made.Over = 2, true })
	put("remembered that is work", true, 3, func(run *impl.YardRun) { run.Mode = 1 })
	put("over that is work", false, 4, func(run *impl.YardRun) { run.Mode = 1 })
	put("the last code", true, 4, func(run *impl.YardRun) { run.Made.Code = 5 })
	put("a code above", false, 4, func(run *impl.YardRun) { run.Made.Code = 6 })
	put("a code below", false, 4, func(run *impl.YardRun) { run.Made.Code = -1 })
	put("all steps", true, 4, func(run *impl.YardRun) { run.Made.Steps = 4000 })
	put("too many steps", false, 4, func(run *impl.YardRun) { run.Made.Steps = 4001 })
	put("without its files", true, 4, func(run *impl.YardRun) { run.Made.Files = nil })
	put("too long a text", false, 4, func(run *impl.YardRun) { run.Made.Text = strings.Repeat("x", 3001) })
	return bends
}

// bossJobBends are changes of the jobs of bossOfAll.
func bossJobBends() []bossBend {
	bends := []bossBend{{"no jobs", true, func(b *impl.YardBoss) { b.Jobs = nil }}}
	put := func(what string, is bool, jobs ...impl.YardJob) {
		bends = append(bends, bossBend{"jobs: " + what, is, func(b *impl.YardBoss) { b.Jobs = jobs }})
	}
	for until := 98; until <= 110; until++ {
		put(fmt.Sprint("until ", until), until >= 100 && until <= 106, impl.YardJob{Name: "n1", Worker: 2, Until: until})
	}
	for worker := -2; worker <= 6; worker++ {
		put(fmt.Sprint("of worker ", worker), worker >= 1 && worker <= 3, impl.YardJob{Name: "n2", Worker: worker, Until: 100})
	}
	for at, name := range []string{"", "n0", "n1", "n2", "n3", "n4", "n5", "n6", "n7", "n8", "a b"} {
		put(fmt.Sprintf("of %q", name), at == 2 || at == 3, impl.YardJob{Name: name, Worker: 1, Until: 100})
	}
	put("two", true, impl.YardJob{Name: "n1", Worker: 3, Until: 100}, impl.YardJob{Name: "n2", Worker: 1, Until: 106})
	put("two in another order", false, impl.YardJob{Name: "n2", Worker: 1, Until: 106}, impl.YardJob{Name: "n1", Worker: 3, Until: 100})
	put("two of one worker", false, impl.YardJob{Name: "n1", Worker: 3, Until: 100}, impl.YardJob{Name: "n2", Worker: 3, Until: 106})
	put("two of one run", false, impl.YardJob{Name: "n1", Worker: 3, Until: 100}, impl.YardJob{Name: "n1", Worker: 2, Until: 106})
	return bends
}

func TestYardValidBoss(t *testing.T) {
	t.Parallel()
	wantValid(t, "all", true, bossOfAll(t))
	wantValid(t, "nothing", false, impl.YardBoss{})
	for _, bend := range bossBends() {
		b := bossOfAll(t)
		bend.change(&b)
		wantValid(t, bend.what, bend.is, b)
	}
	all := bossOfAll(t)
	for what, bents := range bentLeaves(all) {
		for _, bent := range bents {
			wantValid(t, "another "+what, isBossByRules(bent), bent)
		}
	}
}

// One that is not up has nothing but Now, its log, and workers of whom it has not heard.
func TestYardValidBossDown(t *testing.T) {
	down := wantFall(t, bossOfAll(t), 100)
	wantValid(t, "down", true, down)
	all := bossOfAll(t)
	for what, change := range map[string]func(b *impl.YardBoss){
		"epoch": func(b *impl.YardBoss) { b.Epoch = all.Epoch }, "edit": func(b *impl.YardBoss) { b.Edit = all.Edit }, "place": func(b *impl.YardBoss) { b.Place = all.Place }, "shelf": func(b *impl.YardBoss) { b.Shelf = all.Shelf },
		"heard": func(b *impl.YardBoss) { b.Heard = all.Heard }, "heard once": func(b *impl.YardBoss) { b.Heard = []int{-1, -1, 0} }, "roots": func(b *impl.YardBoss) { b.Roots = all.Roots }, "runs": func(b *impl.YardBoss) { b.Runs = all.Runs },
		"jobs": func(b *impl.YardBoss) { b.Jobs = all.Jobs }, "up": func(b *impl.YardBoss) { b.Up = true }, "no worker": func(b *impl.YardBoss) { b.Heard = nil }, "five workers": func(b *impl.YardBoss) { b.Heard = []int{-1, -1, -1, -1, -1} },
		"too late": func(b *impl.YardBoss) { b.Now = 1000001 }, "too early": func(b *impl.YardBoss) { b.Now = -1 }, "a log that is none": func(b *impl.YardBoss) { b.Log.Safe = append(b.Log.Safe, "drop gone\n") },
	} {
		b := down
		change(&b)
		wantValid(t, "down, but "+what, false, b)
	}
	for what, change := range map[string]func(b *impl.YardBoss){
		"no log": func(b *impl.YardBoss) { b.Log = impl.YardLog{} }, "a loose log": func(b *impl.YardBoss) { b.Log = all.Log }, "time": func(b *impl.YardBoss) { b.Now = 1000000 }, "no time": func(b *impl.YardBoss) { b.Now = 0 },
		"four workers": func(b *impl.YardBoss) { b.Heard = []int{-1, -1, -1, -1} }, "one worker": func(b *impl.YardBoss) { b.Heard = []int{-1} },
		"lists that are empty": func(b *impl.YardBoss) {
			b.Roots, b.Runs, b.Jobs, b.Place.Files, b.Shelf.Kept = []string{}, []impl.YardRun{}, []impl.YardJob{}, []impl.MillFile{}, []impl.HouseKept{}
		},
	} {
		b := down
		change(&b)
		wantValid(t, "down, "+what, true, b)
	}
}

// wantOnShelf asks which runs are on a boss's shelf, in their order; all of them are honest, and the log ends with those that are not safe yet.
func wantOnShelf(t *testing.T, b impl.YardBoss, names string) {
	t.Helper()
	var got, loose []string
	for _, k := range b.Shelf.Kept {
		got = append(got, k.Target.Name)
		if !impl.HouseHonest(k) {
			t.Errorf("not honest: %s", keptShown(k))
		}
		if form := impl.YardForm(ranOf(k)); slices.Contains(b.Log.Loose, form) {
			loose = append(loose, form)
		}
	}
	if strings.Join(got, " ") != names || !slices.Equal(loose, b.Log.Loose) {
		t.Errorf("on the shelf: %q, want %q; log %.500q", got, names, b.Log.Loose)
	}
}

// What stands ahead of a program: each run as it stands behind one tick.
func TestYardBossAhead(t *testing.T) {
	files := []string{"none", "no program", "unfit", "fn main() -> text { return 1; }", "args", "fn main(s text) -> text { return s; }", "self", inMain(`write "o", read("self"); return "";`)}
	for words, want := range map[string]string{
		"n get o>src > o":                     "n:work1@1<7",
		"n get o>src < empty > o":             "n:work2@1<7",
		"n get o>src < empty src > o":         "n:work3@1<7",
		"n get o>src < gone > o":              "n:over1=4 gone",
		"n get o>src < gone src > o":          "n:over1=4 gone",
		"n get o>src < empty gone src > o":    "n:over2=4 gone",
		"n get o>src < empty src zone > o":    "n:over3=4 zone",
		"n gone o> > o":                       "n:over1=4 gone",
		"n gone o> < empty src > o":           "n:over3=4 gone",
		"n gone o> < gone > o":                "n:over1=4 gone",
		"n none o> > o":                       "n:over1=2 tool",
		"n none o> < src > o":                 "n:over2=2 tool",
		"n unfit o> < src > o":                "n:over2=2 tool",
		"n args o> > o":                       "n:over1=2 tool",
		"n src o> < empty none src unfit > o": "n:over5=2 tool",
		// Ins that are the tool are looked at twice; what is no program ends the run the second time.
		"n get o>src < get > o":       "n:work2@1<7",
		"n none o> < none > o":        "n:over2=2 tool",
		"n none o> < empty none > o":  "n:over3=2 tool",
		"n empty o> < empty none > o": "n:over3=2 tool",
		"n get o>src < none > o":      "n:work2@1<7",
	} {
		did := wantTick(t, bossWith(t, []string{words}, "o", files...))
		got := runsShown(did.Boss)
		kept := ""
		if run := did.Boss.Runs[0]; run.Mode == 2 {
			got += " " + run.Made.Text
			kept = "n"
		}
		if got != want {
			t.Errorf("%s: %s, want %s", words, got, want)
		}
		wantOnShelf(t, did.Boss, kept)
		wantMeant(t, did.Boss, did.Answers)
		if len(did.Boss.Log.Loose) != len(kept) || len(did.Out) != 1-len(kept) || len(did.Answers) != len(kept) {
			t.Errorf("%s: %s", words, didShown(did))
		}
	}
}

// A run that looks on after its tool: no look ends it there, whatever its name is.
func TestYardBossBehindTool(t *testing.T) {
	for words, stands := range map[string]string{
		"n get o>gone > o": "n:work1?gone n:work2@1<8 n:over2=4", "n get o>get > o": "n:work1?get n:work2@1<8 n:over2=0", "n get o>src < src > o": "n:work2?src n:work3@1<8 n:over3=0", "n get o>none > o": "n:work1?none n:work2@1<8 n:over2=0",
		"n has o>gone > o": "n:work2 n:work2@1<8 n:over2=0", "n list o>s > o": "n:work2 n:work2@1<8 n:over2=0", "n tool o>none > o": "n:work1?none n:work2@1<8 n:over2=2", "n set o>x > o": "n:over1=0 n:over1=0 n:over1=0",
	} {
		b := bossWith(t, []string{words}, "o", "none", "no program")
		var all []string
		for range 2 {
			did := wantTick(t, b)
			wantMeant(t, did.Boss, did.Answers)
			b = did.Boss
			if len(all) > 0 {
				all = append(all, runsShown(b))
			}
			for _, offer := range did.Out {
				b = wantTake(t, b, turnOfOffer(t, offer))
			}
			all = append(all, runsShown(b))
		}
		if got := strings.Join(all, " "); got != stands {
			t.Errorf("%s: %s, want %s", words, got, stands)
		}
		_, answers := wantCalm(t, b)
		wantMeant(t, b, answers)
	}
}

// bossFilled is a boss whose log has as many entries as are told, of which the last ones change nothing that is to be seen.
func bossFilled(t *testing.T, b impl.YardBoss, many int) impl.YardBoss {
	t.Helper()
	for len(b.Log.Safe)+len(b.Log.Loose) < many {
		b.Log.Safe = append(slices.Clip(b.Log.Safe), "file empty \"\"\n")
	}
	if !impl.YardValidBoss(b) {
		t.Fatalf("not valid: %s", bossShown(b))
	}
	return b
}

// bossKeeps is a boss with so many runs on its shelf, which are none of its targets'.
func bossKeeps(t *testing.T, b impl.YardBoss, many int) impl.YardBoss {
	t.Helper()
	for n := range many {
		form := numberedRan(n)
		e, _ := impl.YardRead(form)
		b.Log.Loose, b.Shelf.Kept = append(slices.Clip(b.Log.Loose), form), append(slices.Clip(b.Shelf.Kept), e.Kept)
	}
	if !impl.YardValidBoss(b) {
		t.Fatalf("not valid: %s", bossShown(b))
	}
	return b
}

func TestYardBossKeeps(t *testing.T) {
	lie := impl.MillTurn{Over: true, Text: "a lie", Files: filesOf("o", "L")}
	told := func(b impl.YardBoss) impl.YardMessage {
		return impl.YardMessage{Kind: 2, From: 1, Epoch: b.Epoch, Edit: b.Edit, Target: impl.ClayTarget{Name: "n"}, Count: 1, Turn: lie}
	}
	for _, many := range []int{998, 999, 1000} {
		// Where the log is full a run is over all the same.
		b := wantTick(t, bossFilled(t, bossWith(t, []string{"n gone o> > o"}, "o"), many)).Boss
		wantStands(t, fmt.Sprint(many, " entries"), b, "n:over1=4")
		if has := min(1, 1000-many); len(b.Log.Loose) != has || len(b.Shelf.Kept) != has || len(b.Log.Safe) != many {
			t.Errorf("%d entries: %s", many, bossShown(b))
		}
		b = wantTick(t, bossFilled(t, bossWith(t, []string{"n get o>src > o"}, "o"), many)).Boss
		b = wantTake(t, b, told(b))
		wantStands(t, fmt.Sprint(many, " entries"), b, "n:over1=0")
		if has := min(1, 1000-many); len(b.Log.Loose) != has || len(b.Shelf.Kept) != has {
			t.Errorf("%d entries: %s", many, bossShown(b))
		}
	}
	for _, many := range []int{98, 99, 100} {
		b := wantTick(t, bossKeeps(t, bossWith(t, []string{"n gone o> > o"}, "o"), many)).Boss
		wantStands(t, fmt.Sprint(many, " kept"), b, "n:over1=4")
		if has := min(1, 100-many); len(b.Log.Loose) != has || len(b.Shelf.Kept) != many+has {
			t.Errorf("%d kept: %s", many, bossShown(b))
		}
	}
	// One that is no run at all is kept behind the others, but not twice; and it is not remembered.
	b := wantTick(t, bossKeeps(t, bossWith(t, []string{"n get o>src > o"}, "o"), 2)).Boss
	for round := range 3 {
		b = wantTick(t, b).Boss
		b = wantTake(t, wantEdit(t, b, fileEntry("z", "")).Boss, someHere())
		b = wantTick(t, bossAsked(t, b, "o")).Boss
		wantStands(t, "a lie is not remembered", b, fmt.Sprint("n:work1@1<", b.Now+6))
		b = wantTake(t, b, told(b))
		wantStands(t, "a lie", b, "n:over1=0")
		if len(b.Shelf.Kept) != 3 || b.Shelf.Kept[2].Made.Text != "a lie" || len(b.Log.Loose) != max(0, 1-round) {
			t.Errorf("round %d: %s", round, bossShown(b))
		}
	}
	// Behind what is loose already.
	b = bossWith(t, []string{"n get o>src > o"}, "o")
	b = wantEdit(t, wantTick(t, b).Boss, ranOf(honestRuns()["code 1"])).Boss
	b = wantTake(t, b, told(b))
	if len(b.Log.Loose) != 2 || b.Log.Loose[1] != "ran n get \"o>src\"\nout o\nsaw 1 0 \"get\" "+clayQuoted(houseGet)+"\nwrote o \"L\"\nover 0 0 \"a lie\"\n" {
		t.Errorf("%q", b.Log.Loose)
	}
}

// In which order settling comes to the ends of runs is to be seen on the shelf.
func TestYardBossSettles(t *testing.T) {
	ends := []string{"x gone x> < src > x", "y gone y> > y"}
	for what, row := range map[string]struct {
		targets []string
		names   string
		kept    string
		stands  string
	}{
		"fewer looks, sooner":      {[]string{"a gone a> < src > a", "b gone b> > b"}, "a b", "b a", "a:over2=4 b:over1=4"},
		"the same number of looks": {[]string{"a gone a> > a", "b gone b> > b"}, "b a", "a b", "a:over1=4 b:over1=4"},
		// What is wanted ahead of the one that wants it is met in the next turn, what is wanted behind it in this one.
		"waits for one ahead of it": {append(ends, "m get m> < a > m", "a gone a> > a"), "m x y", "y a m x", "a:over1=4 m:over1=5 x:over2=4 y:over1=4"},
		"waits for one behind it":   {append(ends, "m get m> < z > m", "z gone z> > z"), "m x y", "y z m x", "m:over1=5 x:over2=4 y:over1=4 z:over1=4"},
		"a chain upwards":           {[]string{"a get a> < b > a", "b get b> < c > b", "c get c> < d > c", "d gone d> > d"}, "a", "d c b a", "a:over1=5 b:over1=5 c:over1=5 d:over1=4"},
		"a chain downwards":         {[]string{"d get d> < c > d", "c get c> < b > c", "b get b> < a > b", "a gone a> > a"}, "d", "a b c d", "a:over1=4 b:over1=5 c:over1=5 d:over1=5"},
		"the tool is an out":        {[]string{"a z a> > a", "z gone z> > z"}, "a", "z a", "a:over1=5 z:over1=4"},
		"a circle":                  {[]string{"a get a> < b > a", "b get b> < a > b", "c gone c> > c"}, "a c", "c", "a:work0?b b:work0?a c:over1=4"},
		"waits for itself":          {[]string{"a a a> > a"}, "a", "", "a:work0?a"},
		"one that is not wanted":    {[]string{"a gone a> > a", "b gone b> > b"}, "b src", "b", "b:over1=4"},
		"nothing is wanted":         {[]string{"a gone a> > a"}, "src gone main.clay", "", ""},
	} {
		did := wantTick(t, bossWith(t, row.targets, row.names))
		wantStands(t, what, did.Boss, row.stands)
		wantOnShelf(t, did.Boss, row.kept)
		wantMeant(t, did.Boss, did.Answers)
	}
	// A long chain comes to its end in one tick.
	main := `def t(a, b) = {name: "n" + a, tool: "get", arg: "o" + a + ">", ins: ["o" + b], outs: ["o" + a]};` + "\n"
	for n := range 49 {
		main += fmt.Sprintf("emit t(\"%02d\", \"%02d\");\n", n*21%50, (n+1)*21%50)
	}
	did := wantTick(t, bossWith(t, nil, "o00", "main.clay", main))
	if len(did.Boss.Shelf.Kept) != 49 || len(did.Answers) != 1 || did.Answers[0].Reply.Code != 5 {
		t.Errorf("%s", didShown(did))
	}
	wantMeant(t, did.Boss, did.Answers)
}

// Runs that are remembered.
func TestYardBossRemembers(t *testing.T) {
	chain := []string{"a get a.o>src > a.o", "m get m.o>a.o > m.o", "z get z.o>m.o > z.o"}
	b, answers := wantCalm(t, bossWith(t, chain, "z.o"))
	wantStands(t, "done", b, "a:over2=0 m:over2=0 z:over2=0")
	wantOnShelf(t, b, "a m z")
	wantMeant(t, b, answers)
	if got := answersShown(answers); got != `z.o=0"S!!!"` {
		t.Error(got)
	}
	change := func(b impl.YardBoss, name, text string) impl.YardBoss {
		return bossAsked(t, wantTake(t, wantEdit(t, b, fileEntry(name, text)).Boss, someHere()), "z.o")
	}
	// A change elsewhere makes all runs void; all of them hold, at once.
	did := wantTick(t, change(b, "elsewhere", ""))
	wantStands(t, "all hold", did.Boss, "a:over2=0 m:over2=0 z:over2=0")
	if got := answersShown(did.Answers); got != `z.o=0"S!!!"` || len(did.Out) != 0 || len(did.Boss.Shelf.Kept) != 3 || len(did.Boss.Log.Loose) != 0 {
		t.Errorf("%s", didShown(did))
	}
	// Another source: the first one is run anew, and what stands above may still hold.
	did = wantTick(t, change(b, "src", "T"))
	b2 := did.Boss
	wantStands(t, "another source", b2, "a:work1@1<"+fmt.Sprint(b2.Now+6)+" m:recall0?a.o z:recall0?m.o")
	b2, answers = wantCalm(t, wantTake(t, b2, turnOfOffer(t, did.Out[0])))
	wantOnShelf(t, b2, "a m z a m z")
	wantMeant(t, b2, answers)
	// Then back: what held first holds again.
	did = wantTick(t, change(b2, "src", "S"))
	if got := answersShown(did.Answers); got != `z.o=0"S!!!"` || len(did.Boss.Shelf.Kept) != 6 {
		t.Errorf("%s", didShown(did))
	}
	// The same text by another way: nothing stands above that is run anew.
	b3, answers := wantCalm(t, change(b, "get", houseGet+" "))
	wantOnShelf(t, b3, "a m z a m z")
	wantMeant(t, b3, answers)
	b4 := wantEdit(t, b, fileEntry("main.clay", emitsOf("a set a.o>S! > a.o", chain[1], chain[2]))).Boss
	b4, answers = wantCalm(t, bossAsked(t, b4, "z.o"))
	wantOnShelf(t, b4, "a m z a")
	wantMeant(t, b4, answers)
	// A shelf that is cleared, and learnt anew from a stranger, whose lies do not come in.
	cleared := wantEdit(t, change(b, "elsewhere", ""), impl.YardEntry{Kind: 5}).Boss
	did = wantTick(t, cleared)
	wantStands(t, "cleared", did.Boss, fmt.Sprint("z:work1@1<", did.Boss.Now+6))
	for _, k := range b.Shelf.Kept {
		lie := cloneOf(k)
		lie.Made.Text += "!"
		if did := wantEdit(t, cleared, ranOf(lie)); did.Code != 3 {
			t.Errorf("a lie: code %d", did.Code)
		}
		cleared = wantEdit(t, cleared, ranOf(k)).Boss
	}
	if did = wantTick(t, cleared); answersShown(did.Answers) != `z.o=0"S!!!"` {
		t.Errorf("learnt: %s", didShown(did))
	}
	// What is learnt meanwhile is of use to a run that may be remembered, not to one that workers do.
	did = wantTick(t, wantEdit(t, change(b, "src", "T"), impl.YardEntry{Kind: 5}).Boss)
	learnt := did.Boss
	for _, k := range b2.Shelf.Kept[3:] {
		learnt = wantEdit(t, learnt, ranOf(k)).Boss
	}
	next := wantTick(t, learnt).Boss
	wantStands(t, "learnt meanwhile", next, fmt.Sprint("z:work1@1<", did.Boss.Now+6))
	next = wantTick(t, wantTake(t, next, turnOfOffer(t, did.Out[0]))).Boss
	wantStands(t, "what it wants", next, fmt.Sprint("a:over2=0 m:over2=0 z:work2@1<", next.Now+6))
}

// A run waits as its first run on the shelf does that may hold, whatever stands there in its Wait.
func TestYardBossRemembersWaits(t *testing.T) {
	targets := []string{"a get a.o>src > a.o", "b get b.o>src > b.o", "n two o> > o"}
	two := inMain(`write "o", read("a.o") + read("b.o"); return "";`)
	k := keptBy(orderOf("n two o> > o"), func(kind int, name string) impl.MillReply {
		return impl.MillReply{Text: map[string]string{"two": two, "a.o": "A", "b.o": "B"}[name]}
	})
	b := wantEdit(t, bossWith(t, targets, "o", "two", two), ranOf(k)).Boss
	did := wantTick(t, b)
	wantStands(t, "waits by its first look", did.Boss, "a:work1@1<7 n:recall0?a.o")
	first := wantTake(t, did.Boss, turnOfOffer(t, did.Out[0]))
	first = wantTick(t, first).Boss
	lie := impl.YardMessage{Kind: 2, From: 1, Epoch: 1, Edit: first.Edit, Target: impl.ClayTarget{Name: "a"}, Count: 2, Turn: impl.MillTurn{Over: true, Files: filesOf("a.o", "A")}}
	told := wantTick(t, wantTake(t, first, lie)).Boss
	wantStands(t, "then by its second", told, "a:over2=0 b:work1@1<9 n:recall0?b.o")
	lie.Turn.Files = filesOf("a.o", "C")
	other := wantTick(t, wantTake(t, first, lie)).Boss
	wantStands(t, "it does not hold", other, "a:over2=0 n:work1@1<9")
	// What a run that may be remembered seemed to wait for is forgotten.
	for _, wait := range []string{"", "src", "b.o", "gone"} {
		bent := b
		bent.Runs = []impl.YardRun{{Wait: wait, Made: impl.HouseMade{Name: "n"}}}
		wantStands(t, "waits for "+wait, wantTick(t, bent).Boss, "a:work1@1<7 n:recall0?a.o")
		bent = wantEdit(t, bent, impl.YardEntry{Kind: 5}).Boss
		wantStands(t, "cleared, waits for "+wait, wantTick(t, bent).Boss, "n:work1@1<7")
	}
}

// A Wait that is answered where there may be no more looks stays.
func TestYardBossWaitsAtTheEnd(t *testing.T) {
	for _, row := range []struct {
		words string
		most  int
	}{{"n get o>src > o", 101}, {"n get o>src < empty src > o", 103}} {
		for many := row.most - 2; many <= row.most; many++ {
			b := bossWith(t, []string{row.words}, "o")
			b.Runs = []impl.YardRun{{Mode: 1, Wait: "src", Made: impl.HouseMade{Name: "n", Seen: slices.Repeat([]impl.MillSeen{saw(2, "x", 4)}, many)}}}
			did := wantTick(t, b)
			want := fmt.Sprintf("n:work%d@1<7", many+1)
			if many == row.most {
				want = fmt.Sprintf("n:work%d?src", many)
			}
			wantStands(t, fmt.Sprint(many, " looks"), did.Boss, want)
			if many == row.most && (len(did.Answers) != 1 || !did.Answers[0].Never) {
				t.Errorf("%s", didShown(did))
			}
			// Nor may a turn make one more; it may tell of the end.
			b.Runs[0].Wait = ""
			for kind := 1; kind <= 3; kind++ {
				m := impl.YardMessage{Kind: 2, From: 1, Epoch: 1, Edit: b.Edit, Target: impl.ClayTarget{Name: "n"}, Count: many, Turn: impl.MillTurn{Kind: kind, Name: "src"}}
				want := []string{"", fmt.Sprintf("n:work%d?src", many), fmt.Sprintf("n:work%d", many+1), fmt.Sprintf("n:work%d", many+1)}[kind]
				if many == row.most {
					want = fmt.Sprintf("n:work%d", many)
				}
				wantStands(t, fmt.Sprint(many, " looks, one more"), wantTake(t, b, m), want)
				m.Turn = impl.MillTurn{Over: true, Code: 3}
				wantStands(t, fmt.Sprint(many, " looks, over"), wantTake(t, b, m), fmt.Sprintf("n:over%d=3", many))
			}
		}
	}
}

func TestYardBossTickTime(t *testing.T) {
	b := bossWith(t, []string{"n get o>src > o", "m gone p> > p"}, "o p src")
	for _, now := range []int{0, 1, 999998, 999999, 1000000} {
		late := b
		late.Now = now
		did := wantTick(t, late)
		if now == 1000000 {
			if !isSameDid(did, impl.YardDid{Boss: late}) {
				t.Errorf("at the end of time: %s", didShown(did))
			}
			continue
		}
		if did.Boss.Now != now+1 || len(did.Answers) != 2 || len(did.Boss.Log.Safe) != len(b.Log.Loose) || len(did.Boss.Log.Loose) != 1 {
			t.Errorf("at %d: %s", now, didShown(did))
		}
	}
	// What is loose comes behind what is safe, and only what is new is loose.
	b = wantTick(t, b).Boss
	safe := len(b.Log.Safe)
	b = wantEdit(t, b, fileEntry("z", "")).Boss
	if len(b.Log.Loose) != 2 {
		t.Errorf("%s", bossShown(b))
	}
	next := wantTick(t, b).Boss
	if len(next.Log.Safe) != safe+2 || len(next.Log.Loose) != 0 || !slices.Equal(next.Log.Safe[safe:], b.Log.Loose) {
		t.Errorf("%s: %q", bossShown(next), next.Log.Safe)
	}
	down := wantFall(t, b, 1)
	if did := wantTick(t, down); !isSameDid(did, impl.YardDid{Boss: down}) {
		t.Errorf("down: %s", didShown(did))
	}
}

// Which worker is offered which run.
func TestYardBossTickOffers(t *testing.T) {
	var targets []string
	for n := 1; n <= 6; n++ {
		targets = append(targets, fmt.Sprintf("n%d get o%d>src > o%d", n, n, n))
	}
	begun := bossIn(t, 4, houseWith(targets))
	stand := func(words string) impl.YardBoss {
		b := begun
		b.Now, b.Heard = 10, []int{10, 10, 10, 10}
		for n := 1; n <= 6; n++ {
			b.Runs = append(b.Runs, impl.YardRun{Mode: 1, Made: impl.HouseMade{Name: fmt.Sprint("n", n), Seen: []impl.MillSeen{sawRead("get", houseGet)}}})
		}
		for _, word := range strings.Fields(words) {
			var job impl.YardJob
			fmt.Sscanf(word, "n%d@%d<%d", new(int), &job.Worker, &job.Until)
			job.Name = word[:2]
			b.Jobs = append(b.Jobs, job)
		}
		return b
	}
	jobs := func(b impl.YardBoss) string {
		var all []string
		for _, job := range b.Jobs {
			all = append(all, fmt.Sprintf("%s@%d<%d", job.Name, job.Worker, job.Until))
		}
		return strings.Join(all, " ")
	}
	for _, row := range []struct {
		heard     []int
		has, want string
		out       string
	}{
		{[]int{10, 10, 10, 10}, "", "n1@1<17 n2@2<17 n3@3<17 n4@4<17", "1n1 2n2 3n3 4n4"},
		{[]int{7, 6, 7, -1}, "", "n1@1<17 n2@3<17", "1n1 3n2"},
		{[]int{6, 6, 6, 7}, "", "n1@4<17", "4n1"},
		{[]int{-1, -1, -1, -1}, "", "", ""},
		{[]int{0, 6, 5, 1}, "", "", ""},
		{[]int{10, 10}, "", "n1@1<17 n2@2<17", "1n1 2n2"},
		{[]int{10, 10, 10, 10}, "n2@1<12", "n1@2<17 n2@1<12 n3@3<17 n4@4<17", "2n1 3n3 4n4"},
		{[]int{10, 10, 10, 10}, "n2@1<11", "n1@2<17 n2@1<11 n3@3<17 n4@4<17", "2n1 3n3 4n4"},
		{[]int{10, 10, 10, 10}, "n2@1<10", "n1@1<17 n2@2<17 n3@3<17 n4@4<17", "1n1 2n2 3n3 4n4"},
		{[]int{10, 10, 10, 10}, "n3@4<16 n5@2<10 n6@3<11", "n1@1<17 n2@2<17 n3@4<16 n6@3<11", "1n1 2n2"},
		{[]int{0, 10, 0, 10}, "n1@1<16 n2@4<16", "n1@1<16 n2@4<16 n3@2<17", "2n3"},
		{[]int{10, 10, 10, 10}, "n1@4<16 n2@3<16 n3@2<16 n4@1<16", "n1@4<16 n2@3<16 n3@2<16 n4@1<16", ""},
		{[]int{10, 10, 10, 10}, "n1@4<10 n2@3<10 n3@2<10 n4@1<10", "n1@1<17 n2@2<17 n3@3<17 n4@4<17", "1n1 2n2 3n3 4n4"},
	} {
		b := stand(row.has)
		b.Heard = row.heard
		did := wantTick(t, b)
		var out []string
		for _, m := range did.Out {
			out = append(out, fmt.Sprint(m.To, m.Target.Name))
			if m.Kind != 1 || m.Epoch != 1 || m.Edit != 9 || len(m.Seen) != 1 || m.Target.Arg != m.Target.Outs[0]+">src" {
				t.Errorf("%s", messageShown(m))
			}
		}
		if got := jobs(did.Boss); got != row.want || strings.Join(out, " ") != row.out {
			t.Errorf("%v, %s: %s, want %s; sent %q, want %s", row.heard, row.has, got, row.want, out, row.out)
		}
	}
	// Early on a worker that was never heard of is not there, though little time went by.
	for now := range 6 {
		b := stand("")
		b.Now, b.Heard = now, []int{-1, 0, -1, now}
		if want := []string{"n1@2<7 n2@4<7", "n1@2<8 n2@4<8", "n1@2<9 n2@4<9", "n1@2<10 n2@4<10", "n1@4<11", "n1@4<12"}[now]; jobs(wantTick(t, b).Boss) != want {
			t.Errorf("at %d: %s", now, jobs(wantTick(t, b).Boss))
		}
	}
	// A run that waits, is over, or may be remembered gets none.
	b := stand("")
	b.Runs[0].Wait, b.Runs[1] = "o2", impl.YardRun{Made: impl.HouseMade{Name: "n2"}}
	b.Runs[2] = impl.YardRun{Mode: 2, Made: madeOver("n3", impl.MillTurn{Code: 1}, sawRead("get", houseGet))}
	b.Runs[3].Wait = "o3"
	did := wantTick(t, b)
	wantStands(t, "all sorts", did.Boss, "n1:work1?o2 n2:work1@1<17 n3:over1=1 n4:work2@2<17 n5:work1@3<17 n6:work1@4<17")
}

// What is told of what was asked for, and in which order.
func TestYardBossTickAnswers(t *testing.T) {
	targets := []string{"a get a.o>src > a.o", "bad gone b.o> > b.o", "c c.o c.o> > c.o", "d get d.o>c.o > d.o"}
	for _, row := range []struct{ names, answers, left string }{
		{"src", `src=0"S"`, ""},
		{"b.o", `b.o=5""`, ""},
		{"nowhere", `nowhere=4""`, ""},
		{"c.o", `c.o=0""never`, ""},
		{"main.clay nowhere src", "main.clay=0" + fmt.Sprintf("%q", emitsOf(targets...)) + ` nowhere=4"" src=0"S"`, ""},
		{"src c.o nowhere", `src=0"S" c.o=0""never nowhere=4""`, ""},
		{"c.o src c.oo", `c.o=0""never src=0"S" c.oo=4""`, ""},
		// As long as there is one that is at work, nothing is said never to come.
		{"a.o", "", "a.o"},
		{"src c.o a.o nowhere b.o", `src=0"S" nowhere=4"" b.o=5""`, "c.o a.o"},
		{"d.o c.o", "", "d.o c.o"},
	} {
		did := wantTick(t, bossWith(t, targets, row.names))
		if got := answersShown(did.Answers); got != row.answers || strings.Join(did.Boss.Roots, " ") != row.left {
			t.Errorf("%s: %s, left %q, want %s, left %s", row.names, got, did.Boss.Roots, row.answers, row.left)
		}
		for _, one := range did.Answers {
			if !isSameMillPlace(one.Place, did.Boss.Place) || len(one.Place.Files) != 9 {
				t.Errorf("%s: %s", row.names, millPlaceShown(one.Place))
			}
		}
		wantMeant(t, did.Boss, did.Answers)
	}
	// Behind that, the others are told in their places, that which never comes among them.
	b, answers := wantCalm(t, bossWith(t, targets, "d.o src a.o c.o"))
	if got := answersShown(answers); got != `src=0"S" a.o=0"S!" d.o=0""never c.o=0""never` && got != `src=0"S" d.o=0""never a.o=0"S!" c.o=0""never` {
		t.Error(got)
	}
	wantMeant(t, b, answers)
	// No worker: nothing is told as long as one could do it.
	b = bossWith(t, targets, "a.o c.o")
	b.Heard = []int{-1, -1}
	for range 10 {
		did := wantTick(t, b)
		if b = did.Boss; len(did.Answers) != 0 || len(did.Out) != 0 {
			t.Errorf("%s", didShown(did))
		}
	}
	wantStands(t, "no worker", b, "a:work1 c:work0?c.o")
	// A house that has no orders has no targets.
	for what, main := range map[string]string{"no package": "", "no run": "emit 1 / 0;", "an out that is a file": emitsOf("n get src > src"), "no name": emitsOf("a get a.o>src > a.o", "n ~ o > o") + `emit {name: "a b", tool: "t", outs: ["x"]};`} {
		b := bossWith(t, nil, "a.o src nowhere", "main.clay", main)
		if what == "no package" {
			b = wantEdit(t, b, impl.YardEntry{Kind: 3, File: impl.MillFile{Name: "main.clay"}}).Boss
		}
		did := wantTick(t, b)
		if got := answersShown(did.Answers); got != `a.o=4"" src=0"S" nowhere=4""` || len(did.Boss.Runs) != 0 {
			t.Errorf("%s: %s", what, didShown(did))
		}
		wantMeant(t, did.Boss, did.Answers)
	}
	// One that a worker said to have ended well without this out has written nothing there.
	b = wantTick(t, bossWith(t, targets, "a.o")).Boss
	b = wantTake(t, b, impl.YardMessage{Kind: 2, From: 1, Epoch: 1, Edit: b.Edit, Target: impl.ClayTarget{Name: "a"}, Count: 1, Turn: impl.MillTurn{Over: true}})
	if got := answersShown(wantTick(t, b).Answers); got != `a.o=0""` {
		t.Error(got)
	}
}

func TestYardBossTake(t *testing.T) {
	b := bossOfAll(t)
	stands := runsShown(b)
	turn := func(name string, count int, turn impl.MillTurn) impl.YardMessage {
		return impl.YardMessage{Kind: 2, From: 3, Epoch: 1, Edit: b.Edit, Target: impl.ClayTarget{Name: name}, Count: count, Turn: turn}
	}
	over, read := impl.MillTurn{Over: true, Code: 1, Text: "why", Steps: 9, Said: []string{"s"}}, impl.MillTurn{Kind: 1, Name: "src"}
	// Messages that change no run; of whom they are is heard, or not.
	for _, row := range []struct {
		what  string
		heard bool
		m     impl.YardMessage
	}{
		{"here", true, impl.YardMessage{Kind: 3, From: 3}},
		{"nothing", false, impl.YardMessage{}},
		{"here, without a form", false, impl.YardMessage{Kind: 3, From: 3, Count: 1}},
		{"here, from nobody", false, impl.YardMessage{Kind: 3}},
		{"an offer", false, impl.YardMessage{Kind: 1, To: 3, Epoch: 1, Target: orderOf("n t > o")}},
		{"an offer from one", false, impl.YardMessage{Kind: 1, To: 3, From: 3, Epoch: 1, Target: orderOf("n t > o")}},
		{"a run that waits", true, turn("n3", 1, over)},
		{"a run that may be remembered", true, turn("n4", 0, over)},
		{"a run that is over", true, turn("n5", 1, over)},
		{"a target without a run", true, turn("n7", 0, over)},
		{"no target", true, turn("n8", 0, over)},
		{"one look less", true, turn("n1", 0, over)},
		{"one look more", true, turn("n1", 2, over)},
		{"one look less, at a look", true, turn("n2", 3, read)},
		{"a turn that is none", false, turn("n1", 1, impl.MillTurn{})},
		{"a look and over", false, turn("n1", 1, impl.MillTurn{Over: true, Kind: 1, Name: "src"})},
		{"a look of no kind", false, turn("n1", 1, impl.MillTurn{Kind: 4, Name: "src"})},
		{"a code that is none", false, turn("n1", 1, impl.MillTurn{Over: true, Code: 6})},
	} {
		for from := range 6 {
			m := row.m
			want := slices.Clone(b.Heard)
			if m.From == 3 {
				m.From = from
			}
			if row.heard && from >= 1 && from <= 3 {
				want[from-1] = 100
			}
			got := wantTake(t, b, m)
			wantStands(t, row.what, got, stands)
			if !slices.Equal(got.Heard, want) {
				t.Errorf("%s from %d: heard %v", row.what, from, got.Heard)
			}
		}
	}
	for what, m := range map[string]impl.YardMessage{"epoch": {Epoch: 2, Edit: b.Edit}, "edit before": {Epoch: 1, Edit: b.Edit - 1}, "edit behind": {Epoch: 1, Edit: b.Edit + 1}} {
		for _, turn := range []impl.MillTurn{over, read} {
			m.Kind, m.From, m.Target.Name, m.Count, m.Turn = 2, 1, "n1", 1, turn
			got := wantTake(t, b, m)
			wantStands(t, "another "+what, got, stands)
			if got.Heard[0] != 100 {
				t.Errorf("another %s: %v", what, got.Heard)
			}
		}
	}
	// From any worker that it has; the job is gone, whoever has it.
	for from := 1; from <= 5; from++ {
		m := turn("n1", 1, over)
		m.From = from
		got := wantTake(t, b, m)
		if from > 3 {
			wantStands(t, "a worker that it has not", got, stands)
			continue
		}
		wantStands(t, "over", got, strings.Replace(stands, "n1:work1@2<103", "n1:over1=1", 1))
		if got.Heard[from-1] != 100 || len(got.Jobs) != 0 || len(got.Shelf.Kept) != 2 || !isSameMillTurn(endOf(got.Runs[0].Made), over) {
			t.Errorf("from %d: %s", from, bossShown(got))
		}
		wantStands(t, "told twice", wantTake(t, got, m), runsShown(got))
	}
	for what, row := range map[string]struct {
		name  string
		count int
		turn  impl.MillTurn
		want  string
		last  impl.MillReply
	}{
		"reads a file":                 {"n2", 4, read, "n2:work4?src", impl.MillReply{}},
		"reads an out of one at work":  {"n2", 4, impl.MillTurn{Kind: 1, Name: "o1"}, "n2:work4?o1", impl.MillReply{}},
		"reads an out of one over":     {"n2", 4, impl.MillTurn{Kind: 1, Name: "o5"}, "n2:work4?o5", impl.MillReply{}},
		"reads its own out":            {"n2", 4, impl.MillTurn{Kind: 1, Name: "o2"}, "n2:work4?o2", impl.MillReply{}},
		"reads nothing":                {"n2", 4, impl.MillTurn{Kind: 1, Name: "nowhere"}, "n2:work4?nowhere", impl.MillReply{}},
		"has a file":                   {"n2", 4, impl.MillTurn{Kind: 2, Name: "src"}, "n2:work5", impl.MillReply{}},
		"has an out of one at work":    {"n2", 4, impl.MillTurn{Kind: 2, Name: "o1"}, "n2:work5", impl.MillReply{}},
		"has an out of one not wanted": {"n2", 4, impl.MillTurn{Kind: 2, Name: "o7"}, "n2:work5", impl.MillReply{}},
		"has nothing":                  {"n2", 4, impl.MillTurn{Kind: 2, Name: "nowhere"}, "n2:work5", impl.MillReply{Code: 4}},
		"lists files":                  {"n2", 4, impl.MillTurn{Kind: 3, Name: "s"}, "n2:work5", impl.MillReply{Text: "set\nsrc\n"}},
		"lists outs":                   {"n2", 4, impl.MillTurn{Kind: 3, Name: "o"}, "n2:work5", impl.MillReply{Text: "o1\no2\no3\no4\no5\no6\no7\n"}},
		"lists nothing":                {"n2", 4, impl.MillTurn{Kind: 3, Name: "~"}, "n2:work5", impl.MillReply{}},
		"done":                         {"n2", 4, impl.MillTurn{Over: true, Files: filesOf("o2", "x")}, "n2:over4=0", impl.MillReply{}},
	} {
		got := wantTake(t, b, turn(row.name, row.count, row.turn))
		wantStands(t, what, got, strings.Replace(stands, "n2:work4", row.want, 1))
		if many := len(got.Runs[1].Made.Seen); many > 4 && got.Runs[1].Made.Seen[4] != (impl.MillSeen{Kind: row.turn.Kind, Name: row.turn.Name, Reply: row.last}) {
			t.Errorf("%s: %+v", what, got.Runs[1].Made.Seen[4])
		}
	}
	// One that is wanted has a run at once, which may be remembered.
	wantStands(t, "wants", wantTake(t, b, turn("n2", 4, impl.MillTurn{Kind: 1, Name: "o7"})), strings.Replace(stands, "n2:work4", "n2:work4?o7", 1)+" n7:recall0")
	// A list that is too long for a reply.
	main := `def outs(n) = ["l` + strings.Repeat("x", 50) + `" + n + k for k in ["0", "1", "2", "3", "4"]]; emit {name: "n", tool: "list", arg: "o>l", outs: ["o"]};` + "\n"
	for n := range 12 {
		main += fmt.Sprintf("emit {name: \"t%02d\", tool: \"set\", outs: outs(\"%02d\")};\n", n, n)
	}
	long := wantTick(t, bossWith(t, nil, "o", "main.clay", main)).Boss
	long = wantTake(t, long, impl.YardMessage{Kind: 2, From: 1, Epoch: 1, Edit: long.Edit, Target: impl.ClayTarget{Name: "n"}, Count: 1, Turn: impl.MillTurn{Kind: 3, Name: "l"}})
	if len(long.Runs) != 1 || len(long.Runs[0].Made.Seen) != 2 || long.Runs[0].Made.Seen[1].Reply != (impl.MillReply{Code: 5}) {
		t.Errorf("%s", bossShown(long))
	}
	// While it is down, nothing is heard.
	down := wantFall(t, b, 100)
	for _, m := range []impl.YardMessage{{Kind: 3, From: 1}, turn("n1", 1, over), turn("n2", 4, read)} {
		if got := wantTake(t, down, m); !isSameBoss(got, down) {
			t.Errorf("down: %s", bossShown(got))
		}
	}
}

// wantRefused asks for a code, beside which there is nothing.
func wantRefused(t *testing.T, what string, code int, did impl.YardDid) {
	t.Helper()
	if !isSameDid(did, impl.YardDid{Code: code}) {
		t.Errorf("%s: %s, want code %d", what, didShown(did), code)
	}
}

func TestYardBossAsk(t *testing.T) {
	b := bossOfAll(t)
	for _, name := range []string{"", " ", "a b", "a\n", "é", "\x7f", "\x00", strings.Repeat("x", 61)} {
		wantRefused(t, name, 2, wantAsk(t, b, name))
	}
	for _, name := range []string{"a", "~", "!", "nowhere", "main.clay", "o1", "a//b", strings.Repeat("x", 60)} {
		if did := wantAsk(t, b, name); !slices.Equal(did.Boss.Roots, append([]string{"o3", "src", "o6"}, name)) || runsShown(did.Boss) != runsShown(b) {
			t.Errorf("%q: %s", name, didShown(did))
		}
	}
	// One that was asked for already.
	for _, name := range b.Roots {
		if did := wantAsk(t, b, name); !isSameBoss(did.Boss, b) {
			t.Errorf("%q: %s", name, didShown(did))
		}
	}
	full := b
	full.Roots = numberedNames("r", 10)
	wantRefused(t, "one more", 3, wantAsk(t, full, "more"))
	wantRefused(t, "one more that is no name", 2, wantAsk(t, full, "a b"))
	if did := wantAsk(t, full, "r004"); !isSameBoss(did.Boss, full) {
		t.Errorf("%s", didShown(did))
	}
	full.Roots = full.Roots[:9]
	if did := wantAsk(t, full, "more"); len(did.Boss.Roots) != 10 {
		t.Errorf("%s", didShown(did))
	}
	down := wantFall(t, b, 0)
	wantRefused(t, "down", 2, wantAsk(t, down, "a"))
	wantRefused(t, "down, no name", 2, wantAsk(t, down, ""))
	b.Edit = -1
	wantRefused(t, "not valid", 1, wantAsk(t, b, "a"))
	wantRefused(t, "not valid, no name", 1, wantAsk(t, b, ""))
}

func TestYardBossEdit(t *testing.T) {
	b := bossOfAll(t)
	drop := func(name string) impl.YardEntry {
		return impl.YardEntry{Kind: 3, File: impl.MillFile{Name: name}}
	}
	honest := honestRuns()
	// What makes runs and jobs void, and what does not; roots stay.
	for what, row := range map[string]struct {
		e     impl.YardEntry
		moves bool
		files int
		kept  int
	}{
		"a new file": {fileEntry("z", "Z"), true, 10, 1}, "a file anew": {fileEntry("src", "T"), true, 9, 1}, "a file as it is": {fileEntry("src", "S"), true, 9, 1}, "a file gone": {drop("src"), true, 8, 1}, "the package gone": {drop("main.clay"), true, 8, 1},
		"the longest file": {fileEntry(strings.Repeat("x", 60), strings.Repeat("x", 3000)), true, 10, 1}, "a run": {ranOf(honest["code 1"]), false, 9, 2}, "cleared": {impl.YardEntry{Kind: 5}, false, 9, 0},
	} {
		did := wantEdit(t, b, row.e)
		got := did.Boss
		edit, stands := 9, runsShown(b)
		if row.moves {
			edit, stands = 10, ""
		}
		if got.Edit != edit || len(got.Place.Files) != row.files || len(got.Shelf.Kept) != row.kept || !slices.Equal(got.Roots, b.Roots) || !slices.Equal(got.Heard, b.Heard) || got.Now != 100 {
			t.Errorf("%s: %s", what, didShown(did))
		}
		wantStands(t, what, got, stands)
		if last := len(got.Log.Loose) - 1; last != len(b.Log.Loose) || got.Log.Loose[last] != impl.YardForm(row.e) || len(got.Log.Safe) != len(b.Log.Safe) {
			t.Errorf("%s: log %.300q", what, got.Log.Loose)
		}
		if row.moves != (len(got.Jobs) == 0) {
			t.Errorf("%s: jobs %v", what, got.Jobs)
		}
	}
	// Clearing what is clear is done, and written, as well.
	if did := wantEdit(t, wantEdit(t, b, impl.YardEntry{Kind: 5}).Boss, impl.YardEntry{Kind: 5}); len(did.Boss.Log.Loose) != len(b.Log.Loose)+2 {
		t.Errorf("%s", didShown(did))
	}
	lie := cloneOf(honest["code 1"])
	lie.Made.Text += "!"
	full := bossFilled(t, b, 1000)
	last := b
	last.Edit = 1000
	down := wantFall(t, b, 100)
	no := lie
	no.Made.Code = 6
	other := fileEntry("z", "")
	other.Epoch = 1
	invalid := b
	invalid.Now = -1
	for what, row := range map[string]struct {
		code int
		b    impl.YardBoss
		e    impl.YardEntry
	}{
		"an epoch": {2, b, impl.YardEntry{Kind: 1, Epoch: 2}}, "nothing": {2, b, impl.YardEntry{}}, "no kind": {2, b, impl.YardEntry{Kind: 6}}, "a kind below": {2, b, impl.YardEntry{Kind: -1}}, "no name": {2, b, fileEntry("", "")}, "a name with a blank": {2, b, drop("a b")},
		"too long a text": {2, b, fileEntry("z", strings.Repeat("x", 3001))}, "a part that is not used": {2, b, other}, "a run that could be none": {2, b, ranOf(no)}, "down": {2, down, fileEntry("z", "")}, "down, cleared": {2, down, impl.YardEntry{Kind: 5}},
		"no such file": {3, b, drop("gone")}, "a lie": {3, b, ranOf(lie)}, "a run that is on the shelf": {3, b, ranOf(b.Shelf.Kept[0])}, "a full log": {3, full, fileEntry("z", "")}, "a full log, cleared": {3, full, impl.YardEntry{Kind: 5}}, "a full log, a run": {3, full, ranOf(honest["code 1"])},
		"a full log, an epoch": {2, full, impl.YardEntry{Kind: 1, Epoch: 2}}, "the last edit": {3, last, fileEntry("z", "")}, "the last edit, a file gone": {3, last, drop("src")}, "the last edit, no name": {2, last, drop("")},
		"not valid": {1, invalid, fileEntry("z", "")}, "not valid, an epoch": {1, invalid, impl.YardEntry{Kind: 1, Epoch: 2}},
	} {
		wantRefused(t, what, row.code, wantEdit(t, row.b, row.e))
	}
	// The shelf is not held by the number of edits.
	for _, e := range []impl.YardEntry{ranOf(honest["code 1"]), {Kind: 5}} {
		if did := wantEdit(t, last, e); did.Code != 0 || did.Boss.Edit != 1000 {
			t.Errorf("the last edit: %s", didShown(did))
		}
	}
	last.Edit = 999
	if did := wantEdit(t, last, fileEntry("z", "")); did.Code != 0 || did.Boss.Edit != 1000 {
		t.Errorf("%s", didShown(did))
	}
	if did := wantEdit(t, bossFilled(t, b, 999), fileEntry("z", "")); did.Code != 0 {
		t.Errorf("%s", didShown(did))
	}
}

// A place and a shelf are full at their ends; runs of all sorts are learnt, lies about them are not.
func TestYardBossEditRoom(t *testing.T) {
	t.Parallel()
	b := impl.YardNewBoss(1)
	for n := range 41 {
		did := wantEdit(t, b, fileEntry(fmt.Sprintf("f%02d", n), ""))
		if (did.Code == 0) != (n < 40) {
			t.Fatalf("file %d: code %d", n, did.Code)
		}
		if n < 40 {
			b = did.Boss
		}
	}
	wantRefused(t, "one more", 3, wantEdit(t, b, fileEntry("~", "")))
	if did := wantEdit(t, b, fileEntry("f07", "7")); did.Code != 0 || len(did.Boss.Place.Files) != 40 {
		t.Errorf("%s", didShown(did))
	}
	honest := honestRuns()
	for _, many := range []int{99, 100} {
		b := bossKeeps(t, impl.YardNewBoss(1), many)
		if did := wantEdit(t, b, ranOf(honest["done"])); (did.Code == 0) != (many == 99) {
			t.Errorf("%d kept: %s", many, didShown(did))
		}
	}
	b = impl.YardNewBoss(1)
	for _, what := range slices.Sorted(maps.Keys(honest)) {
		k := honest[what]
		for _, lie := range liesOf(k) {
			if did := impl.YardBossEdit(impl.YardNewBoss(1), ranOf(lie.kept)); did.Code == 0 {
				t.Errorf("%s: %s is learnt", what, lie.what)
			}
		}
		did := wantEdit(t, b, ranOf(k))
		// Two of them may be the same run.
		if did.Code != 0 && !slices.ContainsFunc(b.Shelf.Kept, func(other impl.HouseKept) bool { return isSameKept(k, other) }) {
			t.Fatalf("%s: %s", what, didShown(did))
		}
		if did.Code == 0 {
			b = did.Boss
		}
	}
	if len(b.Shelf.Kept) < 20 {
		t.Errorf("%s", bossShown(b))
	}
}

func TestYardBossPack(t *testing.T) {
	chain := []string{"a get a.o>src > a.o", "m get m.o>a.o > m.o"}
	b, _ := wantCalm(t, bossWith(t, chain, "m.o"))
	wantRefused(t, "loose ones", 3, wantPacked(t, wantEdit(t, b, impl.YardEntry{Kind: 5}).Boss))
	b = wantRise(t, wantFall(t, b, 10))
	b = wantTick(t, wantEdit(t, b, fileEntry("src", "T")).Boss).Boss
	b = wantTick(t, bossAsked(t, b, "m.o nowhere")).Boss
	did := wantPacked(t, b)
	want := []string{"epoch 1\n", "epoch 2\n"}
	for _, file := range b.Place.Files {
		want = append(want, impl.YardForm(fileEntry(file.Name, file.Text)))
	}
	for _, k := range b.Shelf.Kept {
		want = append(want, impl.YardForm(ranOf(k)))
	}
	if got := did.Boss; !slices.Equal(got.Log.Safe, want) || len(want) != 2+9+2 || len(b.Log.Safe) != 14 || len(got.Log.Loose) != 0 {
		t.Errorf("%s: %.500q", didShown(did), got.Log.Safe)
	}
	// Nothing else is another, and once more it stays so.
	packed := did.Boss
	packed.Log = b.Log
	if !isSameBoss(packed, b) || !isSameDid(wantPacked(t, did.Boss), did) {
		t.Errorf("%s", didShown(did))
	}
	wantValid(t, "packed", true, did.Boss)
	all := bossOfAll(t)
	wantRefused(t, "loose ones", 3, wantPacked(t, all))
	all.Log = impl.YardLog{Safe: slices.Concat(all.Log.Safe, all.Log.Loose)}
	if did := wantPacked(t, all); runsShown(did.Boss) != runsShown(all) || !slices.Equal(did.Boss.Roots, all.Roots) {
		t.Errorf("%s", didShown(did))
	}
	// A full log has room again.
	full := bossFilled(t, wantTick(t, b).Boss, 1000)
	wantRefused(t, "full", 3, wantEdit(t, full, fileEntry("z", "")))
	if did := wantEdit(t, wantPacked(t, full).Boss, fileEntry("z", "")); did.Code != 0 {
		t.Errorf("%s", didShown(did))
	}
	cleared := wantTick(t, wantEdit(t, b, impl.YardEntry{Kind: 5}).Boss).Boss
	if did := wantPacked(t, cleared); len(did.Boss.Log.Safe) != 2+9 {
		t.Errorf("%q", did.Boss.Log.Safe)
	}
	down := wantFall(t, b, 0)
	wantRefused(t, "down", 2, wantPacked(t, down))
	down.Log = impl.YardLog{Loose: down.Log.Safe}
	wantRefused(t, "down, loose ones", 2, wantPacked(t, down))
	b.Heard = nil
	wantRefused(t, "not valid", 1, wantPacked(t, b))
	wantRefused(t, "nothing", 1, wantPacked(t, impl.YardBoss{}))
}

func TestYardBossFallAndRise(t *testing.T) {
	b := bossOfAll(t)
	if len(b.Log.Safe) != 5 || len(b.Log.Loose) != 6 {
		t.Fatal(bossShown(b))
	}
	for keep := -3; keep <= 9; keep++ {
		down := wantFall(t, b, keep)
		kept := min(max(keep, 0), 6)
		want := impl.YardBoss{Now: 100, Log: impl.YardLog{Safe: slices.Concat(b.Log.Safe, b.Log.Loose)[:5+kept]}, Heard: []int{-1, -1, -1}}
		if !isSameBoss(down, want) {
			t.Errorf("keep %d: %s", keep, bossShown(down))
		}
		wantValid(t, "down", true, down)
		risen := wantRise(t, down)
		memory := impl.YardReplay(want.Log.Safe)
		want.Up, want.Epoch, want.Place, want.Shelf, want.Log.Loose = true, 2, memory.Place, memory.Shelf, []string{"epoch 2\n"}
		if !isSameBoss(risen, want) || len(risen.Place.Files) != min(4+kept, 9) || len(risen.Shelf.Kept) != kept/6 {
			t.Errorf("keep %d: %s", keep, bossShown(risen))
		}
		wantValid(t, "risen", true, risen)
		if again := wantRise(t, risen); !isSameBoss(again, risen) {
			t.Errorf("one that is up: %s", bossShown(again))
		}
		// Down again, its epoch gone with the rest, or kept.
		if lost := wantRise(t, wantFall(t, risen, 0)); !isSameBoss(lost, risen) {
			t.Errorf("lost: %s", bossShown(lost))
		}
		if third := wantRise(t, wantFall(t, risen, 1)); third.Epoch != 3 || len(third.Log.Safe) != 6+kept {
			t.Errorf("third: %s", bossShown(third))
		}
		// A fall of one that is down leaves it so.
		if again := wantFall(t, down, 0); !isSameBoss(again, down) {
			t.Errorf("twice: %s", bossShown(again))
		}
	}
	// One that is down may have loose entries, too: they fall, or are told when it rises.
	loose := wantFall(t, b, 6)
	loose.Log = b.Log
	wantValid(t, "down, loose", true, loose)
	if down := wantFall(t, loose, 2); len(down.Log.Safe) != 7 || len(down.Log.Loose) != 0 {
		t.Errorf("%s", bossShown(down))
	}
	if risen := wantRise(t, loose); len(risen.Log.Safe) != 5 || len(risen.Log.Loose) != 7 || len(risen.Place.Files) != 9 {
		t.Errorf("%s", bossShown(risen))
	}
	if fresh := wantRise(t, impl.YardBoss{Heard: []int{-1}}); fresh.Epoch != 1 || !isSameBoss(fresh, impl.YardNewBoss(1)) {
		t.Errorf("%s", bossShown(fresh))
	}
	for _, bad := range []impl.YardBoss{{}, {Up: true}, {Heard: []int{0}}, {Heard: []int{-1}, Log: impl.YardLog{Safe: []string{"epoch 2\n"}}}} {
		if got := wantFall(t, bad, 1); !isSameBoss(got, impl.YardBoss{}) {
			t.Errorf("%s", bossShown(got))
		}
		if got := wantRise(t, bad); !isSameBoss(got, impl.YardBoss{}) {
			t.Errorf("%s", bossShown(got))
		}
	}
}

// A boss rises into the last epoch, and none behind it; nor with a full log.
func TestYardBossRiseNoMore(t *testing.T) {
	for epoch := 197; epoch <= 200; epoch++ {
		b := impl.YardBoss{Heard: []int{-1, -1}}
		for n := range epoch {
			b.Log.Safe = append(b.Log.Safe, fmt.Sprintf("epoch %d\n", n+1))
		}
		risen := wantRise(t, b)
		if risen.Up != (epoch < 200) || risen.Up && risen.Epoch != epoch+1 || !risen.Up && !isSameBoss(risen, b) {
			t.Errorf("%d: %s", epoch, bossShown(risen))
		}
		if risen.Up {
			wantAll(t, risen)
		}
	}
	for _, many := range []int{998, 999, 1000} {
		b := bossFilled(t, wantFall(t, bossOfAll(t), 6), many)
		risen := wantRise(t, b)
		if risen.Up != (many < 1000) || !risen.Up && !isSameBoss(risen, b) {
			t.Errorf("%d: %s", many, bossShown(risen))
		}
	}
}

// Promise 40: the first loose entries are a log, however many, and no message bears the epoch into which a boss rises.
func TestYardBossEpochs(t *testing.T) {
	b := bossWith(t, []string{"a get a.o>src > a.o", "m get m.o>a.o > m.o"}, "m.o")
	latest := 0
	for round := range 40 {
		did := wantTick(t, b)
		b = did.Boss
		for _, m := range did.Out {
			latest = max(latest, m.Epoch)
			if round%3 > 0 {
				b = wantTake(t, b, turnOfOffer(t, m))
			}
		}
		for many := range len(b.Log.Loose) + 1 {
			if memory := wantReplay(t, slices.Concat(b.Log.Safe, b.Log.Loose[:many])...); memory.Code != 0 {
				t.Errorf("%d of %s: code %d", many, bossShown(b), memory.Code)
			}
			risen := wantRise(t, wantFall(t, b, many))
			if !impl.YardValidBoss(risen) || risen.Up && risen.Epoch <= latest {
				t.Errorf("%d of %s: %s, after messages of %d", many, bossShown(b), bossShown(risen), latest)
			}
		}
		if round%4 == 3 {
			b = bossAsked(t, wantRise(t, wantFall(t, b, round%3)), "m.o")
		}
		if round%7 == 6 {
			b = wantEdit(t, b, fileEntry("src", fmt.Sprint(round))).Boss
		}
		b = bossAsked(t, wantTake(t, b, impl.YardMessage{Kind: 3, From: 1 + round%2}), "m.o")
	}
	if latest < 8 {
		t.Errorf("only %d epochs", latest)
	}
}

// No argument is changed, nor what lies behind its lists; answers are new memory, and no two parts of one share any.
func TestYardBossOwnMemory(t *testing.T) {
	chain := []string{"a get a.o>src > a.o", "b get b.o>src > b.o", "m get m.o>a.o < b.o > m.o", "z a.o z.o> > z.o"}
	begun := bossWith(t, chain, "m.o src z.o nowhere")
	ticked := wantTick(t, begun).Boss
	calm, _ := wantCalm(t, begun)
	again := bossAsked(t, wantTake(t, wantEdit(t, calm, fileEntry("elsewhere", "e")).Boss, someHere()), "m.o z.o")
	turn := impl.YardMessage{Kind: 2, From: 1, Epoch: 1, Edit: ticked.Edit, Target: impl.ClayTarget{Name: "a"}, Count: 1, Turn: impl.MillTurn{Over: true, Files: filesOf("a.o", "long enough"), Said: []string{"said", "said"}}}
	list := turn
	list.Target.Name, list.Turn = "b", impl.MillTurn{Kind: 3, Name: "s"}
	read := turn
	read.Target.Name, read.Turn = "b", impl.MillTurn{Kind: 1, Name: "z.o"}
	for at, b := range []impl.YardBoss{begun, ticked, calm, again, bossOfAll(t), wantFall(t, calm, 2), {}} {
		check := func(what string, does func(b impl.YardBoss) any, args ...any) {
			roomy, seen := roomyOf(b)
			before := seen()
			got := does(roomy)
			wantNewMemory(t, got, append(args, roomy)...)
			if seen() != before {
				t.Errorf("%d, %s: changed", at, what)
			}
		}
		check("valid", func(b impl.YardBoss) any { return impl.YardValidBoss(b) })
		check("tick", func(b impl.YardBoss) any { return impl.YardBossTick(b) })
		for _, m := range []impl.YardMessage{someHere(), turn, list, read} {
			roomy, seen := roomyOf(m)
			before := seen()
			check("take", func(b impl.YardBoss) any { return impl.YardBossTake(b, roomy) }, roomy)
			if seen() != before {
				t.Errorf("%d: %s changed", at, messageShown(m))
			}
		}
		name := string([]byte("asked"))
		check("ask", func(b impl.YardBoss) any { return impl.YardBossAsk(b, name) }, name)
		for _, e := range []impl.YardEntry{fileEntry("new", "text"), ranOf(honestRuns()["asks"]), {Kind: 3, File: impl.MillFile{Name: "src"}}, {Kind: 5}} {
			roomy, seen := roomyOf(e)
			before := seen()
			check("edit", func(b impl.YardBoss) any { return impl.YardBossEdit(b, roomy) }, roomy)
			if seen() != before {
				t.Errorf("%d: %s changed", at, entryShown(e))
			}
		}
		check("pack", func(b impl.YardBoss) any { return impl.YardBossPack(b) })
		check("fall", func(b impl.YardBoss) any { return impl.YardBossFall(b, 1) })
		check("rise", func(b impl.YardBoss) any { return impl.YardBossRise(b) })
	}
	for workers := range 5 {
		wantNewMemory(t, impl.YardNewBoss(workers), impl.YardNewBoss(workers))
	}
}

// Many at once: nothing is kept between calls.
func TestYardBossKeepsNothing(t *testing.T) {
	var all []func() string
	for n := range 8 {
		b := bossWith(t, []string{fmt.Sprintf("a get a.o>f%d > a.o", n), "m get m.o>a.o > m.o"}, "m.o", fmt.Sprint("f", n), fmt.Sprint("text ", n))
		want := fmt.Sprintf(`m.o=0"text %d!!"`, n)
		all = append(all, func() string {
			b := b
			for range 9 {
				did := impl.YardBossTick(b)
				b = did.Boss
				for _, offer := range did.Out {
					_, sent := impl.YardWorkerTick(impl.YardWorkerTake(impl.YardWorker{Number: offer.To, Up: true}, offer))
					b = impl.YardBossTake(b, sent[len(sent)-1]).Boss
				}
				if len(did.Answers) > 0 {
					if got := answersShown(did.Answers); got != want {
						return got + ", want " + want
					}
					return ""
				}
				b = impl.YardBossTake(impl.YardBossTake(b, impl.YardMessage{Kind: 3, From: 1}).Boss, impl.YardMessage{Kind: 3, From: 2}).Boss
			}
			return "no answer: " + bossShown(b)
		})
	}
	wantAtOnce(t, all)
}

// A boss and workers whose steps are told by bytes.
func FuzzYardBoss(f *testing.F) {
	for n := range 4 {
		f.Add(n, strings.Repeat("\x00\x0bq\x1c", 20))
	}
	f.Fuzz(func(t *testing.T, seed int, steps string) {
		dice := clayDice(seed)
		w := &yardWalk{houseAuthor: houseAuthor{&dice}, t: t, counts: map[string]int{}}
		w.b = bossIn(t, 1+w.below(4), w.house())
		for number := range w.b.Heard {
			w.workers = append(w.workers, impl.YardWorker{Number: number + 1, Up: true})
		}
		for _, b := range []byte(steps[:min(len(steps), 100)]) {
			if b == 'q' {
				w.forge()
			}
			w.step()
		}
	})
}
