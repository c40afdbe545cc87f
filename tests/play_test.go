package tests

import (
	"math"
	"math/rand/v2"
	"slices"
	"testing"

	"loop.example/tabularium/impl"
)

// has says whether there is an event of a kind.
func has(events []impl.Event, kind int) bool {
	return slices.ContainsFunc(events, func(v impl.Event) bool { return v.Kind == kind })
}

// do is an engine after the event of a text, by the program.
func do(e impl.Engine, text string) impl.Engine {
	return impl.PlayDo(e, event(text))
}

// checkDo checks an event on a valid engine.
func checkDo(t *testing.T, name string, e impl.Engine, v impl.Event) {
	t.Helper()
	if got := impl.PlayDo(copyOf(e), v); !sameEngine(got, wantDo(e, v)) {
		t.Fatalf("%s: PlayDo of %v is %v, want %v, of %v", name, v, got, wantDo(e, v), e)
	}
}

// engineKinds is what an engine is, of what tests of runs need.
func engineKinds(e impl.Engine) map[string]bool {
	open := impl.LogOpen(e.Log)
	with := func(kind int) bool {
		return slices.ContainsFunc(e.Log, func(r impl.Rec) bool { return r.Kind == kind })
	}
	loadIs := func(written bool) bool {
		return slices.ContainsFunc([]int{0, 1, 2, 3, 4}, func(n int) bool { return loadedIn(e.Log, n) && (e.Disk[n].Lsn >= loadOf(e.Log, n)) == written })
	}
	return map[string]bool{
		"no records": len(e.Log) == 0, "none open": len(open) == 0 && len(e.Log) > 0,
		"one open": len(open) == 1, "two open": len(open) == 2, "three open": len(open) == 3, "crashed": e.Down, "crashed, three open": e.Down && len(open) == 3,
		"all durable": e.Safe == len(e.Log) && len(open) > 0, "some durable": 0 < e.Safe && e.Safe < len(e.Log), "none durable": e.Safe == 0 && len(open) > 0,
		"a load that is written": loadIs(true), "a load that is not written": loadIs(false),
		"amid a recovery": e.Down && slices.ContainsFunc(open, func(tx int) bool { return e.Log[lastIn(e.Log, tx)-1].Kind == impl.RecUndo }),
		"behind a commit": with(impl.RecDone), "behind a rollback": with(impl.RecEnd),
	}
}

// countKinds counts what something is, and what it is not, without adding to that.
func countKinds(seen map[string]int, kinds map[string]bool) {
	for name, is := range kinds {
		seen[name] += map[bool]int{true: 1}[is]
	}
}

// checkKinds checks that there is enough of each kind: else other tests would check nothing.
func checkKinds(t *testing.T, seen map[string]int, least int) {
	t.Helper()
	for name, count := range seen {
		if count < least {
			t.Errorf("only %d are of the kind %q", count, name)
		}
	}
}

func TestPlaysAreOfAllKinds(t *testing.T) {
	seen := map[string]int{}
	for p := range plays {
		e := p.engine
		countKinds(seen, engineKinds(e))
		countKinds(seen, map[string]bool{
			"no events": len(p.events) == 0, "40 events": len(p.events) == 40,
			"recovered":                 !e.Down && has(p.events, 8),
			"never crashed":             !has(p.events, 8),
			"nothing done":              !has(p.events, 4),
			"nothing written or forced": !has(p.events, 6) && !has(p.events, 7),
			"something committed":       !sameContents(wantTrue(p.events), newPages(nil)),
			"something not committed":   !e.Down && !sameContents(wantTrue(p.events), e.Mem),
			"ahead on disk":             !sameContents(wantTrue(p.events), e.Disk),
		})
	}
	checkKinds(t, seen, 2)
}

// The events of the plays have every kind, each with and without effect.
func TestEventsOfPlaysAreOfAllKinds(t *testing.T) {
	seen := map[[2]int]int{}
	for p := range plays {
		e := newEngine()
		for _, v := range p.events {
			next := wantDo(e, v)
			if sameEngine(e, next) {
				seen[[2]int{v.Kind, 0}]++
			} else {
				seen[[2]int{v.Kind, 1}]++
			}
			e = next
		}
	}
	for kind := 1; kind <= 9; kind++ {
		if seen[[2]int{kind, 0}] < 5 || seen[[2]int{kind, 1}] < 50 {
			t.Errorf("events of kind %d are rare: %v", kind, seen)
		}
	}
}

// Promise 74, written out: what each kind does, and with which fields.
func TestWrittenEvents(t *testing.T) {
	e := filled()
	fallen := runFall(e, 99)
	for _, c := range []struct {
		name   string
		engine impl.Engine
		event  impl.Event
		want   impl.Engine
	}{
		{"put", e, impl.Event{Kind: 1, Tx: 2, Page: 2, Slot: 1, N: 3}, runPut(e, 2, 2, 1, 3)},
		{"own", e, impl.Event{Kind: 2, Tx: 3, Page: 4, N: 2}, runOwn(e, 3, 4, 2)},
		{"own, freed", runDone(runOwn(e, 3, 4, 2), 3), impl.Event{Kind: 2, Tx: 1, Page: 4, N: 0}, runOwn(runDone(runOwn(e, 3, 4, 2), 3), 1, 4, 0)},
		{"load", toLoad(), impl.Event{Kind: 3, Tx: 1, Page: 3, Vals: []int{1, 2, 3}}, runLoad(toLoad(), 1, 3, 1, 2, 3)},
		{"done", e, impl.Event{Kind: 4, Tx: 2}, runDone(e, 2)},
		{"done, a load", loaded(), impl.Event{Kind: 4, Tx: 1}, runDone(loaded(), 1)},
		{"undo", e, impl.Event{Kind: 5, Tx: 2}, runUndo(e, 2)},
		{"write", e, impl.Event{Kind: 6, Page: 1}, runWrite(e, 1)},
		{"force", e, impl.Event{Kind: 7}, runForce(e)},
		{"fall", e, impl.Event{Kind: 8, N: 8}, runFall(e, 8)},
		{"fall, none left", e, impl.Event{Kind: 8}, runFall(e, 7)},
		{"fall, more than there are", e, impl.Event{Kind: 8, N: math.MaxInt}, runFall(e, 9)},
		{"fall again", fallen, impl.Event{Kind: 8, N: 8}, runFall(e, 8)},
		{"rise", fallen, impl.Event{Kind: 9, N: 6}, runRise(fallen)},
		{"rise, more steps", fallen, impl.Event{Kind: 9, N: math.MaxInt}, runRise(fallen)},
		{"rise, one step", fallen, impl.Event{Kind: 9, N: 1}, runFall(undoneOf(e, 2, 1), 99)},
		{"rise, too few steps", fallen, impl.Event{Kind: 9, N: 5}, runFall(undoneOf(runUndo(e, 2), 3, 1), 99)},
		{"rise, no steps", fallen, impl.Event{Kind: 9}, fallen},
		{"rise, no steps needed", runFall(newEngine(), 0), impl.Event{Kind: 9}, newEngine()},
		{"rise, not crashed", e, impl.Event{Kind: 9, N: 6}, e},
		{"put, locked by another", e, impl.Event{Kind: 1, Tx: 1, Page: 2, Slot: 1, N: 3}, e},
		{"put, free", e, impl.Event{Kind: 1, Tx: 2, Page: 3, Slot: 1, N: 3}, e},
		{"own, not free", e, impl.Event{Kind: 2, Tx: 2, Page: 2, N: 3}, e},
		{"own, free already", e, impl.Event{Kind: 2, Tx: 2, Page: 3}, e},
		{"load, allocated by another", toLoad(), impl.Event{Kind: 3, Tx: 2, Page: 3, Vals: []int{1, 2, 3}}, toLoad()},
		{"done, not open", e, impl.Event{Kind: 4, Tx: 1}, e},
		{"undo, not open", e, impl.Event{Kind: 5, Tx: 1}, e},
		{"put, no log space", puts(2, 74), impl.Event{Kind: 1, Tx: 1, Page: 1, N: 3}, puts(2, 74)},
		{"own, no log space", puts(2, 74), impl.Event{Kind: 2, Tx: 1, Page: 4, N: 3}, puts(2, 74)},
		{"done, no log space for more", puts(2, 74), impl.Event{Kind: 4, Tx: 1}, runDone(puts(2, 74), 1)},
		{"undo, no log space for more", puts(2, 74), impl.Event{Kind: 5, Tx: 1}, runUndo(puts(2, 74), 1)},
		{"put, crashed", fallen, impl.Event{Kind: 1, Tx: 2, Page: 2, Slot: 1, N: 3}, fallen},
		{"own, crashed", fallen, impl.Event{Kind: 2, Tx: 3, Page: 4, N: 2}, fallen},
		{"load, crashed", runFall(toLoad(), 99), impl.Event{Kind: 3, Tx: 1, Page: 3, Vals: []int{1, 2, 3}}, runFall(toLoad(), 99)},
		{"done, crashed", fallen, impl.Event{Kind: 4, Tx: 2}, fallen},
		{"undo, crashed", fallen, impl.Event{Kind: 5, Tx: 2}, fallen},
		{"write, crashed", fallen, impl.Event{Kind: 6, Page: 1}, fallen},
		{"force, crashed", fallen, impl.Event{Kind: 7}, fallen},
	} {
		if got := impl.PlayDo(copyOf(c.engine), c.event); !sameEngine(got, c.want) || !validByBoth(got) {
			t.Errorf("%s: PlayDo is %v, want %v, of %v", c.name, got, c.want, c.engine)
		}
	}
}

// doneBy is what the function of a kind makes of an engine, and whether that counts.
func doneBy(e impl.Engine, v impl.Event) (impl.Engine, bool) {
	switch v.Kind {
	case impl.EvPut:
		return impl.ChangePut(e, v.Tx, v.Page, v.Slot, v.N)
	case impl.EvOwn:
		return impl.ChangeOwn(e, v.Tx, v.Page, v.N)
	case impl.EvLoad:
		return impl.ChangeLoad(e, v.Tx, v.Page, v.Vals)
	case impl.EvDone:
		return impl.EndDone(e, v.Tx)
	case impl.EvUndo:
		return impl.EndUndo(e, v.Tx)
	case impl.EvWrite:
		return impl.EngineWrite(e, v.Page)
	case impl.EvForce:
		return impl.EngineForce(e)
	case impl.EvFall:
		return impl.RiseFall(e, v.N)
	case impl.EvRise:
		up, ok := impl.RiseUp(e, v.N)
		return up, ok || v.N >= 0 && e.Down
	}
	return impl.Engine{}, false
}

// Promise 74: PlayDo is the function of its kind, if that is possible, and otherwise changes nothing.
func TestPlayDoIsTheFunctionOfTheKind(t *testing.T) {
	t.Parallel()
	dice := rand.New(rand.NewPCG(22, 74))
	possible, refused := map[int]int{}, map[int]int{}
	n := 0
	for e := range runs {
		if n++; len(e.Log) > 30 && n%5 > 0 {
			continue
		}
		for range 20 {
			v := anyEvent(e.Down, allKinds, dice)
			if dice.IntN(4) == 0 {
				v = impossible(v, allKinds, dice)
			}
			want, ok := doneBy(e, v)
			if ok {
				possible[v.Kind]++
			} else {
				want = e
				refused[v.Kind]++
			}
			if got := impl.PlayDo(e, v); !sameEngine(got, want) {
				t.Fatalf("PlayDo of %v is %v, want %v, of %v", v, got, want, e)
			}
		}
	}
	for kind := 1; kind <= 9; kind++ {
		checkCount(t, possible[kind], 20)
		checkCount(t, refused[kind], 20)
	}
}

// Promises 74 and 87: for all arguments inside and outside of the limits; the fields that a kind does not use do not matter.
func TestPlayDoOfAllArguments(t *testing.T) {
	t.Parallel()
	far := []int{math.MinInt, -77, -1, 0, 5, 77, math.MaxInt}
	for _, e := range argumentEngines() {
		for _, tx := range []int{math.MinInt, -1, 0, 1, 2, 3, 4, math.MaxInt} {
			for _, number := range []int{math.MinInt, -1, 0, 1, 2, 4, 5, math.MaxInt} {
				checkArguments(t, e, tx, number)
			}
			for n, unused := range far {
				other := far[len(far)-1-n]
				checkDo(t, "done", e, impl.Event{Kind: 4, Tx: tx, Page: unused, Slot: other, N: unused, Vals: []int{other}})
				checkDo(t, "undo", e, impl.Event{Kind: 5, Tx: tx, Page: unused, Slot: other, N: unused, Vals: []int{other}})
			}
		}
		for _, n := range slices.Concat(numbers(-2, 12), []int{-150, 99, 149, 150, 151}) {
			for _, unused := range far {
				checkDo(t, "write", e, impl.Event{Kind: 6, Tx: unused, Page: n, Slot: unused, N: unused, Vals: []int{unused}})
				checkDo(t, "force", e, impl.Event{Kind: 7, Tx: unused, Page: n, Slot: unused, N: n, Vals: []int{n}})
				checkDo(t, "fall", e, impl.Event{Kind: 8, Tx: unused, Page: unused, Slot: unused, N: n, Vals: []int{unused}})
				checkDo(t, "rise", e, impl.Event{Kind: 9, Tx: unused, Page: unused, Slot: unused, N: n, Vals: []int{unused}})
			}
		}
	}
}

func checkArguments(t *testing.T, e impl.Engine, tx, number int) {
	t.Helper()
	lists := [][]int{nil, {}, {1}, {1, 2}, {1, 2, 3, 4}, {0, 0, 0}, {1, 2, 3}, {9, 9, 9}, {10, 0, 0}, {0, 0, 10}, {-1, 0, 0}, {0, 0, math.MinInt}}
	for _, n := range []int{math.MinInt, -1, 0, 1, 3, 4, 9, 10, math.MaxInt} {
		for _, slot := range []int{-1, 0, 2, 3} {
			checkDo(t, "put", e, impl.Event{Kind: 1, Tx: tx, Page: number, Slot: slot, N: n, Vals: []int{slot}})
		}
		checkDo(t, "own", e, impl.Event{Kind: 2, Tx: tx, Page: number, Slot: n, N: n, Vals: []int{n}})
	}
	for n, vals := range lists {
		checkDo(t, "load", e, impl.Event{Kind: 3, Tx: tx, Page: number, Slot: n - 5, N: 5 - n, Vals: vals})
	}
}

// Promise 87: an event of an unknown kind changes nothing.
func TestUnknownKinds(t *testing.T) {
	for name, e := range endEngines() {
		for _, kind := range []int{math.MinInt, -150, -9, -2, -1, 0, 10, 11, 40, 150, math.MaxInt} {
			for _, engine := range []impl.Engine{e, runFall(e, 99)} {
				v := impl.Event{Kind: kind, Tx: 2, Page: 2, N: 9, Vals: []int{1, 2, 3}}
				if got := impl.PlayDo(copyOf(engine), v); !sameEngine(got, engine) {
					t.Errorf("%s: PlayDo of kind %d is %v, of %v", name, kind, got, engine)
				}
			}
		}
	}
}

// Promise 87: an event with a field out of range that its kind uses changes nothing, in engines where it would with another value.
func TestEventsOutOfRange(t *testing.T) {
	e := toLoad()
	fallen := runFall(e, 99)
	for _, c := range []struct {
		engine     impl.Engine
		name       string
		impossible []string
	}{
		{e, "put 2 2 1 3", []string{"put -1 2 1 3", "put 0 2 1 3", "put 4 2 1 3", "put 2 -1 1 3", "put 2 5 1 3", "put 2 2 -1 3", "put 2 2 3 3", "put 2 2 1 -1", "put 2 2 1 10"}},
		{e, "own 2 4 1", []string{"own -1 4 1", "own 0 4 1", "own 4 4 1", "own 2 -1 1", "own 2 5 1", "own 2 4 -1", "own 2 4 4"}},
		{e, "own 1 3 0", []string{"own -1 3 0", "own 0 3 0", "own 4 3 0", "own 1 3 -1", "own 1 3 4"}},
		{e, "load 1 3 4 5 6", []string{"load -1 3 4 5 6", "load 0 3 4 5 6", "load 4 3 4 5 6", "load 1 -1 4 5 6", "load 1 5 4 5 6", "load 1 3", "load 1 3 4 5", "load 1 3 4 5 6 7",
			"load 1 3 -1 5 6", "load 1 3 4 -1 6", "load 1 3 4 5 -1", "load 1 3 10 5 6", "load 1 3 4 10 6", "load 1 3 4 5 10"}},
		{e, "done 2", []string{"done -1", "done 0", "done 4", "done -2"}},
		{e, "undo 2", []string{"undo -1", "undo 0", "undo 4", "undo -2"}},
		{e, "write 3", []string{"write -1", "write 5", "write -3"}},
		{e, "fall 8", []string{"fall -1", "fall -8", "fall -150"}},
		{fallen, "fall 8", []string{"fall -1", "fall -8"}},
		{fallen, "rise 1", []string{"rise -1", "rise -150"}},
		{fallen, "rise 99", []string{"rise -1", "rise -99"}},
	} {
		if got := do(copyOf(c.engine), c.name); sameEngine(got, c.engine) {
			t.Errorf("%s changes nothing, of %v", c.name, c.engine)
		}
		for _, text := range c.impossible {
			if got := do(copyOf(c.engine), text); !sameEngine(got, c.engine) {
				t.Errorf("PlayDo of %s is %v, of %v", text, got, c.engine)
			}
		}
	}
}

// For an invalid engine: the zero value, whatever the event is.
func TestPlayDoOfInvalidEngines(t *testing.T) {
	for _, c := range engineCases(t) {
		for kind := -1; kind <= 11; kind++ {
			for _, n := range []int{-1, 0, 2, 150} {
				v := impl.Event{Kind: kind, Tx: 1, Page: 2, N: n, Vals: []int{1, 2, 3}}
				if c.valid {
					checkDo(t, c.name, c.engine, v)
				} else if got := impl.PlayDo(c.engine, v); !sameEngine(got, impl.Engine{}) {
					t.Errorf("%s: PlayDo of %v is %v", c.name, v, got)
				}
			}
		}
	}
}

// Promise 73: the result of PlayDo is valid; Safe never decreases; after every event except EvFall the log starts with the previous one.
func TestPlayDo(t *testing.T) {
	t.Parallel()
	lost := 0
	for p := range plays {
		e := newEngine()
		for _, v := range p.events {
			next := impl.PlayDo(e, v)
			if !validByBoth(next) || next.Safe < e.Safe {
				t.Fatalf("PlayDo of %v is %v, of %v", v, next, e)
			}
			starts := len(next.Log) >= len(e.Log) && slices.Equal(next.Log[:len(e.Log)], e.Log)
			if !starts && v.Kind != impl.EvFall {
				t.Fatalf("PlayDo of %v has the log %v, of %v", v, next.Log, e)
			}
			if !starts {
				lost++
			}
			e = next
		}
	}
	checkCount(t, lost, 50)
}

// Promise 74 stands against promise 73 in valid engines that no events make: what the function of the kind returns is invalid there, and so is PlayDo.
func TestPlayDoOfEnginesThatNoEventsMake(t *testing.T) {
	behind := onDisk(t, 4, map[int]impl.Page{0: page(0, 1, 5, 0, 0)}, "put 1 0 0 5 7 0 0", "done 1 0 0 0 0 1 0", "put 2 0 1 0 8 0 0", "undo 1 1 0 0 0 0 1")
	for _, c := range []struct {
		name   string
		engine impl.Engine
		event  string
	}{
		{"a load that no rollback undoes", keptLoad(), "undo 2"},
		{"a crash that leaves no space", safeAs(appended(puts(1, 75), rec(impl.RecDone, 1, 0, 0, 0, 0, 0, 0)), 75), "fall 0"},
		{"a Next behind the chain", runFall(behind, 4), "rise 1"},
	} {
		got := do(c.engine, c.event)
		if want, _ := doneBy(c.engine, event(c.event)); !validByBoth(c.engine) || !sameEngine(got, want) || impl.EngineOk(got) {
			t.Errorf("%s: PlayDo is %v, want %v, of %v", c.name, got, want, c.engine)
		}
		if again := do(got, c.event); !sameEngine(again, impl.Engine{}) {
			t.Errorf("%s: a second PlayDo is %v, of %v", c.name, again, got)
		}
	}
}

// Promise 75: PlayRun equals PlayDo of each event, from EngineNew on.
func TestPlayRun(t *testing.T) {
	t.Parallel()
	for p := range plays {
		got, ok := impl.PlayRun(p.events)
		e := impl.EngineNew()
		for _, v := range p.events {
			e = impl.PlayDo(e, v)
		}
		if !ok || !sameEngine(got, e) || !sameEngine(got, p.engine) {
			t.Fatalf("PlayRun is %v, %v, want %v, of %v", got, ok, p.engine, p.events)
		}
	}
}

// Exactly PlayMax events are possible, and one more is not, whatever it is.
func TestNumberOfEvents(t *testing.T) {
	commit := eventsOf("own 1 0 1, put 1 0 0 5, done 1")
	for _, v := range []impl.Event{{}, {Kind: -1}, event("force"), event("fall 0"), event("done 1"), event("put 1 0 0 9")} {
		events := slices.Concat(commit, slices.Repeat([]impl.Event{v}, 37))
		e, ok := impl.PlayRun(events)
		if pages := impl.PlayTrue(events); len(events) != 40 || !ok || len(e.Mem) != 5 || len(pages) != 5 || !slices.Equal(pages[0].Vals[:1], wantTrue(events)[0].Vals[:1]) {
			t.Errorf("40 events: PlayRun is %v, %v, and PlayTrue %v", e, ok, pages)
		}
		for _, more := range []int{1, 2, 60, 1000} {
			events := slices.Concat(events, slices.Repeat([]impl.Event{v}, more))
			e, ok := impl.PlayRun(events)
			if pages := impl.PlayTrue(events); ok || !sameEngine(e, impl.Engine{}) || len(pages) != 0 {
				t.Errorf("%d events: PlayRun is %v, %v, and PlayTrue %v", len(events), e, ok, pages)
			}
		}
	}
	for _, none := range [][]impl.Event{nil, {}} {
		e, ok := impl.PlayRun(none)
		if pages := impl.PlayTrue(none); !ok || !sameEngine(e, newEngine()) || !samePages(pages, newPages(nil)) {
			t.Errorf("no event: PlayRun is %v, %v, and PlayTrue %v", e, ok, pages)
		}
	}
}

// writtenPlay is events with what PlayTrue is of them, but for new pages.
type writtenPlay struct {
	name, events string
	want         map[int]impl.Page
}

func writtenPlays() []writtenPlay {
	five, six := map[int]impl.Page{0: page(0, 1, 5, 0, 0)}, map[int]impl.Page{0: page(0, 1, 6, 0, 0)}
	begun := "own 1 0 1, put 1 0 0 5"
	committed := begun + ", done 1"
	return []writtenPlay{
		{"nothing", "", nil},
		{"not committed", begun, nil},
		{"committed", committed, five},
		{"committed twice", committed + ", done 1", five},
		{"committed by another", begun + ", done 2", nil},
		{"committed by no transaction", begun + ", done 0, done -1, done 4", nil},
		{"committed by no transaction, and by its own", begun + ", done 0, done 1, done 0", five},
		{"rolled back", begun + ", undo 1", nil},
		{"rolled back, then committed", begun + ", undo 1, done 1", nil},
		{"committed, then rolled back", committed + ", undo 1", five},
		{"written", begun + ", write 0", nil},
		{"written and forced", begun + ", write 0, force", nil},
		{"written, crashed", begun + ", write 0, fall 99", nil},
		{"a commit while it has crashed", begun + ", write 0, fall 99, done 1", nil},
		{"a commit after a recovery", begun + ", write 0, fall 99, rise 99, done 1", nil},
		{"a commit amid a recovery", begun + ", write 0, fall 99, rise 1, done 1, rise 99", nil},
		{"committed, crashed", committed + ", fall 0", five},
		{"committed, recovered", committed + ", fall 0, rise 0", five},
		{"a further value, not committed", committed + ", put 1 0 0 6", five},
		{"a further value, rolled back", committed + ", put 1 0 0 6, undo 1", five},
		{"a further value, committed", committed + ", put 1 0 0 6, done 1", six},
		{"a further value of another", committed + ", put 2 0 0 6, done 2", six},
		{"a further value of another, the first one commits", committed + ", put 2 0 0 6, done 1", five},
		{"a further value, lost", committed + ", put 1 0 0 6, fall 0, rise 0, done 1", five},
		{"a further value, recovered", committed + ", put 1 0 0 6, fall 99, rise 99, done 1", five},
		{"a further value, a commit while it has crashed", committed + ", put 1 0 0 6, write 0, fall 99, done 1", five},
		{"a further value, a negative crash", committed + ", put 1 0 0 6, fall -1, done 1", six},
		{"a further value, locked by another", committed + ", put 1 0 0 6, put 2 0 0 7, done 1", six},
		{"emptied, freed", committed + ", put 1 0 0 0, own 1 0 0, done 1", nil},
		{"emptied, not freed", committed + ", put 1 0 0 0, done 1", map[int]impl.Page{0: page(0, 1, 0, 0, 0)}},
		{"freed, rolled back", committed + ", put 1 0 0 0, own 1 0 0, undo 1, done 1", five},
		{"given to another table", committed + ", put 1 0 0 0, own 1 0 0, own 1 0 3, done 1", map[int]impl.Page{0: page(0, 3, 0, 0, 0)}},
		{"two of three commit", begun + ", own 2 1 2, own 3 2 3, put 2 1 1 7, put 3 2 2 8, done 3, done 1", map[int]impl.Page{0: page(0, 1, 5, 0, 0), 2: page(0, 3, 0, 0, 8)}},
		{"all three commit", begun + ", own 2 1 2, own 3 2 3, done 3, done 1, done 2", map[int]impl.Page{0: page(0, 1, 5, 0, 0), 1: page(0, 2, 0, 0, 0), 2: page(0, 3, 0, 0, 0)}},
		{"loaded", "own 1 2 3, load 1 2 4 5 6", nil},
		{"loaded, committed", "own 1 2 3, load 1 2 4 5 6, done 1", map[int]impl.Page{2: page(0, 3, 4, 5, 6)}},
		{"loaded, rolled back", "own 1 2 3, load 1 2 4 5 6, undo 1, done 1", nil},
		{"loaded, written, crashed", "own 1 2 3, load 1 2 4 5 6, write 2, fall 99, done 1", nil},
		{"loaded, one value more", "own 1 2 3, load 1 2 4 5 6, put 1 2 1 9, done 1", map[int]impl.Page{2: page(0, 3, 4, 9, 6)}},
		{"loaded, one value more of another", "own 1 2 3, load 1 2 4 5 6, done 1, put 2 2 1 9", map[int]impl.Page{2: page(0, 3, 4, 5, 6)}},
		{"a page of before, loaded and rolled back", "own 1 2 3, done 1, own 2 2 0, own 2 2 1, load 2 2 4 5 6, undo 2", map[int]impl.Page{2: page(0, 3, 0, 0, 0)}},
		{"a page of before, loaded and committed", "own 1 2 3, done 1, own 2 2 0, own 2 2 1, load 2 2 4 5 6, done 2", map[int]impl.Page{2: page(0, 1, 4, 5, 6)}},
	}
}

// PlayTrue and promise 76, written out.
func TestWrittenPlays(t *testing.T) {
	for _, c := range writtenPlays() {
		events, want := eventsOf(c.events), newPages(c.want)
		if got := impl.PlayTrue(events); !samePages(got, want) {
			t.Errorf("%s: PlayTrue is %v, want %v", c.name, got, want)
		}
		e, ok := impl.PlayRun(events)
		for left := range len(e.Log) + 2 {
			if up := raised(t, fallenTo(t, e, left)); !ok || !sameContents(up.Mem, want) {
				t.Errorf("%s: recovered from %d records with %v, want %v", c.name, left, up.Mem, want)
			}
		}
	}
}

// PlayRun, written out: the engine behind a run with events of all kinds, of which some are not possible.
func TestWrittenRun(t *testing.T) {
	events := eventsOf("own 1 0 1, put 1 0 0 5, put 2 0 0 6, done 1, own 2 3 2, load 2 3 1 2 3, write 3, put 3 0 1 7, force, undo 3, put 3 0 2 4, fall 8, put 3 0 2 9, rise 3, rise -1, fall 10")
	want := impl.Engine{
		Disk: newPages(map[int]impl.Page{3: page(5, 2, 1, 2, 3)}),
		Mem:  newPages(map[int]impl.Page{3: page(5, 2, 1, 2, 3)}),
		Log: logOf(t, "own 1 0 -1 0 1 0 0", "put 1 0 0 0 5 1 0", "done 1 0 0 0 0 2 0", "own 2 3 -1 0 2 0 0", "load 2 3 0 0 0 4 0", "put 3 0 1 0 7 0 0",
			"undo 3 0 1 0 0 6 0", "end 3 0 0 0 0 7 0", "undo 2 3 -1 0 0 5 0", "end 2 0 0 0 0 9 0"),
		Safe: 6, Down: true,
	}
	if got, ok := impl.PlayRun(events); !ok || !sameEngine(got, want) {
		t.Errorf("PlayRun is %v, %v, want %v", got, ok, want)
	}
	up := want
	up.Down = false
	up.Mem = newPages(map[int]impl.Page{0: page(7, 1, 5, 0, 0), 3: page(9, 0, 0, 0, 0)})
	if got, ok := impl.PlayRun(append(events, event("rise 0"))); !ok || !sameEngine(got, up) {
		t.Errorf("PlayRun is %v, %v, want %v", got, ok, up)
	}
}

// PlayTrue is what the document says, in the runs and in all their beginnings.
func TestPlayTrue(t *testing.T) {
	t.Parallel()
	n := 0
	for p := range plays {
		for length := range len(p.events) + 1 {
			if n++; length != len(p.events) && n%5 > 0 {
				continue
			}
			got, want := impl.PlayTrue(p.events[:length]), wantTrue(p.events[:length])
			if !samePages(got, want) {
				t.Fatalf("PlayTrue is %v, want %v, of %v", got, want, p.events[:length])
			}
		}
	}
}

// ledger is what should be in pages: what is committed, what is there now, and who changes it. It knows nothing of disks and logs.
type ledger struct {
	committed, now [5]impl.Page
	holders        [5]int
}

func newLedger() *ledger {
	return &ledger{committed: [5]impl.Page(newPages(nil)), now: [5]impl.Page(newPages(nil))}
}

// enter enters an event that changed an engine.
func (l *ledger) enter(v impl.Event) {
	switch v.Kind {
	case impl.EvPut:
		p := copyPages(l.now[:])[v.Page]
		p.Vals[v.Slot] = v.N
		l.modify(v, p)
	case impl.EvOwn:
		l.modify(v, impl.Page{Owner: v.N, Vals: l.now[v.Page].Vals})
	case impl.EvLoad:
		l.modify(v, impl.Page{Owner: l.now[v.Page].Owner, Vals: slices.Clone(v.Vals)})
	case impl.EvDone:
		l.end(v.Tx, func(number int) { l.committed[number] = l.now[number] })
	case impl.EvUndo:
		l.end(v.Tx, func(number int) { l.now[number] = l.committed[number] })
	case impl.EvFall:
		l.now, l.holders = l.committed, [5]int{}
	}
}

func (l *ledger) modify(v impl.Event, p impl.Page) {
	l.now[v.Page], l.holders[v.Page] = p, v.Tx
}

// end lets a transaction hold no page any more.
func (l *ledger) end(tx int, page func(number int)) {
	for number, holder := range l.holders {
		if holder == tx {
			page(number)
			l.holders[number] = 0
		}
	}
}

// Promises 76 and 83, and PlayTrue, by a ledger: no page on disk and no record shows in what pages have in them and who may change them.
func TestPlaysByLedger(t *testing.T) {
	t.Parallel()
	checked := 0
	for p := range plays {
		e, l := impl.EngineNew(), newLedger()
		for n, v := range p.events {
			next := impl.PlayDo(e, v)
			if !sameEngine(next, e) {
				l.enter(v)
				checked++
			}
			e = next
			if !e.Down && !sameContents(e.Mem, l.now[:]) {
				t.Fatalf("%v is in memory, want %v, of %v", e.Mem, l.now, p.events[:n+1])
			}
			for number := range 5 {
				if !e.Down && impl.EngineLock(e, number) != l.holders[number] {
					t.Fatalf("page %d is locked by %d, want %d, of %v", number, impl.EngineLock(e, number), l.holders[number], p.events[:n+1])
				}
			}
		}
		if pages := impl.PlayTrue(p.events); !sameContents(pages, l.committed[:]) {
			t.Fatalf("PlayTrue is %v, want %v, of %v", pages, l.committed, p.events)
		}
	}
	checkCount(t, checked, 3000)
}
