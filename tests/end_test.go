package tests

import (
	"math"
	"math/rand/v2"
	"slices"
	"testing"

	"loop.example/tabularium/impl"
)

// endCalls is the three functions that end a transaction, or go on with that, each with what the document requires of it.
var endCalls = []struct {
	name string
	call func(e impl.Engine, tx int) (impl.Engine, bool)
	want func(e impl.Engine, tx int) impl.Engine
}{
	{"EndDone", impl.EndDone, runDone},
	{"EndStep", impl.EndStep, runStep},
	{"EndUndo", impl.EndUndo, runUndo},
}

// checkEnds checks all three on a valid engine: the engine wanted and true, or, if the transaction is not open or the engine has crashed, the unchanged one and false.
func checkEnds(t *testing.T, name string, e impl.Engine, tx int) {
	t.Helper()
	possible := !e.Down && lastIn(e.Log, tx) != 0
	for _, end := range endCalls {
		got, ok := end.call(copyOf(e), tx)
		if want := end.want(e, tx); ok != possible || !sameEngine(got, want) {
			t.Fatalf("%s: %s of %d is %v, %v, want %v, of %v", name, end.name, tx, got, ok, want, e)
		}
	}
}

// checkNoEnds checks that none of the three is possible.
func checkNoEnds(t *testing.T, name string, e impl.Engine, tx int) {
	t.Helper()
	for _, end := range endCalls {
		if got, ok := end.call(copyOf(e), tx); ok || !sameEngine(got, e) {
			t.Fatalf("%s: %s of %d is %v, %v, of %v", name, end.name, tx, got, ok, e)
		}
	}
}

// emptied says whether a page has been free since its record with a number, or becomes so in a rollback of a transaction.
func emptied(l []impl.Rec, tx, number int) bool {
	freed := func(r impl.Rec) bool { return changes(r) && r.Slot == -1 && r.New == 0 && r.Page == l[number-1].Page }
	undone := func(n int) bool { return freed(backIn(l, n)) }
	return slices.ContainsFunc(l[number:], freed) || slices.ContainsFunc(undosIn(l, tx), undone)
}

// keepsLoad says whether a rollback leaves values that were loaded: ChangeLoad is possible, too, in a page of before whose allocation has been undone.
func keepsLoad(l []impl.Rec, tx int) bool {
	return slices.ContainsFunc(chainIn(l, tx), func(n int) bool { return l[n-1].Kind == impl.RecLoad && !emptied(l, tx, n) })
}

// past is an engine that has not crashed, with each page as it was before the first record on it of the transaction that locks it.
type past struct {
	engine impl.Engine
	before []impl.Page
}

func holderIn(l []impl.Rec, page int) int {
	return append(holdersIn(l, page), 0)[0]
}

// pasts gives the same pasts each time, of runs other than those of runs: with fewer crashes, and with engines whose open transactions go on after steps of a rollback.
func pasts(yield func(past) bool) {
	dice := rand.New(rand.NewPCG(6, 51))
	for run := range 60 {
		e, before := newEngine(), newPages(nil)
		steps, ends := 50, 1+run%6
		if run >= 58 {
			steps, ends = 500, 1
		}
		for range steps {
			was := e
			e = runFurther(e, dice, ends)
			for page := range before {
				if now := holderIn(e.Log, page); now != 0 && now != holderIn(was.Log, page) {
					before[page] = was.Mem[page]
				}
			}
			if !e.Down && !sameEngine(e, was) && !yield(past{copyOf(e), copyPages(before)}) {
				return
			}
		}
	}
}

// endable says whether a transaction is open, and a rollback of it leaves a valid engine.
func endable(l []impl.Rec, tx int) bool {
	return lastIn(l, tx) != 0 && !keepsLoad(l, tx)
}

// openPasts gives each past with each transaction that is endable.
func openPasts(yield func(past, int) bool) {
	for p := range pasts {
		for tx := 1; tx <= 3; tx++ {
			if endable(p.engine.Log, tx) && !yield(p, tx) {
				return
			}
		}
	}
}

// pairedPasts gives each past with each two transactions that are endable.
func pairedPasts(yield func(p past, one, other int)) {
	for p, one := range openPasts {
		for other := one + 1; other <= 3; other++ {
			if endable(p.engine.Log, other) {
				yield(p, one, other)
			}
		}
	}
}

func sameContents(one, other []impl.Page) bool {
	return slices.EqualFunc(one, other, sameContent)
}

// checkCount checks that a test had enough to check.
func checkCount(t *testing.T, checked, least int) {
	t.Helper()
	if checked < least {
		t.Errorf("only %d were checked, want %d", checked, least)
	}
}

// twice is a page that two transactions changed one after the other: 1 put 5 and committed, 2 puts 7 and 8.
func twice() impl.Engine {
	return runPut(runPut(runDone(runPut(runOwn(newEngine(), 1, 2, 3), 1, 2, 0, 5), 1), 2, 2, 0, 7), 2, 2, 1, 8)
}

// twoLoads is transaction 2 that allocated pages 3 and 1 and loaded them in this order, and transaction 1 that put a value.
func twoLoads() impl.Engine {
	e := runOwn(runOwn(newEngine(), 2, 3, 1), 2, 1, 2)
	e = runLoad(runLoad(e, 2, 3, 1, 2, 3), 2, 1, 4, 5, 6)
	return runPut(runOwn(e, 1, 0, 1), 1, 0, 0, 9)
}

// freedLoad is a page that was allocated, loaded, emptied and freed again.
func freedLoad() impl.Engine {
	e := loaded()
	for slot := range 3 {
		e = runPut(e, 1, 2, slot, 0)
	}
	return runOwn(e, 1, 2, 0)
}

// loadedAnew is a page that was loaded, freed by a rollback, and allocated and loaded anew.
func loadedAnew() impl.Engine {
	return runLoad(runOwn(runUndo(loaded(), 1), 1, 2, 1), 1, 2, 7, 8, 9)
}

// loadedAgain is a page that was loaded, freed by one step of a rollback, and allocated and loaded again by the same transaction.
func loadedAgain() impl.Engine {
	return runLoad(runOwn(runStep(loaded(), 1), 1, 2, 1), 1, 2, 7, 8, 9)
}

// keptLoad is a page with a load that no rollback undoes: transaction 2 freed and allocated it, undid both, and loaded it then.
func keptLoad() impl.Engine {
	e := runDone(runOwn(newEngine(), 1, 2, 3), 1)
	e = runOwn(runOwn(e, 2, 2, 0), 2, 2, 1)
	return runLoad(undoneOf(e, 2, 2), 2, 2, 1, 2, 3)
}

// endEngines is engines whose ends are tried beside those of runs: the cases that the document names, with none, some and all pages written and records durable.
func endEngines() map[string]impl.Engine {
	three := runLoad(runOwn(filled(), 3, 4, 2), 3, 4, 1, 2, 3)
	engines := map[string]impl.Engine{
		"new": newEngine(), "three open": three, "two open": filled(), "can load": toLoad(), "puts": puts(3, 30), "at the limit": puts(2, 74),
		"loaded": loaded(), "two loads": twoLoads(), "freed load": freedLoad(), "loaded anew": loadedAnew(), "loaded again": loadedAgain(), "kept load": keptLoad(),
		"loaded with no values and freed": runOwn(runLoad(runOwn(newEngine(), 1, 2, 3), 1, 2, 0, 0, 0), 1, 2, 0),
		"loaded after freed":              runLoad(runOwn(runOwn(runDone(runOwn(newEngine(), 1, 2, 3), 1), 1, 2, 0), 1, 2, 1), 1, 2, 7, 8, 9),
		"changed twice":                   twice(),
		"partly undone":                   undoneOf(filled(), 2, 1), "all undone": undoneOf(filled(), 2, 3), "undone and put": runPut(undoneOf(filled(), 2, 1), 2, 2, 0, 3),
		"one open": runDone(filled(), 2), "one rolled back": undoneOf(filled(), 3, 2), "ended": runDone(runUndo(filled(), 2), 3),
	}
	all := map[string]impl.Engine{}
	for name, e := range engines {
		all[name] = e
		all[name+", all durable"] = runForce(e)
		all[name+", page 2 written"] = runWrite(e, 2)
		for page := range 5 {
			e = runWrite(e, page)
		}
		all[name+", all written"] = e
	}
	return all
}

// possibleEnd is an end of a transaction with the records that it appends, the pages that it changes on disk and in memory, and Safe afterwards.
type possibleEnd struct {
	name   string
	engine impl.Engine
	end    func(e impl.Engine, tx int) (impl.Engine, bool)
	tx     int
	recs   []string
	disk   map[int]impl.Page
	mem    map[int]impl.Page
	safe   int
}

func possibleCommits() []possibleEnd {
	return []possibleEnd{
		{"one allocated", runOwn(newEngine(), 1, 0, 1), impl.EndDone, 1, []string{"done 1 0 0 0 0 1 0"}, nil, nil, 2},
		{"of two, some durable", filled(), impl.EndDone, 2, []string{"done 2 0 0 0 0 9 0"}, nil, nil, 10},
		{"of two, the other", filled(), impl.EndDone, 3, []string{"done 3 0 0 0 0 8 0"}, nil, nil, 10},
		{"all durable", runForce(filled()), impl.EndDone, 3, []string{"done 3 0 0 0 0 8 0"}, nil, nil, 10},
		{"one load", loaded(), impl.EndDone, 1, []string{"done 1 0 0 0 0 2 0"}, map[int]impl.Page{2: page(2, 3, 4, 5, 6)}, nil, 3},
		{"one load that is written", runWrite(loaded(), 2), impl.EndDone, 1, []string{"done 1 0 0 0 0 2 0"}, nil, nil, 3},
		{"one load and a value, half written", runPut(runWrite(loaded(), 2), 1, 2, 0, 1), impl.EndDone, 1, []string{"done 1 0 0 0 0 3 0"}, map[int]impl.Page{2: page(3, 3, 1, 5, 6)}, nil, 4},
		{"one load and another page", runPut(runOwn(loaded(), 1, 0, 1), 1, 0, 0, 9), impl.EndDone, 1, []string{"done 1 0 0 0 0 4 0"}, map[int]impl.Page{2: page(2, 3, 4, 5, 6)}, nil, 5},
		{"two loads", twoLoads(), impl.EndDone, 2, []string{"done 2 0 0 0 0 4 0"}, map[int]impl.Page{3: page(3, 1, 1, 2, 3), 1: page(4, 2, 4, 5, 6)}, nil, 7},
		{"two loads of another one", twoLoads(), impl.EndDone, 1, []string{"done 1 0 0 0 0 6 0"}, nil, nil, 7},
		{"a load that is freed", freedLoad(), impl.EndDone, 1, []string{"done 1 0 0 0 0 6 0"}, map[int]impl.Page{2: page(6, 0, 0, 0, 0)}, nil, 7},
		{"a load that is undone", runStep(loaded(), 1), impl.EndDone, 1, []string{"done 1 0 0 0 0 3 0"}, map[int]impl.Page{2: page(3, 0, 0, 0, 0)}, nil, 4},
		{"a load before a rollback", runOwn(runUndo(loaded(), 1), 1, 2, 1), impl.EndDone, 1, []string{"done 1 0 0 0 0 5 0"}, nil, nil, 6},
		{"a load before and after a rollback", loadedAnew(), impl.EndDone, 1, []string{"done 1 0 0 0 0 6 0"}, map[int]impl.Page{2: page(6, 1, 7, 8, 9)}, nil, 7},
		{"a load before and after a step", loadedAgain(), impl.EndDone, 1, []string{"done 1 0 0 0 0 5 0"}, map[int]impl.Page{2: page(5, 1, 7, 8, 9)}, nil, 6},
		{"begun anew", twice(), impl.EndDone, 2, []string{"done 2 0 0 0 0 5 0"}, nil, nil, 6},
		{"partly undone", undoneOf(filled(), 2, 1), impl.EndDone, 2, []string{"done 2 0 0 0 0 10 0"}, nil, nil, 11},
		{"all undone", undoneOf(filled(), 2, 3), impl.EndDone, 2, []string{"done 2 0 0 0 0 12 0"}, nil, nil, 13},
	}
}

func possibleRollbacks() []possibleEnd {
	again := runPut(undoneOf(filled(), 2, 1), 2, 2, 0, 3)
	return []possibleEnd{
		{"of an allocation", runOwn(newEngine(), 1, 0, 1), impl.EndUndo, 1, []string{"undo 1 0 -1 0 0 1 0", "end 1 0 0 0 0 2 0"}, nil, map[int]impl.Page{0: page(2, 0, 0, 0, 0)}, 0},
		{"of three, one written", filled(), impl.EndUndo, 2, []string{"undo 2 2 0 0 0 9 7", "undo 2 2 1 0 0 10 6", "undo 2 2 -1 0 0 11 0", "end 2 0 0 0 0 12 0"}, nil, map[int]impl.Page{2: page(12, 0, 0, 0, 0)}, 7},
		{"of one of two", filled(), impl.EndUndo, 3, []string{"undo 3 1 2 0 4 8 0", "end 3 0 0 0 0 10 0"}, nil, map[int]impl.Page{1: page(10, 2, 0, 0, 4)}, 7},
		{"all durable", runForce(filled()), impl.EndUndo, 3, []string{"undo 3 1 2 0 4 8 0", "end 3 0 0 0 0 10 0"}, nil, map[int]impl.Page{1: page(10, 2, 0, 0, 4)}, 9},
		{"of a load", loaded(), impl.EndUndo, 1, []string{"undo 1 2 -1 0 0 2 0", "end 1 0 0 0 0 3 0"}, nil, map[int]impl.Page{2: page(3, 0, 0, 0, 0)}, 0},
		{"of a load that is written", runWrite(loaded(), 2), impl.EndUndo, 1, []string{"undo 1 2 -1 0 0 2 0", "end 1 0 0 0 0 3 0"}, nil, map[int]impl.Page{2: page(3, 0, 0, 0, 0)}, 2},
		{"of two loads", twoLoads(), impl.EndUndo, 2, []string{"undo 2 1 -1 0 0 4 1", "undo 2 3 -1 0 0 7 0", "end 2 0 0 0 0 8 0"}, nil, map[int]impl.Page{1: page(7, 0, 0, 0, 0), 3: page(8, 0, 0, 0, 0)}, 0},
		{"of a load that is freed", freedLoad(), impl.EndUndo, 1, []string{"undo 1 2 -1 0 3 6 5", "undo 1 2 2 0 6 7 4", "undo 1 2 1 0 5 8 3", "undo 1 2 0 0 4 9 2", "undo 1 2 -1 0 0 10 0", "end 1 0 0 0 0 11 0"}, nil, map[int]impl.Page{2: page(11, 0, 0, 0, 0)}, 0},
		{"of a load after a rollback", loadedAnew(), impl.EndUndo, 1, []string{"undo 1 2 -1 0 0 6 0", "end 1 0 0 0 0 7 0"}, nil, map[int]impl.Page{2: page(7, 0, 0, 0, 0)}, 0},
		{"of a load after a step", loadedAgain(), impl.EndUndo, 1, []string{"undo 1 2 -1 0 0 5 3", "end 1 0 0 0 0 6 0"}, nil, map[int]impl.Page{2: page(6, 0, 0, 0, 0)}, 0},
		{"after steps", undoneOf(filled(), 2, 2), impl.EndUndo, 2, []string{"undo 2 2 -1 0 0 11 0", "end 2 0 0 0 0 12 0"}, nil, map[int]impl.Page{2: page(12, 0, 0, 0, 0)}, 7},
		{"after all steps but RecEnd", undoneOf(filled(), 2, 3), impl.EndUndo, 2, []string{"end 2 0 0 0 0 12 0"}, nil, nil, 7},
		{"after a step and a further value", again, impl.EndUndo, 2, []string{"undo 2 2 0 0 0 11 10", "undo 2 2 1 0 0 12 6", "undo 2 2 -1 0 0 13 0", "end 2 0 0 0 0 14 0"}, nil, map[int]impl.Page{2: page(14, 0, 0, 0, 0)}, 7},
		{"changed twice", twice(), impl.EndUndo, 2, []string{"undo 2 2 1 0 0 5 4", "undo 2 2 0 0 5 6 0", "end 2 0 0 0 0 7 0"}, nil, map[int]impl.Page{2: page(7, 3, 5, 0, 0)}, 3},
		{"begun anew", runPut(runDone(runPut(runOwn(newEngine(), 1, 2, 3), 1, 2, 0, 5), 1), 1, 2, 0, 7), impl.EndUndo, 1, []string{"undo 1 2 0 0 5 4 0", "end 1 0 0 0 0 5 0"}, nil, map[int]impl.Page{2: page(5, 3, 5, 0, 0)}, 3},
	}
}

func possibleSteps() []possibleEnd {
	freed := runOwn(runDone(runOwn(newEngine(), 1, 2, 3), 1), 1, 2, 0)
	return []possibleEnd{
		{"a value", filled(), impl.EndStep, 2, []string{"undo 2 2 0 0 0 9 7"}, nil, map[int]impl.Page{2: page(10, 1, 0, 9, 0)}, 7},
		{"the value before", undoneOf(filled(), 2, 1), impl.EndStep, 2, []string{"undo 2 2 1 0 0 10 6"}, nil, map[int]impl.Page{2: page(11, 1, 0, 0, 0)}, 7},
		{"the allocation", undoneOf(filled(), 2, 2), impl.EndStep, 2, []string{"undo 2 2 -1 0 0 11 0"}, nil, map[int]impl.Page{2: page(12, 0, 0, 0, 0)}, 7},
		{"nothing left", undoneOf(filled(), 2, 3), impl.EndStep, 2, []string{"end 2 0 0 0 0 12 0"}, nil, nil, 7},
		{"a value that another one committed before", filled(), impl.EndStep, 3, []string{"undo 3 1 2 0 4 8 0"}, nil, map[int]impl.Page{1: page(10, 2, 0, 0, 4)}, 7},
		{"a load with its page", loaded(), impl.EndStep, 1, []string{"undo 1 2 -1 0 0 2 0"}, nil, map[int]impl.Page{2: page(3, 0, 0, 0, 0)}, 0},
		{"a value in a load", runPut(loaded(), 1, 2, 1, 9), impl.EndStep, 1, []string{"undo 1 2 1 0 5 3 2"}, nil, map[int]impl.Page{2: page(4, 3, 4, 5, 6)}, 0},
		{"a value in a written load", runPut(runWrite(loaded(), 2), 1, 2, 1, 9), impl.EndStep, 1, []string{"undo 1 2 1 0 5 3 2"}, nil, map[int]impl.Page{2: page(4, 3, 4, 5, 6)}, 2},
		{"a load behind a further page", runOwn(loaded(), 1, 0, 1), impl.EndStep, 1, []string{"undo 1 0 -1 0 0 3 2"}, nil, map[int]impl.Page{0: page(4, 0, 0, 0, 0)}, 0},
		{"a freeing", freed, impl.EndStep, 1, []string{"undo 1 2 -1 0 3 3 0"}, nil, map[int]impl.Page{2: page(4, 3, 0, 0, 0)}, 2},
		{"the same value put", runPut(runOwn(newEngine(), 1, 0, 1), 1, 0, 0, 0), impl.EndStep, 1, []string{"undo 1 0 0 0 0 2 1"}, nil, map[int]impl.Page{0: page(3, 1, 0, 0, 0)}, 0},
		{"a value put after a step", runPut(undoneOf(filled(), 2, 1), 2, 2, 0, 3), impl.EndStep, 2, []string{"undo 2 2 0 0 0 11 10"}, nil, map[int]impl.Page{2: page(12, 1, 0, 9, 0)}, 7},
		{"the value before it", undoneOf(runPut(undoneOf(filled(), 2, 1), 2, 2, 0, 3), 2, 1), impl.EndStep, 2, []string{"undo 2 2 1 0 0 12 6"}, nil, map[int]impl.Page{2: page(13, 1, 0, 0, 0)}, 7},
	}
}

// edited is pages with other ones in their places.
func edited(pages []impl.Page, others map[int]impl.Page) []impl.Page {
	pages = copyPages(pages)
	for number, p := range others {
		pages[number] = p
	}
	return pages
}

// Promises 45, 46, 48, 49 and 51, written out.
func TestPossibleEnds(t *testing.T) {
	for _, c := range slices.Concat(possibleCommits(), possibleRollbacks(), possibleSteps()) {
		want := impl.Engine{Disk: edited(c.engine.Disk, c.disk), Mem: edited(c.engine.Mem, c.mem), Log: slices.Concat(c.engine.Log, logOf(t, c.recs...)), Safe: c.safe}
		got, ok := c.end(copyOf(c.engine), c.tx)
		if !ok || !sameEngine(got, want) || !impl.EngineOk(got) {
			t.Errorf("%s: %v, %v, want %v, of %v", c.name, got, ok, want, c.engine)
		}
	}
}

// All three are what the document says, for all transactions, also unknown ones.
func TestEndsOfAllArguments(t *testing.T) {
	for name, e := range endEngines() {
		if !impl.EngineOk(e) {
			t.Fatalf("%s: not valid: %v", name, e)
		}
		for _, tx := range append(numbers(-2, 5), 150) {
			checkEnds(t, name, e, tx)
			checkEnds(t, name+", crashed", runFall(e, 0), tx)
			checkEnds(t, name+", crashed with all records", runFall(e, 150), tx)
		}
	}
}

func TestEndsOfRuns(t *testing.T) {
	for e := range runs {
		for tx := 1; tx <= 3; tx++ {
			checkEnds(t, "run", e, tx)
		}
	}
	for p := range pasts {
		for tx := 1; tx <= 3; tx++ {
			checkEnds(t, "past", p.engine, tx)
		}
	}
}

// A transaction that is not open, or that does not exist, or a crashed engine: an unchanged engine and false.
func TestImpossibleEnds(t *testing.T) {
	checkNoEnds(t, "new", newEngine(), 1)
	checkNoEnds(t, "without records", filled(), 1)
	checkNoEnds(t, "committed", runDone(filled(), 2), 2)
	checkNoEnds(t, "rolled back", undoneOf(filled(), 2, 4), 2)
	checkNoEnds(t, "recovered", runRise(runFall(filled(), 99)), 3)
	for _, e := range []impl.Engine{newEngine(), filled(), loaded(), puts(3, 30)} {
		for _, tx := range []int{math.MinInt, -150, -1, 0, 4, 5, 150, math.MaxInt} {
			checkNoEnds(t, "no such transaction", e, tx)
			if pages := impl.EndLoads(e, tx); len(pages) != 0 {
				t.Errorf("EndLoads of transaction %d is %v", tx, pages)
			}
		}
		for tx := range 5 {
			for _, left := range []int{0, 1, 99} {
				checkNoEnds(t, "crashed", runFall(e, left), tx)
			}
		}
	}
}

// For an invalid engine: the zero value and false, or no pages, for all transactions.
func TestEndsOfInvalidEngines(t *testing.T) {
	for _, c := range engineCases(t) {
		for tx := -1; tx <= 4; tx++ {
			if c.valid {
				checkEnds(t, c.name, c.engine, tx)
				continue
			}
			for _, end := range endCalls {
				if got, ok := end.call(c.engine, tx); ok || !sameEngine(got, impl.Engine{}) {
					t.Errorf("%s: %s of %d is %v, %v", c.name, end.name, tx, got, ok)
				}
			}
			if pages := impl.EndLoads(c.engine, tx); len(pages) != 0 {
				t.Errorf("%s: EndLoads of %d is %v", c.name, tx, pages)
			}
		}
	}
}

// Promise 44: after ChangePut, no other transaction can modify the page until the transaction ends.
func TestPutPageIsLockedUntilTheEnd(t *testing.T) {
	checked := 0
	for e := range runs {
		for n := range 15 {
			tx, number := 1+n/5, n%5
			after, ok := impl.ChangePut(e, tx, number, n%3, n%10)
			if !ok || len(e.Log) > 50 || len(undosIn(after.Log, tx)) > 5 {
				continue
			}
			checked++
			checkLocked(t, after, tx, number)
			done, doneOk := impl.EndDone(after, tx)
			for impl.LogLast(after.Log, tx) != 0 {
				checkLocked(t, after, tx, number)
				after, _ = impl.EndStep(after, tx)
			}
			for other := 1; other <= 3; other++ {
				if !doneOk || !impl.ChangeMay(done, other, number) || !impl.ChangeMay(after, other, number) {
					t.Fatalf("after the end of %d, transaction %d cannot modify page %d, of %v", tx, other, number, e)
				}
			}
		}
	}
	checkCount(t, checked, 500)
}

// checkLocked checks that only this transaction can modify a page.
func checkLocked(t *testing.T, e impl.Engine, tx, number int) {
	t.Helper()
	for other := 1; other <= 3; other++ {
		if impl.ChangeMay(e, other, number) != (other == tx) {
			t.Fatalf("ChangeMay of transaction %d and page %d, which %d locks, of %v", other, number, tx, e)
		}
		if other == tx {
			continue
		}
		for _, c := range []change{put(other, number, 0, 1), own(other, number, 0), load(other, number, 1, 2, 3)} {
			checkRefused(t, "locked", e, c)
		}
	}
}

// Promise 44, where another transaction ends first: that unlocks nothing.
func TestEndOfAnotherTransactionUnlocksNothing(t *testing.T) {
	e := runPut(filled(), 3, 1, 0, 5)
	for _, end := range endCalls {
		after, ok := end.call(e, 2)
		if !ok {
			t.Fatalf("%s is not possible", end.name)
		}
		checkLocked(t, after, 3, 1)
	}
}

// Promise 45: after EndDone, all records are durable and the last one is RecDone; the transaction locks no page; the memory is unchanged.
func TestEndDone(t *testing.T) {
	checked := 0
	for p, tx := range openPasts {
		e := p.engine
		done, ok := impl.EndDone(e, tx)
		if !ok || !impl.EngineOk(done) || done.Safe != len(done.Log) || done.Down || !samePages(done.Mem, e.Mem) {
			t.Fatalf("EndDone of %d is %v, %v, of %v", tx, done, ok, e)
		}
		last := rec(impl.RecDone, tx, 0, 0, 0, 0, impl.LogLast(e.Log, tx), 0)
		if !slices.Equal(done.Log, append(slices.Clone(e.Log), last)) {
			t.Fatalf("EndDone of %d has the log %v, want %v and %v", tx, done.Log, e.Log, last)
		}
		checkLocks(t, e, done, tx)
		checked++
	}
	checkCount(t, checked, 1000)
}

// checkLocks checks that a transaction has ended: it is not open and locks no page, and the locks of all others are as they were.
func checkLocks(t *testing.T, before, after impl.Engine, tx int) {
	t.Helper()
	if slices.Contains(impl.LogOpen(after.Log), tx) || len(impl.LogPages(after.Log, tx)) != 0 {
		t.Fatalf("transaction %d is open in %v", tx, after)
	}
	for page := range 5 {
		want := impl.EngineLock(before, page)
		if want == tx {
			want = 0
		}
		if holder := impl.EngineLock(after, page); holder != want {
			t.Fatalf("page %d is locked by %d, want %d, after the end of %d in %v", page, holder, want, tx, after)
		}
	}
}

// Promise 46: EndDone writes exactly the pages of EndLoads, as they are in memory.
func TestEndDoneWritesLoads(t *testing.T) {
	written, kept := 0, 0
	for p, tx := range openPasts {
		e := p.engine
		done, ok := impl.EndDone(e, tx)
		loads := impl.EndLoads(e, tx)
		for number := range 5 {
			want := e.Disk[number]
			if slices.Contains(loads, number) {
				want = e.Mem[number]
			}
			if !ok || !samePage(done.Disk[number], want) {
				t.Fatalf("EndDone of %d: page %d on disk is %v, want %v, of %v", tx, number, done.Disk[number], want, e)
			}
			if samePage(e.Disk[number], e.Mem[number]) {
				continue
			}
			if slices.Contains(loads, number) {
				written++
			} else {
				kept++
			}
		}
	}
	checkCount(t, written, 50)
	checkCount(t, kept, 500)
}

// Promise 47: EndLoads lists, ascending, exactly the pages of the RecLoad records of LogChain.
func TestEndLoads(t *testing.T) {
	lists := map[int]int{}
	check := func(e impl.Engine) {
		for tx := 1; tx <= 3; tx++ {
			var want []int
			for page := range 5 {
				loads := func(n int) bool { return e.Log[n-1].Kind == impl.RecLoad && e.Log[n-1].Page == page }
				if slices.ContainsFunc(impl.LogChain(e.Log, tx), loads) {
					want = append(want, page)
				}
			}
			if pages := impl.EndLoads(e, tx); !slices.Equal(pages, want) {
				t.Fatalf("EndLoads of %d is %v, want %v, of %v", tx, pages, want, e)
			}
			lists[len(want)]++
		}
	}
	for e := range runs {
		check(e)
	}
	for p := range pasts {
		check(p.engine)
	}
	for length, least := range []int{1000, 100, 1} {
		checkCount(t, lists[length], least)
	}
}

func TestEndLoadsWrittenOut(t *testing.T) {
	for _, c := range []struct {
		name   string
		engine impl.Engine
		tx     int
		want   []int
	}{
		{"new", newEngine(), 1, nil},
		{"no load", filled(), 2, nil},
		{"one load", loaded(), 1, []int{2}},
		{"of another one", loaded(), 2, nil},
		{"of another one that is open", twoLoads(), 1, nil},
		{"one load that is written", runWrite(loaded(), 2), 1, []int{2}},
		{"two loads, not in order", twoLoads(), 2, []int{1, 3}},
		{"first and last page", runLoad(runLoad(runOwn(runOwn(newEngine(), 3, 0, 1), 3, 4, 1), 3, 4, 1, 1, 1), 3, 0, 1, 1, 1), 3, []int{0, 4}},
		{"loaded, freed", freedLoad(), 1, []int{2}},
		{"loaded, undone", runStep(loaded(), 1), 1, []int{2}},
		{"loaded, rolled back", runUndo(loaded(), 1), 1, nil},
		{"loaded, rolled back, allocated", runOwn(runUndo(loaded(), 1), 1, 2, 1), 1, nil},
		{"loaded, rolled back, loaded", loadedAnew(), 1, []int{2}},
		{"loaded, rolled back, another one loaded", runLoad(runOwn(runUndo(loaded(), 1), 1, 4, 1), 1, 4, 7, 8, 9), 1, []int{4}},
		{"loaded, rolled back, loaded by another one", runLoad(runOwn(runUndo(loaded(), 1), 2, 2, 1), 2, 2, 7, 8, 9), 2, []int{2}},
		{"loaded twice", loadedAgain(), 1, []int{2}},
		{"loaded twice, no values before", runLoad(runLoad(runOwn(newEngine(), 1, 2, 3), 1, 2, 0, 0, 0), 1, 2, 1, 2, 3), 1, []int{2}},
		{"loaded, committed", runDone(loaded(), 1), 1, nil},
		{"crashed", runFall(twoLoads(), 99), 2, []int{1, 3}},
		{"crashed, half the log left", runFall(twoLoads(), 3), 2, []int{3}},
		{"recovered", runRise(runFall(twoLoads(), 99)), 2, nil},
	} {
		if pages := impl.EndLoads(c.engine, c.tx); !slices.Equal(pages, c.want) {
			t.Errorf("%s: EndLoads is %v, want %v", c.name, pages, c.want)
		}
	}
}

// leftToUndo is the numbers of the records of a transaction that are not undone yet, in order: each RecUndo undoes the last one of those before it.
func leftToUndo(l []impl.Rec, tx int) []int {
	var left []int
	for i, r := range l {
		switch {
		case r.Tx != tx:
		case r.Kind == impl.RecPut || r.Kind == impl.RecOwn:
			left = append(left, i+1)
		case r.Kind == impl.RecUndo:
			left = left[:len(left)-1]
		case r.Kind == impl.RecDone || r.Kind == impl.RecEnd:
			left = nil
		}
	}
	return left
}

// Promise 48: EndStep appends RecBack of the last RecPut or RecOwn that is not undone yet, applied to its page, or RecEnd if there is none.
func TestEndStep(t *testing.T) {
	undone, ended := 0, 0
	for p, tx := range openPasts {
		e := p.engine
		last := impl.LogLast(e.Log, tx)
		want := rec(impl.RecEnd, tx, 0, 0, 0, 0, last, 0)
		mem := copyPages(e.Mem)
		if left := leftToUndo(e.Log, tx); len(left) > 0 {
			var backOk, doOk bool
			want, backOk = impl.RecBack(e.Log[left[len(left)-1]-1], last)
			mem[want.Page], doOk = impl.RecDo(mem[want.Page], want, len(e.Log)+1)
			if !backOk || !doOk {
				t.Fatalf("%v cannot be applied to %v", want, e)
			}
			undone++
		} else {
			ended++
		}
		step, ok := impl.EndStep(e, tx)
		if !ok || !slices.Equal(step.Log, append(slices.Clone(e.Log), want)) || !samePages(step.Mem, mem) {
			t.Fatalf("EndStep of %d is %v, %v, want %v and %v, of %v", tx, step, ok, want, mem, e)
		}
		if !samePages(step.Disk, e.Disk) || step.Safe != e.Safe || step.Down || !impl.EngineOk(step) {
			t.Fatalf("EndStep of %d is %v, of %v", tx, step, e)
		}
	}
	checkCount(t, undone, 1000)
	checkCount(t, ended, 20)
}

// Promise 49: EndUndo is EndStep until the transaction is rolled back, in at most as many steps as it has records, plus one.
func TestEndUndoIsEndStepUntilTheEnd(t *testing.T) {
	partly := 0
	for p, tx := range openPasts {
		e := p.engine
		undone, ok := impl.EndUndo(e, tx)
		if !ok {
			t.Fatalf("EndUndo of %d is not possible, of %v", tx, e)
		}
		stepped, steps := e, 0
		for impl.LogLast(stepped.Log, tx) != 0 {
			if stepped, ok = impl.EndStep(stepped, tx); !ok {
				t.Fatalf("EndStep %d of %d is not possible, of %v", steps+1, tx, e)
			}
			steps++
		}
		if records := len(impl.LogChain(e.Log, tx)); steps > records+1 || !sameEngine(stepped, undone) {
			t.Fatalf("%d steps of %d, with %d records, are %v, and EndUndo is %v, of %v", steps, tx, records, stepped, undone, e)
		}
		if steps != len(leftToUndo(e.Log, tx))+1 || len(undone.Log) != len(e.Log)+steps || undone.Log[len(undone.Log)-1].Kind != impl.RecEnd {
			t.Fatalf("%d steps of %d, of %v", steps, tx, e)
		}
		if e.Log[impl.LogLast(e.Log, tx)-1].Kind == impl.RecUndo {
			partly++
		}
	}
	checkCount(t, partly, 100)
}

// Promise 49: a rollback that is begun by any number of single steps and ended by EndUndo is EndUndo.
func TestStepsAndThenEndUndo(t *testing.T) {
	for name, e := range endEngines() {
		for tx := 1; tx <= 3; tx++ {
			want, ok := impl.EndUndo(e, tx)
			if !ok {
				continue
			}
			for step := e; impl.LogLast(step.Log, tx) != 0; step, _ = impl.EndStep(step, tx) {
				if got, ok := impl.EndUndo(step, tx); !ok || !sameEngine(got, want) {
					t.Fatalf("%s: EndUndo of %d after steps is %v, %v, want %v, of %v", name, tx, got, ok, want, step)
				}
			}
		}
	}
}

// Promises 50 and 57: after ChangePut by a transaction without records and EndUndo, all pages have their previous contents, no page is locked further, and EngineSum of each table is restored.
func TestPutAndEndUndo(t *testing.T) {
	checked := 0
	for e := range runs {
		for n := range 15 {
			tx, number := 1+n/5, n%5
			after, ok := impl.ChangePut(e, tx, number, len(e.Log)%3, (n+len(e.Log))%10)
			if !ok || impl.LogLast(e.Log, tx) != 0 {
				continue
			}
			checked++
			undone, ok := impl.EndUndo(after, tx)
			if !ok || !sameContents(undone.Mem, e.Mem) || !impl.EngineOk(undone) || len(undone.Log) != len(e.Log)+3 {
				t.Fatalf("EndUndo of %d is %v, %v, of %v", tx, undone, ok, after)
			}
			checkLocks(t, e, undone, tx)
			for table := 1; table <= 3; table++ {
				count, sum := impl.EngineSum(e, table)
				if c, s := impl.EngineSum(undone, table); c != count || s != sum {
					t.Fatalf("EngineSum of table %d is %d, %d, was %d, %d, of %v", table, c, s, count, sum, e)
				}
			}
		}
	}
	checkCount(t, checked, 500)
}

// Promises 50 and 57, written out: the sums change with the value, and are restored.
func TestSumsAfterEndUndo(t *testing.T) {
	e := runDone(runDone(filled(), 2), 3)
	for _, c := range []struct{ slot, val, count, sum int }{{0, 2, 3, 19}, {1, 2, 4, 26}, {0, 0, 2, 17}, {0, 7, 3, 24}} {
		after, _ := impl.ChangePut(e, 1, 0, c.slot, c.val)
		if count, sum := impl.EngineSum(after, 1); count != c.count || sum != c.sum {
			t.Errorf("slot %d, value %d: sums %d, %d", c.slot, c.val, count, sum)
		}
		undone, _ := impl.EndUndo(after, 1)
		if count, sum := impl.EngineSum(undone, 1); count != 3 || sum != 24 {
			t.Errorf("slot %d, value %d: sums %d, %d, after EndUndo", c.slot, c.val, count, sum)
		}
	}
}

// Promise 51: after EndUndo, the transaction locks no page; each page that it locked has the contents from before its first record on it; all others are unchanged.
func TestEndUndoRestores(t *testing.T) {
	checked, differ := 0, 0
	for p, tx := range openPasts {
		e := p.engine
		undone, ok := impl.EndUndo(e, tx)
		if !ok || !impl.EngineOk(undone) || !samePages(undone.Disk, e.Disk) || undone.Safe != e.Safe {
			t.Fatalf("EndUndo of %d is %v, %v, of %v", tx, undone, ok, e)
		}
		checkLocks(t, e, undone, tx)
		for number, got := range undone.Mem {
			if impl.EngineLock(e, number) != tx {
				if !samePage(got, e.Mem[number]) {
					t.Fatalf("EndUndo of %d: page %d is %v, was %v", tx, number, got, e.Mem[number])
				}
				continue
			}
			checked++
			if !sameContent(got, e.Mem[number]) {
				differ++
			}
			if !sameContent(got, p.before[number]) {
				t.Fatalf("EndUndo of %d: page %d is %v, want %v, of %v", tx, number, got, p.before[number], e)
			}
		}
	}
	checkCount(t, checked, 1000)
	checkCount(t, differ, 500)
}

// Promise 52: after EndDone of a transaction, its EndUndo, EndStep and EndDone fail and change nothing, whatever others do then.
func TestEndsAfterEndDone(t *testing.T) {
	checked := 0
	for p, tx := range openPasts {
		done, ok := impl.EndDone(p.engine, tx)
		if !ok {
			t.Fatalf("EndDone of %d is not possible, of %v", tx, p.engine)
		}
		checkNoEnds(t, "after EndDone", done, tx)
		for other := 1; other <= 3; other++ {
			if further, ok := impl.EndStep(done, other); ok {
				checkNoEnds(t, "after EndDone and a step", further, tx)
				checked++
			}
		}
	}
	checkCount(t, checked, 100)
	for name, e := range endEngines() {
		for tx := 1; tx <= 3; tx++ {
			if done, ok := impl.EndDone(e, tx); ok {
				checkNoEnds(t, name, done, tx)
			}
			if undone, ok := impl.EndUndo(e, tx); ok && !keepsLoad(e.Log, tx) {
				checkNoEnds(t, name+", rolled back", undone, tx)
			}
		}
	}
}

// Promise 53: two open transactions can commit in either order with the same pages in memory.
func TestCommitsInEitherOrder(t *testing.T) {
	checked := 0
	pairedPasts(func(p past, one, other int) {
		first, firstOk := impl.EndDone(p.engine, one)
		both, bothOk := impl.EndDone(first, other)
		second, secondOk := impl.EndDone(p.engine, other)
		swapped, swappedOk := impl.EndDone(second, one)
		if !firstOk || !bothOk || !secondOk || !swappedOk || !samePages(both.Mem, swapped.Mem) || !samePages(both.Mem, p.engine.Mem) {
			t.Fatalf("commits of %d and %d are %v, in the other order %v, of %v", one, other, both, swapped, p.engine)
		}
		if !samePages(both.Disk, swapped.Disk) || both.Safe != swapped.Safe {
			t.Fatalf("commits of %d and %d are %v, in the other order %v, of %v", one, other, both, swapped, p.engine)
		}
		checked++
	})
	checkCount(t, checked, 200)
}

// Promise 56: rolling back two open transactions gives the same contents in either order.
func TestRollbacksInEitherOrder(t *testing.T) {
	checked := 0
	pairedPasts(func(p past, one, other int) {
		first, firstOk := impl.EndUndo(p.engine, one)
		both, bothOk := impl.EndUndo(first, other)
		second, secondOk := impl.EndUndo(p.engine, other)
		swapped, swappedOk := impl.EndUndo(second, one)
		if !firstOk || !bothOk || !secondOk || !swappedOk || !sameContents(both.Mem, swapped.Mem) {
			t.Fatalf("rollbacks of %d and %d are %v, in the other order %v, of %v", one, other, both, swapped, p.engine)
		}
		for number := range 5 {
			holder := impl.EngineLock(p.engine, number)
			if (holder == one || holder == other) && !sameContent(both.Mem[number], p.before[number]) {
				t.Fatalf("rollbacks of %d and %d: page %d is %v, want %v", one, other, number, both.Mem[number], p.before[number])
			}
		}
		checked++
	})
	checkCount(t, checked, 200)
}

// A commit and a rollback of two open transactions give the same contents in either order, too.
func TestCommitAndRollbackInEitherOrder(t *testing.T) {
	e := twoLoads()
	for _, tx := range []int{1, 2} {
		done, _ := impl.EndDone(e, tx)
		one, oneOk := impl.EndUndo(done, 3-tx)
		undone, _ := impl.EndUndo(e, 3-tx)
		other, otherOk := impl.EndDone(undone, tx)
		if !oneOk || !otherOk || !sameContents(one.Mem, other.Mem) || len(impl.LogOpen(one.Log)) != 0 || !impl.EngineOk(one) || !impl.EngineOk(other) {
			t.Errorf("commit of %d and rollback are %v, in the other order %v", tx, one, other)
		}
	}
}

// Promise 54: after ChangeLoad of a page that was free before the first record of the transaction on it, and EndUndo, the page is free and empty.
func TestLoadAndEndUndo(t *testing.T) {
	checked := 0
	for p := range pasts {
		e := p.engine
		for n := range 15 {
			tx, number := 1+n/5, n%5
			after, ok := impl.ChangeLoad(e, tx, number, []int{1 + n%9, n % 10, 9})
			if !ok || p.before[number].Owner != 0 {
				continue
			}
			checked++
			for _, loaded := range []impl.Engine{after, runWrite(after, number), runPut(after, tx, number, 1, 3)} {
				undone, ok := impl.EndUndo(loaded, tx)
				if page := undone.Mem[number]; !ok || page.Owner != 0 || !impl.PageEmpty(page) || !impl.EngineOk(undone) {
					t.Fatalf("EndUndo of %d: page %d is %v, %v, of %v", tx, number, page, ok, loaded)
				}
			}
		}
	}
	checkCount(t, checked, 100)
}

// Promise 54, written out: a page of before gets its owner back, and is empty as it was.
func TestLoadOfPageOfBeforeAndEndUndo(t *testing.T) {
	e := runOwn(runOwn(runDone(runOwn(newEngine(), 1, 2, 3), 1), 2, 2, 0), 2, 2, 1)
	after, loadOk := impl.ChangeLoad(e, 2, 2, []int{7, 8, 9})
	undone, ok := impl.EndUndo(after, 2)
	if !loadOk || !ok || !samePage(undone.Mem[2], page(7, 3, 0, 0, 0)) || !impl.EngineOk(undone) {
		t.Errorf("EndUndo is %v, %v, of %v", undone, ok, after)
	}
}

// Promise 55: after ChangeLoad and EndDone, the page on disk has all values.
func TestLoadAndEndDone(t *testing.T) {
	checked := 0
	for p := range pasts {
		e := p.engine
		for n := range 15 {
			tx, number, vals := 1+n/5, n%5, []int{1 + n%9, n % 10, 9}
			after, ok := impl.ChangeLoad(e, tx, number, vals)
			if !ok {
				continue
			}
			checked++
			done, ok := impl.EndDone(after, tx)
			want := impl.Page{Lsn: len(e.Log) + 1, Owner: e.Mem[number].Owner, Vals: vals}
			if !ok || !samePage(done.Disk[number], want) || !samePage(done.Mem[number], want) || !impl.EngineOk(done) {
				t.Fatalf("EndDone of %d: page %d is %v, %v, want %v, of %v", tx, number, done.Disk[number], ok, want, after)
			}
		}
	}
	checkCount(t, checked, 100)
}

// Promise 58: after EndDone or EndUndo, every page that the transaction locked can be modified by every transaction.
func TestPagesAfterTheEnd(t *testing.T) {
	checked := 0
	for p, tx := range openPasts {
		done, _ := impl.EndDone(p.engine, tx)
		undone, _ := impl.EndUndo(p.engine, tx)
		for _, number := range impl.LogPages(p.engine.Log, tx) {
			for _, e := range []impl.Engine{done, undone} {
				for other := 1; other <= 3; other++ {
					checkModifiable(t, e, other, number)
					checked++
				}
			}
		}
	}
	checkCount(t, checked, 1000)
}

// checkModifiable checks that a transaction can modify a page, if there is log space.
func checkModifiable(t *testing.T, e impl.Engine, tx, number int) {
	t.Helper()
	if !impl.ChangeMay(e, tx, number) || impl.EngineLock(e, number) != 0 {
		t.Fatalf("ChangeMay of transaction %d and page %d, of %v", tx, number, e)
	}
	c := put(tx, number, 0, 1)
	if e.Mem[number].Owner == 0 {
		c = own(tx, number, 1)
	}
	if _, ok := c(e); ok != (len(e.Log)+costIn(e.Log)+3 <= 150 || len(e.Log)+costIn(e.Log)+2 <= 150 && lastIn(e.Log, tx) != 0) {
		t.Fatalf("transaction %d cannot modify page %d, of %v", tx, number, e)
	}
}

// Ends at the limit of the log: there is always space to roll back, and a rollback may fill the log.
func TestEndsUpToTheLimitOfTheLog(t *testing.T) {
	one, two := spent(1, 149), puts(2, 74)
	withLoad, ok := impl.ChangeLoad(one, 1, 4, []int{1, 2, 3})
	if !ok {
		t.Fatalf("ChangeLoad is not possible, of %v", one)
	}
	for _, c := range []struct {
		name   string
		engine impl.Engine
		length int
	}{
		{"one transaction", one, 149}, {"one transaction with a load", withLoad, 150}, {"two transactions", two, 150}, {"two transactions, all durable", runForce(two), 150},
		{"two transactions, half undone", undoneOf(two, 2, 20), 150}, {"three transactions", puts(3, 73), 149},
	} {
		undone, stepped := c.engine, c.engine
		for _, tx := range impl.LogOpen(c.engine.Log) {
			undone, ok = impl.EndUndo(undone, tx)
			if !ok || !impl.EngineOk(undone) {
				t.Fatalf("%s: EndUndo of %d is %v, %v", c.name, tx, undone, ok)
			}
			for impl.LogLast(stepped.Log, tx) != 0 {
				if stepped, ok = impl.EndStep(stepped, tx); !ok || !impl.EngineOk(stepped) {
					t.Fatalf("%s: EndStep of %d is %v, %v", c.name, tx, stepped, ok)
				}
			}
		}
		if len(undone.Log) != c.length || !sameEngine(undone, stepped) || len(impl.LogOpen(undone.Log)) != 0 || !sameContents(undone.Mem, newPages(nil)) {
			t.Errorf("%s: rolled back with %d records: %v", c.name, len(undone.Log), undone)
		}
	}
}

// A commit may append the last record of the log.
func TestEndDoneUpToTheLimitOfTheLog(t *testing.T) {
	e := runUndo(puts(2, 74), 1)
	e = undoneOf(e, 2, 149-len(e.Log))
	done, ok := impl.EndDone(e, 2)
	if !ok || len(done.Log) != 150 || done.Safe != 150 || !impl.EngineOk(done) {
		t.Errorf("EndDone is %v, %v, of %v", done, ok, e)
	}
	checkNoEnds(t, "full", done, 2)
}

// A commit of one transaction and a rollback of the other, one after the other, on one page: only what was rolled back is gone.
func TestPageChangedByTwoOneAfterTheOther(t *testing.T) {
	e := twice()
	for _, c := range []struct {
		name string
		end  func(e impl.Engine, tx int) (impl.Engine, bool)
		vals []int
	}{{"committed", impl.EndDone, []int{7, 8, 0}}, {"rolled back", impl.EndUndo, []int{5, 0, 0}}} {
		after, ok := c.end(e, 2)
		again, putOk := impl.ChangePut(after, 1, 2, 2, 4)
		undone, undoOk := impl.EndUndo(again, 1)
		if !ok || !putOk || !undoOk || !slices.Equal(undone.Mem[2].Vals, c.vals) || undone.Mem[2].Owner != 3 {
			t.Errorf("%s, then rolled back: %v", c.name, undone)
		}
	}
}

// A load that no rollback undoes, since all allocations have been undone before: the document has RecEnd follow, and nothing else, although the engine is invalid then. A commit is possible.
func TestLoadThatNoRollbackUndoes(t *testing.T) {
	e := keptLoad()
	want := editedEngine(e, func(e *impl.Engine) { e.Log = with(e.Log, rec(impl.RecEnd, 2, 0, 0, 0, 0, 0, 0)) })
	for _, end := range []func(e impl.Engine, tx int) (impl.Engine, bool){impl.EndStep, impl.EndUndo} {
		if got, ok := end(e, 2); !ok || !sameEngine(got, want) || impl.EngineOk(got) || isEngine(got) {
			t.Errorf("rolled back to %v, %v, of %v", got, ok, e)
		}
	}
	if done, ok := impl.EndDone(e, 2); !ok || !impl.EngineOk(done) || !samePage(done.Disk[2], page(7, 3, 1, 2, 3)) {
		t.Errorf("EndDone is %v, %v, of %v", done, ok, e)
	}
}

// Valid engines that no functions make: a Next leads to records of other pages than those that the transaction locks.
func TestEndsOfEnginesWithNextBehindTheChain(t *testing.T) {
	misfit := onDisk(t, 6, map[int]impl.Page{0: page(0, 1, 5, 0, 0)},
		"put 2 0 0 5 0 0 0", "done 2 0 0 0 0 1 0", "own 1 0 -1 1 0 0 0", "done 1 0 0 0 0 3 0", "undo 1 1 0 0 0 0 3", "undo 2 2 0 0 0 0 1")
	if !impl.EngineOk(misfit) {
		t.Fatalf("not valid: %v", misfit)
	}
	for tx := 1; tx <= 3; tx++ {
		checkEnds(t, "misfit", misfit, tx)
	}
	// Page 0 is free until transaction 1 is rolled back, so the value of 2 does not fit there, and the page stays as it is.
	step, ok := impl.EndStep(misfit, 2)
	if !ok || impl.RecText(step.Log[6]) != "undo 2 0 0 0 5 6 0" || !samePages(step.Mem, misfit.Mem) {
		t.Errorf("EndStep is %v, %v", step, ok)
	}
}

// All three are what the document says, of valid engines near those of runs, whoever made them.
func TestEndsOfEditedEngines(t *testing.T) {
	dice := rand.New(rand.NewPCG(6, 48))
	checked := 0
	for e := range runs {
		for range 20 {
			other := editedEngine(e, func(e *impl.Engine) { editEngine(e, dice) })
			if len(other.Log) > 60 || !impl.EngineOk(other) {
				continue
			}
			for tx := 1; tx <= 3; tx++ {
				if lastIn(other.Log, tx) != 0 {
					checkEnds(t, "edited", other, tx)
					checked++
				}
			}
		}
	}
	checkCount(t, checked, 1000)
}

// shortEngines gives valid engines with all short logs, on free pages and on allocated ones.
func shortEngines(yield func(impl.Engine) bool) {
	allocated := newPages(nil)
	for number := range allocated {
		allocated[number] = page(0, 2, 3, 4, 0)
	}
	for l := range shortLogs(3) {
		for _, disk := range [][]impl.Page{newPages(nil), allocated} {
			mem, ok := redoneIn(disk, l)
			e := impl.Engine{Disk: disk, Mem: mem, Log: l, Safe: len(l)}
			for i, r := range l {
				if ok && r.Kind == impl.RecLoad {
					e.Mem[r.Page].Lsn = max(e.Mem[r.Page].Lsn, i+1)
				}
			}
			if ok && impl.EngineOk(e) && !yield(copyOf(e)) {
				return
			}
		}
	}
}

// All three are what the document says, of all short logs.
func TestEndsOfShortLogs(t *testing.T) {
	checked := 0
	for e := range shortEngines {
		for tx := 1; tx <= 3; tx++ {
			checkEnds(t, "short", e, tx)
			checked++
		}
	}
	checkCount(t, checked, 1000)
}

// The pages of a result of EndLoads are in memory of its own.
func TestLoadsShareNoMemory(t *testing.T) {
	e := twoLoads()
	one, other := impl.EndLoads(e, 2), impl.EndLoads(e, 2)
	for n := range one[:cap(one)] {
		one[:cap(one)][n] = 77
	}
	if !slices.Equal(other, []int{1, 3}) || !sameEngine(e, twoLoads()) {
		t.Errorf("a change of a result shows in another: %v, or in the argument: %v", other, e)
	}
}
