package tests

import (
	"math"
	"slices"
	"testing"

	"loop.example/tabularium/impl"
)

// change is a modification with all its arguments but the engine.
type change func(e impl.Engine) (impl.Engine, bool)

func put(tx, page, slot, val int) change {
	return func(e impl.Engine) (impl.Engine, bool) { return impl.ChangePut(e, tx, page, slot, val) }
}

func own(tx, page, table int) change {
	return func(e impl.Engine) (impl.Engine, bool) { return impl.ChangeOwn(e, tx, page, table) }
}

func load(tx, page int, vals ...int) change {
	return func(e impl.Engine) (impl.Engine, bool) { return impl.ChangeLoad(e, tx, page, vals) }
}

func existing(tx, page int) bool {
	return in(tx, [2]int{1, 3}) && in(page, [2]int{0, 4})
}

// wantPut, wantOwn and wantLoad are the engine that the document requires, for all arguments: the same one if the modification is not possible.
func wantPut(e impl.Engine, tx, page, slot, val int) impl.Engine {
	if !existing(tx, page) || !in(slot, [2]int{0, 2}) || !in(val, [2]int{0, 9}) {
		return e
	}
	return runPut(e, tx, page, slot, val)
}

func wantOwn(e impl.Engine, tx, page, table int) impl.Engine {
	if !existing(tx, page) || !in(table, [2]int{0, 3}) {
		return e
	}
	return runOwn(e, tx, page, table)
}

func wantLoad(e impl.Engine, tx, page int, vals []int) impl.Engine {
	none := func(val int) bool { return !in(val, [2]int{0, 9}) }
	if !existing(tx, page) || len(vals) != 3 || slices.ContainsFunc(vals, none) {
		return e
	}
	return runLoad(e, tx, page, vals...)
}

// checkChange checks a result of a modification: the engine wanted and true, or, if that is the unchanged one, false.
func checkChange(t *testing.T, e, want, got impl.Engine, ok bool) {
	t.Helper()
	if ok == sameEngine(e, want) || !sameEngine(got, want) || ok && !impl.EngineOk(got) {
		t.Fatalf("changed to %v, %v, want %v, of %v", got, ok, want, e)
	}
}

// checkRefused checks that a modification is not possible.
func checkRefused(t *testing.T, name string, e impl.Engine, c change) {
	t.Helper()
	if got, ok := c(copyOf(e)); ok || !sameEngine(got, e) {
		t.Errorf("%s: changed to %v, %v, of %v", name, got, ok, e)
	}
}

// undoneOf is an engine after some steps of a rollback.
func undoneOf(e impl.Engine, tx, steps int) impl.Engine {
	for range steps {
		e = runStep(e, tx)
	}
	return e
}

// argumentEngines is engines on which all arguments are tried.
func argumentEngines() []impl.Engine {
	one := runPut(runOwn(newEngine(), 1, 0, 1), 1, 0, 2, 5)
	two := runOwn(runPut(runOwn(one, 2, 1, 3), 2, 1, 0, 9), 2, 2, 1)
	three := runLoad(runOwn(two, 3, 4, 2), 3, 4, 0, 0, 0)
	emptied := runPut(one, 1, 0, 2, 0)
	ended := undoneOf(runPut(runDone(two, 2), 3, 1, 0, 1), 3, 1)
	return []impl.Engine{
		newEngine(), one, two, three, emptied, ended, filled(), loaded(),
		runWrite(one, 0), runWrite(runWrite(two, 1), 2), runWrite(three, 4), runForce(three), runWrite(emptied, 0),
		runDone(emptied, 1), runDone(three, 3), undoneOf(ended, 3, 1), runPut(loaded(), 1, 2, 1, 0), runWrite(loaded(), 2),
		runRise(runFall(filled(), 0)), runRise(runFall(filled(), 99)), runOwn(runOwn(loaded(), 1, 0, 1), 1, 0, 0),
		safeAs(puts(2, 73), 73), safeAs(puts(1, 74), 74), safeAs(puts(2, 74), 74),
		runFall(newEngine(), 0), runFall(one, 2), runFall(runWrite(three, 4), 99),
	}
}

// numbers is those from one to another, and ones far away.
func numbers(from, to int) []int {
	all := []int{math.MinInt, math.MaxInt}
	for n := from; n <= to; n++ {
		all = append(all, n)
	}
	return all
}

// Promise 34: ChangeMay is true for exactly the existing transactions and pages that no other transaction locks, in an engine that has not crashed.
func TestChangeMay(t *testing.T) {
	for e := range runs {
		for tx := -1; tx <= 4; tx++ {
			for page := -1; page <= 5; page++ {
				if may := impl.ChangeMay(e, tx, page); may != (existing(tx, page) && mayModify(e, tx, page)) {
					t.Fatalf("ChangeMay of transaction %d and page %d is %v, of %v", tx, page, may, e)
				}
			}
		}
	}
}

// Promise 34, on one page through its life: also the steps of a rollback lock it, until the last one.
func TestChangeMayUntilTheEnd(t *testing.T) {
	committed := runDone(runOwn(newEngine(), 1, 0, 1), 1)
	e := runPut(committed, 2, 0, 1, 7)
	for _, c := range []struct {
		name   string
		engine impl.Engine
		may    [3]bool
	}{
		{"new", newEngine(), [3]bool{true, true, true}},
		{"allocated", runOwn(newEngine(), 1, 0, 1), [3]bool{true, false, false}},
		{"allocated and freed", runOwn(runOwn(newEngine(), 1, 0, 1), 1, 0, 0), [3]bool{true, false, false}},
		{"loaded", runLoad(runOwn(newEngine(), 3, 0, 1), 3, 0, 1, 2, 3), [3]bool{false, false, true}},
		{"committed", committed, [3]bool{true, true, true}},
		{"put", e, [3]bool{false, true, false}},
		{"put and written", runWrite(e, 0), [3]bool{false, true, false}},
		{"put and undone", undoneOf(e, 2, 1), [3]bool{false, true, false}},
		{"put and rolled back", undoneOf(e, 2, 2), [3]bool{true, true, true}},
		{"put and committed", runDone(e, 2), [3]bool{true, true, true}},
		{"another page put", runOwn(committed, 2, 1, 1), [3]bool{true, true, true}},
		{"crashed", runFall(e, 99), [3]bool{}},
		{"new and crashed", runFall(newEngine(), 0), [3]bool{}},
		{"recovered", runRise(runFall(e, 99)), [3]bool{true, true, true}},
	} {
		for i, want := range c.may {
			if may := impl.ChangeMay(c.engine, i+1, 0); may != want {
				t.Errorf("%s: ChangeMay of transaction %d is %v", c.name, i+1, may)
			}
		}
	}
}

func TestChangeMayOfWhatDoesNotExist(t *testing.T) {
	for _, e := range argumentEngines() {
		for _, tx := range numbers(-2, 6) {
			for _, page := range numbers(-2, 7) {
				if !existing(tx, page) && impl.ChangeMay(e, tx, page) {
					t.Fatalf("ChangeMay of transaction %d and page %d, of %v", tx, page, e)
				}
			}
		}
	}
}

// possibleChange is a modification with the record that it appends and its page afterwards.
type possibleChange struct {
	name   string
	engine impl.Engine
	change change
	rec    string
	page   impl.Page
}

func possibleChanges() []possibleChange {
	owned := runOwn(newEngine(), 1, 2, 3)
	full := runPut(runPut(runPut(owned, 1, 2, 0, 4), 1, 2, 1, 5), 1, 2, 2, 6)
	three := runOwn(filled(), 3, 4, 2)
	committed := runDone(owned, 1)
	return []possibleChange{
		{"allocated, the first page", newEngine(), own(1, 0, 1), "own 1 0 -1 0 1 0 0", page(1, 1, 0, 0, 0)},
		{"allocated, the last page", newEngine(), own(3, 4, 3), "own 3 4 -1 0 3 0 0", page(1, 3, 0, 0, 0)},
		{"allocated, one more page", owned, own(1, 0, 2), "own 1 0 -1 0 2 1 0", page(2, 2, 0, 0, 0)},
		{"allocated by a second transaction", owned, own(2, 0, 2), "own 2 0 -1 0 2 0 0", page(2, 2, 0, 0, 0)},
		{"allocated again", runOwn(owned, 1, 2, 0), own(1, 2, 1), "own 1 2 -1 0 1 2 0", page(3, 1, 0, 0, 0)},
		{"freed", owned, own(1, 2, 0), "own 1 2 -1 3 0 1 0", page(2, 0, 0, 0, 0)},
		{"freed by a later transaction", committed, own(3, 2, 0), "own 3 2 -1 3 0 0 0", page(3, 0, 0, 0, 0)},
		{"freed by the next one of the same number", committed, own(1, 2, 0), "own 1 2 -1 3 0 0 0", page(3, 0, 0, 0, 0)},
		{"freed, as it was emptied", runPut(runPut(owned, 1, 2, 1, 5), 1, 2, 1, 0), own(1, 2, 0), "own 1 2 -1 3 0 3 0", page(4, 0, 0, 0, 0)},
		{"freed, as its value was undone", undoneOf(runPut(owned, 1, 2, 1, 5), 1, 1), own(1, 2, 0), "own 1 2 -1 3 0 3 0", page(4, 0, 0, 0, 0)},
		{"freed, loaded with no values", runLoad(owned, 1, 2, 0, 0, 0), own(1, 2, 0), "own 1 2 -1 3 0 2 0", page(3, 0, 0, 0, 0)},
		{"put, the first slot", owned, put(1, 2, 0, 5), "put 1 2 0 0 5 1 0", page(2, 3, 5, 0, 0)},
		{"put, the last slot", full, put(1, 2, 2, 9), "put 1 2 2 6 9 4 0", page(5, 3, 4, 5, 9)},
		{"put, between others", full, put(1, 2, 1, 9), "put 1 2 1 5 9 4 0", page(5, 3, 4, 9, 6)},
		{"put, what is there", full, put(1, 2, 1, 5), "put 1 2 1 5 5 4 0", page(5, 3, 4, 5, 6)},
		{"put, 0 where 0 is", owned, put(1, 2, 1, 0), "put 1 2 1 0 0 1 0", page(2, 3, 0, 0, 0)},
		{"put, emptied", full, put(1, 2, 0, 0), "put 1 2 0 4 0 4 0", page(5, 3, 0, 5, 6)},
		{"put, written before", runWrite(full, 2), put(1, 2, 0, 1), "put 1 2 0 4 1 4 0", page(5, 3, 1, 5, 6)},
		{"put, committed before", committed, put(2, 2, 0, 1), "put 2 2 0 0 1 0 0", page(3, 3, 1, 0, 0)},
		{"put, after the commit of its number", committed, put(1, 2, 0, 1), "put 1 2 0 0 1 0 0", page(3, 3, 1, 0, 0)},
		{"put, after an undone value", undoneOf(full, 1, 1), put(1, 2, 0, 1), "put 1 2 0 4 1 5 0", page(6, 3, 1, 5, 0)},
		{"put, by the second of three", three, put(2, 2, 2, 3), "put 2 2 2 0 3 9 0", page(11, 1, 8, 9, 3)},
		{"put, by the third of three", three, put(3, 1, 2, 3), "put 3 1 2 6 3 10 0", page(11, 2, 0, 0, 3)},
		{"put, by the first of three", three, put(1, 0, 0, 3), "put 1 0 0 7 3 0 0", page(11, 1, 3, 0, 0)},
		{"put, in a loaded page", loaded(), put(1, 2, 1, 9), "put 1 2 1 5 9 2 0", page(3, 3, 4, 9, 6)},
		{"put, in a loaded and written page", runWrite(loaded(), 2), put(1, 2, 1, 9), "put 1 2 1 5 9 2 0", page(3, 3, 4, 9, 6)},
		{"loaded", owned, load(1, 2, 4, 5, 6), "load 1 2 0 0 0 1 0", page(2, 3, 4, 5, 6)},
		{"loaded, no values", owned, load(1, 2, 0, 0, 0), "load 1 2 0 0 0 1 0", page(2, 3, 0, 0, 0)},
		{"loaded, highest values", owned, load(1, 2, 9, 9, 9), "load 1 2 0 0 0 1 0", page(2, 3, 9, 9, 9)},
		{"loaded, written before", runWrite(owned, 2), load(1, 2, 1, 0, 9), "load 1 2 0 0 0 1 0", page(2, 3, 1, 0, 9)},
		{"loaded, the first page", runOwn(owned, 1, 0, 2), load(1, 0, 1, 2, 3), "load 1 0 0 0 0 2 0", page(3, 2, 1, 2, 3)},
		{"loaded, allocated before others", runOwn(owned, 1, 0, 2), load(1, 2, 1, 2, 3), "load 1 2 0 0 0 2 0", page(3, 3, 1, 2, 3)},
		{"loaded, the last page by one of three", three, load(3, 4, 1, 2, 3), "load 3 4 0 0 0 10 0", page(11, 2, 1, 2, 3)},
		{"loaded, allocated again", runOwn(runOwn(owned, 1, 2, 0), 1, 2, 1), load(1, 2, 1, 2, 3), "load 1 2 0 0 0 3 0", page(4, 1, 1, 2, 3)},
		{"loaded, freed and allocated", runOwn(runOwn(committed, 2, 2, 0), 2, 2, 1), load(2, 2, 1, 2, 3), "load 2 2 0 0 0 4 0", page(5, 1, 1, 2, 3)},
		{"loaded, emptied before", runPut(runPut(owned, 1, 2, 1, 5), 1, 2, 1, 0), load(1, 2, 1, 2, 3), "load 1 2 0 0 0 3 0", page(4, 3, 1, 2, 3)},
		{"loaded, its value undone before", undoneOf(runPut(owned, 1, 2, 1, 5), 1, 1), load(1, 2, 1, 2, 3), "load 1 2 0 0 0 3 0", page(4, 3, 1, 2, 3)},
		{"loaded again, no values before", runLoad(owned, 1, 2, 0, 0, 0), load(1, 2, 1, 2, 3), "load 1 2 0 0 0 2 0", page(3, 3, 1, 2, 3)},
		// LogChain has the records that have been undone, too.
		{"loaded, all undone before, its allocation too", undoneOf(runOwn(runOwn(committed, 2, 2, 0), 2, 2, 1), 2, 2), load(2, 2, 1, 2, 3), "load 2 2 0 0 0 6 0", page(7, 3, 1, 2, 3)},
	}
}

// Promises 35, 37 and 38, written out.
func TestPossibleChanges(t *testing.T) {
	for _, c := range possibleChanges() {
		e := c.engine
		got, ok := c.change(copyOf(e))
		if !ok || len(got.Log) != len(e.Log)+1 || !impl.EngineOk(got) {
			t.Errorf("%s: changed to %v, %v, of %v", c.name, got, ok, e)
			continue
		}
		r := got.Log[len(e.Log)]
		if impl.RecText(r) != c.rec || !slices.Equal(got.Log[:len(e.Log)], e.Log) {
			t.Errorf("%s: the log is %v, want %v and %s", c.name, got.Log, e.Log, c.rec)
		}
		if !samePages(got.Mem, inMem(e, r.Page, c.page).Mem) {
			t.Errorf("%s: the pages are %v, want %v and %v", c.name, got.Mem, e.Mem, c.page)
		}
		if !samePages(got.Disk, e.Disk) || got.Safe != e.Safe || got.Down {
			t.Errorf("%s: changed to %v, of %v", c.name, got, e)
		}
		if holder := impl.EngineLock(got, r.Page); holder != r.Tx {
			t.Errorf("%s: locked by %d", c.name, holder)
		}
	}
}

// Promises 36, 37 and 39: what is not possible changes nothing.
func TestImpossibleChanges(t *testing.T) {
	owned := runOwn(newEngine(), 1, 2, 3)
	valued := runPut(owned, 1, 2, 2, 1)
	committed := runDone(owned, 1)
	free := runOwn(owned, 1, 2, 0)
	for _, c := range []struct {
		name   string
		engine impl.Engine
		change change
	}{
		{"put in a new page", newEngine(), put(1, 2, 0, 5)},
		{"0 put in a new page", newEngine(), put(1, 2, 0, 0)},
		{"put in another page", owned, put(1, 1, 0, 5)},
		{"put in a freed page", free, put(1, 2, 0, 5)},
		{"put in a page whose allocation is undone", undoneOf(owned, 1, 1), put(1, 2, 0, 5)},
		{"put in a page that another allocated", owned, put(2, 2, 0, 5)},
		{"put in a page that another undoes", undoneOf(runPut(committed, 1, 2, 0, 5), 1, 1), put(2, 2, 0, 5)},
		{"put in a page that another loaded", loaded(), put(3, 2, 0, 5)},
		{"put beyond the last slot", owned, put(1, 2, 3, 5)},
		{"put in slot -1", owned, put(1, 2, -1, 0)},
		{"put of value 10", owned, put(1, 2, 0, 10)},
		{"put of value -1", owned, put(1, 2, 0, -1)},
		{"allocated twice", owned, own(1, 2, 3)},
		{"allocated to another table", owned, own(1, 2, 1)},
		{"allocated after its commit", committed, own(2, 2, 1)},
		{"allocated, with a value", valued, own(1, 2, 1)},
		{"allocated as another freed it", free, own(2, 2, 1)},
		{"allocated to table 4", newEngine(), own(1, 2, 4)},
		{"allocated to table -1", newEngine(), own(1, 2, -1)},
		{"freed, new", newEngine(), own(1, 2, 0)},
		{"freed twice", free, own(1, 2, 0)},
		{"freed, with a value", valued, own(1, 2, 0)},
		{"freed, with a value that is committed", runDone(valued, 1), own(1, 2, 0)},
		{"freed, with loaded values", loaded(), own(1, 2, 0)},
		{"freed as another allocated it", owned, own(2, 2, 0)},
		{"freed to table -1", owned, own(1, 2, -1)},
		{"freed to table 4", owned, own(1, 2, 4)},
		{"loaded, new", newEngine(), load(1, 2, 1, 2, 3)},
		{"loaded, freed", free, load(1, 2, 1, 2, 3)},
		{"loaded, allocation undone", undoneOf(owned, 1, 1), load(1, 2, 1, 2, 3)},
		{"loaded, no values in a new page", newEngine(), load(1, 2, 0, 0, 0)},
		{"loaded, allocated by an earlier transaction", committed, load(2, 2, 1, 2, 3)},
		{"loaded, allocated by the earlier one of this number", committed, load(1, 2, 1, 2, 3)},
		{"loaded, allocated by an earlier one, changed by this one", runPut(committed, 2, 2, 0, 0), load(2, 2, 1, 2, 3)},
		{"loaded, allocated by an earlier one, freed by this one", runOwn(committed, 2, 2, 0), load(2, 2, 1, 2, 3)},
		{"loaded, freeing undone", undoneOf(runOwn(committed, 2, 2, 0), 2, 1), load(2, 2, 1, 2, 3)},
		{"loaded, this one allocated another page", runOwn(runPut(committed, 2, 2, 0, 0), 2, 3, 3), load(2, 2, 1, 2, 3)},
		{"loaded, another allocated it", owned, load(2, 2, 1, 2, 3)},
		{"loaded, with a value", valued, load(1, 2, 1, 2, 3)},
		{"loaded twice", loaded(), load(1, 2, 4, 5, 6)},
		{"loaded with too few values", owned, load(1, 2, 1, 2)},
		{"loaded with too many values", owned, load(1, 2, 1, 2, 3, 4)},
		{"loaded with too many values, the last one 0", owned, load(1, 2, 1, 2, 3, 0)},
		{"loaded with nothing", owned, load(1, 2)},
		{"loaded with 10 first", owned, load(1, 2, 10, 2, 3)},
		{"loaded with 10 last", owned, load(1, 2, 1, 2, 10)},
		{"loaded with -1 first", owned, load(1, 2, -1, 2, 3)},
		{"loaded with -1 last", owned, load(1, 2, 1, 2, -1)},
	} {
		checkRefused(t, c.name, c.engine, c.change)
		checkRefused(t, c.name+", after a write", runWrite(c.engine, 2), c.change)
	}
}

// Promises 34 to 36: every transaction can change a page again when the one that locked it has ended, and not before.
func TestChangeOfPageThatWasLocked(t *testing.T) {
	e := runPut(runDone(runOwn(newEngine(), 1, 0, 1), 1), 1, 0, 0, 5)
	for _, tx := range []int{2, 3} {
		checkRefused(t, "put", e, put(tx, 0, 0, 7))
		checkRefused(t, "put while it is undone", undoneOf(e, 1, 1), put(tx, 0, 0, 7))
		checkRefused(t, "freed while it is undone", undoneOf(e, 1, 1), own(tx, 0, 0))
	}
	for tx := 1; tx <= 3; tx++ {
		for _, ended := range []impl.Engine{runDone(e, 1), undoneOf(e, 1, 2), runRise(runFall(e, 99)), runRise(runFall(e, 0))} {
			got, ok := impl.ChangePut(ended, tx, 0, 0, 7)
			checkChange(t, ended, runPut(ended, tx, 0, 0, 7), got, ok)
			if !ok || got.Mem[0].Vals[0] != 7 {
				t.Errorf("ChangePut of transaction %d, after the end, is %v, %v", tx, got, ok)
			}
		}
	}
}

// Promises 35 and 36, for all arguments.
func TestChangePutOfAllArguments(t *testing.T) {
	for _, e := range argumentEngines() {
		for _, tx := range numbers(-1, 4) {
			for _, page := range numbers(-1, 5) {
				for _, slot := range numbers(-1, 3) {
					for _, val := range []int{math.MinInt, -1, 0, 1, 5, 9, 10, math.MaxInt} {
						got, ok := impl.ChangePut(e, tx, page, slot, val)
						checkChange(t, e, wantPut(e, tx, page, slot, val), got, ok)
					}
				}
			}
		}
	}
}

// Promise 37, for all arguments.
func TestChangeOwnOfAllArguments(t *testing.T) {
	for _, e := range argumentEngines() {
		for _, tx := range numbers(-1, 4) {
			for _, page := range numbers(-1, 5) {
				for _, table := range numbers(-1, 4) {
					got, ok := impl.ChangeOwn(e, tx, page, table)
					checkChange(t, e, wantOwn(e, tx, page, table), got, ok)
				}
			}
		}
	}
}

// Promises 38 and 39, for all arguments.
func TestChangeLoadOfAllArguments(t *testing.T) {
	lists := [][]int{nil, {}, {1}, {1, 2}, {1, 2, 3, 4}, {0, 0, 0, 0}, {0, 0, 0}, {1, 2, 3}, {9, 9, 9}, {0, 9, 0},
		{10, 0, 0}, {0, 10, 0}, {0, 0, 10}, {-1, 0, 0}, {0, -1, 0}, {0, 0, -1}, {math.MinInt, 0, 0}, {0, 0, math.MaxInt}}
	for _, e := range argumentEngines() {
		for _, tx := range numbers(-1, 4) {
			for _, page := range numbers(-1, 5) {
				for _, vals := range lists {
					got, ok := impl.ChangeLoad(e, tx, page, vals)
					checkChange(t, e, wantLoad(e, tx, page, vals), got, ok)
				}
			}
		}
	}
}

// Promises 35 and 36, in runs.
func TestChangePut(t *testing.T) {
	for e := range runs {
		for n := range 15 {
			tx, page, slot, val := 1+n/5, n%5, n%3, (n+len(e.Log))%10
			got, ok := impl.ChangePut(e, tx, page, slot, val)
			checkChange(t, e, wantPut(e, tx, page, slot, val), got, ok)
		}
	}
}

// Promise 37, in runs.
func TestChangeOwn(t *testing.T) {
	for e := range runs {
		for n := range 15 {
			tx, page, table := 1+n/5, n%5, (n+len(e.Log))%4
			got, ok := impl.ChangeOwn(e, tx, page, table)
			checkChange(t, e, wantOwn(e, tx, page, table), got, ok)
		}
	}
}

// Promises 38 and 39, in runs.
func TestChangeLoad(t *testing.T) {
	possible := 0
	for e := range runs {
		for n := range 15 {
			tx, page, vals := 1+n/5, n%5, []int{n % 10, len(e.Log) % 10, (n + len(e.Log)) % 10}
			got, ok := impl.ChangeLoad(e, tx, page, vals)
			checkChange(t, e, wantLoad(e, tx, page, vals), got, ok)
			if !ok {
				continue
			}
			possible++
			if impl.EngineLock(e, page) != tx || !impl.PageEmpty(e.Mem[page]) || !slices.Equal(got.Mem[page].Vals, vals) {
				t.Fatalf("ChangeLoad of page %d by transaction %d is %v, of %v", page, tx, got, e)
			}
		}
	}
	if possible < 100 {
		t.Errorf("only %d loads were possible", possible)
	}
}

// pairsToPut gives two transactions and two pages, of which the first is the smaller one, where each transaction can put a value in its page.
func pairsToPut(e impl.Engine, yield func(oneTx, onePage, otherTx, otherPage int)) {
	can := func(tx, page int) bool { return mayModify(e, tx, page) && e.Mem[page].Owner != 0 }
	for n := range 9 * 25 {
		oneTx, otherTx, onePage, otherPage := 1+n%3, 1+n/3%3, n/9%5, n/45
		if oneTx != otherTx && onePage < otherPage && can(oneTx, onePage) && can(otherTx, otherPage) {
			yield(oneTx, onePage, otherTx, otherPage)
		}
	}
}

// Promise 40: two values that two transactions put in different pages give the same values in either order.
func TestPutsOfTwoTransactionsInEitherOrder(t *testing.T) {
	checked := 0
	for e := range runs {
		if len(e.Log)+costIn(e.Log)+6 > 150 {
			continue
		}
		pairsToPut(e, func(oneTx, onePage, otherTx, otherPage int) {
			checked++
			slot, val := checked%3, checked%10
			first, firstOk := impl.ChangePut(e, oneTx, onePage, slot, val)
			both, bothOk := impl.ChangePut(first, otherTx, otherPage, 2-slot, 9-val)
			second, secondOk := impl.ChangePut(e, otherTx, otherPage, 2-slot, 9-val)
			swapped, swappedOk := impl.ChangePut(second, oneTx, onePage, slot, val)
			if !firstOk || !bothOk || !secondOk || !swappedOk || !slices.EqualFunc(both.Mem, swapped.Mem, sameContent) {
				t.Fatalf("the values of pages %d and %d are %v, in the other order %v, of %v", onePage, otherPage, both.Mem, swapped.Mem, e)
			}
		})
	}
	if checked < 1000 {
		t.Errorf("only %d pairs were possible", checked)
	}
}

// Promises 41 and 43: allocating a page and freeing it restores it, except for its Lsn; neither is possible twice.
func TestAllocatedAndFreed(t *testing.T) {
	checked := 0
	for e := range runs {
		for n := range 15 {
			tx, number := 1+n/5, n%5
			if e.Mem[number].Owner != 0 || len(e.Log)+costIn(e.Log)+5 > 150 {
				continue
			}
			taken, ok := impl.ChangeOwn(e, tx, number, 1+n%3)
			if !ok {
				continue
			}
			checked++
			for table := range 3 {
				checkRefused(t, "allocated twice", taken, own(tx, number, 1+table))
			}
			free, ok := impl.ChangeOwn(taken, tx, number, 0)
			if p := free.Mem[number]; !ok || !sameContent(p, e.Mem[number]) || p.Lsn != len(e.Log)+2 {
				t.Fatalf("allocated and freed, page %d is %v, %v, of %v", number, p, ok, e)
			}
			checkRefused(t, "freed twice", free, own(tx, number, 0))
			if !samePages(inMem(free, number, e.Mem[number]).Mem, e.Mem) || !samePages(free.Disk, e.Disk) {
				t.Fatalf("allocated and freed, of %v is %v", e, free)
			}
		}
	}
	if checked < 100 {
		t.Errorf("only %d pages were free", checked)
	}
}

// Promise 42: after two values put in one slot, it has the second, and the log has the first as its old value.
func TestTwoValuesInOneSlot(t *testing.T) {
	owned := runOwn(newEngine(), 2, 3, 1)
	for _, e := range []impl.Engine{owned, runWrite(owned, 3), runLoad(owned, 2, 3, 7, 8, 9), runPut(runOwn(owned, 1, 0, 1), 3, 4, 0, 1), runDone(owned, 2)} {
		for n := range 300 {
			slot, first, second := n/100, n/10%10, n%10
			one, oneOk := impl.ChangePut(e, 2, 3, slot, first)
			two, twoOk := impl.ChangePut(one, 2, 3, slot, second)
			if !oneOk || !twoOk || !samePage(two.Mem[3], withSlot(impl.Page{Lsn: len(e.Log) + 2, Owner: 1, Vals: e.Mem[3].Vals}, slot, second)) {
				t.Fatalf("%d and then %d put: %v, of %v", first, second, two, e)
			}
			if r := two.Log[len(e.Log)+1]; r != rec(impl.RecPut, 2, 3, slot, first, second, len(e.Log)+1, 0) {
				t.Fatalf("%d and then %d put: %v", first, second, r)
			}
		}
	}
}

// spent is an engine whose number of records and undo cost add up to total, as nearly below it as values put in page 0 come. Transactions 1 to open have a record, and transaction 1 has allocated page 4, too.
func spent(open, total int) impl.Engine {
	e := runOwn(runOwn(newEngine(), 1, 0, 1), 1, 4, 1)
	for tx := 2; tx <= open; tx++ {
		e = runOwn(e, tx, tx-1, 1)
	}
	for n := 0; len(e.Log)+costIn(e.Log)+2 <= total; n++ {
		e = appended(e, rec(impl.RecPut, 1, 0, n%3, e.Mem[0].Vals[n%3], 1+n%9, 0, 0))
	}
	return e
}

// Promises 36 to 38: there is space if the number of records and the undo cost add up to LogMax afterwards, and not if to one more.
func TestChangesAtTheEndOfTheLog(t *testing.T) {
	for open := 1; open <= 2; open++ {
		for total := 144; total <= 150; total++ {
			e := spent(open, total)
			for _, base := range []impl.Engine{e, runWrite(runWrite(e, 0), 4), runForce(e), undoneOf(e, 1, 3)} {
				used := len(base.Log) + costIn(base.Log)
				for _, c := range []struct {
					name   string
					change change
					needs  int
				}{
					{"put", put(1, 0, 1, 2), 2},
					{"the same value put", put(1, 0, 1, base.Mem[0].Vals[1]), 2},
					{"freed", own(1, 4, 0), 2},
					{"allocated", own(1, 3, 2), 2},
					{"allocated by one that is not open", own(3, 3, 2), 3},
					{"loaded", load(1, 4, 1, 2, 3), 1},
					{"loaded with no values", load(1, 4, 0, 0, 0), 1},
				} {
					got, ok := c.change(base)
					if ok != (used+c.needs <= 150) || !impl.EngineOk(got) || !ok && !sameEngine(got, base) {
						t.Errorf("%s, with %d used by %d: %v", c.name, used, open, ok)
					}
					if now := len(got.Log) + costIn(got.Log); ok && now != used+c.needs {
						t.Errorf("%s, with %d used: now %d", c.name, used, now)
					}
				}
			}
		}
	}
}

// The sums that the document names are reached, and one more is not.
func TestLogSpaceWrittenOut(t *testing.T) {
	for _, c := range []struct {
		open, used int
		change     change
		ok         bool
	}{
		{1, 147, put(1, 0, 0, 1), true}, {1, 149, put(1, 0, 0, 1), false},
		{2, 148, put(1, 0, 0, 1), true}, {2, 150, put(1, 0, 0, 1), false},
		{1, 147, own(1, 4, 0), true}, {1, 149, own(1, 4, 0), false}, {2, 148, own(2, 3, 1), true},
		{1, 147, own(2, 3, 1), true}, {2, 148, own(3, 3, 1), false}, {1, 149, own(2, 3, 1), false},
		{1, 149, load(1, 4, 1, 2, 3), true}, {2, 150, load(1, 4, 1, 2, 3), false},
	} {
		e := spent(c.open, c.used)
		if used := len(e.Log) + costIn(e.Log); used != c.used {
			t.Fatalf("%d used by %d, want %d", used, c.open, c.used)
		}
		if got, ok := c.change(e); ok != c.ok || !impl.EngineOk(got) || !ok && !sameEngine(got, e) {
			t.Errorf("with %d used by %d: %v", c.used, c.open, ok)
		}
	}
	after, ok := impl.ChangeLoad(spent(1, 149), 1, 4, []int{0, 0, 0})
	if used := len(after.Log) + costIn(after.Log); !ok || used != 150 {
		t.Errorf("after a load %d used", used)
	}
	checkRefused(t, "loaded again", after, load(1, 4, 0, 0, 0))
}

// A commit gives the undo cost back, and its number has no records then.
func TestLogSpaceAfterCommit(t *testing.T) {
	full := spent(2, 150)
	checkRefused(t, "put", full, put(1, 0, 0, 9))
	done := runDone(full, 1)
	if got, ok := impl.ChangePut(done, 1, 0, 0, 9); !ok || got.Log[len(full.Log)+1].Prev != 0 {
		t.Errorf("ChangePut after a commit is %v, %v", got, ok)
	}
}

// An engine that has crashed is returned unchanged, whatever the other arguments are.
func TestChangeOfCrashedEngines(t *testing.T) {
	owned := runOwn(newEngine(), 1, 2, 3)
	for _, running := range []impl.Engine{newEngine(), owned, runWrite(owned, 2), runForce(owned), runDone(owned, 1), filled(), loaded(), runWrite(loaded(), 2)} {
		for _, left := range []int{0, 99} {
			e := runFall(running, left)
			for _, c := range []change{put(1, 2, 0, 5), put(2, 2, 0, 5), put(0, 9, 9, 99), own(1, 2, 0), own(1, 2, 1), own(3, 4, 2), own(9, 9, 9), load(1, 2, 1, 2, 3), load(1, 2), load(0, 9, 99)} {
				checkRefused(t, "crashed", e, c)
			}
			for tx := -1; tx <= 4; tx++ {
				for page := -1; page <= 5; page++ {
					if impl.ChangeMay(e, tx, page) {
						t.Errorf("ChangeMay of transaction %d and page %d, of %v", tx, page, e)
					}
				}
			}
		}
	}
}

// For an invalid engine, the zero value and false are returned, whatever the other arguments are.
func TestChangeOfInvalidEngines(t *testing.T) {
	for _, c := range engineCases(t) {
		if c.valid {
			continue
		}
		for n, change := range []change{put(1, 0, 0, 5), put(1, 2, 0, 5), put(0, 9, 9, 99), own(1, 3, 1), own(1, 2, 0), own(9, 9, 9), load(1, 2, 4, 5, 6), load(1, 4, 4, 5, 6), load(0, 9, 99)} {
			if got, ok := change(c.engine); ok || !sameEngine(got, impl.Engine{}) {
				t.Errorf("%s: change %d is %v, %v", c.name, n, got, ok)
			}
		}
		for tx := -1; tx <= 4; tx++ {
			for page := -1; page <= 5; page++ {
				if impl.ChangeMay(c.engine, tx, page) {
					t.Errorf("%s: ChangeMay of transaction %d and page %d", c.name, tx, page)
				}
			}
		}
	}
}

// The values of a load are neither modified nor kept.
func TestLoadedValuesShareNoMemory(t *testing.T) {
	e := runOwn(newEngine(), 1, 2, 3)
	vals := []int{4, 5, 6, 77, 77}[:3]
	one, _ := impl.ChangeLoad(e, 1, 2, vals)
	other, _ := impl.ChangeLoad(e, 1, 2, vals)
	want := copyOf(other)
	overwrite(one)
	if !slices.Equal(vals[:5], []int{4, 5, 6, 77, 77}) {
		t.Errorf("a change of the result shows in the values: %v", vals[:5])
	}
	for n := range 5 {
		vals[:5][n] = 8
	}
	if !sameEngine(other, want) {
		t.Errorf("a change of the values shows in the result: %v", other)
	}
}
