package tests

import (
	"math"
	"math/rand/v2"
	"slices"
	"testing"

	"loop.example/tabularium/impl"
)

// filled is a run of three transactions: 1 is committed, 2 and 3 are open, some pages are written and some records are durable.
func filled() impl.Engine {
	e := runOwn(newEngine(), 1, 0, 1)
	e = runPut(e, 1, 0, 0, 7)
	e = runOwn(e, 1, 1, 2)
	e = runPut(e, 1, 1, 2, 4)
	e = runDone(e, 1)
	e = runOwn(e, 2, 2, 1)
	e = runPut(e, 2, 2, 1, 9)
	e = runWrite(e, 2)
	e = runPut(e, 3, 1, 2, 6)
	return runPut(e, 2, 2, 0, 8)
}

// loaded is an engine with a page that an open transaction loaded.
func loaded() impl.Engine {
	return runLoad(runOwn(newEngine(), 1, 2, 3), 1, 2, 4, 5, 6)
}

// toLoad is an engine with an empty page that transaction 1 has allocated, and so can load.
func toLoad() impl.Engine {
	return runOwn(filled(), 1, 3, 2)
}

// editedEngine is an engine with a change, in memory of its own.
func editedEngine(e impl.Engine, edit func(e *impl.Engine)) impl.Engine {
	e = copyOf(e)
	edit(&e)
	return e
}

// puts is an engine with so many records: each of the open transactions 1 to txs first allocates its page, then they put values in turn.
func puts(txs, records int) impl.Engine {
	e := newEngine()
	for n := range records {
		tx := 1 + n%txs
		r := rec(impl.RecPut, tx, tx, n%3, e.Mem[tx].Vals[n%3], 1+n%9, 0, 0)
		if n < txs {
			r = rec(impl.RecOwn, tx, tx, -1, 0, tx, 0, 0)
		}
		e = appended(e, r)
	}
	return e
}

// onDisk is an engine with these pages on disk and these records, and in memory what redoing them makes of the disk, if they can be redone.
func onDisk(t *testing.T, safe int, disk map[int]impl.Page, recs ...string) impl.Engine {
	t.Helper()
	e := impl.Engine{Disk: newPages(disk), Mem: newPages(disk), Log: logOf(t, recs...), Safe: safe}
	if redone, ok := redoneIn(e.Disk, e.Log); ok {
		e.Mem = redone
	}
	return e
}

// inMem is an engine with another page in memory.
func inMem(e impl.Engine, number int, p impl.Page) impl.Engine {
	return editedEngine(e, func(e *impl.Engine) { e.Mem[number] = p })
}

// safeAs is an engine with another Safe.
func safeAs(e impl.Engine, safe int) impl.Engine {
	e.Safe = safe
	return e
}

type engineCase struct {
	name   string
	engine impl.Engine
	valid  bool
}

func limitCases(t *testing.T) []engineCase {
	done := rec(impl.RecDone, 1, 0, 0, 0, 0, 0, 0)
	load := rec(impl.RecLoad, 2, 2, 0, 0, 0, 0, 0)
	ends := newEngine()
	for len(ends.Log) < 150 {
		ends = appended(ends, done)
	}
	atLimit := appended(puts(2, 74), backIn(puts(2, 74).Log, 74))
	afterLoad := appended(puts(2, 74), load)
	afterLoad.Mem[2].Lsn = 75
	written := map[int]impl.Page{2: page(2, 3, 5, 0, 0)}
	recs := []string{"own 1 2 -1 0 3 0 0", "put 1 2 0 0 5 1 0", "put 1 2 1 0 6 2 0"}
	return []engineCase{
		{"new", newEngine(), true},
		{"new, crashed", editedEngine(newEngine(), func(e *impl.Engine) { e.Down = true }), true},
		{"new, Safe 1", safeAs(newEngine(), 1), false},
		{"new, Safe -1", safeAs(newEngine(), -1), false},
		{"zero value", impl.Engine{}, false},
		{"Safe 0", safeAs(puts(2, 5), 0), true},
		{"Safe the number of records", safeAs(puts(2, 5), 5), true},
		{"Safe one more", safeAs(puts(2, 5), 6), false},
		{"Safe -1", safeAs(puts(2, 5), -1), false},
		{"Safe far away", safeAs(puts(2, 5), math.MaxInt), false},
		{"Lsn on disk below Safe", onDisk(t, 3, written, recs...), true},
		{"Lsn on disk equal to Safe", onDisk(t, 2, written, recs...), true},
		{"Lsn on disk above Safe", onDisk(t, 1, written, recs...), false},
		{"Lsn on disk above Safe 0", onDisk(t, 0, written, recs...), false},
		{"Lsn of a free page on disk above Safe", onDisk(t, 1, map[int]impl.Page{4: page(2, 0, 0, 0, 0)}, recs...), false},
		{"records and undo cost 149", puts(1, 74), true},
		{"records and undo cost 150", puts(2, 74), true},
		{"records and undo cost 150, all durable", safeAs(puts(2, 74), 74), true},
		{"records and undo cost 150, one undone", atLimit, true},
		{"records and undo cost 151", puts(1, 75), false},
		{"records and undo cost 151, all durable", safeAs(puts(1, 75), 75), false},
		{"records and undo cost 151, three transactions", puts(3, 74), false},
		{"records and undo cost 151 by a load", afterLoad, false},
		{"75 records, committed and durable", safeAs(appended(puts(1, 75), done), 76), true},
		{"75 records, committed, and 75 more undo them before", safeAs(appended(puts(1, 75), done), 75), true},
		{"76 records, committed and durable", safeAs(appended(puts(1, 76), done), 77), true},
		{"76 records, committed, and 76 more undo them before", safeAs(appended(puts(1, 76), done), 76), false},
		{"150 records of no cost", ends, true},
		{"151 records", appended(ends, done), false},
	}
}

func prefixCases(t *testing.T) []engineCase {
	free := map[int]impl.Page{0: page(1, 0, 0, 0, 0)}
	ahead := map[int]impl.Page{0: page(2, 2, 0, 0, 0)}
	onFree := []string{"put 1 0 0 0 5 0 0", "own 1 0 -1 0 2 1 0"}
	wrongOld := []string{"put 1 0 0 5 0 0 0", "done 1 0 0 0 0 1 0"}
	twoOld := []string{"own 2 1 -1 0 1 0 0", "put 1 0 0 5 0 0 0", "done 2 0 0 0 0 1 0", "end 1 0 0 0 0 2 0", "own 1 3 -1 0 2 0 0"}
	return []engineCase{
		{"value put in a free page", onDisk(t, 0, nil, onFree[0]), false},
		{"value put in a free page, durable", onDisk(t, 1, nil, onFree[0]), false},
		{"value put in a free page, committed", onDisk(t, 2, nil, onFree[0], "done 1 0 0 0 0 1 0"), false},
		{"value put in a free page, allocated later", onDisk(t, 0, nil, onFree...), false},
		{"value put in a free page, allocated later, durable", onDisk(t, 2, nil, onFree...), false},
		{"value put in a free page, but on disk so", onDisk(t, 1, free, onFree[0]), true},
		{"value put in a free page, but on disk behind it", onDisk(t, 2, ahead, onFree...), true},
		{"0 put in a free page", onDisk(t, 0, nil, "put 1 0 0 0 0 0 0"), true},
		{"value undone in a free page", onDisk(t, 0, nil, "undo 1 0 0 0 5 0 0"), false},
		{"free page cannot be rolled back", onDisk(t, 0, nil, wrongOld[0]), false},
		{"free page cannot be rolled back, durable", onDisk(t, 1, nil, wrongOld[0]), false},
		{"free page cannot be rolled back, crashed", editedEngine(onDisk(t, 1, nil, wrongOld[0]), func(e *impl.Engine) { e.Down, e.Mem = true, copyPages(e.Disk) }), false},
		{"free page cannot be rolled back after a crash", onDisk(t, 0, nil, wrongOld...), false},
		{"free page cannot be rolled back after a crash, one record durable", onDisk(t, 1, nil, wrongOld...), false},
		{"free page never rolled back, as the commit is durable", onDisk(t, 2, nil, wrongOld...), true},
		{"free page cannot be rolled back before the end", onDisk(t, 3, nil, twoOld...), false},
		{"free page never rolled back, as the end is durable", onDisk(t, 4, nil, twoOld...), true},
		{"allocated page rolled back", onDisk(t, 0, map[int]impl.Page{0: page(0, 1, 5, 0, 0)}, wrongOld...), true},
		{"committed record undone by a Next behind it", onDisk(t, 4, map[int]impl.Page{0: page(0, 1, 0, 0, 0)},
			"put 1 0 0 5 3 0 0", "done 1 0 0 0 0 1 0", "own 2 0 -1 1 0 0 0", "done 2 0 0 0 0 3 0", "undo 1 1 0 0 0 0 2"), false},
		{"the same with a Next of 0", onDisk(t, 4, map[int]impl.Page{0: page(0, 1, 0, 0, 0)},
			"put 1 0 0 5 3 0 0", "done 1 0 0 0 0 1 0", "own 2 0 -1 1 0 0 0", "done 2 0 0 0 0 3 0", "undo 1 1 0 0 0 0 0"), true},
		// Transaction 1 frees page 0 again before 2 would put 5 in it, or, with the numbers exchanged, after that.
		{"rolled back in order of transactions, which fails", onDisk(t, 5, map[int]impl.Page{0: page(0, 0, 0, 0, 0)},
			"own 1 0 -1 0 1 0 0", "done 1 0 0 0 0 1 0", "put 2 0 0 5 3 0 0", "done 2 0 0 0 0 3 0", "undo 1 1 0 0 0 0 1", "undo 2 2 0 0 0 0 3"), false},
		{"rolled back in order of transactions, which holds", onDisk(t, 5, map[int]impl.Page{0: page(0, 0, 0, 0, 0)},
			"own 2 0 -1 0 1 0 0", "done 2 0 0 0 0 1 0", "put 1 0 0 5 3 0 0", "done 1 0 0 0 0 3 0", "undo 2 1 0 0 0 0 1", "undo 1 2 0 0 0 0 3"), true},
	}
}

func lockCases(t *testing.T) []engineCase {
	owned := map[int]impl.Page{0: page(0, 1, 0, 0, 0)}
	return []engineCase{
		{"page locked by two", onDisk(t, 0, owned, "put 1 0 0 0 5 0 0", "put 2 0 1 0 5 0 0"), false},
		{"page locked by two, crashed", editedEngine(onDisk(t, 2, owned, "put 1 0 0 0 5 0 0", "put 3 0 1 0 5 0 0"), func(e *impl.Engine) { e.Down, e.Mem = true, copyPages(e.Disk) }), false},
		{"page locked by two, once by a rollback", onDisk(t, 0, owned, "put 1 0 0 0 5 0 0", "undo 1 0 0 0 0 1 0", "put 2 0 1 0 5 0 0"), false},
		{"page locked by two, once by a load", onDisk(t, 2, map[int]impl.Page{0: page(2, 1, 5, 0, 0)}, "put 1 0 0 0 5 0 0", "load 3 0 0 0 0 0 0"), false},
		{"page locked by one after another", onDisk(t, 0, owned, "put 1 0 0 0 5 0 0", "done 1 0 0 0 0 1 0", "put 2 0 1 0 5 0 0"), true},
		{"page locked by one after a rollback", onDisk(t, 0, owned, "put 1 0 0 0 5 0 0", "undo 1 0 0 0 0 1 0", "end 1 0 0 0 0 2 0", "put 2 0 1 0 5 0 0"), true},
		{"page locked by one twice", onDisk(t, 0, owned, "put 1 0 0 0 5 0 0", "put 1 0 1 0 5 1 0"), true},
	}
}

func loadCases(t *testing.T) []engineCase {
	e := loaded()
	written := runWrite(e, 2)
	further := runPut(e, 1, 2, 1, 9)
	undone := appended(e, backIn(e.Log, 1))
	// Page 2 in memory as before its third record, which is on disk.
	behind := editedEngine(runWrite(further, 2), func(e *impl.Engine) { e.Mem[2] = page(2, 3, 4, 5, 6) })
	notWritten := appended(e, rec(impl.RecDone, 1, 0, 0, 0, 0, 0, 0))
	return []engineCase{
		{"loaded", e, true},
		{"loaded, other values", inMem(e, 2, page(2, 3, 1, 0, 9)), true},
		{"loaded, no values", inMem(e, 2, page(2, 3, 0, 0, 0)), true},
		{"loaded, Lsn before the load", inMem(e, 2, page(1, 3, 4, 5, 6)), false},
		{"loaded, Lsn 0", inMem(e, 2, page(0, 3, 4, 5, 6)), false},
		{"loaded, Lsn above the load", inMem(e, 2, page(3, 3, 4, 5, 6)), false},
		{"loaded, another owner", inMem(e, 2, page(2, 1, 4, 5, 6)), false},
		{"loaded, free", inMem(e, 2, page(2, 0, 0, 0, 0)), false},
		{"loaded, as redone", inMem(e, 2, page(1, 3, 0, 0, 0)), false},
		{"loaded, allocation written", onDiskLoaded(t, page(1, 3, 0, 0, 0), 1), true},
		{"loaded, allocation written, another owner", onDiskLoaded(t, page(1, 2, 0, 0, 0), 1), false},
		{"loaded, written", written, true},
		{"loaded, written, other values", inMem(written, 2, page(2, 3, 4, 5, 7)), false},
		{"loaded, written, another owner", inMem(written, 2, page(2, 1, 4, 5, 6)), false},
		{"loaded, then a value put", further, true},
		{"loaded, then a value put, other values", inMem(further, 2, page(3, 3, 1, 1, 1)), true},
		{"loaded, then a value put, Lsn of the load", inMem(further, 2, page(2, 3, 4, 9, 6)), false},
		{"loaded, written, then a value put", runPut(written, 1, 2, 1, 9), true},
		{"loaded, written, then a value put, other values", inMem(runPut(written, 1, 2, 1, 9), 2, page(3, 3, 8, 8, 8)), true},
		{"loaded, then a value put, written, before that in memory", behind, false},
		{"loaded, allocation undone", undone, true},
		{"loaded, allocation undone, Lsn of the load", inMem(undone, 2, page(2, 0, 0, 0, 0)), false},
		{"loaded, allocation undone, owner of before", inMem(undone, 2, page(3, 3, 0, 0, 0)), false},
		{"loaded, another page changed", inMem(e, 0, page(0, 1, 0, 0, 0)), false},
		{"loaded, committed and written", runDone(e, 1), true},
		{"loaded, committed and not written", notWritten, false},
		{"loaded, committed and not written, as redone", inMem(notWritten, 2, page(1, 3, 0, 0, 0)), true},
		{"loaded, crashed", runFall(e, 2), true},
		{"loaded, written, crashed", runFall(written, 2), true},
		{"loaded, crashed, values in memory", editedEngine(e, func(e *impl.Engine) { e.Down = true }), false},
	}
}

// onDiskLoaded is the engine of loaded with another page on disk.
func onDiskLoaded(t *testing.T, p impl.Page, safe int) impl.Engine {
	t.Helper()
	return editedEngine(loaded(), func(e *impl.Engine) { e.Disk[2], e.Safe = p, safe })
}

func memCases() []engineCase {
	e := filled()
	fallen := runFall(e, len(e.Log))
	cases := []engineCase{
		{"three transactions", e, true},
		{"three transactions, crashed", fallen, true},
		{"three transactions, crashed with fewer records", runFall(e, 0), true},
		{"crashed, memory of before", editedEngine(e, func(e *impl.Engine) { e.Down = true }), false},
		{"crashed, but not said so", editedEngine(fallen, func(e *impl.Engine) { e.Down = false }), false},
		{"crashed, redone in memory", editedEngine(fallen, func(e *impl.Engine) { e.Mem, _ = redoneIn(e.Disk, e.Log) }), false},
		{"crashed, all written", runFall(runWrite(runWrite(runWrite(e, 0), 1), 2), 99), true},
		{"crashed, another Lsn in memory", editedEngine(fallen, func(e *impl.Engine) { e.Mem[4].Lsn = 1 }), false},
		{"log that is none", editedEngine(e, func(e *impl.Engine) { e.Log[3].Prev = 0 }), false},
		{"invalid record", editedEngine(e, func(e *impl.Engine) { e.Log[3].Tx = 4 }), false},
	}
	for number := range 5 {
		for _, lsn := range []int{-1, e.Mem[number].Lsn + 1, len(e.Log), len(e.Log) + 1, 150, 151} {
			if lsn != e.Mem[number].Lsn {
				cases = append(cases, engineCase{"Lsn that the log does not tell", editedEngine(e, func(e *impl.Engine) { e.Mem[number].Lsn = lsn }), false})
			}
		}
		for _, p := range invalidPages {
			cases = append(cases,
				engineCase{"invalid page in memory", inMem(e, number, p), false},
				engineCase{"invalid page on disk", editedEngine(e, func(e *impl.Engine) { e.Disk[number] = p }), false},
				engineCase{"invalid page, crashed", editedEngine(fallen, func(e *impl.Engine) { e.Disk[number], e.Mem[number] = p, p }), false},
			)
		}
	}
	for _, count := range []int{0, 1, 4, 6, 10} {
		cases = append(cases,
			engineCase{"other number of pages on disk", editedEngine(e, func(e *impl.Engine) { e.Disk = countedPages(e.Disk, count) }), false},
			engineCase{"other number of pages in memory", editedEngine(e, func(e *impl.Engine) { e.Mem = countedPages(e.Mem, count) }), false},
			engineCase{"other number of pages", editedEngine(e, func(e *impl.Engine) { e.Disk, e.Mem = countedPages(e.Disk, count), countedPages(e.Mem, count) }), false},
			engineCase{"other number of pages, crashed", editedEngine(fallen, func(e *impl.Engine) { e.Disk, e.Mem = countedPages(e.Disk, count), countedPages(e.Mem, count) }), false},
		)
	}
	return cases
}

// countedPages is so many pages: the first of these, then new ones.
func countedPages(pages []impl.Page, count int) []impl.Page {
	for len(pages) < count {
		pages = append(pages, page(0, 0, 0, 0, 0))
	}
	return pages[:count]
}

func engineCases(t *testing.T) []engineCase {
	return slices.Concat(limitCases(t), prefixCases(t), lockCases(t), loadCases(t), memCases())
}

// Every condition for a valid engine, on engines written out.
func TestEngineOkWrittenOut(t *testing.T) {
	for _, c := range engineCases(t) {
		if isEngine(c.engine) != c.valid {
			t.Errorf("%s: the model says %v of %v", c.name, isEngine(c.engine), c.engine)
		}
		if ok := impl.EngineOk(c.engine); ok != c.valid {
			t.Errorf("%s: EngineOk is %v, of %v", c.name, ok, c.engine)
		}
	}
}

// What each function returns for an invalid engine.
func TestInvalidEngines(t *testing.T) {
	for _, c := range engineCases(t) {
		if c.valid {
			continue
		}
		for page := -1; page <= 5; page++ {
			if holder := impl.EngineLock(c.engine, page); holder != 0 {
				t.Errorf("%s: EngineLock of page %d is %d", c.name, page, holder)
			}
			if e, ok := impl.EngineWrite(c.engine, page); ok || !sameEngine(e, impl.Engine{}) {
				t.Errorf("%s: EngineWrite of page %d is %v, %v", c.name, page, e, ok)
			}
		}
		for table := -1; table <= 4; table++ {
			if count, sum := impl.EngineSum(c.engine, table); count != 0 || sum != 0 {
				t.Errorf("%s: EngineSum of table %d is %d, %d", c.name, table, count, sum)
			}
		}
		if e, ok := impl.EngineForce(c.engine); ok || !sameEngine(e, impl.Engine{}) {
			t.Errorf("%s: EngineForce is %v, %v", c.name, e, ok)
		}
		if pages := impl.EngineRedo(c.engine); len(pages) != 0 {
			t.Errorf("%s: EngineRedo is %v", c.name, pages)
		}
		if pages := impl.EngineDirty(c.engine); len(pages) != 0 {
			t.Errorf("%s: EngineDirty is %v", c.name, pages)
		}
	}
}

// The runs have what the other tests need: else these would check nothing.
func TestRunsHaveAllKindsOfEngines(t *testing.T) {
	seen := map[string]int{}
	for e := range runs {
		open := len(impl.LogOpen(e.Log))
		redone, _ := redoneIn(e.Disk, e.Log)
		for name, is := range map[string]bool{
			"crashed": e.Down, "crashed with open transactions": e.Down && open > 0, "none open": open == 0 && len(e.Log) > 0 && !e.Down,
			"one open": open == 1, "two open": open == 2, "three open": open == 3,
			"not all durable": e.Safe < len(e.Log), "all durable": e.Safe == len(e.Log) && e.Safe > 0, "some durable": 0 < e.Safe && e.Safe < len(e.Log),
			"pages to write": !e.Down && !samePages(e.Disk, e.Mem), "all written": !e.Down && len(e.Log) > 0 && samePages(e.Disk, e.Mem),
			"loaded": !e.Down && !samePages(redone, e.Mem), "full": len(e.Log)+costIn(e.Log) >= 149,
		} {
			if is {
				seen[name]++
			}
		}
	}
	if len(seen) != 13 {
		t.Errorf("the runs only have %v", seen)
	}
}

func TestEnginesOfRunsAreValid(t *testing.T) {
	for e := range runs {
		if !impl.EngineOk(e) || !isEngine(e) {
			t.Fatalf("EngineOk is %v, and the model says %v, of %v", impl.EngineOk(e), isEngine(e), e)
		}
	}
}

// editPage changes one number of a page.
func editPage(p *impl.Page, records int, dice *rand.Rand) {
	switch dice.IntN(4) {
	case 0:
		p.Lsn = dice.IntN(records+3) - 1
	case 1:
		p.Owner = dice.IntN(6) - 1
	case 2:
		p.Vals = []int{0, 0, 0}
	default:
		p.Vals[dice.IntN(3)] = dice.IntN(12) - 1
	}
}

// editRec changes one number of a record.
func editRec(r *impl.Rec, records int, dice *rand.Rand) {
	switch dice.IntN(7) {
	case 0:
		r.Kind = dice.IntN(8)
	case 1:
		r.Page = dice.IntN(6)
	case 2:
		r.Slot = dice.IntN(4) - 1
	case 3:
		r.Old = dice.IntN(5)
	case 4:
		r.New = dice.IntN(5)
	case 5:
		r.Next = dice.IntN(records + 1)
	default:
		r.Tx, r.Prev = 1+dice.IntN(3), dice.IntN(records+1)
	}
}

// editEngine changes one thing of an engine, or several, so that some of what it breaks is mended.
func editEngine(e *impl.Engine, dice *rand.Rand) {
	number := dice.IntN(5)
	switch kind := dice.IntN(8); {
	case kind == 0:
		e.Safe = dice.IntN(len(e.Log)+3) - 1
	case kind == 1:
		e.Down = !e.Down
	case kind == 2:
		editPage(&e.Mem[number], len(e.Log), dice)
	case kind == 3:
		editPage(&e.Disk[number], len(e.Log), dice)
	case kind == 4:
		e.Log = e.Log[:dice.IntN(len(e.Log)+1)]
	case len(e.Log) > 0:
		editRec(&e.Log[dice.IntN(len(e.Log))], len(e.Log), dice)
	}
	redone, ok := []impl.Page(nil), false
	if isLog(e.Log) {
		redone, ok = redoneIn(e.Disk, e.Log)
	}
	if mend := dice.IntN(3); mend == 0 && ok && !e.Down {
		for number := range 5 {
			if !loadedIn(e.Log, number) {
				e.Mem[number] = redone[number]
			}
		}
	} else if mend == 1 && e.Down {
		e.Mem = copyPages(e.Disk)
	}
}

// EngineOk is what the document says, of engines near valid ones.
func TestEngineOkOfEditedEngines(t *testing.T) {
	dice := rand.New(rand.NewPCG(4, 33))
	valid, invalid := 0, 0
	for e := range runs {
		edits := 60
		if len(e.Log) > 40 {
			edits = 6
		}
		for range edits {
			other := editedEngine(e, func(e *impl.Engine) { editEngine(e, dice) })
			if sameEngine(e, other) {
				continue
			}
			want := isEngine(other)
			if want {
				valid++
			} else {
				invalid++
			}
			if ok := impl.EngineOk(other); ok != want {
				t.Fatalf("EngineOk is %v, want %v, of %v, which was %v", ok, want, other, e)
			}
		}
	}
	if valid < 1000 || invalid < 1000 {
		t.Errorf("%d edited engines are valid and %d are not", valid, invalid)
	}
}

// EngineOk is what the document says, of all short logs, on free pages and on allocated ones.
func TestEngineOkOfShortLogs(t *testing.T) {
	valid, invalid := 0, 0
	disks := [][]impl.Page{newPages(nil), newPages(nil), newPages(map[int]impl.Page{2: page(1, 1, 0, 0, 0), 4: page(2, 3, 0, 0, 7)})}
	for number := range 5 {
		disks[1][number] = page(0, 2, 3, 0, 0)
	}
	for l := range shortLogs(3) {
		for _, disk := range disks {
			mem, ok := redoneIn(disk, l)
			if !ok {
				mem = disk
			}
			for safe := range len(l) + 1 {
				e := impl.Engine{Disk: disk, Mem: mem, Log: l, Safe: safe}
				want := isEngine(e)
				if want {
					valid++
				} else {
					invalid++
				}
				if ok := impl.EngineOk(e); ok != want {
					t.Fatalf("EngineOk is %v, want %v, of %v", ok, want, e)
				}
			}
		}
	}
	if valid < 1000 || invalid < 1000 {
		t.Errorf("%d engines are valid and %d are not", valid, invalid)
	}
}

// Promise 23: EngineLock is the transaction whose LogPages contains the page; no page is locked by two.
func TestEngineLock(t *testing.T) {
	e := filled()
	for page, want := range []int{0, 3, 2, 0, 0} {
		if holder := impl.EngineLock(e, page); holder != want {
			t.Errorf("EngineLock of page %d is %d, want %d", page, holder, want)
		}
	}
	for e := range runs {
		for page := range 5 {
			var holders []int
			for tx := 1; tx <= 3; tx++ {
				if slices.Contains(impl.LogPages(e.Log, tx), page) {
					holders = append(holders, tx)
				}
			}
			want := 0
			if len(holders) > 0 {
				want = holders[0]
			}
			if holder := impl.EngineLock(e, page); holder != want || len(holders) > 1 {
				t.Fatalf("EngineLock of page %d is %d, and %v lock it, of %v", page, holder, holders, e)
			}
		}
	}
}

func TestUnknownPagesAndTables(t *testing.T) {
	// Transaction 3 locks the last page, and 1 the first: none of them locks a page beside these.
	e := runOwn(runOwn(newEngine(), 3, 4, 3), 1, 0, 1)
	e = runPut(runPut(e, 3, 4, 0, 9), 1, 0, 0, 9)
	for _, n := range []int{math.MinInt, -2, -1, 5, 6, 150, math.MaxInt} {
		if holder := impl.EngineLock(e, n); holder != 0 {
			t.Errorf("EngineLock of page %d is %d", n, holder)
		}
		if written, ok := impl.EngineWrite(e, n); ok || !sameEngine(written, impl.Engine{}) {
			t.Errorf("EngineWrite of page %d is %v, %v", n, written, ok)
		}
	}
	for _, n := range []int{math.MinInt, -1, 0, 4, 5, 150, math.MaxInt} {
		if count, sum := impl.EngineSum(e, n); count != 0 || sum != 0 {
			t.Errorf("EngineSum of table %d is %d, %d", n, count, sum)
		}
	}
}

// Promise 24: EngineWrite changes the page on disk and Safe, and nothing else; it fails for a crashed engine.
func TestEngineWrite(t *testing.T) {
	for e := range runs {
		for page := range 5 {
			written, ok := impl.EngineWrite(e, page)
			if e.Down {
				if ok || !sameEngine(written, impl.Engine{}) {
					t.Fatalf("EngineWrite of page %d of a crashed engine is %v, %v", page, written, ok)
				}
				continue
			}
			if !ok || !sameEngine(written, runWrite(e, page)) || !impl.EngineOk(written) {
				t.Fatalf("EngineWrite of page %d of %v is %v, %v", page, e, written, ok)
			}
			if !samePage(written.Disk[page], e.Mem[page]) || written.Safe < e.Mem[page].Lsn || written.Safe < e.Safe {
				t.Fatalf("EngineWrite of page %d of %v is %v", page, e, written)
			}
		}
	}
}

func TestEngineWriteMakesNoMoreRecordsDurableThanNeeded(t *testing.T) {
	e := puts(2, 9)
	for _, c := range []struct{ safe, page, want int }{{0, 1, 9}, {0, 2, 8}, {7, 2, 8}, {8, 2, 8}, {9, 2, 9}, {0, 0, 0}, {5, 4, 5}} {
		if written, ok := impl.EngineWrite(safeAs(e, c.safe), c.page); !ok || written.Safe != c.want {
			t.Errorf("EngineWrite of page %d with Safe %d: Safe is %d, want %d", c.page, c.safe, written.Safe, c.want)
		}
	}
}

// Promise 25: EngineForce makes all records durable and changes nothing else; it fails for a crashed engine.
func TestEngineForce(t *testing.T) {
	for e := range runs {
		forced, ok := impl.EngineForce(e)
		if e.Down {
			if ok || !sameEngine(forced, impl.Engine{}) {
				t.Fatalf("EngineForce of a crashed engine is %v, %v", forced, ok)
			}
			continue
		}
		if !ok || !sameEngine(forced, safeAs(e, len(e.Log))) || !impl.EngineOk(forced) {
			t.Fatalf("EngineForce of %v is %v, %v", e, forced, ok)
		}
	}
}

// Promise 26: a valid engine is invalid with an Lsn on disk above Safe.
func TestDiskIsNotAheadOfTheLog(t *testing.T) {
	for e := range runs {
		for page := range 5 {
			if e.Disk[page].Lsn > e.Safe {
				t.Fatalf("page %d on disk is ahead in %v", page, e)
			}
			ahead := editedEngine(e, func(e *impl.Engine) {
				e.Disk[page].Lsn = e.Safe + 1
				e.Mem[page].Lsn = max(e.Mem[page].Lsn, e.Safe+1)
			})
			if impl.EngineOk(ahead) {
				t.Fatalf("EngineOk is true of %v", ahead)
			}
		}
		if written, ok := impl.EngineWrite(e, 3); ok && impl.EngineOk(safeAs(written, written.Mem[3].Lsn-1)) {
			t.Fatalf("a written page is ahead in %v", written)
		}
	}
}

// Promise 27: if no page is loaded by an open transaction, EngineRedo is the memory.
func TestEngineRedoIsTheMemory(t *testing.T) {
	if e := filled(); !samePages(impl.EngineRedo(e), e.Mem) {
		t.Errorf("EngineRedo is %v, want %v", impl.EngineRedo(e), e.Mem)
	}
	for e := range runs {
		if e.Down {
			continue
		}
		redone := impl.EngineRedo(e)
		for page := range 5 {
			if !loadedIn(e.Log, page) && !samePage(redone[page], e.Mem[page]) {
				t.Fatalf("EngineRedo has %v of page %d, of %v", redone[page], page, e)
			}
		}
	}
}

// Promise 28: EngineRedo is RecDo of each modifying record, in order, where it applies.
func TestEngineRedo(t *testing.T) {
	want := newPages(map[int]impl.Page{0: page(2, 1, 7, 0, 0), 1: page(8, 2, 0, 0, 6), 2: page(9, 1, 8, 9, 0)})
	if redone := impl.EngineRedo(filled()); !samePages(redone, want) {
		t.Errorf("EngineRedo is %v, want %v", redone, want)
	}
	want = newPages(map[int]impl.Page{2: page(1, 3, 0, 0, 0)})
	if redone := impl.EngineRedo(loaded()); !samePages(redone, want) {
		t.Errorf("EngineRedo of a loaded page is %v, want %v", redone, want)
	}
	for e := range runs {
		want := copyPages(e.Disk)
		for i, r := range e.Log {
			if p, ok := impl.RecDo(want[r.Page], r, i+1); ok {
				want[r.Page] = p
			}
		}
		if redone := impl.EngineRedo(e); !samePages(redone, want) {
			t.Fatalf("EngineRedo is %v, want %v, of %v", redone, want, e)
		}
	}
}

// Goroutines do not show in a result: it is the same each time.
func TestEngineRedoIsTheSameEachTime(t *testing.T) {
	e := runFall(puts(3, 70), 70)
	want, _ := redoneIn(e.Disk, e.Log)
	for range 300 {
		if redone := impl.EngineRedo(e); !samePages(redone, want) {
			t.Fatalf("EngineRedo is %v, want %v", redone, want)
		}
	}
}

// Promise 29: EngineDirty lists exactly the pages with another Lsn in memory; after EngineWrite of each there are none.
func TestEngineDirty(t *testing.T) {
	if dirty := impl.EngineDirty(filled()); !slices.Equal(dirty, []int{0, 1, 2}) {
		t.Errorf("EngineDirty is %v", dirty)
	}
	for e := range runs {
		var want []int
		for page := range 5 {
			if e.Mem[page].Lsn != e.Disk[page].Lsn {
				want = append(want, page)
			}
		}
		dirty := impl.EngineDirty(e)
		if !slices.Equal(dirty, want) || e.Down && len(dirty) > 0 {
			t.Fatalf("EngineDirty is %v, want %v, of %v", dirty, want, e)
		}
		clean := e
		for _, page := range dirty {
			clean, _ = impl.EngineWrite(clean, page)
		}
		if left := impl.EngineDirty(clean); len(left) > 0 || !impl.EngineOk(clean) || !samePages(clean.Disk, clean.Mem) {
			t.Fatalf("EngineDirty is %v, after EngineWrite of %v, of %v", left, dirty, clean)
		}
	}
}

// A page may have its old contents and another Lsn: it is dirty nevertheless.
func TestPageWithOldContentsIsDirty(t *testing.T) {
	e := onDisk(t, 0, map[int]impl.Page{3: page(0, 1, 5, 0, 0)}, "put 1 3 0 5 5 0 0")
	if dirty := impl.EngineDirty(e); !slices.Equal(dirty, []int{3}) {
		t.Errorf("EngineDirty is %v", dirty)
	}
}

// Promise 30: EngineSum of all tables together counts all nonzero values in memory and their sum.
func TestEngineSum(t *testing.T) {
	for table, want := range [][2]int{{0, 0}, {3, 24}, {1, 6}, {0, 0}, {0, 0}} {
		if count, sum := impl.EngineSum(filled(), table); count != want[0] || sum != want[1] {
			t.Errorf("EngineSum of table %d is %d, %d, want %v", table, count, sum, want)
		}
	}
	if count, sum := impl.EngineSum(loaded(), 3); count != 3 || sum != 15 {
		t.Errorf("EngineSum of a loaded page is %d, %d", count, sum)
	}
	for e := range runs {
		var counts, sums [4]int
		for _, p := range e.Mem {
			for _, v := range p.Vals {
				counts[p.Owner] += min(v, 1)
				sums[p.Owner] += v
			}
		}
		for table := range 4 {
			if count, sum := impl.EngineSum(e, table); count != counts[table] || sum != sums[table] {
				t.Fatalf("EngineSum of table %d is %d, %d, of %v", table, count, sum, e)
			}
		}
	}
}

// Promise 31: repeating EngineWrite changes nothing; writes of two pages commute.
func TestEngineWriteTwice(t *testing.T) {
	for e := range runs {
		if e.Down {
			continue
		}
		for n := range 25 {
			one, other := n/5, n%5
			if one > other {
				continue
			}
			first, _ := impl.EngineWrite(e, one)
			both, ok := impl.EngineWrite(first, other)
			if !ok || one == other && !sameEngine(both, first) {
				t.Fatalf("EngineWrite of page %d twice is %v, once %v", one, both, first)
			}
			second, _ := impl.EngineWrite(e, other)
			if swapped, ok := impl.EngineWrite(second, one); !ok || !sameEngine(swapped, both) {
				t.Fatalf("EngineWrite of pages %d and %d is %v, in the other order %v", one, other, both, swapped)
			}
		}
	}
}

// Promise 32: EngineNew is valid, with new pages, without records and locks.
func TestEngineNew(t *testing.T) {
	e := impl.EngineNew()
	if !impl.EngineOk(e) || !sameEngine(e, newEngine()) || len(e.Log) != 0 || e.Safe != 0 || e.Down {
		t.Errorf("EngineNew is %v", e)
	}
	for page := range 5 {
		if impl.EngineLock(e, page) != 0 || !samePage(e.Disk[page], impl.PageNew()) || !samePage(e.Mem[page], impl.PageNew()) {
			t.Errorf("page %d of EngineNew: %v, %v, locked by %d", page, e.Disk[page], e.Mem[page], impl.EngineLock(e, page))
		}
	}
	if len(impl.EngineDirty(e)) != 0 || !samePages(impl.EngineRedo(e), newPages(nil)) {
		t.Errorf("EngineNew has dirty pages %v, and redone ones %v", impl.EngineDirty(e), impl.EngineRedo(e))
	}
}

// Promise 32: every valid engine has as many pages as a new one.
func TestEngineWithOtherNumberOfPages(t *testing.T) {
	for e := range runs {
		fewer := editedEngine(e, func(e *impl.Engine) { e.Disk, e.Mem = e.Disk[:4], e.Mem[:4] })
		more := editedEngine(e, func(e *impl.Engine) { e.Disk, e.Mem = countedPages(e.Disk, 6), countedPages(e.Mem, 6) })
		if impl.EngineOk(fewer) || impl.EngineOk(more) || len(impl.EngineRedo(e)) != 5 {
			t.Fatalf("EngineOk with fewer pages is %v, with more %v, of %v", impl.EngineOk(fewer), impl.EngineOk(more), e)
		}
	}
}

// Promise 33: without open transactions, another value in memory is invalid.
func TestOtherValueInMemory(t *testing.T) {
	checked := 0
	for e := range runs {
		if e.Down || len(impl.LogOpen(e.Log)) > 0 {
			continue
		}
		for n := range 15 {
			number, slot := n/3, n%3
			for val := range 10 {
				if val == e.Mem[number].Vals[slot] {
					continue
				}
				checked++
				if other := inMem(e, number, withSlot(e.Mem[number], slot, val)); impl.EngineOk(other) {
					t.Fatalf("EngineOk is true with %d in slot %d of page %d, of %v", val, slot, number, e)
				}
			}
		}
	}
	if checked == 0 {
		t.Error("no run has an engine without open transactions")
	}
}

// A nil slice and an empty slice are the same as an argument.
func TestEmptySlicesInEngines(t *testing.T) {
	for _, l := range [][]impl.Rec{nil, {}, make([]impl.Rec, 0, 3)} {
		e := newEngine()
		e.Log = l
		if written, ok := impl.EngineWrite(e, 0); !impl.EngineOk(e) || !ok || !sameEngine(written, newEngine()) {
			t.Errorf("EngineOk is %v, EngineWrite %v, of %v", impl.EngineOk(e), written, e)
		}
	}
	for _, pages := range [][]impl.Page{nil, {}} {
		if e := (impl.Engine{Disk: pages, Mem: pages}); impl.EngineOk(e) {
			t.Errorf("EngineOk is true of %v", e)
		}
	}
}

// roomy is a copy of an engine whose slices have room behind their ends, with marks in it.
func roomy(e impl.Engine) impl.Engine {
	e = copyOf(e)
	for _, pages := range []*[]impl.Page{&e.Disk, &e.Mem} {
		for n := range *pages {
			(*pages)[n].Vals = append((*pages)[n].Vals, 77, 77)[:len((*pages)[n].Vals)]
		}
		*pages = append(*pages, page(77, 77, 77), page(77, 77, 77))[:len(*pages)]
	}
	e.Log = append(e.Log, impl.Rec{Kind: 77}, impl.Rec{Kind: 77})[:len(e.Log)]
	return e
}

// overwrite writes into all memory of an engine, also behind the ends of its slices.
func overwrite(e impl.Engine) {
	for _, pages := range [][]impl.Page{e.Disk[:cap(e.Disk)], e.Mem[:cap(e.Mem)]} {
		for n := range pages {
			for slot := range pages[n].Vals[:cap(pages[n].Vals)] {
				pages[n].Vals[:cap(pages[n].Vals)][slot] = 88
			}
			pages[n].Lsn, pages[n].Owner = 88, 88
		}
	}
	for i := range e.Log[:cap(e.Log)] {
		e.Log[:cap(e.Log)][i] = impl.Rec{Kind: 88}
	}
}

// marked says whether the marks of roomy are there.
func marked(e impl.Engine) bool {
	for _, pages := range [][]impl.Page{e.Disk, e.Mem} {
		for _, p := range pages {
			if behind := p.Vals[len(p.Vals) : len(p.Vals)+2]; behind[0] != 77 || behind[1] != 77 {
				return false
			}
		}
		if behind := pages[len(pages) : len(pages)+2]; behind[0].Lsn != 77 || behind[1].Lsn != 77 {
			return false
		}
	}
	behind := e.Log[len(e.Log) : len(e.Log)+2]
	return behind[0].Kind == 77 && behind[1].Kind == 77
}

// engineCalls is all functions that return an engine or pages, as functions that return an engine.
var engineCalls = map[string]func(e impl.Engine) impl.Engine{
	"EngineNew":   func(impl.Engine) impl.Engine { return impl.EngineNew() },
	"EngineWrite": func(e impl.Engine) impl.Engine { f, _ := impl.EngineWrite(e, 2); return f },
	"EngineForce": func(e impl.Engine) impl.Engine { f, _ := impl.EngineForce(e); return f },
	"EngineRedo":  func(e impl.Engine) impl.Engine { return impl.Engine{Disk: impl.EngineRedo(e)} },
	"ChangePut":   func(e impl.Engine) impl.Engine { f, _ := impl.ChangePut(e, 2, 2, 1, 3); return f },
	"ChangeOwn":   func(e impl.Engine) impl.Engine { f, _ := impl.ChangeOwn(e, 2, 4, 3); return f },
	"ChangeLoad":  func(e impl.Engine) impl.Engine { f, _ := impl.ChangeLoad(e, 1, 3, []int{1, 2, 3}); return f },
	"refused":     func(e impl.Engine) impl.Engine { f, _ := impl.ChangePut(e, 2, 1, 1, 3); return f },
	"EndDone":     func(e impl.Engine) impl.Engine { f, _ := impl.EndDone(e, 2); return f },
	"EndDone 1":   func(e impl.Engine) impl.Engine { f, _ := impl.EndDone(e, 1); return f },
	"EndStep":     func(e impl.Engine) impl.Engine { f, _ := impl.EndStep(e, 2); return f },
	"EndStep 1":   func(e impl.Engine) impl.Engine { f, _ := impl.EndStep(e, 1); return f },
	"EndUndo":     func(e impl.Engine) impl.Engine { f, _ := impl.EndUndo(e, 2); return f },
	"EndUndo 1":   func(e impl.Engine) impl.Engine { f, _ := impl.EndUndo(e, 1); return f },
	"not open":    func(e impl.Engine) impl.Engine { f, _ := impl.EndUndo(e, 4); return f },
	"RiseFall":    func(e impl.Engine) impl.Engine { f, _ := impl.RiseFall(e, 8); return f },
	"RiseFall 99": func(e impl.Engine) impl.Engine { f, _ := impl.RiseFall(e, 99); return f },
	"RiseUp":      func(e impl.Engine) impl.Engine { f, _ := impl.RiseUp(e, 99); return f },
	"RiseUp 1":    func(e impl.Engine) impl.Engine { f, _ := impl.RiseUp(e, 1); return f },
	"RiseUp 0":    func(e impl.Engine) impl.Engine { f, _ := impl.RiseUp(e, 0); return f },
	"EvPut":       func(e impl.Engine) impl.Engine { return do(e, "put 2 2 1 3") },
	"EvOwn":       func(e impl.Engine) impl.Engine { return do(e, "own 2 4 3") },
	"EvLoad":      func(e impl.Engine) impl.Engine { return do(e, "load 1 3 1 2 3") },
	"EvDone":      func(e impl.Engine) impl.Engine { return do(e, "done 1") },
	"EvUndo":      func(e impl.Engine) impl.Engine { return do(e, "undo 2") },
	"EvWrite":     func(e impl.Engine) impl.Engine { return do(e, "write 2") },
	"EvWrite 5":   func(e impl.Engine) impl.Engine { return do(e, "write 5") },
	"EvForce":     func(e impl.Engine) impl.Engine { return do(e, "force") },
	"EvFall":      func(e impl.Engine) impl.Engine { return do(e, "fall 8") },
	"EvFall -1":   func(e impl.Engine) impl.Engine { return do(e, "fall -1") },
	"EvRise":      func(e impl.Engine) impl.Engine { return do(e, "rise 99") },
	"EvRise 1":    func(e impl.Engine) impl.Engine { return do(e, "rise 1") },
	"EvRise -1":   func(e impl.Engine) impl.Engine { return do(e, "rise -1") },
	"unknown":     func(e impl.Engine) impl.Engine { return impl.PlayDo(e, impl.Event{Kind: 10}) },
	"PlayTrue":    func(impl.Engine) impl.Engine { return impl.Engine{Mem: impl.PlayTrue(eventsOf("own 1 2 3, done 1"))} },
}

func TestEnginesStayUnchanged(t *testing.T) {
	for _, e := range []impl.Engine{newEngine(), filled(), loaded(), toLoad(), runFall(filled(), 0), runFall(filled(), 99), {}, safeAs(filled(), 99)} {
		argument := roomy(e)
		for name, call := range engineCalls {
			call(argument)
			if !sameEngine(argument, e) || !marked(argument) {
				t.Fatalf("%s modified its argument: %v, was %v", name, argument, e)
			}
		}
		impl.EngineOk(argument)
		impl.EngineLock(argument, 2)
		impl.EngineSum(argument, 1)
		impl.EngineDirty(argument)
		impl.ChangeMay(argument, 1, 1)
		impl.EndLoads(argument, 1)
		impl.RiseNeed(argument)
		if !sameEngine(argument, e) || !marked(argument) {
			t.Fatalf("an argument was modified: %v, was %v", argument, e)
		}
	}
}

func TestEngineResultsShareNoMemory(t *testing.T) {
	for _, e := range []impl.Engine{newEngine(), filled(), loaded(), toLoad(), runFall(newEngine(), 0), runFall(filled(), 99), runFall(runDone(filled(), 2), 0)} {
		for name, call := range engineCalls {
			argument := roomy(e)
			one, other := call(argument), call(argument)
			want := copyOf(other)
			overwrite(one)
			if !sameEngine(argument, e) || !marked(argument) {
				t.Errorf("%s: a change of the result shows in the argument: %v", name, argument)
			}
			if !sameEngine(other, want) {
				t.Errorf("%s: a change of a result shows in another: %v", name, other)
			}
			overwrite(argument)
			if !sameEngine(other, want) {
				t.Errorf("%s: a change of the argument shows in the result: %v", name, other)
			}
		}
	}
}

// No page of a result shares memory with another one of it, in memory or on disk.
func TestPagesOfEnginesShareNoMemory(t *testing.T) {
	for name, call := range engineCalls {
		for _, e := range []impl.Engine{filled(), toLoad(), runFall(filled(), 99)} {
			result := call(e)
			var pages []impl.Page
			pages = append(append(pages, result.Disk...), result.Mem...)
			for n, p := range pages {
				before := copyPages(pages)
				for slot := range p.Vals[:cap(p.Vals)] {
					p.Vals[:cap(p.Vals)][slot] = 88
				}
				for other := range pages {
					if other != n && !samePage(pages[other], before[other]) {
						t.Errorf("%s: pages %d and %d share memory", name, n, other)
					}
				}
			}
		}
	}
}

func TestDirtyPagesShareNoMemory(t *testing.T) {
	e := filled()
	one, other := impl.EngineDirty(e), impl.EngineDirty(e)
	for n := range one[:cap(one)] {
		one[:cap(one)][n] = 77
	}
	if !slices.Equal(other, []int{0, 1, 2}) {
		t.Errorf("a change of a result shows in another: %v", other)
	}
}
