package tests

import (
	"math/rand/v2"
	"slices"

	"loop.example/tabularium/impl"
)

// What the document says of engines, plainly and with its numbers written out, to compare the program with.

func copyPages(pages []impl.Page) []impl.Page {
	var copied []impl.Page
	for _, p := range pages {
		p.Vals = slices.Clone(p.Vals)
		copied = append(copied, p)
	}
	return copied
}

// copyOf is an engine in memory of its own.
func copyOf(e impl.Engine) impl.Engine {
	return impl.Engine{Disk: copyPages(e.Disk), Mem: copyPages(e.Mem), Log: slices.Clone(e.Log), Safe: e.Safe, Down: e.Down}
}

func samePages(one, other []impl.Page) bool {
	return slices.EqualFunc(one, other, samePage)
}

func sameEngine(e, f impl.Engine) bool {
	return samePages(e.Disk, f.Disk) && samePages(e.Mem, f.Mem) && slices.Equal(e.Log, f.Log) && e.Safe == f.Safe && e.Down == f.Down
}

// newPages is five new pages, but for those that are given with their numbers.
func newPages(others map[int]impl.Page) []impl.Page {
	pages := make([]impl.Page, 5)
	for n := range pages {
		pages[n] = page(0, 0, 0, 0, 0)
		if p, ok := others[n]; ok {
			pages[n] = p
		}
	}
	return copyPages(pages)
}

func newEngine() impl.Engine {
	return impl.Engine{Disk: newPages(nil), Mem: newPages(nil)}
}

// redoneIn is pages behind a log, and whether each record could be applied.
func redoneIn(disk []impl.Page, l []impl.Rec) ([]impl.Page, bool) {
	pages := copyPages(disk)
	for i, r := range l {
		if !changes(r) || pages[r.Page].Lsn >= i+1 {
			continue
		}
		p, ok := changed(pages[r.Page], r, i+1)
		if !ok {
			return nil, false
		}
		pages[r.Page] = p
	}
	return pages, true
}

// undoFrom is the next record to undo, from a record number on.
func undoFrom(l []impl.Rec, number int) int {
	if number == 0 {
		return 0
	}
	switch r := l[number-1]; r.Kind {
	case impl.RecPut, impl.RecOwn:
		return number
	case impl.RecUndo:
		return undoFrom(l, r.Next)
	default:
		return undoFrom(l, r.Prev)
	}
}

// undosIn is the numbers of the records to undo of a transaction.
func undosIn(l []impl.Rec, tx int) []int {
	var numbers []int
	for n := undoFrom(l, lastIn(l, tx)); n != 0; n = undoFrom(l, l[n-1].Prev) {
		numbers = append(numbers, n)
	}
	return numbers
}

// costIn is the undo cost of a log.
func costIn(l []impl.Rec) int {
	cost := 0
	for tx := 1; tx <= 3; tx++ {
		cost += len(undosIn(l, tx))
		if lastIn(l, tx) != 0 {
			cost++
		}
	}
	return cost
}

// holdersIn is the transactions that lock a page.
func holdersIn(l []impl.Rec, page int) []int {
	var holders []int
	for tx := 1; tx <= 3; tx++ {
		if slices.ContainsFunc(chainIn(l, tx), func(n int) bool { return l[n-1].Page == page }) {
			holders = append(holders, tx)
		}
	}
	return holders
}

// loadedIn says whether an open transaction loaded a page.
func loadedIn(l []impl.Rec, page int) bool {
	for tx := 1; tx <= 3; tx++ {
		if slices.ContainsFunc(chainIn(l, tx), func(n int) bool { return l[n-1].Kind == impl.RecLoad && l[n-1].Page == page }) {
			return true
		}
	}
	return false
}

// backIn is the record that undoes the record with a number.
func backIn(l []impl.Rec, number int) impl.Rec {
	r := l[number-1]
	return rec(impl.RecUndo, r.Tx, r.Page, r.Slot, 0, r.Old, lastIn(l, r.Tx), r.Prev)
}

// rollsBackIn says whether pages stay valid if all open transactions of a log are rolled back.
func rollsBackIn(pages []impl.Page, l []impl.Rec) bool {
	pages = slices.Clone(pages)
	number := len(l)
	for tx := 1; tx <= 3; tx++ {
		for _, n := range undosIn(l, tx) {
			number++
			p, ok := changed(pages[l[n-1].Page], backIn(l, n), number)
			if !ok {
				return false
			}
			pages[l[n-1].Page] = p
		}
	}
	return true
}

// inMemory says whether a page of an engine that has not crashed is in memory as it must be.
func inMemory(e impl.Engine, page int, redone impl.Page) bool {
	mem, disk := e.Mem[page], e.Disk[page]
	if !loadedIn(e.Log, page) {
		return samePage(mem, redone)
	}
	last := 0
	for i, r := range e.Log {
		if r.Page == page && r.Kind != impl.RecDone && r.Kind != impl.RecEnd {
			last = i + 1
		}
	}
	return mem.Owner == redone.Owner && mem.Lsn == last && (mem.Lsn > disk.Lsn || samePage(mem, disk))
}

// isEngine says whether an engine is valid.
func isEngine(e impl.Engine) bool {
	if len(e.Disk) != 5 || len(e.Mem) != 5 || !isLog(e.Log) || e.Safe < 0 || e.Safe > len(e.Log) || len(e.Log)+costIn(e.Log) > 150 {
		return false
	}
	for page := range 5 {
		if !valid(e.Disk[page]) || !valid(e.Mem[page]) || e.Disk[page].Lsn > e.Safe || len(holdersIn(e.Log, page)) > 1 {
			return false
		}
	}
	for n := e.Safe; n <= len(e.Log); n++ {
		pages, ok := redoneIn(e.Disk, e.Log[:n])
		if !ok || !rollsBackIn(pages, e.Log[:n]) {
			return false
		}
	}
	if e.Down {
		return samePages(e.Mem, e.Disk)
	}
	redone, _ := redoneIn(e.Disk, e.Log)
	for page := range 5 {
		if !inMemory(e, page, redone[page]) {
			return false
		}
	}
	return true
}

// appended is an engine with one more record, and with that record applied to its page in memory, if that gives a valid page.
func appended(e impl.Engine, r impl.Rec) impl.Engine {
	e = copyOf(e)
	e.Log = with(e.Log, r)
	if !changes(r) {
		return e
	}
	if p, ok := changed(e.Mem[r.Page], r, len(e.Log)); ok {
		e.Mem[r.Page] = p
	}
	return e
}

// ifSpace is an engine, or the one before it if the log of it leaves no space for a rollback.
func ifSpace(before, after impl.Engine) impl.Engine {
	if len(after.Log)+costIn(after.Log) > 150 {
		return before
	}
	return after
}

// The steps of a run: each is what chapters 12 to 21 say, or nothing where that is not possible.

func mayModify(e impl.Engine, tx, page int) bool {
	holders := holdersIn(e.Log, page)
	return !e.Down && (len(holders) == 0 || holders[0] == tx)
}

func runPut(e impl.Engine, tx, page, slot, val int) impl.Engine {
	if !mayModify(e, tx, page) || e.Mem[page].Owner == 0 {
		return e
	}
	return ifSpace(e, appended(e, rec(impl.RecPut, tx, page, slot, e.Mem[page].Vals[slot], val, 0, 0)))
}

func runOwn(e impl.Engine, tx, page, table int) impl.Engine {
	p := e.Mem[page]
	if !mayModify(e, tx, page) || (p.Owner == 0) == (table == 0) || !slices.Equal(p.Vals, []int{0, 0, 0}) {
		return e
	}
	return ifSpace(e, appended(e, rec(impl.RecOwn, tx, page, -1, p.Owner, table, 0, 0)))
}

func runLoad(e impl.Engine, tx, page int, vals ...int) impl.Engine {
	allocated := slices.ContainsFunc(chainIn(e.Log, tx), func(n int) bool {
		return e.Log[n-1].Kind == impl.RecOwn && e.Log[n-1].Page == page && e.Log[n-1].New != 0
	})
	p := e.Mem[page]
	if !mayModify(e, tx, page) || p.Owner == 0 || !slices.Equal(p.Vals, []int{0, 0, 0}) || !allocated {
		return e
	}
	after := appended(e, rec(impl.RecLoad, tx, page, 0, 0, 0, 0, 0))
	after.Mem[page] = impl.Page{Lsn: len(after.Log), Owner: p.Owner, Vals: slices.Clone(vals)}
	return ifSpace(e, after)
}

func runWrite(e impl.Engine, page int) impl.Engine {
	if e.Down {
		return e
	}
	e = copyOf(e)
	e.Disk[page] = copyPages(e.Mem)[page]
	e.Safe = max(e.Safe, e.Mem[page].Lsn)
	return e
}

func runForce(e impl.Engine) impl.Engine {
	if e.Down {
		return e
	}
	e = copyOf(e)
	e.Safe = len(e.Log)
	return e
}

func runDone(e impl.Engine, tx int) impl.Engine {
	if e.Down || lastIn(e.Log, tx) == 0 {
		return e
	}
	for _, n := range chainIn(e.Log, tx) {
		if e.Log[n-1].Kind == impl.RecLoad {
			e = runWrite(e, e.Log[n-1].Page)
		}
	}
	return runForce(appended(e, rec(impl.RecDone, tx, 0, 0, 0, 0, 0, 0)))
}

func runStep(e impl.Engine, tx int) impl.Engine {
	if e.Down || lastIn(e.Log, tx) == 0 {
		return e
	}
	if undos := undosIn(e.Log, tx); len(undos) > 0 {
		return appended(e, backIn(e.Log, undos[0]))
	}
	return appended(e, rec(impl.RecEnd, tx, 0, 0, 0, 0, 0, 0))
}

func runUndo(e impl.Engine, tx int) impl.Engine {
	for !e.Down && lastIn(e.Log, tx) != 0 {
		e = runStep(e, tx)
	}
	return e
}

func runFall(e impl.Engine, left int) impl.Engine {
	e = copyOf(e)
	e.Log = e.Log[:min(max(left, e.Safe), len(e.Log))]
	e.Mem, e.Down = copyPages(e.Disk), true
	return e
}

// smallestOpenIn is the smallest open transaction, or 0.
func smallestOpenIn(l []impl.Rec) int {
	for tx := 1; tx <= 3; tx++ {
		if lastIn(l, tx) != 0 {
			return tx
		}
	}
	return 0
}

// runRiseBy is a recovery in at most so many steps, and whether the engine runs afterwards because of that.
func runRiseBy(e impl.Engine, steps int) (impl.Engine, bool) {
	if !e.Down {
		return e, false
	}
	e = copyOf(e)
	e.Mem, _ = redoneIn(e.Disk, e.Log)
	e.Down = false
	for ; steps > 0 && smallestOpenIn(e.Log) != 0; steps-- {
		e = runStep(e, smallestOpenIn(e.Log))
	}
	if smallestOpenIn(e.Log) != 0 {
		return runFall(e, 150), false
	}
	return e, true
}

func runRise(e impl.Engine) impl.Engine {
	e, _ = runRiseBy(e, 150)
	return e
}

// runFurther is an engine after a step that dice choose; the fewer ends, the longer the chains.
func runFurther(e impl.Engine, dice *rand.Rand, ends int) impl.Engine {
	tx, page := 1+dice.IntN(3), dice.IntN(5)
	switch n := dice.IntN(100); {
	case e.Down && n < 50:
		return runRise(e)
	case n < ends:
		return runDone(e, tx)
	case n < 2*ends:
		return runFall(e, e.Safe+dice.IntN(9))
	case n < 25:
		return runOwn(e, tx, page, dice.IntN(4))
	case n < 40:
		return runLoad(e, tx, page, dice.IntN(10), dice.IntN(10), dice.IntN(10))
	case n < 48:
		return runStep(e, tx)
	case n < 58:
		return runWrite(e, page)
	case n < 60:
		return runForce(e)
	}
	return runPut(e, tx, page, dice.IntN(3), dice.IntN(10))
}

// runs gives the engines of the same runs each time, after every step that changes something: many short runs, and some whose logs become long.
func runs(yield func(impl.Engine) bool) {
	dice := rand.New(rand.NewPCG(4, 23))
	for run := range 63 {
		e, steps, ends := newEngine(), 60, 6
		if run >= 60 {
			steps, ends = 700, run-60
		}
		for range steps {
			before := e
			e = runFurther(e, dice, ends)
			if !sameEngine(e, before) && !yield(copyOf(e)) {
				return
			}
		}
	}
}
