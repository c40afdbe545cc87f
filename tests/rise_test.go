package tests

import (
	"math"
	"math/rand/v2"
	"runtime"
	"slices"
	"testing"
	"time"

	"loop.example/tabularium/impl"
)

// validByBoth says whether an engine is valid by the program and by the model.
func validByBoth(e impl.Engine) bool {
	return impl.EngineOk(e) && isEngine(e)
}

// lefts is numbers of records that a crash may leave of an engine: none, some, the durable ones and about as many, all and more.
func lefts(e impl.Engine) []int {
	records := len(e.Log)
	all := []int{0, 1, e.Safe - 1, e.Safe, e.Safe + 1, (e.Safe + records) / 2, records - 1, records, records + 1, 150, math.MaxInt}
	if records <= 20 {
		for left := range records {
			all = append(all, left)
		}
	}
	slices.Sort(all)
	return slices.DeleteFunc(slices.Compact(all), func(left int) bool { return left < 0 })
}

// stepCounts is numbers of steps with which a recovery of an engine is tried: none, too few, enough and more.
func stepCounts(e impl.Engine) []int {
	need := costIn(e.Log)
	all := []int{0, 1, need / 2, need - 1, need, need + 1, 150, math.MaxInt}
	if need <= 12 {
		for steps := range need {
			all = append(all, steps)
		}
	}
	slices.Sort(all)
	return slices.DeleteFunc(slices.Compact(all), func(steps int) bool { return steps < 0 })
}

// fallenTo is an engine after RiseFall, which must be possible.
func fallenTo(t *testing.T, e impl.Engine, left int) impl.Engine {
	t.Helper()
	fallen, ok := impl.RiseFall(copyOf(e), left)
	if !ok {
		t.Fatalf("RiseFall to %d records is not possible, of %v", left, e)
	}
	return fallen
}

// raised is a crashed engine after RiseUp of all steps, which must succeed.
func raised(t *testing.T, e impl.Engine) impl.Engine {
	t.Helper()
	up, ok := impl.RiseUp(copyOf(e), impl.RiseNeed(e))
	if !ok {
		t.Fatalf("RiseUp of all steps fails with %v, of %v", up, e)
	}
	return up
}

// checkFall checks a crash of a valid engine.
func checkFall(t *testing.T, name string, e impl.Engine, left int) {
	t.Helper()
	if got, ok := impl.RiseFall(copyOf(e), left); !ok || !sameEngine(got, runFall(e, left)) {
		t.Fatalf("%s: RiseFall to %d records is %v, %v, want %v, of %v", name, left, got, ok, runFall(e, left), e)
	}
}

// checkRise checks a recovery of a valid engine, also of one that has not crashed.
func checkRise(t *testing.T, name string, e impl.Engine, steps int) {
	t.Helper()
	got, up := impl.RiseUp(copyOf(e), steps)
	if want, wantUp := runRiseBy(e, steps); up != wantUp || !sameEngine(got, want) {
		t.Fatalf("%s: RiseUp of %d steps is %v, %v, want %v, %v, of %v", name, steps, got, up, want, wantUp, e)
	}
}

// checkFallsAndRises checks the three functions on a valid engine, and on what crashes and incomplete recoveries leave of it, as far as that is valid.
func checkFallsAndRises(t *testing.T, name string, e impl.Engine) {
	t.Helper()
	if need := impl.RiseNeed(copyOf(e)); need != costIn(e.Log) {
		t.Fatalf("%s: RiseNeed is %d, want %d, of %v", name, need, costIn(e.Log), e)
	}
	checkRise(t, name, e, 0)
	checkRise(t, name, e, 150)
	for _, left := range lefts(e) {
		checkFall(t, name, e, left)
		fallen := runFall(e, left)
		if !isEngine(fallen) {
			checkNoRise(t, name, fallen)
			continue
		}
		for _, steps := range stepCounts(fallen) {
			checkRise(t, name, fallen, steps)
		}
	}
}

// checkNoRise checks what the three functions return for an invalid engine, whatever the other argument is.
func checkNoRise(t *testing.T, name string, e impl.Engine) {
	t.Helper()
	if need := impl.RiseNeed(e); need != -1 {
		t.Errorf("%s: RiseNeed is %d", name, need)
	}
	for _, n := range numbers(-1, 1) {
		if got, ok := impl.RiseFall(e, n); ok || !sameEngine(got, impl.Engine{}) {
			t.Errorf("%s: RiseFall to %d records is %v, %v", name, n, got, ok)
		}
		if got, ok := impl.RiseUp(e, n); ok || !sameEngine(got, impl.Engine{}) {
			t.Errorf("%s: RiseUp of %d steps is %v, %v", name, n, got, ok)
		}
	}
}

// writtenFall is a crash with the number of records that remain; the disk stays, and is in memory, too.
type writtenFall struct {
	name          string
	engine        impl.Engine
	left, records int
}

func writtenFalls() []writtenFall {
	// 9 records, of which 7 are durable.
	e := filled()
	forced := runForce(e)
	return []writtenFall{
		{"new", newEngine(), 0, 0},
		{"new, more than there are", newEngine(), 1, 0},
		{"none", e, 0, 7},
		{"fewer than the durable ones", e, 6, 7},
		{"exactly the durable ones", e, 7, 7},
		{"one more than the durable ones", e, 8, 8},
		{"all", e, 9, 9},
		{"one more than there are", e, 10, 9},
		{"more than there may be", e, 151, 9},
		{"far more", e, math.MaxInt, 9},
		{"none, all are durable", forced, 0, 9},
		{"fewer, all are durable", forced, 8, 9},
		{"all, all are durable", forced, 9, 9},
		{"none, none is durable", loaded(), 0, 0},
		{"one, none is durable", loaded(), 1, 1},
		{"none, a written load", runWrite(loaded(), 2), 0, 2},
		{"none, a committed load", runDone(loaded(), 1), 0, 3},
		{"none, rolled back", runUndo(loaded(), 1), 0, 0},
		{"amid a rollback", runUndo(loaded(), 1), 3, 3},
		{"none, at the limit", puts(2, 74), 0, 0},
		{"all, at the limit", puts(2, 74), 74, 74},
		{"crashed before, none", runFall(e, 99), 0, 7},
		{"crashed before, one less", runFall(e, 99), 8, 8},
		{"crashed before, as many", runFall(e, 8), 8, 8},
		{"crashed before, more", runFall(e, 8), 9, 8},
		{"recovered", runRise(runFall(e, 99)), 12, 12},
		{"recovered in part", runFall(undoneOf(e, 2, 3), 99), 11, 11},
	}
}

// Promise 59, written out.
func TestWrittenFalls(t *testing.T) {
	for _, c := range writtenFalls() {
		want := impl.Engine{Disk: c.engine.Disk, Mem: c.engine.Disk, Log: c.engine.Log[:c.records], Safe: c.engine.Safe, Down: true}
		got, ok := impl.RiseFall(copyOf(c.engine), c.left)
		if !ok || !sameEngine(got, want) || !validByBoth(got) {
			t.Errorf("%s: RiseFall is %v, %v, want %v, of %v", c.name, got, ok, want, c.engine)
		}
	}
}

// writtenRise is a recovery with the records that it appends, whether it succeeds, and the pages in memory then that are not new.
type writtenRise struct {
	name   string
	engine impl.Engine
	steps  int
	recs   []string
	up     bool
	mem    map[int]impl.Page
}

// filledRises is recoveries of filled, where transaction 1 is committed, 2 has allocated page 2 and put two values in it, and 3 has put one in page 1.
func filledRises() []writtenRise {
	e := filled()
	all := []string{"undo 2 2 0 0 0 9 7", "undo 2 2 1 0 0 10 6", "undo 2 2 -1 0 0 11 0", "end 2 0 0 0 0 12 0", "undo 3 1 2 0 4 8 0", "end 3 0 0 0 0 14 0"}
	mem := map[int]impl.Page{0: page(2, 1, 7, 0, 0), 1: page(14, 2, 0, 0, 4), 2: page(12, 0, 0, 0, 0)}
	seven := []string{"undo 2 2 1 0 0 7 6", "undo 2 2 -1 0 0 8 0", "end 2 0 0 0 0 9 0"}
	eight := []string{"undo 2 2 1 0 0 7 6", "undo 2 2 -1 0 0 9 0", "end 2 0 0 0 0 10 0", "undo 3 1 2 0 4 8 0", "end 3 0 0 0 0 12 0"}
	half := runFall(undoneOf(e, 2, 2), 99)
	cases := []writtenRise{
		{"exactly as many steps", runFall(e, 9), 6, all, true, mem},
		{"one step more", runFall(e, 9), 7, all, true, mem},
		{"far more steps", runFall(e, 9), math.MaxInt, all, true, mem},
		{"all durable", runFall(runForce(e), 0), 6, all, true, mem},
		{"two records lost", runFall(e, 0), 3, seven, true, map[int]impl.Page{0: page(2, 1, 7, 0, 0), 1: page(4, 2, 0, 0, 4), 2: page(9, 0, 0, 0, 0)}},
		{"one record lost", runFall(e, 8), 5, eight, true, map[int]impl.Page{0: page(2, 1, 7, 0, 0), 1: page(12, 2, 0, 0, 4), 2: page(10, 0, 0, 0, 0)}},
		{"two steps done before", half, 4, all[2:], true, mem},
		{"two steps done before, one of them lost", runFall(half, 10), 5, all[1:], true, mem},
		{"two steps done before, one fails", half, 1, all[2:3], false, nil},
		{"all but the end done before", runFall(undoneOf(e, 2, 3), 99), 3, all[3:], true, mem},
		{"all but the end done before, ended", runFall(undoneOf(e, 2, 3), 99), 1, all[3:4], false, nil},
		{"one rolled back before", runFall(runUndo(e, 2), 99), 2, all[4:], true, mem},
		{"one rolled back before, and all that lost", runFall(runUndo(e, 2), 0), 3, seven, true, map[int]impl.Page{0: page(2, 1, 7, 0, 0), 1: page(4, 2, 0, 0, 4), 2: page(9, 0, 0, 0, 0)}},
		{"one committed before", runFall(runDone(e, 2), 0), 2, []string{"undo 3 1 2 0 4 8 0", "end 3 0 0 0 0 11 0"}, true, map[int]impl.Page{0: page(2, 1, 7, 0, 0), 1: page(11, 2, 0, 0, 4), 2: page(9, 1, 8, 9, 0)}},
		{"both committed before", runFall(runDone(runDone(e, 2), 3), 0), 0, nil, true, map[int]impl.Page{0: page(2, 1, 7, 0, 0), 1: page(8, 2, 0, 0, 6), 2: page(9, 1, 8, 9, 0)}},
		{"not crashed", e, 6, nil, false, nil},
	}
	for steps := range 6 {
		cases = append(cases, writtenRise{"fewer steps", runFall(e, 9), steps, all[:steps], false, nil})
	}
	return cases
}

func loadedRises() []writtenRise {
	one := []string{"undo 1 2 -1 0 0 2 0", "end 1 0 0 0 0 3 0"}
	free := map[int]impl.Page{2: page(3, 0, 0, 0, 0)}
	two := []string{"undo 1 0 0 0 0 6 5", "undo 1 0 -1 0 0 7 0", "end 1 0 0 0 0 8 0", "undo 2 1 -1 0 0 4 1", "undo 2 3 -1 0 0 10 0", "end 2 0 0 0 0 11 0"}
	values := map[int]impl.Page{2: page(2, 3, 4, 5, 6)}
	return []writtenRise{
		{"a load", runFall(loaded(), 2), 2, one, true, free},
		{"a load, one step", runFall(loaded(), 2), 1, one[:1], false, nil},
		{"a load, no steps", runFall(loaded(), 2), 0, nil, false, nil},
		{"a load that is written", runFall(runWrite(loaded(), 2), 0), 2, one, true, free},
		{"a load that is written, one step", runFall(runWrite(loaded(), 2), 0), 1, one[:1], false, nil},
		{"a load that is lost", runFall(loaded(), 1), 2, []string{"undo 1 2 -1 0 0 1 0", "end 1 0 0 0 0 2 0"}, true, map[int]impl.Page{2: page(2, 0, 0, 0, 0)}},
		{"a load that is lost with its allocation", runFall(loaded(), 0), 0, nil, true, nil},
		{"a load that is durable, and its page not written", runFall(runForce(loaded()), 0), 2, one, true, free},
		{"a load that is undone", runFall(runStep(loaded(), 1), 99), 1, one[1:], true, free},
		{"a load that is rolled back", runFall(runUndo(loaded(), 1), 99), 0, nil, true, free},
		{"a load and a value", runFall(runPut(loaded(), 1, 2, 1, 9), 99), 3, []string{"undo 1 2 1 0 5 3 2", "undo 1 2 -1 0 0 4 0", "end 1 0 0 0 0 5 0"}, true, map[int]impl.Page{2: page(5, 0, 0, 0, 0)}},
		{"a load and a value, half written", runFall(runPut(runWrite(loaded(), 2), 1, 2, 1, 9), 0), 2, one, true, free},
		{"a load that is committed", runFall(runDone(loaded(), 1), 0), 0, nil, true, values},
		{"a load that is committed, and a value", runFall(runPut(runDone(loaded(), 1), 2, 2, 0, 9), 99), 2, []string{"undo 2 2 0 0 4 4 0", "end 2 0 0 0 0 5 0"}, true, map[int]impl.Page{2: page(5, 3, 4, 5, 6)}},
		{"two loads and another transaction", runFall(twoLoads(), 6), 6, two, true, map[int]impl.Page{0: page(8, 0, 0, 0, 0), 1: page(10, 0, 0, 0, 0), 3: page(11, 0, 0, 0, 0)}},
		{"two loads, the other transaction ended", runFall(twoLoads(), 6), 3, two[:3], false, nil},
		{"two loads, one is freed", runFall(twoLoads(), 6), 4, two[:4], false, nil},
		{"a page of before, loaded", runFall(runLoad(runOwn(runOwn(runDone(runOwn(newEngine(), 1, 2, 3), 1), 1, 2, 0), 1, 2, 1), 1, 2, 7, 8, 9), 99), 3,
			[]string{"undo 1 2 -1 0 0 5 3", "undo 1 2 -1 0 3 6 0", "end 1 0 0 0 0 7 0"}, true, map[int]impl.Page{2: page(7, 3, 0, 0, 0)}},
	}
}

func otherRises() []writtenRise {
	e := twice()
	return []writtenRise{
		{"new", runFall(newEngine(), 0), 0, nil, true, nil},
		{"new, more steps", runFall(newEngine(), 0), 5, nil, true, nil},
		{"new, not crashed", newEngine(), 0, nil, false, nil},
		{"a page changed by two", runFall(e, 99), 3, []string{"undo 2 2 1 0 0 5 4", "undo 2 2 0 0 5 6 0", "end 2 0 0 0 0 7 0"}, true, map[int]impl.Page{2: page(7, 3, 5, 0, 0)}},
		{"a page changed by two, written", runFall(runWrite(e, 2), 0), 3, []string{"undo 2 2 1 0 0 5 4", "undo 2 2 0 0 5 6 0", "end 2 0 0 0 0 7 0"}, true, map[int]impl.Page{2: page(7, 3, 5, 0, 0)}},
		{"a page changed by two, all of the second lost", runFall(e, 0), 0, nil, true, map[int]impl.Page{2: page(2, 3, 5, 0, 0)}},
		{"begun anew", runFall(runPut(runDone(runPut(runOwn(newEngine(), 1, 2, 3), 1, 2, 0, 5), 1), 1, 2, 0, 7), 99), 2, []string{"undo 1 2 0 0 5 4 0", "end 1 0 0 0 0 5 0"}, true, map[int]impl.Page{2: page(5, 3, 5, 0, 0)}},
		{"a freed page", runFall(runOwn(runDone(runOwn(newEngine(), 3, 4, 2), 3), 1, 4, 0), 99), 2, []string{"undo 1 4 -1 0 2 3 0", "end 1 0 0 0 0 4 0"}, true, map[int]impl.Page{4: page(4, 2, 0, 0, 0)}},
		{"a value put after a step", runFall(runPut(undoneOf(filled(), 2, 1), 2, 2, 0, 3), 99), 2, []string{"undo 2 2 0 0 0 11 10", "undo 2 2 1 0 0 12 6"}, false, nil},
		{"two transactions that are all undone, one step", runFall(undoneOf(undoneOf(filled(), 2, 3), 3, 1), 99), 1, []string{"end 2 0 0 0 0 12 0"}, false, nil},
		{"two transactions that are all undone", runFall(undoneOf(undoneOf(filled(), 2, 3), 3, 1), 99), 2, []string{"end 2 0 0 0 0 12 0", "end 3 0 0 0 0 13 0"}, true,
			map[int]impl.Page{0: page(2, 1, 7, 0, 0), 1: page(13, 2, 0, 0, 4), 2: page(12, 0, 0, 0, 0)}},
	}
}

// Promises 61, 62 and 68, written out.
func TestWrittenRises(t *testing.T) {
	for _, c := range slices.Concat(filledRises(), loadedRises(), otherRises()) {
		e := c.engine
		want := impl.Engine{Disk: e.Disk, Mem: e.Mem, Log: slices.Concat(e.Log, logOf(t, c.recs...)), Safe: e.Safe, Down: e.Down && !c.up}
		if c.up {
			want.Mem = newPages(c.mem)
		}
		got, up := impl.RiseUp(copyOf(e), c.steps)
		if up != c.up || !sameEngine(got, want) || !validByBoth(got) {
			t.Errorf("%s: RiseUp of %d steps is %v, %v, want %v, %v, of %v", c.name, c.steps, got, up, want, c.up, e)
		}
	}
}

// All three are what the document says, for all numbers of records and steps, on the cases that the document names.
func TestFallsAndRises(t *testing.T) {
	t.Parallel()
	for name, e := range endEngines() {
		checkFallsAndRises(t, name, e)
		checkFallsAndRises(t, name+", crashed", runFall(e, 150))
		fallen := runFall(e, 150)
		for _, steps := range []int{1, 3} {
			partly, _ := runRiseBy(fallen, steps)
			checkFallsAndRises(t, name+", recovered in part", partly)
		}
	}
}

func TestFallsAndRisesOfRuns(t *testing.T) {
	t.Parallel()
	for e := range runs {
		if len(e.Log) <= 20 || len(e.Log)%7 == 0 {
			checkFallsAndRises(t, "run", e)
		}
	}
}

// All three are what the document says, of valid engines near those of runs, whoever made them.
func TestFallsAndRisesOfEditedEngines(t *testing.T) {
	t.Parallel()
	dice := rand.New(rand.NewPCG(7, 59))
	checked := 0
	for e := range runs {
		for range 3 {
			other := editedEngine(e, func(e *impl.Engine) { editEngine(e, dice) })
			if len(other.Log) <= 20 && isEngine(other) {
				checkFallsAndRises(t, "edited", other)
				checked++
			}
		}
	}
	checkCount(t, checked, 1000)
}

// All three are what the document says, of all short logs, on free pages and on allocated ones.
func TestFallsAndRisesOfShortLogs(t *testing.T) {
	t.Parallel()
	checked := 0
	for e := range shortEngines {
		for _, left := range []int{0, len(e.Log)} {
			for _, steps := range []int{0, 1, 2, 150} {
				checkRise(t, "short", runFall(e, left), steps)
			}
		}
		for safe := range len(e.Log) + 1 {
			checkFall(t, "short", e, safe)
		}
		checked++
	}
	checkCount(t, checked, 1000)
}

// A negative number of records or of steps: the zero value and false, also if the engine has not crashed.
func TestNegativeRecordsAndSteps(t *testing.T) {
	for name, e := range endEngines() {
		for _, engine := range []impl.Engine{e, runFall(e, 0), runFall(e, 99)} {
			for _, n := range []int{math.MinInt, -150, -2, -1} {
				if got, ok := impl.RiseFall(engine, n); ok || !sameEngine(got, impl.Engine{}) {
					t.Errorf("%s: RiseFall to %d records is %v, %v", name, n, got, ok)
				}
				if got, ok := impl.RiseUp(engine, n); ok || !sameEngine(got, impl.Engine{}) {
					t.Errorf("%s: RiseUp of %d steps is %v, %v", name, n, got, ok)
				}
			}
		}
	}
}

// For an invalid engine: the zero value and false, or -1.
func TestFallsAndRisesOfInvalidEngines(t *testing.T) {
	for _, c := range engineCases(t) {
		if c.valid {
			checkFallsAndRises(t, c.name, c.engine)
		} else {
			checkNoRise(t, c.name, c.engine)
		}
	}
}

// Promise 59: after RiseFall, memory is the disk, and the log is a prefix of the requested length, but at least the durable records; the engine has crashed; the disk and Safe are unchanged.
func TestRiseFall(t *testing.T) {
	for e := range runs {
		for _, left := range lefts(e) {
			fallen, ok := impl.RiseFall(e, left)
			records := left
			if records < e.Safe {
				records = e.Safe
			} else if records > len(e.Log) {
				records = len(e.Log)
			}
			if !ok || !fallen.Down || !impl.EngineOk(fallen) || !slices.Equal(fallen.Log, e.Log[:records]) {
				t.Fatalf("RiseFall to %d records is %v, %v, of %v", left, fallen, ok, e)
			}
			if !samePages(fallen.Mem, e.Disk) || !samePages(fallen.Disk, e.Disk) || fallen.Safe != e.Safe {
				t.Fatalf("RiseFall to %d records is %v, of %v", left, fallen, e)
			}
		}
	}
}

// Promise 60: a second RiseFall that leaves as many records changes nothing; one that leaves fewer equals that one alone.
func TestRiseFallTwice(t *testing.T) {
	t.Parallel()
	lost := 0
	for e := range runs {
		if len(e.Log) > 20 {
			continue
		}
		for _, left := range lefts(e) {
			fallen := fallenTo(t, e, left)
			for _, more := range []int{left, len(fallen.Log), len(fallen.Log) + 1, math.MaxInt} {
				if again := fallenTo(t, fallen, more); !sameEngine(again, fallen) {
					t.Fatalf("RiseFall to %d and %d records is %v, the first one %v", left, more, again, fallen)
				}
			}
			for fewer := range min(left, len(fallen.Log)) {
				again, alone := fallenTo(t, fallen, fewer), fallenTo(t, e, fewer)
				if !sameEngine(again, alone) {
					t.Fatalf("RiseFall to %d and %d records is %v, the second one alone %v", left, fewer, again, alone)
				}
				if len(again.Log) < len(fallen.Log) {
					lost++
				}
			}
		}
	}
	checkCount(t, lost, 1000)
}

// crashes gives crashed engines that functions made: those of runs, each with another number of records left, and behind some of them what an incomplete recovery leaves.
func crashes(yield func(impl.Engine) bool) {
	n := 0
	for e := range runs {
		n++
		fallen := runFall(e, e.Safe+n%(len(e.Log)-e.Safe+1))
		if n%3 == 0 {
			fallen, _ = runRiseBy(runFall(e, 150), n%7)
		}
		if fallen.Down && !yield(fallen) {
			return
		}
	}
}

// The crashes have what the other tests need: else these would check nothing.
func TestCrashesAreOfAllKinds(t *testing.T) {
	seen := map[string]int{}
	for e := range crashes {
		open := impl.LogOpen(e.Log)
		for name, is := range map[string]bool{
			"no records": len(e.Log) == 0, "none open": len(open) == 0 && len(e.Log) > 0, "one open": len(open) == 1, "two open": len(open) == 2, "three open": len(open) == 3,
			"all durable": e.Safe == len(e.Log) && len(open) > 0, "some durable": 0 < e.Safe && e.Safe < len(e.Log), "none durable": e.Safe == 0 && len(open) > 0,
			"long": len(e.Log) > 100, "to the limit": len(e.Log)+costIn(e.Log) == 150,
			"with a load that is written":     slices.ContainsFunc([]int{0, 1, 2, 3, 4}, func(n int) bool { return loadedIn(e.Log, n) && e.Disk[n].Lsn >= loadOf(e.Log, n) }),
			"with a load that is not written": slices.ContainsFunc([]int{0, 1, 2, 3, 4}, func(n int) bool { return loadedIn(e.Log, n) && e.Disk[n].Lsn < loadOf(e.Log, n) }),
			"amid a rollback":                 slices.ContainsFunc(open, func(tx int) bool { return e.Log[lastIn(e.Log, tx)-1].Kind == impl.RecUndo }),
			"before the end of a rollback":    slices.ContainsFunc(open, func(tx int) bool { return len(undosIn(e.Log, tx)) == 0 }),
			"behind a commit":                 slices.ContainsFunc(e.Log, func(r impl.Rec) bool { return r.Kind == impl.RecDone }),
			"behind a rollback":               slices.ContainsFunc(e.Log, func(r impl.Rec) bool { return r.Kind == impl.RecEnd }),
		} {
			if is {
				seen[name]++
			}
		}
		if slices.ContainsFunc(open, func(tx int) bool { return keepsLoad(e.Log, tx) }) {
			t.Fatalf("a load is kept in %v", e)
		}
	}
	if len(seen) != 16 {
		t.Errorf("the crashes only are of the kinds %v", seen)
	}
}

// loadOf is the number of the last load of a page.
func loadOf(l []impl.Rec, number int) int {
	for i, r := range slices.Backward(l) {
		if r.Kind == impl.RecLoad && r.Page == number {
			return i + 1
		}
	}
	return 0
}

// Promises 61 and 62: RiseUp of as many steps as RiseNeed succeeds, and with fewer it fails; it appends a record for each step, and leaves the disk and Safe.
func TestRiseUp(t *testing.T) {
	t.Parallel()
	succeeded, failed := 0, 0
	for e := range crashes {
		need := impl.RiseNeed(e)
		for _, steps := range stepCounts(e) {
			got, up := impl.RiseUp(e, steps)
			if up != (steps >= need) || got.Down == up || !impl.EngineOk(got) || up != (len(impl.LogOpen(got.Log)) == 0) {
				t.Fatalf("RiseUp of %d of %d steps is %v, %v, of %v", steps, need, got, up, e)
			}
			if up && !samePages(got.Mem, impl.EngineRedo(got)) || !up && !samePages(got.Mem, e.Disk) {
				t.Fatalf("RiseUp of %d of %d steps has %v in memory, of %v", steps, need, got.Mem, e)
			}
			checkAppended(t, e, got, min(steps, need))
			if up {
				succeeded++
			} else {
				failed++
			}
		}
	}
	checkCount(t, succeeded, 1000)
	checkCount(t, failed, 1000)
}

// checkAppended checks that so many records of rollbacks were appended, and that the disk and Safe are as they were.
func checkAppended(t *testing.T, before, after impl.Engine, count int) {
	t.Helper()
	if len(after.Log) != len(before.Log)+count || !slices.Equal(after.Log[:len(before.Log)], before.Log) {
		t.Fatalf("the log is %v, want %v and %d more", after.Log, before.Log, count)
	}
	for _, r := range after.Log[len(before.Log):] {
		if r.Kind != impl.RecUndo && r.Kind != impl.RecEnd {
			t.Fatalf("%v was appended to %v", r, before)
		}
	}
	if !samePages(after.Disk, before.Disk) || after.Safe != before.Safe {
		t.Fatalf("the disk or Safe is another one in %v, of %v", after, before)
	}
}

// Promise 63: RiseUp of some steps, another crash that loses nothing, and RiseUp of all gives the same log and pages as RiseUp of all at once.
func TestCrashInRecoveryThatLosesNothing(t *testing.T) {
	t.Parallel()
	checked := 0
	for e := range crashes {
		once := raised(t, e)
		for _, steps := range stepCounts(e) {
			partly, up := impl.RiseUp(e, steps)
			fallen := fallenTo(t, partly, len(partly.Log))
			if !up && !sameEngine(fallen, partly) {
				t.Fatalf("a crash in a recovery is %v, of %v", fallen, partly)
			}
			if again := raised(t, fallen); !sameEngine(again, once) {
				t.Fatalf("recovered in %d steps and anew: %v, at once %v, of %v", steps, again, once, e)
			}
			if !up {
				checked++
			}
		}
	}
	checkCount(t, checked, 1000)
}

// Promise 63, with a crash after each step.
func TestRecoveryStepByStep(t *testing.T) {
	for name, e := range endEngines() {
		e = runFall(e, 150)
		once := raised(t, e)
		steps, up := 0, false
		for step := e; !up; steps++ {
			if step, up = impl.RiseUp(step, 1); !validByBoth(step) || steps > 150 {
				t.Fatalf("%s: step %d is %v", name, steps+1, step)
			}
			if up && !sameEngine(step, once) {
				t.Fatalf("%s: recovered step by step: %v, at once %v", name, step, once)
			}
			if !up {
				step = fallenTo(t, step, 150)
			}
		}
		if steps != max(1, impl.RiseNeed(e)) {
			t.Errorf("%s: recovered in %d steps, want %d", name, steps, impl.RiseNeed(e))
		}
	}
}

// Promise 64: RiseUp of some steps, a crash that loses all records that are not durable, and RiseUp of all gives the same contents as RiseUp of all at once; so does a crash that loses some of them.
func TestCrashInRecoveryThatLosesRecords(t *testing.T) {
	t.Parallel()
	checked, ofSteps := 0, 0
	for e := range crashes {
		if len(e.Log) > 20 && len(e.Log)%5 > 0 {
			continue
		}
		once := raised(t, e)
		for _, steps := range stepCounts(e) {
			partly, _ := impl.RiseUp(e, steps)
			for _, left := range []int{0, partly.Safe, len(e.Log), len(partly.Log) - 1} {
				fallen := fallenTo(t, partly, max(0, left))
				if again := raised(t, fallen); !sameContents(again.Mem, once.Mem) || !impl.EngineOk(again) {
					t.Fatalf("recovered in %d steps, and anew with %d records: %v, at once %v, of %v", steps, len(fallen.Log), again, once, e)
				}
				if len(fallen.Log) < len(e.Log) {
					checked++
				} else if len(fallen.Log) < len(partly.Log) {
					ofSteps++
				}
			}
		}
	}
	checkCount(t, checked, 1000)
	checkCount(t, ofSteps, 1000)
}

// Promise 64, where a page is written after an incomplete rollback, and the steps of the recovery are lost.
func TestCrashInRecoveryBehindWrites(t *testing.T) {
	for name, e := range endEngines() {
		if keepsLoad(e.Log, 1) || keepsLoad(e.Log, 2) || keepsLoad(e.Log, 3) {
			continue
		}
		for number := range 5 {
			fallen := runFall(runWrite(e, number), 150)
			once := raised(t, fallen)
			for _, steps := range stepCounts(fallen) {
				partly, _ := impl.RiseUp(fallen, steps)
				if again := raised(t, fallenTo(t, partly, 0)); !sameContents(again.Mem, once.Mem) {
					t.Fatalf("%s: recovered in %d steps, and anew: %v, at once %v, of %v", name, steps, again, once, fallen)
				}
			}
		}
	}
}

// recoverable gives the pasts in which a rollback of each open transaction leaves a valid engine.
func recoverable(yield func(past) bool) {
	for p := range pasts {
		kept := slices.ContainsFunc([]int{1, 2, 3}, func(tx int) bool { return keepsLoad(p.engine.Log, tx) })
		if !kept && !yield(p) {
			return
		}
	}
}

// Promise 65: after RiseFall that loses no records, and RiseUp of all steps, each page that was not locked has its contents in memory from before.
func TestCommittedPagesStay(t *testing.T) {
	checked, notWritten := 0, 0
	for p := range recoverable {
		e := p.engine
		up := raised(t, fallenTo(t, e, len(e.Log)))
		for number := range 5 {
			if impl.EngineLock(e, number) != 0 {
				continue
			}
			if !sameContent(up.Mem[number], e.Mem[number]) {
				t.Fatalf("recovered with %v in page %d, want %v, of %v", up.Mem[number], number, e.Mem[number], e)
			}
			checked++
			if !sameContent(e.Mem[number], e.Disk[number]) {
				notWritten++
			}
		}
	}
	checkCount(t, checked, 1000)
	checkCount(t, notWritten, 200)
}

// Promise 66: after EngineForce, RiseFall and RiseUp of all steps, pages have the contents that EndUndo of all open transactions gives.
func TestRecoveryIsRollbackOfAll(t *testing.T) {
	differ := 0
	for p := range recoverable {
		e := p.engine
		forced, _ := impl.EngineForce(e)
		up := raised(t, fallenTo(t, forced, 0))
		undone := e
		for _, tx := range impl.LogOpen(e.Log) {
			undone, _ = impl.EndUndo(undone, tx)
		}
		if !sameContents(up.Mem, undone.Mem) || !impl.EngineOk(undone) {
			t.Fatalf("recovered with %v, and rolled back with %v, of %v", up.Mem, undone.Mem, e)
		}
		if !sameContents(up.Mem, e.Mem) && !sameContents(up.Mem, e.Disk) {
			differ++
		}
	}
	checkCount(t, differ, 200)
}

// Promises 65 and 66, whatever a crash leaves: locked pages have the contents from before the first record of their transaction, all others those from memory.
func TestContentsAfterRecovery(t *testing.T) {
	checked := 0
	for p := range recoverable {
		e := p.engine
		for _, left := range []int{0, (e.Safe + len(e.Log)) / 2, len(e.Log)} {
			up := raised(t, fallenTo(t, e, left))
			for number, got := range up.Mem {
				want := e.Mem[number]
				if impl.EngineLock(e, number) != 0 {
					want = p.before[number]
					checked++
				}
				if !sameContent(got, want) {
					t.Fatalf("recovered from %d records with %v in page %d, want %v, of %v", left, got, number, want, e)
				}
			}
		}
	}
	checkCount(t, checked, 1000)
}

// Promise 67: RiseNeed is the number of EndSteps that all open transactions need; it is 0 only if none is open.
func TestRiseNeed(t *testing.T) {
	seen := map[bool]int{}
	for p := range recoverable {
		e := p.engine
		need := impl.RiseNeed(e)
		steps, undone := 0, e
		for _, tx := range impl.LogOpen(e.Log) {
			for impl.LogLast(undone.Log, tx) != 0 {
				undone, _ = impl.EndStep(undone, tx)
				steps++
			}
		}
		if need != steps || (need == 0) != (len(impl.LogOpen(e.Log)) == 0) {
			t.Fatalf("RiseNeed is %d, and %d steps were needed, of %v", need, steps, e)
		}
		if fallen := fallenTo(t, e, len(e.Log)); impl.RiseNeed(fallen) != need {
			t.Fatalf("RiseNeed is %d after a crash, was %d, of %v", impl.RiseNeed(fallen), need, e)
		}
		seen[need == 0]++
	}
	checkCount(t, seen[false], 500)
	checkCount(t, seen[true], 50)
}

func TestRiseNeedWrittenOut(t *testing.T) {
	for _, c := range []struct {
		name   string
		engine impl.Engine
		want   int
	}{
		{"new", newEngine(), 0},
		{"new, crashed", runFall(newEngine(), 0), 0},
		{"two open", filled(), 6},
		{"two open, crashed", runFall(filled(), 99), 6},
		{"two open, two records lost", runFall(filled(), 0), 3},
		{"one step done", undoneOf(filled(), 2, 1), 5},
		{"all undone but one", undoneOf(filled(), 2, 2), 4},
		{"all undone", undoneOf(filled(), 2, 3), 3},
		{"rolled back", undoneOf(filled(), 2, 4), 2},
		{"one committed", runDone(filled(), 2), 2},
		{"both committed", runDone(runDone(filled(), 2), 3), 0},
		{"a value put after a step", runPut(undoneOf(filled(), 2, 1), 2, 2, 0, 3), 6},
		{"three open", runOwn(filled(), 1, 4, 1), 8},
		{"a load", loaded(), 2},
		{"a load that is written", runWrite(loaded(), 2), 2},
		{"a load that is committed", runDone(loaded(), 1), 0},
		{"two loads", twoLoads(), 6},
		{"at the limit", puts(2, 74), 76},
		{"recovered", runRise(runFall(puts(2, 74), 99)), 0},
		{"zero value", impl.Engine{}, -1},
		{"invalid", safeAs(filled(), 10), -1},
	} {
		if need := impl.RiseNeed(c.engine); need != c.want {
			t.Errorf("%s: RiseNeed is %d, want %d, of %v", c.name, need, c.want, c.engine)
		}
	}
}

// Promise 68: RiseUp of an engine that has not crashed fails and changes nothing, as does a second one after a successful one.
func TestRiseUpWithoutCrash(t *testing.T) {
	for e := range runs {
		for _, steps := range stepCounts(e) {
			if got, up := impl.RiseUp(e, steps); !e.Down && (up || !sameEngine(got, e)) {
				t.Fatalf("RiseUp of %d steps is %v, %v, of %v", steps, got, up, e)
			}
		}
	}
	for e := range crashes {
		up := raised(t, e)
		for _, steps := range []int{0, 1, impl.RiseNeed(e), 150} {
			if again, ok := impl.RiseUp(up, steps); ok || !sameEngine(again, up) {
				t.Fatalf("a second RiseUp of %d steps is %v, %v, of %v", steps, again, ok, up)
			}
		}
	}
}

// Promise 69: RiseUp of no steps succeeds if and only if no transaction is open; the log is unchanged.
func TestRiseUpOfNoSteps(t *testing.T) {
	seen := map[bool]int{}
	for e := range crashes {
		got, up := impl.RiseUp(e, 0)
		if up != (len(impl.LogOpen(e.Log)) == 0) || !slices.Equal(got.Log, e.Log) {
			t.Fatalf("RiseUp of no steps is %v, %v, of %v", got, up, e)
		}
		if !up && !sameEngine(got, e) || up && !samePages(got.Mem, impl.EngineRedo(e)) {
			t.Fatalf("RiseUp of no steps is %v, %v, of %v", got, up, e)
		}
		seen[up]++
	}
	checkCount(t, seen[false], 500)
	checkCount(t, seen[true], 50)
}

// Promise 70: EndStep decreases RiseNeed by one, and EndDone by the undo cost of the transaction.
func TestRiseNeedAfterEnds(t *testing.T) {
	checked := 0
	for p, tx := range openPasts {
		e := p.engine
		need := impl.RiseNeed(e)
		if step, ok := impl.EndStep(e, tx); !ok || impl.RiseNeed(step) != need-1 {
			t.Fatalf("RiseNeed is %d after EndStep of %d, was %d, of %v", impl.RiseNeed(step), tx, need, e)
		}
		cost := len(leftToUndo(e.Log, tx)) + 1
		if done, ok := impl.EndDone(e, tx); !ok || impl.RiseNeed(done) != need-cost {
			t.Fatalf("RiseNeed is %d after EndDone of %d, which cost %d, was %d, of %v", impl.RiseNeed(done), tx, cost, need, e)
		}
		checked++
	}
	checkCount(t, checked, 1000)
}

// Promise 71: after EngineForce and RiseFall that leaves none, the log is unchanged.
func TestForcedLogStays(t *testing.T) {
	checked := 0
	for e := range runs {
		forced, ok := impl.EngineForce(e)
		if !ok {
			continue
		}
		fallen := fallenTo(t, forced, 0)
		if !slices.Equal(fallen.Log, e.Log) || fallen.Safe != len(e.Log) {
			t.Fatalf("RiseFall after EngineForce is %v, of %v", fallen, e)
		}
		if e.Safe < len(e.Log) {
			checked++
		}
	}
	checkCount(t, checked, 500)
}

// Promise 72: after EngineWrite and RiseFall, the page is in memory as before; after RiseUp of all steps its Lsn is not smaller.
func TestWrittenPageStays(t *testing.T) {
	checked := 0
	for e := range runs {
		if len(e.Log) > 40 && len(e.Log)%3 > 0 {
			continue
		}
		for number := range 5 {
			written, ok := impl.EngineWrite(e, number)
			if !ok {
				continue
			}
			for _, left := range []int{0, len(e.Log)} {
				fallen := fallenTo(t, written, left)
				if !samePage(fallen.Mem[number], e.Mem[number]) {
					t.Fatalf("page %d is %v after a crash that leaves %d records, of %v", number, fallen.Mem[number], left, written)
				}
				up := raised(t, fallen)
				if up.Mem[number].Lsn < e.Mem[number].Lsn {
					t.Fatalf("page %d is %v after a recovery, of %v", number, up.Mem[number], written)
				}
				if !samePage(e.Mem[number], e.Disk[number]) {
					checked++
				}
			}
		}
	}
	checkCount(t, checked, 1000)
}

// There is always log space for a recovery, whenever the engine crashes: with all steps it may fill the log, and it gives the pages from before all.
func TestRecoveryUpToTheLimitOfTheLog(t *testing.T) {
	for _, c := range []struct {
		name   string
		engine impl.Engine
		length int
	}{
		{"one transaction", spent(1, 149), 149}, {"two transactions", puts(2, 74), 150}, {"two transactions, all durable", runForce(puts(2, 74)), 150},
		{"two transactions, pages written", runWrite(runWrite(puts(2, 74), 1), 2), 150}, {"two transactions, half undone", undoneOf(puts(2, 74), 2, 20), 150},
		{"two transactions, one all undone", undoneOf(puts(2, 74), 1, 37), 150}, {"two transactions, one rolled back", runUndo(puts(2, 74), 1), 150},
		{"three transactions", puts(3, 73), 149}, {"a load", runLoad(spent(1, 149), 1, 4, 1, 2, 3), 150},
	} {
		fallen := fallenTo(t, c.engine, 150)
		up := raised(t, fallen)
		if len(up.Log) != c.length || !validByBoth(up) || !sameContents(up.Mem, newPages(nil)) {
			t.Errorf("%s: recovered with %d records: %v", c.name, len(up.Log), up)
		}
		need := impl.RiseNeed(fallen)
		for _, steps := range []int{0, 1, need / 2, need - 1} {
			partly, ok := impl.RiseUp(fallen, steps)
			if again := raised(t, fallenTo(t, partly, 150)); ok || !sameEngine(again, up) {
				t.Errorf("%s: recovered in %d steps and anew: %v, %v", c.name, steps, again, ok)
			}
		}
		for _, left := range []int{0, 1, 2, 40, 73} {
			if less := raised(t, fallenTo(t, c.engine, left)); len(less.Log) > 150 || !sameContents(less.Mem, newPages(nil)) {
				t.Errorf("%s: recovered from %d records: %v", c.name, left, less)
			}
		}
	}
}

// A recovered engine goes on: it is changed, committed, and crashes again.
func TestChangesAfterRecovery(t *testing.T) {
	up := raised(t, fallenTo(t, filled(), 99))
	e, ownOk := impl.ChangeOwn(up, 2, 2, 3)
	e, putOk := impl.ChangePut(e, 2, 2, 0, 4)
	e, doneOk := impl.EndDone(e, 2)
	e, otherOk := impl.ChangePut(e, 1, 0, 0, 1)
	again := raised(t, fallenTo(t, e, 99))
	want := newPages(map[int]impl.Page{0: page(2, 1, 7, 0, 0), 1: page(14, 2, 0, 0, 4), 2: page(17, 3, 4, 0, 0)})
	if !ownOk || !putOk || !doneOk || !otherOk || !sameContents(again.Mem, want) || len(again.Log) != 21 || !validByBoth(again) {
		t.Errorf("recovered again: %v, of %v", again, e)
	}
}

// A load that no rollback undoes: a recovery is possible, but only what is on disk has the loaded values, so it does not give what EndUndo gives. The document has it so.
func TestRecoveryOfLoadThatNoRollbackUndoes(t *testing.T) {
	e := keptLoad()
	for _, c := range []struct {
		engine impl.Engine
		page   impl.Page
	}{{e, page(6, 3, 0, 0, 0)}, {runForce(e), page(6, 3, 0, 0, 0)}, {runWrite(e, 2), page(7, 3, 1, 2, 3)}} {
		up, ok := impl.RiseUp(fallenTo(t, c.engine, 99), 1)
		if !ok || !samePage(up.Mem[2], c.page) || impl.RecText(up.Log[7]) != "end 2 0 0 0 0 7 0" || !validByBoth(up) {
			t.Errorf("recovered with %v, %v, of %v", up, ok, c.engine)
		}
	}
}

// A valid engine that no functions make: its last record, a commit, is not durable, and a crash leaves too little space for a rollback.
func TestFallThatLeavesNoSpace(t *testing.T) {
	e := safeAs(appended(puts(1, 75), rec(impl.RecDone, 1, 0, 0, 0, 0, 0, 0)), 75)
	if !validByBoth(e) {
		t.Fatalf("not valid: %v", e)
	}
	fallen, ok := impl.RiseFall(e, 0)
	if !ok || len(fallen.Log) != 75 || !sameEngine(fallen, runFall(e, 0)) || impl.EngineOk(fallen) || isEngine(fallen) {
		t.Errorf("RiseFall is %v, %v", fallen, ok)
	}
	checkNoRise(t, "without space", fallen)
}

// A valid engine that no functions make: a Next leads behind the chain, to a page that another transaction locks, and between its steps two lock it.
func TestRecoveryWithNextBehindTheChain(t *testing.T) {
	e := runFall(onDisk(t, 4, map[int]impl.Page{0: page(0, 1, 5, 0, 0)}, "put 1 0 0 5 7 0 0", "done 1 0 0 0 0 1 0", "put 2 0 1 0 8 0 0", "undo 1 1 0 0 0 0 1"), 4)
	if !validByBoth(e) {
		t.Fatalf("not valid: %v", e)
	}
	partly, ok := impl.RiseUp(e, 1)
	if ok || impl.RecText(partly.Log[4]) != "undo 1 0 0 0 5 4 0" || !partly.Down || impl.EngineOk(partly) || isEngine(partly) {
		t.Errorf("RiseUp of one step is %v, %v", partly, ok)
	}
	checkNoRise(t, "locked by two", partly)
	up := raised(t, e)
	if len(up.Log) != 8 || !samePage(up.Mem[0], page(7, 1, 5, 0, 0)) || !validByBoth(up) {
		t.Errorf("recovered at once: %v", up)
	}
}

// Goroutines do not show in a result: it is the same each time.
func TestRiseUpIsTheSameEachTime(t *testing.T) {
	e := runFall(puts(3, 60), 60)
	for n := range 100 {
		checkRise(t, "again", e, n%65)
	}
}

// No goroutine is left behind when RiseUp returns, also if steps are missing.
func TestRiseUpLeavesNoGoroutines(t *testing.T) {
	e := runFall(twoLoads(), 99)
	before := runtime.NumGoroutine()
	for n := range 400 {
		impl.RiseUp(e, n%8)
	}
	for wait := 0; runtime.NumGoroutine() > before && wait < 100; wait++ {
		time.Sleep(10 * time.Millisecond)
	}
	if now := runtime.NumGoroutine(); now > before {
		t.Errorf("%d goroutines, before %d", now, before)
	}
}
