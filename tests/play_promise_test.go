package tests

import (
	"fmt"
	"math"
	"math/rand/v2"
	"slices"
	"testing"

	"loop.example/tabularium/impl"
)

// ran is the engine that PlayRun makes of events.
func ran(t *testing.T, events []impl.Event) impl.Engine {
	t.Helper()
	e, ok := impl.PlayRun(events)
	if !ok {
		t.Fatalf("PlayRun is not possible, of %v", events)
	}
	return e
}

// recovered is the pages of an engine after a crash and a complete recovery.
func recovered(t *testing.T, e impl.Engine, left int) []impl.Page {
	t.Helper()
	return raised(t, fallenTo(t, e, left)).Mem
}

// after is the engine after an event, and whether that one changes anything.
func after(e impl.Engine, v impl.Event) (impl.Engine, bool) {
	next := impl.PlayDo(e, v)
	return next, !sameEngine(next, e)
}

// Promise 76: after at most PlayMax events, a crash that leaves any number of records, and complete recovery, pages have exactly the contents of PlayTrue.
func TestRecoveredPagesAreTrue(t *testing.T) {
	t.Parallel()
	lost := 0
	for p := range plays {
		e, want := ran(t, p.events), impl.PlayTrue(p.events)
		for _, left := range lefts(e) {
			if got := recovered(t, e, left); !sameContents(got, want) {
				t.Fatalf("recovered from %d records with %v, want %v, of %v", left, got, want, p.events)
			}
		}
		if e.Safe < len(e.Log) && !sameContents(want, newPages(nil)) {
			lost++
		}
	}
	checkCount(t, lost, 50)
}

// smallEvents is events of two transactions on one page, one of them also on another one.
var smallEvents = eventsOf("own 1 0 1, own 1 0 0, put 1 0 0 5, put 1 0 0 0, load 1 0 0 6 0, done 1, undo 1, own 2 0 2, put 2 0 0 7, own 2 1 3, done 2, undo 2, write 0, force, fall 0, fall 99, rise 1, rise 99")

// shortPlays gives a play for each engine and each pages of PlayTrue that at most so many small events lead to.
func shortPlays(most int) func(yield func(play) bool) {
	type reached struct {
		play
		pages []impl.Page
	}
	return func(yield func(play) bool) {
		level := []reached{{play{nil, newEngine()}, newPages(nil)}}
		known := map[string]bool{}
		for length := range most + 1 {
			var next []reached
			for _, r := range level {
				if !yield(r.play) {
					return
				}
				for _, v := range smallEvents {
					events := append(slices.Clone(r.events), v)
					e, pages := wantDo(r.engine, v), wantTrue(events)
					key := fmt.Sprint(e, pages)
					if length < most && !known[key] {
						known[key] = true
						next = append(next, reached{play{events, e}, pages})
					}
				}
			}
			level = next
		}
	}
}

// Promises 73, 75 and 76, of all short plays, and that a commit while the engine has crashed does not change PlayTrue.
func TestShortPlays(t *testing.T) {
	t.Parallel()
	checked, crashed := 0, 0
	for p := range shortPlays(5) {
		e, want := ran(t, p.events), impl.PlayTrue(p.events)
		if !sameEngine(e, p.engine) || !validByBoth(e) || !samePages(want, wantTrue(p.events)) {
			t.Fatalf("PlayRun is %v, want %v, and PlayTrue %v, of %v", e, p.engine, want, p.events)
		}
		for left := e.Safe; left <= len(e.Log); left++ {
			if got := recovered(t, e, left); !sameContents(got, want) {
				t.Fatalf("recovered from %d records with %v, want %v, of %v", left, got, want, p.events)
			}
		}
		if e.Down {
			if got := impl.PlayTrue(append(p.events, eventsOf("done 1, done 2")...)); !samePages(got, want) {
				t.Fatalf("PlayTrue is %v after commits, was %v, of %v", got, want, p.events)
			}
			crashed++
		}
		checked++
	}
	checkCount(t, checked, 5000)
	checkCount(t, crashed, 500)
}

// Promise 77: after such events without a crash at the end, EndUndo of all open transactions gives pages with the contents of PlayTrue.
func TestRolledBackPagesAreTrue(t *testing.T) {
	t.Parallel()
	open := 0
	for p := range upPlays {
		e, want := ran(t, p.events), impl.PlayTrue(p.events)
		txs := impl.LogOpen(e.Log)
		open += len(txs)
		for _, order := range [][]int{{1, 2, 3}, {3, 1, 2}} {
			undone := e
			for _, tx := range order {
				undone = impl.PlayDo(undone, impl.Event{Kind: impl.EvUndo, Tx: tx})
			}
			byEnd := e
			for _, tx := range txs {
				byEnd, _ = impl.EndUndo(byEnd, tx)
			}
			if !sameContents(undone.Mem, want) || !sameContents(byEnd.Mem, want) || len(impl.LogOpen(byEnd.Log)) > 0 {
				t.Fatalf("rolled back with %v and %v, want %v, of %v", undone.Mem, byEnd.Mem, want, p.events)
			}
		}
	}
	checkCount(t, open, 100)
}

// Promise 78: appending events other than EvDone to such events does not change PlayTrue, also a crash and recovery.
func TestOnlyCommitsChangePlayTrue(t *testing.T) {
	t.Parallel()
	dice := rand.New(rand.NewPCG(22, 78))
	crashed := 0
	for p := range plays {
		want := impl.PlayTrue(p.events)
		for range 3 {
			longer := p.further(dice.IntN(41-len(p.events)), noDone, dice)
			if got := impl.PlayTrue(longer.events); !samePages(got, want) {
				t.Fatalf("PlayTrue is %v, was %v, of %v behind %v", got, want, longer.events[len(p.events):], p.events)
			}
			if has(longer.events[len(p.events):], impl.EvFall) {
				crashed++
			}
		}
		if len(p.events) > 38 {
			continue
		}
		for _, crash := range []string{"fall 0, rise 150", "fall 150, rise 150", "fall 99, rise 1", "fall 3, fall 0"} {
			if got := impl.PlayTrue(slices.Concat(p.events, eventsOf(crash))); !samePages(got, want) {
				t.Fatalf("PlayTrue is %v after %s, was %v, of %v", got, crash, want, p.events)
			}
		}
	}
	checkCount(t, crashed, 50)
}

// Promise 79: after such events and EvDone of an open transaction, the pages that it locked have, after a crash and recovery, their contents in memory from before.
func TestCommittedPagesStayInPlays(t *testing.T) {
	t.Parallel()
	checked := 0
	for p := range upPlays {
		e := ran(t, p.events)
		for _, tx := range impl.LogOpen(e.Log) {
			committed := impl.PlayDo(e, impl.Event{Kind: impl.EvDone, Tx: tx})
			for _, left := range []int{0, 150} {
				pages := recovered(t, committed, left)
				for _, number := range impl.LogPages(e.Log, tx) {
					if !sameContent(pages[number], e.Mem[number]) {
						t.Fatalf("page %d is %v, want %v, of transaction %d and %v", number, pages[number], e.Mem[number], tx, p.events)
					}
					checked++
				}
			}
		}
	}
	checkCount(t, checked, 300)
}

// Promise 80: after such events, whether a page is written or the log is forced does not change the contents after a crash that loses all other records, and recovery.
func TestWritesDoNotChangeWhatIsRecovered(t *testing.T) {
	t.Parallel()
	checked := 0
	for p := range plays {
		e := ran(t, p.events)
		want := recovered(t, e, 0)
		for _, v := range eventsOf("write 0, write 1, write 2, write 3, write 4, force") {
			written, changes := after(e, v)
			if got := recovered(t, written, 0); !sameContents(got, want) {
				t.Fatalf("recovered with %v after %v, want %v, of %v", got, v, want, p.events)
			}
			if changes {
				checked++
			}
		}
	}
	checkCount(t, checked, 300)
}

// Promise 81: after such events, repeated crashes and incomplete recoveries, and a complete one, give the same contents as one crash and one recovery.
func TestRepeatedCrashesInPlays(t *testing.T) {
	t.Parallel()
	dice := rand.New(rand.NewPCG(22, 81))
	incomplete := 0
	for p := range plays {
		e := ran(t, p.events)
		want := recovered(t, e, 150)
		for range 3 {
			again := do(e, "fall 150")
			for range 1 + dice.IntN(6) {
				v := impl.Event{Kind: impl.EvRise, N: dice.IntN(6)}
				if dice.IntN(3) == 0 {
					v = impl.Event{Kind: impl.EvFall, N: dice.IntN(len(again.Log) + 2)}
				}
				changes := false
				again, changes = after(again, v)
				if changes && v.Kind == impl.EvRise && again.Down {
					incomplete++
				}
			}
			if last := do(do(again, "fall 150"), "rise 150"); last.Down || !sameContents(last.Mem, want) {
				t.Fatalf("recovered at last with %v, want %v, of %v", last, want, p.events)
			}
		}
	}
	checkCount(t, incomplete, 300)
}

// Promise 82: after such events and a crash, nothing but EvRise and EvFall changes anything.
func TestEventsOfCrashedEngines(t *testing.T) {
	t.Parallel()
	dice := rand.New(rand.NewPCG(22, 82))
	risen, fallen := 0, 0
	for p := range plays {
		e := impl.PlayDo(ran(t, p.events), impl.Event{Kind: impl.EvFall, N: dice.IntN(60)})
		for range 30 {
			// likely to change something if the engine had not crashed
			v := anyEvent(dice.IntN(4) == 0, allKinds, dice)
			if dice.IntN(9) == 0 {
				v = impossible(v, allKinds, dice)
			}
			_, changes := after(e, v)
			if changes && v.Kind != impl.EvRise && v.Kind != impl.EvFall {
				t.Fatalf("PlayDo of %v changes %v", v, e)
			}
			if changes && v.Kind == impl.EvRise {
				risen++
			} else if changes {
				fallen++
			}
		}
	}
	checkCount(t, risen, 300)
	checkCount(t, fallen, 50)
}

// Promise 83: after such events, a locked page can be modified only by the transaction that locks it, and any other page by every transaction.
func TestModifiablePagesOfPlays(t *testing.T) {
	t.Parallel()
	seen := map[bool]int{}
	for p := range upPlays {
		e := ran(t, p.events)
		for number := range 5 {
			holder := impl.EngineLock(e, number)
			v := impl.Event{Kind: impl.EvPut, Page: number, Slot: 1, N: 7}
			if e.Mem[number].Owner == 0 {
				v = impl.Event{Kind: impl.EvOwn, Page: number, N: 2}
			}
			for v.Tx = 1; v.Tx <= 3; v.Tx++ {
				may := holder == 0 || holder == v.Tx
				if _, changes := after(e, v); changes != may || impl.ChangeMay(e, v.Tx, number) != may {
					t.Fatalf("PlayDo of %v: %v, of a page locked by %d in %v", v, changes, holder, e)
				}
				seen[may]++
			}
		}
	}
	checkCount(t, seen[true], 300)
	checkCount(t, seen[false], 300)
}

// Promise 84: after such events, a value put in an empty slot increases the count and sum of its table accordingly; rolling it back restores them.
func TestSumsOfPlays(t *testing.T) {
	t.Parallel()
	steps, rollbacks := 0, 0
	for p := range upPlays {
		e := ran(t, p.events)
		for number, mem := range e.Mem {
			slot := slices.Index(mem.Vals, 0)
			if mem.Owner == 0 || slot < 0 {
				continue
			}
			for tx := 1; tx <= 3; tx++ {
				v := impl.Event{Kind: impl.EvPut, Tx: tx, Page: number, Slot: slot, N: 1 + (steps+tx)%9}
				next, changes := after(e, v)
				if !changes {
					continue
				}
				checkSums(t, e, next, mem.Owner, 1, v.N)
				step, _ := impl.EndStep(next, tx)
				checkSums(t, e, step, mem.Owner, 0, 0)
				steps++
				if impl.LogLast(e.Log, tx) == 0 {
					checkSums(t, e, impl.PlayDo(next, impl.Event{Kind: impl.EvUndo, Tx: tx}), mem.Owner, 0, 0)
					rollbacks++
				}
			}
		}
	}
	checkCount(t, steps, 100)
	checkCount(t, rollbacks, 20)
}

// checkSums checks that a table has so many values more than before, with this sum, and that the others have as many as before.
func checkSums(t *testing.T, before, now impl.Engine, table, count, sum int) {
	t.Helper()
	for other := 1; other <= 3; other++ {
		wantCount, wantSum := impl.EngineSum(before, other)
		if other == table {
			wantCount, wantSum = wantCount+count, wantSum+sum
		}
		if gotCount, gotSum := impl.EngineSum(now, other); gotCount != wantCount || gotSum != wantSum {
			t.Fatalf("table %d has %d values and the sum %d, want %d and %d, in %v", other, gotCount, gotSum, wantCount, wantSum, now)
		}
	}
}

// Promise 85: after such events, free pages are empty in memory and on disk, and each page is counted for its table only.
func TestFreePagesOfPlays(t *testing.T) {
	t.Parallel()
	free, owned := 0, 0
	for p := range plays {
		e := ran(t, p.events)
		var counts, sums [4]int
		for number, mem := range e.Mem {
			for _, p := range []impl.Page{mem, e.Disk[number]} {
				if p.Owner == 0 && !impl.PageEmpty(p) {
					t.Fatalf("page %d is %v in %v", number, p, e)
				}
			}
			if mem.Owner == 0 {
				free++
			}
			for _, val := range mem.Vals {
				if val != 0 {
					counts[mem.Owner]++
					sums[mem.Owner] += val
					owned++
				}
			}
		}
		for table := range 4 {
			if count, sum := impl.EngineSum(e, table); count != counts[table] || sum != sums[table] {
				t.Fatalf("table %d has %d values and the sum %d, want %v and %v, in %v", table, count, sum, counts, sums, e)
			}
		}
	}
	checkCount(t, free, 300)
	checkCount(t, owned, 300)
}

// Promise 86: after such events, EvWrite and EvForce do not change the memory and the log.
func TestWritesInPlays(t *testing.T) {
	t.Parallel()
	checked := 0
	for p := range plays {
		e := ran(t, p.events)
		for _, v := range eventsOf("write 0, write 1, write 2, write 3, write 4, write 5, write -1, force") {
			next, changes := after(e, v)
			if !samePages(next.Mem, e.Mem) || !slices.Equal(next.Log, e.Log) || next.Down != e.Down {
				t.Fatalf("PlayDo of %v is %v, of %v", v, next, e)
			}
			if changes {
				checked++
			}
		}
	}
	checkCount(t, checked, 300)
}

// Promise 87: after such events, an event of an unknown kind, or with a transaction, page or number out of range that its kind uses, changes nothing.
func TestEventsOutOfRangeInPlays(t *testing.T) {
	t.Parallel()
	events := eventsOf("put 0 0 0 1, put 4 1 0 1, put -1 2 0 1, put 1 -1 0 1, put 1 5 0 1, put 1 0 -1 1, put 2 1 3 1, put 3 2 0 -1, put 1 0 0 10," +
		"own 0 0 1, own 4 1 0, own -1 2 1, own 1 -1 1, own 1 5 1, own 1 0 -1, own 2 1 4, load 0 0 1 2 3, load 4 1 1 2 3, load 1 -1 1 2 3, load 1 5 1 2 3," +
		"load 1 0, load 1 1 1 2, load 2 2 1 2 3 4, load 1 0 -1 2 3, load 2 1 1 2 10, done 0, done -1, done 4, undo 0, undo -1, undo 4, write -1, write 5, fall -1, fall -7, rise -1, rise -7")
	for _, kind := range []int{math.MinInt, -9, -1, 0, 10, math.MaxInt} {
		events = append(events, impl.Event{Kind: kind, Tx: 1, Page: 0, N: 1, Vals: []int{1, 2, 3}})
	}
	for p := range plays {
		if len(p.events) == 40 {
			continue
		}
		for _, e := range []impl.Engine{ran(t, p.events), do(ran(t, p.events), "fall 150")} {
			for _, v := range events {
				if next, changes := after(e, v); changes {
					t.Fatalf("PlayDo of %v is %v, of %v", v, next, e)
				}
			}
		}
		if got, want := impl.PlayTrue(append(slices.Clone(p.events), events[len(p.events)])), impl.PlayTrue(p.events); !samePages(got, want) {
			t.Fatalf("PlayTrue is %v after %v, was %v, of %v", got, events[len(p.events)], want, p.events)
		}
	}
}

// Promise 88: after such events, the number of records and the undo cost are at most LogMax; every open transaction has at least one record.
func TestLogSpaceOfPlays(t *testing.T) {
	t.Parallel()
	long := 0
	for p := range plays {
		e := ran(t, p.events)
		checkSpace(t, e)
		long = max(long, len(e.Log))
	}
	checkCount(t, long, 25)
}

func checkSpace(t *testing.T, e impl.Engine) {
	t.Helper()
	if need := impl.RiseNeed(e); need < 0 || len(e.Log) > impl.LogMax || need > impl.LogMax || len(e.Log)+need > impl.LogMax {
		t.Fatalf("%d records and the undo cost %d, of %v", len(e.Log), need, e)
	}
	for _, tx := range impl.LogOpen(e.Log) {
		if len(impl.LogChain(e.Log, tx)) == 0 {
			t.Fatalf("transaction %d has no record in %v", tx, e)
		}
	}
}

// Promise 88, with as many records as 40 events can make.
func TestLongestPlay(t *testing.T) {
	events := eventsOf("own 1 0 1, own 2 1 2, own 3 2 3")
	for n := range 34 {
		events = append(events, impl.Event{Kind: impl.EvPut, Tx: 1 + n%3, Page: n % 3, Slot: n % 2, N: n % 10})
	}
	for _, end := range []string{"undo 1, undo 2, undo 3", "fall 150, rise 150, rise 150", "fall 150, rise 39, rise 150"} {
		all := slices.Concat(events, eventsOf(end))
		e := ran(t, all)
		checkSpace(t, e)
		if len(all) != 40 || len(e.Log) != 37+37+3 || e.Down || !sameContents(e.Mem, newPages(nil)) || !samePages(impl.PlayTrue(all), newPages(nil)) {
			t.Errorf("%s: PlayRun is %v", end, e)
		}
	}
}

// Promise 89: after such events, EndUndo of a transaction does not change pages that it does not lock.
func TestRollbackOfOnePartOfPlays(t *testing.T) {
	t.Parallel()
	checked := 0
	for p := range upPlays {
		e := ran(t, p.events)
		for tx := 0; tx <= 4; tx++ {
			byEnd, _ := impl.EndUndo(e, tx)
			if undone := impl.PlayDo(e, impl.Event{Kind: impl.EvUndo, Tx: tx}); !sameEngine(undone, byEnd) {
				t.Fatalf("PlayDo of EvUndo is %v, and EndUndo %v", undone, byEnd)
			}
			for number := range 5 {
				if slices.Contains(impl.LogPages(e.Log, tx), number) {
					continue
				}
				if !samePage(byEnd.Mem[number], e.Mem[number]) || !samePage(byEnd.Disk[number], e.Disk[number]) {
					t.Fatalf("EndUndo of transaction %d changes page %d to %v, of %v", tx, number, byEnd, e)
				}
				if impl.LogLast(e.Log, tx) != 0 && e.Mem[number].Owner != 0 {
					checked++
				}
			}
		}
	}
	checkCount(t, checked, 200)
}

// Promise 90: PlayTrue of such events without EvDone consists of new pages.
func TestPlayTrueWithoutCommit(t *testing.T) {
	t.Parallel()
	checked := 0
	for p := range plays {
		events := slices.DeleteFunc(slices.Clone(p.events), func(v impl.Event) bool { return v.Kind == impl.EvDone })
		if got := impl.PlayTrue(events); !samePages(got, newPages(nil)) {
			t.Fatalf("PlayTrue is %v, of %v", got, events)
		}
		if e := ran(t, events); !sameContents(e.Mem, newPages(nil)) {
			checked++
		}
	}
	checkCount(t, checked, 100)
}

// Promise 91: after such events, a crash and recovery, EngineSum of each table is that of PlayTrue.
func TestSumsOfRecoveredPlays(t *testing.T) {
	t.Parallel()
	checked := 0
	for p := range plays {
		e := ran(t, p.events)
		// an engine of these pages alone: without records, all is on disk
		pages := impl.PlayTrue(p.events)
		want := impl.Engine{Disk: pages, Mem: pages}
		for _, left := range []int{0, (e.Safe + len(e.Log)) / 2, 150} {
			up := raised(t, fallenTo(t, e, left))
			for table := range 5 {
				count, sum := impl.EngineSum(up, table)
				wantCount, wantSum := impl.EngineSum(want, table)
				if count != wantCount || sum != wantSum {
					t.Fatalf("table %d has %d values and the sum %d, want %d and %d, of %v", table, count, sum, wantCount, wantSum, p.events)
				}
				checked += count
			}
		}
	}
	checkCount(t, checked, 300)
}

// Promise 92: after such events, a crash and recovery, a free page can be allocated, filled and committed, and survives another crash.
func TestFreePageAfterRecoveryOfPlays(t *testing.T) {
	t.Parallel()
	filled := map[int]int{}
	for p := range plays {
		e := do(do(ran(t, p.events), "fall 150"), "rise 150")
		number := slices.IndexFunc(e.Mem, func(p impl.Page) bool { return p.Owner == 0 })
		if number < 0 {
			continue
		}
		for tx := 1; tx <= 3; tx++ {
			fill := []impl.Event{{Kind: impl.EvOwn, Tx: tx, Page: number, N: 2}, {Kind: impl.EvLoad, Tx: tx, Page: number, Vals: []int{7, 8, 9}}, {Kind: impl.EvDone, Tx: tx}}
			if tx == 2 {
				fill[1] = impl.Event{Kind: impl.EvPut, Tx: tx, Page: number, Slot: 1, N: 8}
			}
			again := e
			for _, v := range fill {
				next, changes := after(again, v)
				if !changes {
					t.Fatalf("PlayDo of %v changes nothing, of %v", v, again)
				}
				again = next
			}
			want := copyPages(e.Mem)
			want[number] = map[bool]impl.Page{true: page(0, 2, 0, 8, 0), false: page(0, 2, 7, 8, 9)}[tx == 2]
			for _, left := range []int{0, 150} {
				if got := recovered(t, again, left); !sameContents(got, want) {
					t.Fatalf("recovered with %v, want %v, of %v", got, want, again)
				}
			}
			filled[tx]++
		}
	}
	checkCount(t, filled[2], 100)
}

// Promise 93: after such events, no RecDone is beyond Safe, and a committed transaction is not open.
func TestCommitsOfPlays(t *testing.T) {
	t.Parallel()
	checked := 0
	for p := range plays {
		e := impl.EngineNew()
		for _, v := range p.events {
			next, changes := after(e, v)
			for i, r := range next.Log {
				if r.Kind == impl.RecDone && i+1 > next.Safe {
					t.Fatalf("record %d is a commit, and Safe is %d, in %v", i+1, next.Safe, next)
				}
			}
			if changes && v.Kind == impl.EvDone {
				if impl.LogLast(next.Log, v.Tx) != 0 || slices.Contains(impl.LogOpen(next.Log), v.Tx) {
					t.Fatalf("transaction %d is open in %v", v.Tx, next)
				}
				if again, changes := after(next, v); changes {
					t.Fatalf("transaction %d is committed twice in %v", v.Tx, again)
				}
				checked++
			}
			e = next
		}
	}
	checkCount(t, checked, 200)
}

// Promise 94: PlayTrue of such events without EvWrite and EvForce is the same, if nothing crashed.
func TestPlayTrueWithoutWrites(t *testing.T) {
	t.Parallel()
	checked := 0
	for p := range plays {
		isCrash := func(v impl.Event) bool { return v.Kind == impl.EvFall && v.N >= 0 }
		if slices.ContainsFunc(p.events, isCrash) {
			continue
		}
		events := slices.DeleteFunc(slices.Clone(p.events), func(v impl.Event) bool { return v.Kind == impl.EvWrite || v.Kind == impl.EvForce })
		want := impl.PlayTrue(p.events)
		if got := impl.PlayTrue(events); !samePages(got, want) {
			t.Fatalf("PlayTrue is %v, want %v, of %v", got, want, p.events)
		}
		if len(events) < len(p.events) && !samePages(want, newPages(nil)) {
			checked++
		}
	}
	checkCount(t, checked, 20)
}

// keptEvents is events whose values have room behind their ends, with marks in it.
func keptEvents() []impl.Event {
	events := eventsOf("own 1 0 1, put 1 0 0 5, done 1, own 2 3 2, load 2 3 1 2 3, put 3 0 1 7, load 3 4 1 2, done 2, write 0")
	for n := range events {
		events[n].Vals = append(slices.Clone(events[n].Vals), 77, 77)[:len(events[n].Vals)]
	}
	return append(events, impl.Event{Kind: 77})[:len(events)]
}

// sameEvents says whether events are those of keptEvents, with their marks.
func sameEvents(events []impl.Event) bool {
	for n, v := range keptEvents() {
		got := events[n]
		got.Vals, v.Vals = nil, nil
		if !slices.Equal(events[n].Vals, keptEvents()[n].Vals) || !slices.Equal(events[n].Vals[:len(events[n].Vals)+2][len(events[n].Vals):], []int{77, 77}) {
			return false
		}
		if got.Kind != v.Kind || got.Tx != v.Tx || got.Page != v.Page || got.Slot != v.Slot || got.N != v.N {
			return false
		}
	}
	return events[:len(events)+1][len(events)].Kind == 77
}

// Events are not modified, and a change of them, or of a result, shows in no result.
func TestPlaysShareNoMemory(t *testing.T) {
	events := keptEvents()
	one, _ := impl.PlayRun(events)
	other, _ := impl.PlayRun(events)
	onePages, otherPages := impl.PlayTrue(events), impl.PlayTrue(events)
	if !sameEvents(events) {
		t.Fatalf("events were modified: %v", events)
	}
	want, wantPages := copyOf(other), copyPages(otherPages)
	overwrite(one)
	overwrite(impl.Engine{Mem: onePages})
	if !sameEvents(events) || !sameEngine(other, want) || !samePages(otherPages, wantPages) {
		t.Fatalf("a change of a result shows in %v, %v or %v", events, other, otherPages)
	}
	for n := range events {
		for i := range events[n].Vals {
			events[n].Vals[i] = 88
		}
		events[n].N = 88
	}
	if !sameEngine(other, want) || !samePages(otherPages, wantPages) {
		t.Errorf("a change of the events shows in %v or %v", other, otherPages)
	}
	for n := range otherPages {
		before := copyPages(otherPages)
		for slot := range otherPages[n].Vals[:cap(otherPages[n].Vals)] {
			otherPages[n].Vals[:cap(otherPages[n].Vals)][slot] = 99
		}
		before[n] = otherPages[n]
		if !samePages(otherPages, before) {
			t.Errorf("page %d of PlayTrue shares memory", n)
		}
	}
}

// The values of a load are not kept: a change of them shows in no engine.
func TestValuesOfEventsAreNotKept(t *testing.T) {
	v := impl.Event{Kind: impl.EvLoad, Tx: 1, Page: 3, Vals: []int{1, 2, 3}}
	got := impl.PlayDo(toLoad(), v)
	v.Vals[0] = 9
	if !slices.Equal(got.Mem[3].Vals, []int{1, 2, 3}) {
		t.Errorf("page 3 is %v", got.Mem[3])
	}
}
