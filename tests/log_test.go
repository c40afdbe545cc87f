package tests

import (
	"math"
	"math/rand/v2"
	"slices"
	"testing"

	"loop.example/tabularium/impl"
)

// logOf is the records with these texts.
func logOf(t *testing.T, texts ...string) []impl.Rec {
	t.Helper()
	var l []impl.Rec
	for _, text := range texts {
		r, ok := impl.RecRead(text)
		if !ok {
			t.Fatalf("%q is no record", text)
		}
		l = append(l, r)
	}
	return l
}

// validLogs are logs with, for transactions 1 to 3, the chain and the pages; the last record is the first of the chain.
var validLogs = []struct {
	name   string
	recs   []string
	chains [3][]int
	pages  [3][]int
	open   []int
}{
	{"no records", nil, [3][]int{}, [3][]int{}, nil},
	{"one record", []string{"own 2 3 -1 0 1 0 0"}, [3][]int{1: {1}}, [3][]int{1: {3}}, []int{2}},
	{
		"one transaction, all kinds but done",
		[]string{"own 1 2 -1 0 1 0 0", "put 1 2 0 0 5 1 0", "load 1 4 0 0 0 2 0", "undo 1 2 0 0 0 3 1", "undo 1 2 -1 0 0 4 0", "end 1 0 0 0 0 5 0"},
		[3][]int{}, [3][]int{}, nil,
	},
	{
		"one transaction in rollback",
		[]string{"own 1 2 -1 0 1 0 0", "put 1 2 0 0 5 1 0", "load 1 4 0 0 0 2 0", "undo 1 2 0 0 0 3 1"},
		[3][]int{{4, 3, 2, 1}}, [3][]int{{2, 4}}, []int{1},
	},
	{
		"two transactions in turn",
		[]string{"own 1 2 -1 0 1 0 0", "own 3 0 -1 0 1 0 0", "put 1 2 0 0 5 1 0", "put 3 0 1 0 9 2 0", "put 1 2 1 0 6 3 0"},
		[3][]int{{5, 3, 1}, nil, {4, 2}}, [3][]int{{2}, nil, {0}}, []int{1, 3},
	},
	{
		"three transactions, one committed",
		[]string{"own 3 4 -1 0 1 0 0", "own 2 1 -1 0 2 0 0", "own 1 0 -1 0 3 0 0", "put 2 1 0 0 5 2 0", "done 3 0 0 0 0 1 0", "load 1 2 0 0 0 3 0", "put 2 3 0 0 1 4 0"},
		[3][]int{{6, 3}, {7, 4, 2}, nil}, [3][]int{{0, 2}, {1, 3}, nil}, []int{1, 2},
	},
	{
		"pages out of order and named often",
		[]string{"put 2 4 0 0 1 0 0", "put 2 0 0 0 1 1 0", "put 2 3 0 0 1 2 0", "put 2 0 1 0 1 3 0", "load 2 4 0 0 0 4 0", "put 2 1 0 0 1 5 0", "undo 2 0 1 0 0 6 3"},
		[3][]int{1: {7, 6, 5, 4, 3, 2, 1}}, [3][]int{1: {0, 1, 3, 4}}, []int{2},
	},
	{
		"begun anew behind done",
		[]string{"put 1 1 0 0 1 0 0", "put 1 2 0 0 1 1 0", "done 1 0 0 0 0 2 0", "put 1 3 0 0 1 0 0", "put 1 0 0 0 1 4 0"},
		[3][]int{{5, 4}}, [3][]int{{0, 3}}, []int{1},
	},
	{
		"begun anew behind end",
		[]string{"put 2 1 0 0 1 0 0", "undo 2 1 0 0 0 1 0", "end 2 0 0 0 0 2 0", "load 2 4 0 0 0 0 0"},
		[3][]int{1: {4}}, [3][]int{1: {4}}, []int{2},
	},
	{
		"begun anew twice, beside another one",
		[]string{"put 1 1 0 0 1 0 0", "put 3 0 0 0 1 0 0", "done 1 0 0 0 0 1 0", "put 1 2 0 0 1 0 0", "put 3 0 1 0 1 2 0", "end 1 0 0 0 0 4 0", "put 1 3 0 0 1 0 0"},
		[3][]int{{7}, nil, {5, 2}}, [3][]int{{3}, nil, {0}}, []int{1, 3},
	},
	{"only done", []string{"done 1 0 0 0 0 0 0"}, [3][]int{}, [3][]int{}, nil},
	{"only end", []string{"end 3 0 0 0 0 0 0"}, [3][]int{}, [3][]int{}, nil},
	{"done behind done", []string{"done 1 0 0 0 0 0 0", "end 1 0 0 0 0 0 0", "done 1 0 0 0 0 0 0"}, [3][]int{}, [3][]int{}, nil},
	{"begun anew behind only done", []string{"done 1 0 0 0 0 0 0", "load 1 0 0 0 0 0 0"}, [3][]int{{2}}, [3][]int{{0}}, []int{1}},
	{"only undo, Next 0", []string{"undo 1 4 0 0 0 0 0"}, [3][]int{{1}}, [3][]int{{4}}, []int{1}},
	{"Next of an undo", []string{"put 1 4 0 0 1 0 0", "undo 1 4 0 0 0 1 0", "undo 1 3 0 0 0 2 2"}, [3][]int{{3, 2, 1}}, [3][]int{{3, 4}}, []int{1}},
	{"Next behind the chain", []string{"put 1 4 0 0 1 0 0", "done 1 0 0 0 0 1 0", "undo 1 3 0 0 0 0 1"}, [3][]int{{3}}, [3][]int{{3}}, []int{1}},
	{"Next of done", []string{"put 1 4 0 0 1 0 0", "done 1 0 0 0 0 1 0", "undo 1 3 0 0 0 0 2"}, [3][]int{{3}}, [3][]int{{3}}, []int{1}},
}

var invalidLogs = []struct {
	name string
	recs []string
}{
	{"first Prev not 0", []string{"put 1 0 0 0 1 1 0"}},
	{"Prev 0 instead of the last", []string{"put 1 0 0 0 1 0 0", "put 1 0 0 1 2 0 0"}},
	{"Prev not the last but one before", []string{"put 1 0 0 0 1 0 0", "put 1 0 0 1 2 1 0", "put 1 0 0 2 3 1 0"}},
	{"Prev of another transaction", []string{"put 1 0 0 0 1 0 0", "put 2 1 0 1 2 1 0"}},
	{"Prev its own number", []string{"put 1 0 0 0 1 0 0", "put 1 0 0 1 2 2 0"}},
	{"Prev a later number", []string{"put 1 0 0 0 1 0 0", "put 1 0 0 1 2 3 0", "put 1 0 0 2 3 2 0"}},
	{"Prev far away", []string{"put 1 0 0 0 1 0 0", "put 1 0 0 1 2 150 0"}},
	{"done with Prev 0", []string{"put 1 0 0 0 1 0 0", "done 1 0 0 0 0 0 0"}},
	{"end with a wrong Prev", []string{"put 1 0 0 0 1 0 0", "put 1 0 0 1 2 1 0", "end 1 0 0 0 0 1 0"}},
	{"begun anew with the Prev of done", []string{"put 1 0 0 0 1 0 0", "done 1 0 0 0 0 1 0", "put 1 0 0 1 2 2 0"}},
	{"begun anew with the Prev of end", []string{"put 1 0 0 0 1 0 0", "end 1 0 0 0 0 1 0", "put 1 0 0 1 2 2 0"}},
	{"begun anew with the Prev from before done", []string{"put 1 0 0 0 1 0 0", "done 1 0 0 0 0 1 0", "put 1 0 0 1 2 1 0"}},
	{"done twice with the Prev of done", []string{"put 1 0 0 0 1 0 0", "done 1 0 0 0 0 1 0", "done 1 0 0 0 0 2 0"}},
	{"Next its own number", []string{"put 1 0 0 0 1 0 0", "undo 1 0 0 0 0 1 2"}},
	{"Next its own number, first", []string{"undo 1 0 0 0 0 0 1"}},
	{"Next a later number", []string{"put 1 0 0 0 1 0 0", "undo 1 0 0 0 0 1 3", "put 1 0 0 0 1 2 0"}},
	{"Next behind the log", []string{"put 1 0 0 0 1 0 0", "undo 1 0 0 0 0 1 150"}},
	{"Next of another transaction", []string{"put 2 0 0 0 1 0 0", "put 1 1 0 0 1 0 0", "undo 1 1 0 0 0 2 1"}},
	{"invalid behind a valid beginning", []string{"put 1 0 0 0 1 0 0", "put 1 0 0 0 1 1 0", "put 2 1 0 0 1 0 0", "put 2 1 0 0 1 2 0", "put 1 0 0 0 1 2 0"}},
}

// lastIn is the number of the last record of a transaction, by the words of the document.
func lastIn(l []impl.Rec, tx int) int {
	for number := len(l); number >= 1; number-- {
		if r := l[number-1]; r.Tx == tx {
			if r.Kind == impl.RecDone || r.Kind == impl.RecEnd {
				return 0
			}
			return number
		}
	}
	return 0
}

// isLog says what the document does of a log, with its numbers written out.
func isLog(l []impl.Rec) bool {
	if len(l) > 150 {
		return false
	}
	for i, r := range l {
		if !validRec(r) || r.Prev != lastIn(l[:i], r.Tx) || r.Next >= i+1 {
			return false
		}
		if r.Next != 0 && l[r.Next-1].Tx != r.Tx {
			return false
		}
	}
	return true
}

// chainIn is the numbers of the records of a transaction behind its last RecDone or RecEnd, descending: without a look at any Prev.
func chainIn(l []impl.Rec, tx int) []int {
	var chain []int
	for i, r := range l {
		if r.Tx == tx && (r.Kind == impl.RecDone || r.Kind == impl.RecEnd) {
			chain = nil
		} else if r.Tx == tx {
			chain = append(chain, i+1)
		}
	}
	slices.Reverse(chain)
	return chain
}

// with is a log, in memory of its own, and one more record, with the Prev that it must have.
func with(l []impl.Rec, r impl.Rec) []impl.Rec {
	r.Prev = lastIn(l, r.Tx)
	return append(slices.Clone(l), r)
}

// further gives records of all kinds that a transaction may append to a log, but for their Prev: RecUndo with each Next that is possible.
func further(l []impl.Rec, tx int) []impl.Rec {
	recs := []impl.Rec{
		rec(impl.RecPut, tx, 0, 2, 3, 4, 0, 0),
		rec(impl.RecPut, tx, 4, 0, 0, 9, 0, 0),
		rec(impl.RecOwn, tx, 4, -1, 0, 1, 0, 0),
		rec(impl.RecLoad, tx, 2, 0, 0, 0, 0, 0),
		rec(impl.RecDone, tx, 0, 0, 0, 0, 0, 0),
		rec(impl.RecEnd, tx, 0, 0, 0, 0, 0, 0),
		rec(impl.RecUndo, tx, 3, -1, 0, 2, 0, 0),
	}
	for i, r := range l {
		if r.Tx == tx {
			recs = append(recs, rec(impl.RecUndo, tx, 1, 1, 0, 7, 0, i+1))
		}
	}
	return recs
}

// shortLogs gives all logs of at most so many records that further makes.
func shortLogs(most int) func(yield func([]impl.Rec) bool) {
	return func(yield func([]impl.Rec) bool) {
		longer(nil, most, yield)
	}
}

func longer(l []impl.Rec, most int, yield func([]impl.Rec) bool) bool {
	if !yield(l) {
		return false
	}
	if len(l) == most {
		return true
	}
	for tx := 1; tx <= 3; tx++ {
		for _, r := range further(l, tx) {
			if !longer(with(l, r), most, yield) {
				return false
			}
		}
	}
	return true
}

// longLogs gives the same logs each time: of all lengths, up to LogMax records.
func longLogs(yield func([]impl.Rec) bool) {
	dice := rand.New(rand.NewPCG(3, 16))
	for length := range 151 {
		var l []impl.Rec
		for len(l) < length {
			recs := further(l, 1+dice.IntN(3))
			r := recs[dice.IntN(len(recs))]
			// RecDone and RecEnd end a chain: without some of them chains become long.
			if (r.Kind == impl.RecDone || r.Kind == impl.RecEnd) && dice.IntN(length) > 5 {
				continue
			}
			if r.Kind != impl.RecDone && r.Kind != impl.RecEnd {
				r.Page = dice.IntN(5)
			}
			l = with(l, r)
		}
		if !yield(l) {
			return
		}
	}
}

// eachLog gives short logs and long ones.
func eachLog(yield func([]impl.Rec) bool) {
	for l := range shortLogs(3) {
		if !yield(l) {
			return
		}
	}
	longLogs(yield)
}

// checkNoLog checks the results for what is not a log.
func checkNoLog(t *testing.T, name string, l []impl.Rec) {
	t.Helper()
	if impl.LogOk(l) {
		t.Fatalf("%s: LogOk(%v) is true", name, l)
	}
	if open := impl.LogOpen(l); len(open) != 0 {
		t.Fatalf("%s: LogOpen(%v) is %v", name, l, open)
	}
	for tx := -1; tx <= 4; tx++ {
		last, chain, pages := impl.LogLast(l, tx), impl.LogChain(l, tx), impl.LogPages(l, tx)
		if last != 0 || len(chain) != 0 || len(pages) != 0 {
			t.Fatalf("%s: of %v, transaction %d: LogLast %d, LogChain %v, LogPages %v", name, l, tx, last, chain, pages)
		}
	}
}

// Promises 17 to 20, on logs written out.
func TestValidLogs(t *testing.T) {
	for _, c := range validLogs {
		l := logOf(t, c.recs...)
		if !impl.LogOk(l) {
			t.Errorf("%s: LogOk is false", c.name)
		}
		if open := impl.LogOpen(l); !slices.Equal(open, c.open) {
			t.Errorf("%s: LogOpen is %v, want %v", c.name, open, c.open)
		}
		for i := range c.chains {
			want := 0
			if len(c.chains[i]) > 0 {
				want = c.chains[i][0]
			}
			if last := impl.LogLast(l, i+1); last != want {
				t.Errorf("%s: LogLast of %d is %d, want %d", c.name, i+1, last, want)
			}
			if chain := impl.LogChain(l, i+1); !slices.Equal(chain, c.chains[i]) {
				t.Errorf("%s: LogChain of %d is %v, want %v", c.name, i+1, chain, c.chains[i])
			}
			if pages := impl.LogPages(l, i+1); !slices.Equal(pages, c.pages[i]) {
				t.Errorf("%s: LogPages of %d is %v, want %v", c.name, i+1, pages, c.pages[i])
			}
		}
	}
}

func TestInvalidLogs(t *testing.T) {
	for _, c := range invalidLogs {
		checkNoLog(t, c.name, logOf(t, c.recs...))
	}
}

func TestLogWithInvalidRecord(t *testing.T) {
	before := logOf(t, "own 1 2 -1 0 1 0 0", "own 2 3 -1 0 1 0 0", "put 1 2 0 0 5 1 0")
	for _, r := range invalidRecs {
		for place := range len(before) + 1 {
			l := slices.Insert(slices.Clone(before), place, r)
			checkNoLog(t, "invalid record", l)
			l[place].Prev = lastIn(l[:place], r.Tx)
			if !validRec(l[place]) {
				checkNoLog(t, "invalid record with a Prev that fits", l)
			}
		}
	}
}

func TestEmptyLog(t *testing.T) {
	for _, l := range [][]impl.Rec{nil, {}, make([]impl.Rec, 0, 9)} {
		if !impl.LogOk(l) || len(impl.LogOpen(l)) != 0 {
			t.Errorf("empty log: LogOk %v, LogOpen %v", impl.LogOk(l), impl.LogOpen(l))
		}
		for tx := -1; tx <= 4; tx++ {
			if impl.LogLast(l, tx) != 0 || len(impl.LogChain(l, tx)) != 0 || len(impl.LogPages(l, tx)) != 0 {
				t.Errorf("empty log, transaction %d: LogLast %d, LogChain %v, LogPages %v", tx, impl.LogLast(l, tx), impl.LogChain(l, tx), impl.LogPages(l, tx))
			}
		}
	}
}

func TestFullLog(t *testing.T) {
	var l []impl.Rec
	for len(l) < 150 {
		l = with(l, rec(impl.RecPut, 2, len(l)%5, 0, 1, 2, 0, 0))
	}
	if !impl.LogOk(l) || impl.LogLast(l, 2) != 150 || !slices.Equal(impl.LogOpen(l), []int{2}) {
		t.Errorf("log of LogMax records: LogOk %v, LogLast %d, LogOpen %v", impl.LogOk(l), impl.LogLast(l, 2), impl.LogOpen(l))
	}
	if chain := impl.LogChain(l, 2); len(chain) != 150 || chain[0] != 150 || chain[149] != 1 {
		t.Errorf("log of LogMax records: LogChain %v", chain)
	}
	if pages := impl.LogPages(l, 2); !slices.Equal(pages, []int{0, 1, 2, 3, 4}) {
		t.Errorf("log of LogMax records: LogPages %v", pages)
	}
	for tx := 1; tx <= 3; tx++ {
		for _, r := range further(l, tx) {
			checkNoLog(t, "one record too many", with(l, r))
		}
	}
	l = nil
	for len(l) < 1000 {
		l = with(l, rec(impl.RecDone, 1, 0, 0, 0, 0, 0, 0))
	}
	checkNoLog(t, "many too many", l)
}

func TestUnknownTransactions(t *testing.T) {
	for l := range eachLog {
		for _, tx := range []int{math.MinInt, -1, 0, 4, 5, 150, math.MaxInt} {
			last, chain, pages := impl.LogLast(l, tx), impl.LogChain(l, tx), impl.LogPages(l, tx)
			if last != 0 || len(chain) != 0 || len(pages) != 0 {
				t.Fatalf("of %v, transaction %d: LogLast %d, LogChain %v, LogPages %v", l, tx, last, chain, pages)
			}
		}
	}
}

// Promise 16: a log stays valid without its last records.
func TestLogWithoutLastRecords(t *testing.T) {
	for l := range eachLog {
		for n := range len(l) + 1 {
			if !impl.LogOk(l[:n]) {
				t.Fatalf("the first %d records of %v are no log", n, l)
			}
		}
	}
}

// Promise 16: without its first record a log is invalid, if the Prev of another record is 1.
func TestLogWithoutFirstRecord(t *testing.T) {
	invalid := 0
	for l := range eachLog {
		if len(l) == 0 {
			continue
		}
		follows := slices.ContainsFunc(l[1:], func(r impl.Rec) bool { return r.Prev == 1 })
		if follows {
			invalid++
			checkNoLog(t, "without its first record", l[1:])
		}
		if ok := impl.LogOk(l[1:]); ok != isLog(l[1:]) {
			t.Fatalf("LogOk(%v) is %v", l[1:], ok)
		}
	}
	if invalid == 0 {
		t.Error("no first record had one that follows it")
	}
	single := logOf(t, "done 1 0 0 0 0 0 0", "done 2 0 0 0 0 0 0", "put 3 0 0 0 1 0 0")
	if !impl.LogOk(single) || !impl.LogOk(single[1:]) {
		t.Error("a log with a first record that none follows is invalid with or without it")
	}
}

// Promise 17: LogChain descends from LogLast by Prev down to 0, through records of the transaction that do not end it.
func TestLogChain(t *testing.T) {
	for l := range eachLog {
		for tx := 1; tx <= 3; tx++ {
			chain := impl.LogChain(l, tx)
			if !slices.Equal(chain, chainIn(l, tx)) {
				t.Fatalf("LogChain(%v, %d) is %v, want %v", l, tx, chain, chainIn(l, tx))
			}
			number := impl.LogLast(l, tx)
			for _, n := range chain {
				if n != number || l[n-1].Tx != tx || l[n-1].Kind == impl.RecDone || l[n-1].Kind == impl.RecEnd {
					t.Fatalf("LogChain(%v, %d) is %v, with %d", l, tx, chain, n)
				}
				number = l[n-1].Prev
			}
			if number != 0 {
				t.Fatalf("LogChain(%v, %d) is %v, ends before %d", l, tx, chain, number)
			}
		}
	}
}

// Promise 18: LogLast is a record of the transaction after which it has none, or 0 if it has none or is ended.
func TestLogLast(t *testing.T) {
	for l := range eachLog {
		for tx := 1; tx <= 3; tx++ {
			if last := impl.LogLast(l, tx); last != lastIn(l, tx) {
				t.Fatalf("LogLast(%v, %d) is %d, want %d", l, tx, last, lastIn(l, tx))
			}
		}
	}
}

// Promise 19: LogPages lists, ascending, exactly the pages of the records of the chain.
func TestLogPages(t *testing.T) {
	for l := range eachLog {
		for tx := 1; tx <= 3; tx++ {
			var want []int
			for page := range 5 {
				if slices.ContainsFunc(chainIn(l, tx), func(n int) bool { return l[n-1].Page == page }) {
					want = append(want, page)
				}
			}
			if pages := impl.LogPages(l, tx); !slices.Equal(pages, want) {
				t.Fatalf("LogPages(%v, %d) is %v, want %v", l, tx, pages, want)
			}
		}
	}
}

// Promise 20: LogOpen lists, ascending, exactly the transactions whose LogLast is not 0.
func TestLogOpen(t *testing.T) {
	for l := range eachLog {
		var want []int
		for tx := 1; tx <= 3; tx++ {
			if lastIn(l, tx) != 0 {
				want = append(want, tx)
			}
		}
		if open := impl.LogOpen(l); !slices.Equal(open, want) {
			t.Fatalf("LogOpen(%v) is %v, want %v", l, open, want)
		}
	}
}

// Promise 20: after RecDone or RecEnd the transaction is not open, and the others are as before.
func TestLogOpenAfterEnd(t *testing.T) {
	for l := range eachLog {
		if len(l) == 150 {
			continue
		}
		for tx := 1; tx <= 3; tx++ {
			want := slices.DeleteFunc(slices.Clone(impl.LogOpen(l)), func(other int) bool { return other == tx })
			for _, kind := range []int{impl.RecDone, impl.RecEnd} {
				after := with(l, rec(kind, tx, 0, 0, 0, 0, 0, 0))
				if open := impl.LogOpen(after); !impl.LogOk(after) || !slices.Equal(open, want) {
					t.Fatalf("LogOpen(%v) is %v, want %v", after, open, want)
				}
				if impl.LogLast(after, tx) != 0 || len(impl.LogChain(after, tx)) != 0 || len(impl.LogPages(after, tx)) != 0 {
					t.Fatalf("of %v, transaction %d: LogLast %d, LogChain %v, LogPages %v", after, tx, impl.LogLast(after, tx), impl.LogChain(after, tx), impl.LogPages(after, tx))
				}
			}
		}
	}
}

// Promise 21: a record of another transaction does not change LogChain, LogLast and LogPages.
func TestRecordOfAnotherTransaction(t *testing.T) {
	for l := range eachLog {
		if len(l) == 150 {
			continue
		}
		for n := range 9 {
			tx, other := n/3+1, n%3+1
			if tx == other {
				continue
			}
			last, chain, pages := impl.LogLast(l, tx), impl.LogChain(l, tx), impl.LogPages(l, tx)
			for _, r := range further(l, other) {
				after := with(l, r)
				if !impl.LogOk(after) || impl.LogLast(after, tx) != last || !slices.Equal(impl.LogChain(after, tx), chain) || !slices.Equal(impl.LogPages(after, tx), pages) {
					t.Fatalf("of %v, transaction %d: LogLast %d, LogChain %v, LogPages %v, before the last record %d, %v, %v", after, tx,
						impl.LogLast(after, tx), impl.LogChain(after, tx), impl.LogPages(after, tx), last, chain, pages)
				}
			}
		}
	}
}

// Promise 22: an appended record that does not end its transaction is its last one and the first of its chain.
func TestAppendedRecord(t *testing.T) {
	for l := range eachLog {
		if len(l) == 150 {
			continue
		}
		for tx := 1; tx <= 3; tx++ {
			want := append([]int{len(l) + 1}, impl.LogChain(l, tx)...)
			for _, r := range further(l, tx) {
				if r.Kind == impl.RecDone || r.Kind == impl.RecEnd {
					continue
				}
				after := with(l, r)
				if !impl.LogOk(after) || impl.LogLast(after, tx) != len(after) || !slices.Equal(impl.LogChain(after, tx), want) {
					t.Fatalf("of %v, transaction %d: LogLast %d, LogChain %v, want %v", after, tx, impl.LogLast(after, tx), impl.LogChain(after, tx), want)
				}
				if !slices.Contains(impl.LogOpen(after), tx) || !slices.Contains(impl.LogPages(after, tx), r.Page) {
					t.Fatalf("of %v, transaction %d: LogOpen %v, LogPages %v", after, tx, impl.LogOpen(after), impl.LogPages(after, tx))
				}
			}
		}
	}
}

// changedLogs gives a log with another number in one field of one record, for the fields that tie records together.
func changedLogs(l []impl.Rec, yield func([]impl.Rec)) {
	numbers := []int{math.MinInt, -1, len(l) + 1, 149, 150, 151, math.MaxInt}
	for n := range min(len(l)+1, 12) {
		numbers = append(numbers, n, len(l)-n)
	}
	for i := range l {
		for _, field := range []func(r *impl.Rec) *int{
			func(r *impl.Rec) *int { return &r.Kind },
			func(r *impl.Rec) *int { return &r.Tx },
			func(r *impl.Rec) *int { return &r.Page },
			func(r *impl.Rec) *int { return &r.Prev },
			func(r *impl.Rec) *int { return &r.Next },
		} {
			other := slices.Clone(l)
			for _, n := range numbers {
				*field(&other[i]) = n
				yield(other)
			}
		}
	}
}

// Promises 16 to 20, and what is not a log: all functions on logs with one field changed.
func TestChangedLogs(t *testing.T) {
	valid, invalid := 0, 0
	check := func(l []impl.Rec) {
		if !isLog(l) {
			invalid++
			checkNoLog(t, "changed", l)
			return
		}
		valid++
		if !impl.LogOk(l) {
			t.Fatalf("LogOk(%v) is false", l)
		}
		for tx := 1; tx <= 3; tx++ {
			if last, chain := impl.LogLast(l, tx), impl.LogChain(l, tx); last != lastIn(l, tx) || !slices.Equal(chain, chainIn(l, tx)) {
				t.Fatalf("of %v, transaction %d: LogLast %d, LogChain %v", l, tx, last, chain)
			}
		}
	}
	for l := range shortLogs(2) {
		changedLogs(l, check)
	}
	for l := range longLogs {
		if len(l) <= 20 || len(l) == 150 {
			changedLogs(l, check)
		}
	}
	for _, c := range validLogs {
		changedLogs(logOf(t, c.recs...), check)
	}
	if valid == 0 || invalid == 0 {
		t.Errorf("%d changed logs are valid and %d are not", valid, invalid)
	}
}

func TestLogsStayUnchanged(t *testing.T) {
	for _, c := range validLogs {
		backing := append(logOf(t, c.recs...), validRecs[0].rec, validRecs[4].rec)
		before := slices.Clone(backing)
		l := backing[:len(c.recs)]
		impl.LogOk(l)
		impl.LogOpen(l)
		for tx := 0; tx <= 4; tx++ {
			impl.LogLast(l, tx)
			impl.LogChain(l, tx)
			impl.LogPages(l, tx)
		}
		if !slices.Equal(backing, before) {
			t.Errorf("%s: an argument was modified: %v", c.name, backing)
		}
	}
}

func TestLogResultsShareNoMemory(t *testing.T) {
	l := logOf(t, "put 1 4 0 0 1 0 0", "put 2 0 0 0 1 0 0", "put 1 4 1 0 1 1 0", "put 1 3 1 0 1 3 0")
	for _, call := range []func() []int{
		func() []int { return impl.LogChain(l, 1) },
		func() []int { return impl.LogPages(l, 1) },
		func() []int { return impl.LogOpen(l) },
	} {
		one, other := call(), call()
		want := slices.Clone(other)
		for i := range one[:cap(one)] {
			one[:cap(one)][i] = 77
		}
		if !slices.Equal(other, want) || !slices.Equal(call(), want) {
			t.Errorf("a change of a result shows in another: %v, %v, want %v", other, call(), want)
		}
	}
}
