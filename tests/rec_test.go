package tests

import (
	"fmt"
	"math"
	"slices"
	"strings"
	"testing"

	"loop.example/tabularium/impl"
)

func rec(kind, tx, page, slot, old, new, prev, next int) impl.Rec {
	return impl.Rec{Kind: kind, Tx: tx, Page: page, Slot: slot, Old: old, New: new, Prev: prev, Next: next}
}

var validRecs = []struct {
	rec  impl.Rec
	text string
}{
	{rec(impl.RecPut, 1, 3, 2, 4, 5, 7, 0), "put 1 3 2 4 5 7 0"},
	{rec(impl.RecPut, 1, 0, 0, 0, 0, 0, 0), "put 1 0 0 0 0 0 0"},
	{rec(impl.RecPut, 3, 4, 2, 9, 9, 150, 0), "put 3 4 2 9 9 150 0"},
	{rec(impl.RecPut, 2, 1, 1, 0, 9, 10, 0), "put 2 1 1 0 9 10 0"},
	{rec(impl.RecOwn, 2, 0, -1, 0, 3, 0, 0), "own 2 0 -1 0 3 0 0"},
	{rec(impl.RecOwn, 1, 4, -1, 3, 0, 150, 0), "own 1 4 -1 3 0 150 0"},
	{rec(impl.RecOwn, 3, 2, -1, 1, 2, 99, 0), "own 3 2 -1 1 2 99 0"},
	{rec(impl.RecOwn, 3, 2, -1, 0, 0, 1, 0), "own 3 2 -1 0 0 1 0"},
	{rec(impl.RecLoad, 1, 0, 0, 0, 0, 0, 0), "load 1 0 0 0 0 0 0"},
	{rec(impl.RecLoad, 3, 4, 0, 0, 0, 150, 0), "load 3 4 0 0 0 150 0"},
	{rec(impl.RecDone, 1, 0, 0, 0, 0, 0, 0), "done 1 0 0 0 0 0 0"},
	{rec(impl.RecDone, 3, 0, 0, 0, 0, 150, 0), "done 3 0 0 0 0 150 0"},
	{rec(impl.RecEnd, 1, 0, 0, 0, 0, 0, 0), "end 1 0 0 0 0 0 0"},
	{rec(impl.RecEnd, 3, 0, 0, 0, 0, 150, 0), "end 3 0 0 0 0 150 0"},
	{rec(impl.RecUndo, 1, 3, 2, 0, 4, 9, 7), "undo 1 3 2 0 4 9 7"},
	{rec(impl.RecUndo, 1, 0, 0, 0, 0, 0, 0), "undo 1 0 0 0 0 0 0"},
	{rec(impl.RecUndo, 3, 4, 2, 0, 9, 150, 150), "undo 3 4 2 0 9 150 150"},
	{rec(impl.RecUndo, 2, 4, -1, 0, 0, 100, 0), "undo 2 4 -1 0 0 100 0"},
	{rec(impl.RecUndo, 3, 4, -1, 0, 3, 150, 150), "undo 3 4 -1 0 3 150 150"},
}

var invalidRecs = []impl.Rec{
	{},
	// kinds and transactions that there are not
	rec(0, 1, 3, 2, 4, 5, 7, 0),
	rec(-1, 1, 3, 2, 4, 5, 7, 0),
	rec(7, 1, 3, 2, 4, 5, 7, 0),
	rec(math.MinInt, 1, 0, 0, 0, 0, 0, 0),
	rec(math.MaxInt, 1, 0, 0, 0, 0, 0, 0),
	rec(impl.RecPut, 0, 3, 2, 4, 5, 7, 0),
	rec(impl.RecPut, 4, 3, 2, 4, 5, 7, 0),
	rec(impl.RecDone, 0, 0, 0, 0, 0, 7, 0),
	rec(impl.RecEnd, 4, 0, 0, 0, 0, 7, 0),
	// fields out of range
	rec(impl.RecPut, 1, -1, 2, 4, 5, 7, 0),
	rec(impl.RecPut, 1, 5, 2, 4, 5, 7, 0),
	rec(impl.RecPut, 1, 3, -1, 1, 2, 7, 0),
	rec(impl.RecPut, 1, 3, 3, 4, 5, 7, 0),
	rec(impl.RecPut, 1, 3, 2, -1, 5, 7, 0),
	rec(impl.RecPut, 1, 3, 2, 10, 5, 7, 0),
	rec(impl.RecPut, 1, 3, 2, 4, -1, 7, 0),
	rec(impl.RecPut, 1, 3, 2, 4, 10, 7, 0),
	rec(impl.RecPut, 1, 3, 2, 4, 5, -1, 0),
	rec(impl.RecPut, 1, 3, 2, 4, 5, 151, 0),
	rec(impl.RecOwn, 1, 5, -1, 0, 1, 7, 0),
	rec(impl.RecOwn, 1, 3, -2, 0, 1, 7, 0),
	rec(impl.RecOwn, 1, 3, 0, 0, 1, 7, 0),
	rec(impl.RecOwn, 1, 3, -1, 4, 1, 7, 0),
	rec(impl.RecOwn, 1, 3, -1, 0, 4, 7, 0),
	rec(impl.RecOwn, 1, 3, -1, -1, 1, 7, 0),
	rec(impl.RecLoad, 1, 5, 0, 0, 0, 7, 0),
	rec(impl.RecLoad, 1, 3, 0, 0, 0, 151, 0),
	rec(impl.RecDone, 1, 0, 0, 0, 0, -1, 0),
	rec(impl.RecUndo, 1, 3, -2, 0, 1, 9, 7),
	rec(impl.RecUndo, 1, 3, 3, 0, 1, 9, 7),
	rec(impl.RecUndo, 1, 3, -1, 0, 4, 9, 7),
	rec(impl.RecUndo, 1, 3, 2, 0, 10, 9, 7),
	rec(impl.RecUndo, 1, 3, 2, 0, 4, 9, -1),
	rec(impl.RecUndo, 1, 3, 2, 0, 4, 9, 151),
	rec(impl.RecUndo, 1, math.MinInt, 2, 0, 4, 9, 7),
	rec(impl.RecUndo, 1, 3, math.MaxInt, 0, 4, 9, 7),
	rec(impl.RecUndo, 1, 3, math.MinInt, 0, 4, 9, 7),
	// fields that the kind does not use
	rec(impl.RecPut, 1, 3, 2, 4, 5, 7, 1),
	rec(impl.RecOwn, 1, 3, -1, 0, 1, 7, 1),
	rec(impl.RecLoad, 1, 3, 1, 0, 0, 7, 0),
	rec(impl.RecLoad, 1, 3, -1, 0, 0, 7, 0),
	rec(impl.RecLoad, 1, 3, 0, 1, 0, 7, 0),
	rec(impl.RecLoad, 1, 3, 0, 0, 1, 7, 0),
	rec(impl.RecLoad, 1, 3, 0, 0, 0, 7, 1),
	rec(impl.RecDone, 1, 1, 0, 0, 0, 7, 0),
	rec(impl.RecDone, 1, 0, 1, 0, 0, 7, 0),
	rec(impl.RecDone, 1, 0, -1, 0, 0, 7, 0),
	rec(impl.RecDone, 1, 0, 0, 1, 0, 7, 0),
	rec(impl.RecDone, 1, 0, 0, 0, 1, 7, 0),
	rec(impl.RecDone, 1, 0, 0, 0, 0, 7, 1),
	rec(impl.RecEnd, 1, 1, 0, 0, 0, 7, 0),
	rec(impl.RecEnd, 1, 0, -1, 0, 0, 7, 0),
	rec(impl.RecEnd, 1, 0, 0, 0, 0, 7, 7),
	rec(impl.RecUndo, 1, 3, 2, 1, 4, 9, 7),
	rec(impl.RecUndo, 1, 3, -1, 1, 3, 9, 7),
}

var invalidTexts = []string{
	"", " ", "put", "put ", "0", "1 1 3 2 4 5 7 0",
	// words too few or too many
	"put 1 3 2 4 5 7", "put 1 3 2 4 5 7 0 0", "done 1 7", "done 1 0 0 0 0 7", "load 1 3 7", "end 1",
	"1 3 2 4 5 7 0", "put put 1 3 2 4 5 7 0",
	// other blanks
	" put 1 3 2 4 5 7 0", "put 1 3 2 4 5 7 0 ", "put  1 3 2 4 5 7 0", "put 1 3 2 4 5 7  0", "put 1 3 2 4 5 7 ",
	"put\t1 3 2 4 5 7 0", "put 1 3 2 4 5 7 0\n", "put 1 3 2 4 5 7\n0", "put 1 3 2 4 5 7\u00a00", "put 1 3 2 4 5 7 0\x00",
	// signs and zeros
	"put +1 3 2 4 5 7 0", "put 01 3 2 4 5 7 0", "put 1 3 2 4 5 07 0", "put 1 3 2 4 5 7 00", "put 1 3 2 4 5 7 -0",
	"put 1 3 2 4 5 7 +0", "put 1 3 2 4 5 -7 0", "own 2 0 -01 0 3 0 0", "own 2 0 --1 0 3 0 0", "own 2 0 - 0 3 0 0",
	"own 2 0 \u22121 0 3 0 0", "put 1 3 2 4 5 1e1 0", "put 1 3 2 4 5 0x7 0", "put 1 3 2 4 5 1_0 0", "put 1 3 2 4 5 7. 0",
	"put \u0661 3 2 4 5 7 0", "put \xff 3 2 4 5 7 0",
	// names that there are not
	"Put 1 3 2 4 5 7 0", "PUT 1 3 2 4 5 7 0", "pu 1 3 2 4 5 7 0", "puts 1 3 2 4 5 7 0", "redo 1 3 2 0 5 7 0", " 1 3 2 4 5 7 0",
	"- 1 0 0 0 0 0 0",
	// numbers out of range, and what the kind does not use
	"put 0 3 2 4 5 7 0", "put 4 3 2 4 5 7 0", "put 1 5 2 4 5 7 0", "put 1 -1 2 4 5 7 0", "put 1 3 3 4 5 7 0", "put 1 3 -1 2 3 7 0",
	"put 1 3 2 10 5 7 0", "put 1 3 2 4 10 7 0", "put 1 3 2 4 -1 7 0", "put 1 3 2 4 5 151 0", "put 1 3 2 4 5 -1 0", "put 1 3 2 4 5 7 1",
	"own 1 0 0 0 1 0 0", "own 1 0 -1 4 0 0 0", "own 1 0 -1 0 4 0 0", "load 1 2 1 0 0 0 0", "done 1 1 0 0 0 0 0", "end 1 0 0 0 0 0 1",
	"undo 1 3 2 4 4 9 7", "undo 1 3 -1 0 4 9 7", "undo 1 3 -2 0 1 9 7", "undo 1 3 2 0 4 9 151",
	// 30 bytes, and more
	"undo 3 4 -1 0 3 150 0000000150", "put 1 3 2 4 5 7 00000000000000", "put 1 3 2 4 5 7 000000000000000", "put 1 3 2 4 5 18446744073709551",
	"put 18446744073709551617 3 2 4 5 7 0", "put 1 3 2 4 5 7 0             ", "put 1 3 2 4 5 7 0              ",
}

// fieldRanges says which values the document allows the fields of a kind, with the numbers written out.
var fieldRanges = []struct {
	kind                       int
	page, slot, old, new, next [2]int
}{
	{1, [2]int{0, 4}, [2]int{0, 2}, [2]int{0, 9}, [2]int{0, 9}, [2]int{0, 0}},
	{2, [2]int{0, 4}, [2]int{-1, -1}, [2]int{0, 3}, [2]int{0, 3}, [2]int{0, 0}},
	{3, [2]int{0, 4}, [2]int{0, 0}, [2]int{0, 0}, [2]int{0, 0}, [2]int{0, 0}},
	{4, [2]int{0, 0}, [2]int{0, 0}, [2]int{0, 0}, [2]int{0, 0}, [2]int{0, 0}},
	{5, [2]int{0, 0}, [2]int{0, 0}, [2]int{0, 0}, [2]int{0, 0}, [2]int{0, 0}},
	{6, [2]int{0, 4}, [2]int{0, 2}, [2]int{0, 0}, [2]int{0, 9}, [2]int{0, 150}},
	{6, [2]int{0, 4}, [2]int{-1, -1}, [2]int{0, 0}, [2]int{0, 3}, [2]int{0, 150}},
}

func in(n int, bounds [2]int) bool {
	return bounds[0] <= n && n <= bounds[1]
}

func validRec(r impl.Rec) bool {
	for _, f := range fieldRanges {
		if r.Kind == f.kind && in(r.Page, f.page) && in(r.Slot, f.slot) && in(r.Old, f.old) && in(r.New, f.new) && in(r.Next, f.next) {
			return in(r.Tx, [2]int{1, 3}) && in(r.Prev, [2]int{0, 150})
		}
	}
	return false
}

// eachRec gives records with numbers up to one beyond their limits: of kinds, transactions, pages and slots all, of others those at a limit.
func eachRec(yield func(impl.Rec) bool) {
	vals := []int{-1, 0, 1, 3, 4, 9, 10}
	nums := []int{-1, 0, 1, 150, 151}
	for n := range 9 * 6 * 7 * 6 {
		kind, tx, page, slot := n/252-1, n/42%6-1, n/6%7-1, n%6-2
		for m := range 7 * 7 * 5 * 5 {
			r := rec(kind, tx, page, slot, vals[m/175], vals[m/25%7], nums[m/5%5], nums[m%5])
			if !yield(r) {
				return
			}
		}
	}
}

func eachValidRec(yield func(impl.Rec) bool) {
	for r := range eachRec {
		if validRec(r) && !yield(r) {
			return
		}
	}
}

// eachChange gives the records that RecDo can apply, of one transaction and page.
func eachChange(yield func(impl.Rec) bool) {
	for r := range eachValidRec {
		if changes(r) && r.Tx == 2 && r.Page == 4 && !yield(r) {
			return
		}
	}
}

func changes(r impl.Rec) bool {
	return r.Kind == impl.RecPut || r.Kind == impl.RecOwn || r.Kind == impl.RecUndo
}

// changed is the page that the document requires of RecDo, and whether it is valid.
func changed(p impl.Page, r impl.Rec, lsn int) (impl.Page, bool) {
	q := impl.Page{Lsn: lsn, Owner: p.Owner, Vals: slices.Clone(p.Vals)}
	switch {
	case r.Slot >= 0:
		q.Vals[r.Slot] = r.New
	case r.New == 0:
		q.Owner, q.Vals = 0, []int{0, 0, 0}
	default:
		q.Owner = r.New
	}
	return q, valid(q)
}

func samePage(p, q impl.Page) bool {
	return p.Lsn == q.Lsn && sameContent(p, q)
}

func sameContent(p, q impl.Page) bool {
	return p.Owner == q.Owner && slices.Equal(p.Vals, q.Vals)
}

func isZero(p impl.Page) bool {
	return p.Lsn == 0 && p.Owner == 0 && len(p.Vals) == 0
}

func TestKindsOfRecords(t *testing.T) {
	got := [...]int{impl.RecPut, impl.RecOwn, impl.RecLoad, impl.RecDone, impl.RecEnd, impl.RecUndo, impl.TxMax}
	if want := [...]int{1, 2, 3, 4, 5, 6, 3}; got != want {
		t.Errorf("kinds and TxMax %v, want %v", got, want)
	}
}

// Promise 5, on records written out.
func TestValidRecs(t *testing.T) {
	for _, c := range validRecs {
		if !impl.RecOk(c.rec) {
			t.Errorf("RecOk(%v) is false", c.rec)
		}
		if got := impl.RecText(c.rec); got != c.text {
			t.Errorf("RecText(%v) is %q, want %q", c.rec, got, c.text)
		}
		if got, ok := impl.RecRead(c.text); !ok || got != c.rec {
			t.Errorf("RecRead(%q) is %v, %v, want %v", c.text, got, ok, c.rec)
		}
	}
}

func TestInvalidRecs(t *testing.T) {
	p := page(0, 1, 1, 2, 3)
	for _, r := range invalidRecs {
		if impl.RecOk(r) || impl.RecText(r) != "" {
			t.Errorf("invalid %v: RecOk %v, RecText %q", r, impl.RecOk(r), impl.RecText(r))
		}
		if q, ok := impl.RecDo(p, r, 9); ok || !isZero(q) {
			t.Errorf("RecDo of invalid %v is %v, %v", r, q, ok)
		}
		if b, ok := impl.RecBack(r, 9); ok || b != (impl.Rec{}) {
			t.Errorf("RecBack of invalid %v is %v, %v", r, b, ok)
		}
	}
}

func TestInvalidTexts(t *testing.T) {
	for _, text := range invalidTexts {
		if r, ok := impl.RecRead(text); ok || r != (impl.Rec{}) {
			t.Errorf("RecRead(%q) is %v, %v", text, r, ok)
		}
	}
}

func TestLongTexts(t *testing.T) {
	for n := 24; n <= 40; n++ {
		for _, fill := range []string{" ", "0", "1"} {
			text := "undo 3 4 -1 0 3 150 150"
			text += strings.Repeat(fill, n-len(text))
			if r, ok := impl.RecRead(text); ok || r != (impl.Rec{}) {
				t.Errorf("RecRead of %d bytes, %q, is %v, %v", n, text, r, ok)
			}
		}
	}
	if r, ok := impl.RecRead(strings.Repeat("put 1 0 0 0 0 0 0 ", 100000)); ok {
		t.Errorf("RecRead of a very long text is %v", r)
	}
}

// Promise 7, for all records near the limits.
func TestRecOkOfEachRec(t *testing.T) {
	for r := range eachRec {
		if want := validRec(r); impl.RecOk(r) != want {
			t.Fatalf("RecOk(%v) is %v", r, !want)
		}
	}
}

// Promise 7: a valid record is invalid with an unknown transaction, page or kind, or, for RecPut, slot.
func TestRecWithUnknownField(t *testing.T) {
	fields := []struct {
		set     func(r *impl.Rec, n int)
		unknown []int
		putOnly bool
	}{
		{func(r *impl.Rec, n int) { r.Tx = n }, []int{math.MinInt, -1, 0, 4, 5, math.MaxInt}, false},
		{func(r *impl.Rec, n int) { r.Page = n }, []int{math.MinInt, -2, -1, 5, 6, math.MaxInt}, false},
		{func(r *impl.Rec, n int) { r.Kind = n }, []int{math.MinInt, -1, 0, 7, 8, math.MaxInt}, false},
		{func(r *impl.Rec, n int) { r.Slot = n }, []int{math.MinInt, -2, -1, 3, 4, math.MaxInt}, true},
	}
	for r := range eachValidRec {
		for _, f := range fields {
			for _, n := range f.unknown {
				other := r
				f.set(&other, n)
				if impl.RecOk(other) && (r.Kind == impl.RecPut || !f.putOnly) {
					t.Fatalf("RecOk(%v) is true", other)
				}
			}
		}
	}
}

// Promises 5 and 13: a valid record is read back from its text, and no other has this text.
func TestTextTellsRecsApart(t *testing.T) {
	names := [...]string{1: "put", 2: "own", 3: "load", 4: "done", 5: "end", 6: "undo"}
	recs := map[string]impl.Rec{}
	for r := range eachValidRec {
		text := impl.RecText(r)
		want := fmt.Sprintf("%s %d %d %d %d %d %d %d", names[r.Kind], r.Tx, r.Page, r.Slot, r.Old, r.New, r.Prev, r.Next)
		if text != want {
			t.Fatalf("RecText(%v) is %q, want %q", r, text, want)
		}
		if got, ok := impl.RecRead(text); !ok || got != r {
			t.Fatalf("RecRead(%q) is %v, %v", text, got, ok)
		}
		if other, met := recs[text]; met {
			t.Fatalf("%v and %v have the text %q", r, other, text)
		}
		recs[text] = r
	}
}

// Promise 5: all numbers of records, not only those at a limit.
func TestEachNumberIsReadBack(t *testing.T) {
	for n := range 151 {
		for _, r := range []impl.Rec{
			rec(impl.RecPut, 2, 1, 1, n%10, n/10%10, n, 0),
			rec(impl.RecOwn, 2, 1, -1, n%4, n/4%4, n, 0),
			rec(impl.RecLoad, 2, 1, 0, 0, 0, n, 0),
			rec(impl.RecDone, 2, 0, 0, 0, 0, n, 0),
			rec(impl.RecEnd, 2, 0, 0, 0, 0, n, 0),
			rec(impl.RecUndo, 2, 1, 1, 0, n%10, n, 150-n),
		} {
			if got, ok := impl.RecRead(impl.RecText(r)); !ok || got != r {
				t.Errorf("RecRead(%q) is %v, %v", impl.RecText(r), got, ok)
			}
		}
	}
}

// edits gives all texts that differ from a text by one byte more, less or other.
func edits(text string, yield func(string)) {
	bytes := " 0123456789-+_.xaputownlde\n\t\x00\xff"
	for i := range len(text) + 1 {
		for _, b := range []byte(bytes) {
			yield(text[:i] + string([]byte{b}) + text[i:])
			yield(text[:i] + string([]byte{b}) + text[min(i+1, len(text)):])
		}
		yield(text[:i] + text[min(i+1, len(text)):])
	}
}

// Promise 6: if RecRead succeeds, its result is valid and RecText of it is the input; if it fails, its result is zero.
func TestReadTextIsTheOnlyOne(t *testing.T) {
	read := 0
	check := func(text string) {
		r, ok := impl.RecRead(text)
		if !ok && r != (impl.Rec{}) {
			t.Fatalf("RecRead(%q) fails with %v", text, r)
		}
		if ok && (!validRec(r) || !impl.RecOk(r) || impl.RecText(r) != text) {
			t.Fatalf("RecRead(%q) is %v with the text %q", text, r, impl.RecText(r))
		}
		if ok {
			read++
		}
	}
	for _, c := range validRecs {
		edits(c.text, check)
		for i := range c.text {
			for j := range i {
				edits(c.text[:j]+c.text[j+1:i]+c.text[i+1:], check)
			}
		}
	}
	if read == 0 {
		t.Error("no edited text was read")
	}
}

// Promise 12: without its last byte a text is not that of the same record, and with a further blank it is none.
func TestTextWithOtherEnd(t *testing.T) {
	for r := range eachValidRec {
		text := impl.RecText(r)
		if got, ok := impl.RecRead(text[:len(text)-1]); ok && got == r {
			t.Fatalf("RecRead of %q without its last byte is the same record", text)
		}
		for _, end := range []string{" ", "  ", "\n", "\t", "\x00", " 0"} {
			if got, ok := impl.RecRead(text + end); ok {
				t.Fatalf("RecRead(%q) is %v", text+end, got)
			}
		}
		if got, ok := impl.RecRead(" " + text); ok {
			t.Fatalf("RecRead(%q) is %v", " "+text, got)
		}
	}
}

var someNumbers = []int{math.MinInt, -1, 0, 1, 4, 5, 149, 150, 151, math.MaxInt}

// somePages are valid pages to be changed.
func somePages() []impl.Page {
	var pages []impl.Page
	for _, c := range validPages {
		pages = append(pages, c.page)
	}
	return append(pages, page(149, 2, 9, 0, 5), page(5, 3, 3, 4, 5))
}

// Promises 8 and 15: the page after RecDo, or none if a number is too small or too large, or the page is invalid then.
func TestRecDo(t *testing.T) {
	for r := range eachChange {
		for _, p := range somePages() {
			for _, lsn := range someNumbers {
				got, ok := impl.RecDo(p, r, lsn)
				want, can := changed(p, r, lsn)
				if lsn <= p.Lsn || lsn > 150 || !can {
					if ok || !isZero(got) {
						t.Fatalf("RecDo(%v, %v, %d) is %v, %v, must fail", p, r, lsn, got, ok)
					}
					continue
				}
				if !ok || !samePage(got, want) || !impl.PageOk(got) {
					t.Fatalf("RecDo(%v, %v, %d) is %v, %v, want %v", p, r, lsn, got, ok, want)
				}
			}
		}
	}
}

func TestRecDoWrittenOut(t *testing.T) {
	p := page(8, 1, 1, 2, 4)
	for _, c := range []struct {
		page impl.Page
		text string
		want impl.Page
		ok   bool
	}{
		{p, "put 1 3 2 4 5 7 0", page(9, 1, 1, 2, 5), true},
		{p, "put 1 3 0 0 0 7 0", page(9, 1, 0, 2, 4), true},
		{p, "put 2 0 1 9 9 0 0", page(9, 1, 1, 9, 4), true},
		{p, "undo 1 3 2 0 9 8 7", page(9, 1, 1, 2, 9), true},
		{p, "own 1 3 -1 0 3 0 0", page(9, 3, 1, 2, 4), true},
		{p, "own 1 3 -1 1 0 0 0", page(9, 0, 0, 0, 0), true},
		{p, "undo 1 3 -1 0 2 8 0", page(9, 2, 1, 2, 4), true},
		{p, "undo 1 3 -1 0 0 8 0", page(9, 0, 0, 0, 0), true},
		{p, "load 1 3 0 0 0 0 0", impl.Page{}, false},
		{p, "done 1 0 0 0 0 0 0", impl.Page{}, false},
		{p, "end 1 0 0 0 0 0 0", impl.Page{}, false},
		{impl.PageNew(), "put 1 0 0 0 1 0 0", impl.Page{}, false},
		{impl.PageNew(), "undo 1 0 0 0 1 0 0", impl.Page{}, false},
		{impl.PageNew(), "put 1 0 0 1 0 0 0", page(9, 0, 0, 0, 0), true},
		{impl.PageNew(), "undo 1 0 2 0 0 0 0", page(9, 0, 0, 0, 0), true},
		{impl.PageNew(), "own 1 0 -1 0 0 0 0", page(9, 0, 0, 0, 0), true},
		{impl.PageNew(), "own 1 0 -1 0 3 0 0", page(9, 3, 0, 0, 0), true},
	} {
		r, read := impl.RecRead(c.text)
		if got, ok := impl.RecDo(c.page, r, 9); !read || ok != c.ok || !samePage(got, c.want) {
			t.Errorf("RecDo(%v, %q, 9) is %v, %v, want %v, %v", c.page, c.text, got, ok, c.want, c.ok)
		}
	}
}

// Promise 8: RecDo does the same whatever page, transaction and numbers the record has.
func TestRecDoUsesSlotAndNewOnly(t *testing.T) {
	type change struct{ kind, slot, new int }
	p := page(3, 2, 4, 0, 9)
	pages := map[change]impl.Page{}
	for r := range eachValidRec {
		q, ok := impl.RecDo(p, r, 4)
		if ok != changes(r) {
			t.Fatalf("RecDo(%v, %v, 4) is %v, %v", p, r, q, ok)
		}
		c := change{r.Kind, r.Slot, r.New}
		if other, met := pages[c]; met && !samePage(q, other) {
			t.Fatalf("RecDo(%v, %v, 4) is %v, not %v as of another like it", p, r, q, other)
		}
		pages[c] = q
	}
}

func TestRecDoOfInvalidPages(t *testing.T) {
	for _, p := range invalidPages {
		for _, c := range validRecs {
			for _, lsn := range someNumbers {
				if q, ok := impl.RecDo(p, c.rec, lsn); ok || !isZero(q) {
					t.Fatalf("RecDo of invalid page %v, %v, %d is %v, %v", p, c.rec, lsn, q, ok)
				}
			}
		}
	}
}

// Promise 9: after RecDo, the same record with its number fails, as does any with the same number or a smaller one.
func TestRecDoAgainFails(t *testing.T) {
	for r := range eachChange {
		for _, p := range somePages() {
			for _, lsn := range []int{p.Lsn + 1, 75, 150} {
				q, ok := impl.RecDo(p, r, lsn)
				if !ok {
					continue
				}
				for _, again := range []int{math.MinInt, -1, 0, p.Lsn, lsn - 1, lsn} {
					if x, ok := impl.RecDo(q, r, again); ok || !isZero(x) {
						t.Fatalf("RecDo(%v, %v, %d) is %v, %v", q, r, again, x, ok)
					}
					for _, c := range validRecs {
						if x, ok := impl.RecDo(q, c.rec, again); ok || !isZero(x) {
							t.Fatalf("RecDo(%v, %v, %d) is %v, %v", q, c.rec, again, x, ok)
						}
					}
				}
			}
		}
	}
}

// Promises 10 and 11: RecBack of all valid records.
func TestRecBack(t *testing.T) {
	for r := range eachValidRec {
		for _, prev := range someNumbers {
			got, ok := impl.RecBack(r, prev)
			undone := r.Kind == impl.RecPut || r.Kind == impl.RecOwn
			if !undone || prev < 0 || prev > 150 {
				if ok || got != (impl.Rec{}) {
					t.Fatalf("RecBack(%v, %d) is %v, %v, must fail", r, prev, got, ok)
				}
				continue
			}
			want := rec(impl.RecUndo, r.Tx, r.Page, r.Slot, 0, r.Old, prev, r.Prev)
			if !ok || got != want || !impl.RecOk(got) {
				t.Fatalf("RecBack(%v, %d) is %v, %v, want %v", r, prev, got, ok, want)
			}
		}
	}
}

// Promise 11: a compensation record is not undone.
func TestRecBackOfRecBackFails(t *testing.T) {
	for r := range eachValidRec {
		back, ok := impl.RecBack(r, 9)
		if again, twice := impl.RecBack(back, 10); ok && (twice || again != (impl.Rec{})) {
			t.Fatalf("RecBack of %v, which undoes %v, is %v, %v", back, r, again, twice)
		}
	}
}

// Promise 10: RecBack restores what was there, if the old value was correct and, for RecOwn, the page was empty.
func TestRecBackRestores(t *testing.T) {
	restored := 0
	for r := range eachChange {
		for _, p := range somePages() {
			fits := r.Kind == impl.RecPut && r.Old == p.Vals[max(r.Slot, 0)] || r.Kind == impl.RecOwn && r.Old == p.Owner && impl.PageEmpty(p)
			q, ok := impl.RecDo(p, r, p.Lsn+1)
			if !fits || !ok || p.Lsn+2 > 150 {
				continue
			}
			back, ok := impl.RecBack(r, 9)
			if !ok || back.Next != r.Prev {
				t.Fatalf("RecBack(%v, 9) is %v, %v", r, back, ok)
			}
			if x, ok := impl.RecDo(q, back, p.Lsn+2); !ok || !sameContent(x, p) || x.Lsn != p.Lsn+2 {
				t.Fatalf("%v after %v and %v is %v, %v", p, r, back, x, ok)
			}
			restored++
		}
	}
	if restored == 0 {
		t.Error("nothing was restored")
	}
}

// applied is a page after two records, with numbers above that of the page, and whether both can be applied.
func applied(p impl.Page, first, second impl.Rec) (impl.Page, bool) {
	q, ok := impl.RecDo(p, first, p.Lsn+1)
	if !ok {
		return impl.Page{}, false
	}
	return impl.RecDo(q, second, p.Lsn+2)
}

// Promise 14: two records for different slots of a page give the same values in either order.
func TestRecDoInEitherOrder(t *testing.T) {
	var recs []impl.Rec
	for r := range eachChange {
		if r.Slot >= 0 && r.Old <= 1 && r.Prev == 1 && r.Next <= 1 {
			recs = append(recs, r)
		}
	}
	done := 0
	for _, p := range somePages() {
		for _, r := range recs {
			for _, s := range recs {
				if r.Slot == s.Slot {
					continue
				}
				one, ok1 := applied(p, r, s)
				other, ok2 := applied(p, s, r)
				if ok1 != ok2 || !samePage(one, other) {
					t.Fatalf("%v after %v and %v is %v, %v, in the other order %v, %v", p, r, s, one, ok1, other, ok2)
				}
				if ok1 && (one.Vals[r.Slot] != r.New || one.Vals[s.Slot] != s.New) {
					t.Fatalf("%v after %v and %v is %v", p, r, s, one)
				}
				if ok1 {
					done++
				}
			}
		}
	}
	if done == 0 {
		t.Error("no two records were applied")
	}
}

// Promise 15: RecDo of RecLoad, RecDone and RecEnd fails with every number, and of all with one above LogMax.
func TestRecDoFails(t *testing.T) {
	for r := range eachValidRec {
		for _, p := range []impl.Page{impl.PageNew(), page(0, 1, 1, 2, 3)} {
			for _, lsn := range []int{1, 9, 150, 151, 152, math.MaxInt} {
				q, ok := impl.RecDo(p, r, lsn)
				if (!changes(r) || lsn > 150) && (ok || !isZero(q)) {
					t.Fatalf("RecDo(%v, %v, %d) is %v, %v", p, r, lsn, q, ok)
				}
			}
		}
	}
}

func TestRecDoSharesNoMemory(t *testing.T) {
	backing := []int{1, 2, 3, 4, 5}
	p := impl.Page{Lsn: 1, Owner: 1, Vals: backing[:3]}
	for _, c := range validRecs {
		q, ok := impl.RecDo(p, c.rec, 9)
		x, _ := impl.RecDo(p, c.rec, 9)
		if !ok {
			continue
		}
		want := slices.Clone(x.Vals)
		q.Vals[0], q.Vals[1], q.Vals[2] = 7, 7, 7
		q.Vals = append(q.Vals[:2], 7, 7, 7)
		if !slices.Equal(backing, []int{1, 2, 3, 4, 5}) || !slices.Equal(x.Vals, want) {
			t.Fatalf("a change of a page after %v shows in %v or %v", c.rec, backing, x)
		}
	}
}
