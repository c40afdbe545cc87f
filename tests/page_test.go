package tests

import (
	"fmt"
	"math"
	"slices"
	"testing"

	"loop.example/tabularium/impl"
)

func page(lsn, owner int, vals ...int) impl.Page {
	return impl.Page{Lsn: lsn, Owner: owner, Vals: vals}
}

// withSlot is a page with another value in one slot, in memory of its own.
func withSlot(p impl.Page, slot, val int) impl.Page {
	p.Vals = slices.Clone(p.Vals)
	p.Vals[slot] = val
	return p
}

var validPages = []struct {
	page  impl.Page
	empty bool
	text  string
}{
	{page(0, 0, 0, 0, 0), true, "0 0 0 0"},
	{page(7, 0, 0, 0, 0), true, "0 0 0 0"},
	{page(150, 0, 0, 0, 0), true, "0 0 0 0"},
	{page(0, 1, 0, 0, 0), true, "1 0 0 0"},
	{page(150, 3, 0, 0, 0), true, "3 0 0 0"},
	{page(0, 1, 9, 9, 9), false, "1 9 9 9"},
	{page(150, 3, 9, 9, 9), false, "3 9 9 9"},
	{page(4, 2, 0, 7, 9), false, "2 0 7 9"},
	{page(4, 2, 1, 0, 0), false, "2 1 0 0"},
	{page(4, 2, 0, 1, 0), false, "2 0 1 0"},
	{page(4, 2, 0, 0, 1), false, "2 0 0 1"},
}

var invalidPages = []impl.Page{
	{},
	{Lsn: 1, Owner: 1},
	{Vals: []int{}},
	page(0, 0, 0),
	page(0, 0, 0, 0),
	page(0, 0, 0, 0, 0, 0),
	page(4, 2, 0, 7),
	page(4, 2, 0, 7, 9, 0),
	page(4, 2, 0, 7, 9, 1),
	page(-1, 0, 0, 0, 0),
	page(151, 0, 0, 0, 0),
	page(-1, 2, 0, 7, 9),
	page(151, 2, 0, 7, 9),
	page(0, -1, 0, 0, 0),
	page(0, 4, 0, 0, 0),
	page(0, -1, 1, 2, 3),
	page(0, 4, 1, 2, 3),
	page(0, 0, 1, 0, 0),
	page(0, 0, 0, 1, 0),
	page(0, 0, 0, 0, 9),
	page(4, 2, -1, 7, 9),
	page(4, 2, 0, -1, 9),
	page(4, 2, 0, 7, -1),
	page(4, 2, 10, 7, 9),
	page(4, 2, 0, 10, 9),
	page(4, 2, 0, 7, 10),
	page(math.MinInt, 2, 0, 7, 9),
	page(math.MaxInt, 2, 0, 7, 9),
	page(0, math.MinInt, 0, 0, 0),
	page(0, math.MaxInt, 0, 0, 0),
	page(4, 2, math.MinInt, 7, 9),
	page(4, 2, 0, 7, math.MaxInt),
	page(4, 2, -1, 1, 0),
}

// eachPage gives all pages of SlotMax slots with numbers up to one beyond their limits; of Lsn only some.
func eachPage(yield func(impl.Page) bool) {
	for _, lsn := range []int{-1, 0, 1, 75, 149, 150, 151} {
		for owner := -1; owner <= 4; owner++ {
			for n := range 12 * 12 * 12 {
				if !yield(page(lsn, owner, n/144-1, n/12%12-1, n%12-1)) {
					return
				}
			}
		}
	}
}

// valid says what the document does of a page, with its numbers written out.
func valid(p impl.Page) bool {
	if p.Lsn < 0 || p.Lsn > 150 || p.Owner < 0 || p.Owner > 3 || len(p.Vals) != 3 {
		return false
	}
	for _, v := range p.Vals {
		if v < 0 || v > 9 || p.Owner == 0 && v != 0 {
			return false
		}
	}
	return true
}

func TestLimitsOfPages(t *testing.T) {
	got := [...]int{impl.PageMax, impl.SlotMax, impl.ValMax, impl.TableMax, impl.LogMax}
	if want := [...]int{5, 3, 9, 3, 150}; got != want {
		t.Errorf("limits %v, want %v", got, want)
	}
}

func TestValidPages(t *testing.T) {
	for _, c := range validPages {
		if !impl.PageOk(c.page) {
			t.Errorf("PageOk(%v) is false", c.page)
		}
		if got := impl.PageEmpty(c.page); got != c.empty {
			t.Errorf("PageEmpty(%v) is %v", c.page, got)
		}
		if got := impl.PageText(c.page); got != c.text {
			t.Errorf("PageText(%v) is %q, want %q", c.page, got, c.text)
		}
	}
}

func TestInvalidPages(t *testing.T) {
	for _, p := range invalidPages {
		if impl.PageOk(p) || impl.PageEmpty(p) || impl.PageText(p) != "" {
			t.Errorf("invalid %v: PageOk %v, PageEmpty %v, PageText %q", p, impl.PageOk(p), impl.PageEmpty(p), impl.PageText(p))
		}
	}
}

// Promise 1: a valid free page is empty.
func TestFreePageIsEmpty(t *testing.T) {
	free := 0
	for p := range eachPage {
		if p.Owner != 0 || !impl.PageOk(p) {
			continue
		}
		free++
		if !impl.PageEmpty(p) {
			t.Errorf("valid free page %v is not empty", p)
		}
	}
	if free != 5 {
		t.Errorf("%d valid free pages, want one for each valid Lsn", free)
	}
}

// Promise 1: a page that is not empty is invalid as a free one, and an empty one is not.
func TestPageMadeFree(t *testing.T) {
	for p := range eachPage {
		if !impl.PageOk(p) {
			continue
		}
		free := p
		free.Owner = 0
		if impl.PageOk(free) != impl.PageEmpty(p) {
			t.Errorf("%v as a free page: PageOk %v", p, impl.PageOk(free))
		}
	}
}

// Promise 1: with one slot less a page is invalid; so it is with one more.
func TestPageWithOtherSlots(t *testing.T) {
	for p := range eachPage {
		if !impl.PageOk(p) {
			continue
		}
		for n := range len(p.Vals) {
			less := p
			less.Vals = p.Vals[:n]
			if impl.PageOk(less) {
				t.Errorf("%v is valid with %d slots", p, n)
			}
		}
		more := p
		more.Vals = append(slices.Clone(p.Vals), 0)
		if impl.PageOk(more) {
			t.Errorf("%v is valid with one slot more", p)
		}
	}
}

// Promises 1 and 2: PageOk and PageEmpty of all pages near the limits.
func TestPageOkAndEmptyOfEachPage(t *testing.T) {
	for p := range eachPage {
		ok := valid(p)
		if impl.PageOk(p) != ok {
			t.Fatalf("PageOk(%v) is %v", p, !ok)
		}
		empty := ok && p.Vals[0] == 0 && p.Vals[1] == 0 && p.Vals[2] == 0
		if impl.PageEmpty(p) != empty {
			t.Fatalf("PageEmpty(%v) is %v", p, !empty)
		}
	}
}

// Promise 2: a new page is empty; it is free, with Lsn 0 and all slots.
func TestNewPage(t *testing.T) {
	p := impl.PageNew()
	if p.Lsn != 0 || p.Owner != 0 || !slices.Equal(p.Vals, []int{0, 0, 0}) {
		t.Errorf("PageNew is %v", p)
	}
	if !impl.PageOk(p) || !impl.PageEmpty(p) || impl.PageText(p) != "0 0 0 0" {
		t.Errorf("new page: PageOk %v, PageEmpty %v, PageText %q", impl.PageOk(p), impl.PageEmpty(p), impl.PageText(p))
	}
}

// Promise 3: valid pages have the same text only if they have the same owner and values; Lsn is not in it.
func TestTextTellsPagesApart(t *testing.T) {
	type content struct {
		owner int
		vals  [3]int
	}
	contents := map[string]content{}
	for p := range eachPage {
		if !valid(p) {
			continue
		}
		text := impl.PageText(p)
		this := content{p.Owner, [3]int(p.Vals)}
		if other, met := contents[text]; met && other != this {
			t.Fatalf("%v and %v have the text %q", this, other, text)
		}
		contents[text] = this
	}
	if len(contents) != 3*1000+1 {
		t.Errorf("%d texts, want one for each content", len(contents))
	}
}

// Promise 4: PageText changes with every value.
func TestTextChangesWithEveryValue(t *testing.T) {
	for p := range eachPage {
		if !valid(p) || p.Owner == 0 || p.Lsn != 1 {
			continue
		}
		text := impl.PageText(p)
		if want := fmt.Sprintf("%d %d %d %d", p.Owner, p.Vals[0], p.Vals[1], p.Vals[2]); text != want {
			t.Fatalf("PageText(%v) is %q, want %q", p, text, want)
		}
		for slot, old := range p.Vals {
			for val := range 10 {
				if same := impl.PageText(withSlot(p, slot, val)) == text; same != (val == old) {
					t.Fatalf("PageText of %v and with %d in slot %d: same is %v", p, val, slot, same)
				}
			}
		}
	}
}

// Promise 4: PageText of an invalid page is empty, and of a valid one it is not.
func TestTextOfInvalidPageIsEmpty(t *testing.T) {
	for p := range eachPage {
		if text := impl.PageText(p); (text != "") != valid(p) {
			t.Fatalf("PageText(%v) is %q", p, text)
		}
	}
}

func TestNewPagesShareNoMemory(t *testing.T) {
	p, q := impl.PageNew(), impl.PageNew()
	p.Vals[0] = 5
	p.Vals = append(p.Vals[:1], 6, 7, 8)
	if !impl.PageEmpty(q) || !impl.PageEmpty(impl.PageNew()) {
		t.Errorf("a change of one new page shows in another: %v, %v", q, impl.PageNew())
	}
}

func TestPagesStayUnchanged(t *testing.T) {
	backing := []int{1, 2, 3, 4, 5}
	p := impl.Page{Lsn: 1, Owner: 1, Vals: backing[:3]}
	impl.PageOk(p)
	impl.PageEmpty(p)
	impl.PageText(p)
	if !slices.Equal(backing, []int{1, 2, 3, 4, 5}) {
		t.Errorf("an argument was modified: %v", backing)
	}
}
