package impl

import (
	"strconv"
	"strings"
)

// Limits of pages: how many there are, slots of one, values, and tables.
const (
	PageMax  = 5
	SlotMax  = 3
	ValMax   = 9
	TableMax = 3
)

// Page is a page: the number of the last record that changed it, whose it is (0 is nobody's), and what is in its slots (0 is nothing).
type Page struct {
	Lsn   int
	Owner int
	Vals  []int
}

// frame is a page with its slots in an array: a copy of a frame shares no memory with it, and the number of slots cannot be wrong.
type frame struct {
	lsn   int
	owner int
	slots [SlotMax]int
}

// PageNew is a page that is nobody's.
func PageNew() Page {
	return frame{}.page()
}

// PageOk says whether a page is ok.
func PageOk(p Page) bool {
	_, ok := frameOf(p)
	return ok
}

// PageEmpty says whether nothing is in a page.
func PageEmpty(p Page) bool {
	f, ok := frameOf(p)
	return ok && f.empty()
}

// PageText is the text of a page, without its number.
func PageText(p Page) string {
	f, ok := frameOf(p)
	if !ok {
		return ""
	}
	return f.text()
}

// frameOf is the frame of a valid page, and whether the page is valid.
func frameOf(p Page) (frame, bool) {
	if len(p.Vals) != SlotMax {
		return frame{}, false
	}
	f := frame{p.Lsn, p.Owner, [SlotMax]int(p.Vals)}
	if !f.ok() {
		return frame{}, false
	}
	return f, true
}

// page is the page of a frame, in new memory: the receiver is a copy, which nothing else refers to.
func (f frame) page() Page {
	return Page{Lsn: f.lsn, Owner: f.owner, Vals: f.slots[:]}
}

func (f frame) ok() bool {
	if !within(f.lsn, LogMax) || !within(f.owner, TableMax) {
		return false
	}
	for _, v := range f.slots {
		if !within(v, ValMax) {
			return false
		}
	}
	return f.owner != 0 || f.empty()
}

func (f frame) empty() bool {
	return f.slots == [SlotMax]int{}
}

func (f frame) text() string {
	words := []string{strconv.Itoa(f.owner)}
	for _, v := range f.slots {
		words = append(words, strconv.Itoa(v))
	}
	return strings.Join(words, " ")
}

// within says whether n is in the range 0 to limit.
func within(n, limit int) bool {
	return 0 <= n && n <= limit
}
