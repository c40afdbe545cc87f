package tests

import (
	"fmt"
	"math/rand/v2"
	"regexp"
	"strings"
	"testing"

	"loop.example/tabularium/impl"
)

// finalLines is the last six lines of an answer, and what is before them.
func finalLines(answer string) (final, before string) {
	lines := strings.SplitAfter(answer, "\n")
	from := max(0, len(lines)-7)
	return strings.Join(lines[from:], ""), strings.Join(lines[:from], "")
}

// final is the last six lines of the answer to a script.
func final(text string) string {
	lines, _ := finalLines(impl.LinesRun(text))
	return lines
}

// filling is a transaction that changes a page of a table, with the slot and the value that it puts.
type filling struct{ tx, page, table, slot, val int }

// fillings gives one filling for each transaction, page, table, and slot, with all values among them.
func fillings(yield func(filling) bool) {
	for n := range 3 * 5 * 3 * 3 {
		if !yield(filling{1 + n%3, n / 3 % 5, 1 + n/15%3, n / 45 % 3, 1 + n%9}) {
			return
		}
	}
}

func (f filling) own() string {
	return fmt.Sprintf("own %d %d %d\n", f.tx, f.page, f.table)
}

func (f filling) put() string {
	return fmt.Sprintf("put %d %d %d %d\n", f.tx, f.page, f.slot, f.val)
}

func (f filling) load() string {
	return fmt.Sprintf("load %d %d %d 0 %d\n", f.tx, f.page, f.val, f.slot)
}

func (f filling) end(name string) string {
	return fmt.Sprintf("%s %d\n", name, f.tx)
}

// written is the ways to have the page on disk, or its records durable, or neither.
func (f filling) written() []string {
	write := fmt.Sprintf("write %d\n", f.page)
	return []string{"", "force\n", write, write + "force\n", "force\n" + write}
}

// pages is the first five lines of a status in which only this page is not new.
func (f filling) pages(vals ...int) string {
	text := ""
	for number := range 5 {
		if number == f.page {
			text += fmt.Sprintln(f.table, vals[0], vals[1], vals[2])
		} else {
			text += "0 0 0 0\n"
		}
	}
	return text
}

func (f filling) vals() []int {
	vals := []int{0, 0, 0}
	vals[f.slot] = f.val
	return vals
}

const noPages = "0 0 0 0\n0 0 0 0\n0 0 0 0\n0 0 0 0\n0 0 0 0\n"

// crashLines is the ways to crash and to recover, also with more than one crash and incomplete recoveries.
var crashLines = []string{
	"fall 0\nrise 99\n", "fall 1\nrise 99\n", "fall 2\nrise 4\n", "fall 99\nrise 99\n", "fall 00\nrise 09\n",
	"fall 99\nfall 0\nrise 99\n", "fall 99\nrise 1\nrise 1\nrise 9\n", "fall 9\nrise 1\nfall 0\nrise 2\nfall 99\nrise 99\n", "fall 0\nrise 99\nfall 0\nrise 99\n",
}

// checkPages checks the pages of the final lines, and that the engine runs.
func checkPages(t *testing.T, text, want string) {
	t.Helper()
	if got := final(text); !strings.HasPrefix(got, want+"up ") {
		t.Fatalf("the final lines of %q are %q, want the pages %q", text, got, want)
	}
}

// linesPrinted is how many lines the answer to a script has: for each status six, and one for each unknown line.
func linesPrinted(text string) int {
	count := 6
	lines := strings.Split(text, "\n")
	for _, line := range lines[:len(lines)-1] {
		name, _, _ := strings.Cut(line, " ")
		if _, known := numbersOfCommand[name]; name == "see" {
			count += 6
		} else if !known {
			count++
		}
	}
	return count
}

// Promise 95: a script is answered with a line for each page and one more at the end, each with a newline, unless it is too long.
func TestLinesOfAnswers(t *testing.T) {
	t.Parallel()
	form := regexp.MustCompile(`^([0-3]( [0-9]){3}\n){5}(up|down) [0-9]+ [0-9]+\n$`)
	check := func(text string) {
		answer := impl.LinesRun(text)
		if len(text) > 500 {
			if answer != "too long\n" {
				t.Fatalf("the answer to %q is %q", text, answer)
			}
			return
		}
		if lines, _ := finalLines(answer); !form.MatchString(lines) || strings.Count(answer, "\n") != linesPrinted(text) {
			t.Fatalf("the answer to %q is %q, want %d lines", text, answer, linesPrinted(text))
		}
	}
	for _, text := range []string{"", "\n", "see", "force", "force\n", "own 1 4 1\n", strings.Repeat("\n", 500), strings.Repeat("\n", 501), strings.Repeat("x", 500), strings.Repeat("x", 501)} {
		check(text)
	}
	for s := range scripts {
		check(s.text)
		check(s.text + "own 1 4 1\nput 1 4 0 3\n")
	}
}

// Promise 96: a page that is allocated, filled and committed survives a crash and recovery although nothing was written.
func TestCommittedPageSurvives(t *testing.T) {
	t.Parallel()
	for f := range fillings {
		for _, crash := range crashLines {
			checkPages(t, f.own()+f.put()+f.end("done")+crash, f.pages(f.vals()...))
			checkPages(t, f.own()+f.end("done")+f.put()+f.end("done")+crash, f.pages(f.vals()...))
		}
		checkLines(t, f.own()+f.put()+f.end("done")+"fall 0\n", noPages+"down 3 3\n")
		checkLines(t, f.own()+f.put()+f.end("done")+"fall 0\nrise 0\n", f.pages(f.vals()...)+"up 3 3\n")
	}
}

// Promise 97: uncommitted changes are undone by a crash and recovery, although they were written, and by a rollback at once.
func TestUncommittedChangesAreUndone(t *testing.T) {
	t.Parallel()
	for f := range fillings {
		for _, written := range f.written() {
			for _, crash := range crashLines {
				checkPages(t, f.own()+f.put()+written+crash, noPages)
				checkPages(t, f.own()+written+f.put()+crash, noPages)
			}
			checkPages(t, f.own()+f.put()+written, f.pages(f.vals()...))
			checkPages(t, f.own()+f.put()+written+f.end("undo"), noPages)
		}
	}
}

// Promise 97, of changes of a page that another transaction has committed: they are undone, and what is committed is not.
func TestUncommittedChangesOfCommittedPages(t *testing.T) {
	t.Parallel()
	for f := range fillings {
		committed, other := f.own()+f.put()+f.end("done"), f
		other.tx, other.val = 1+f.tx%3, 1+f.val%9
		for _, written := range f.written() {
			for _, crash := range crashLines {
				checkPages(t, committed+other.put()+written+crash, f.pages(f.vals()...))
			}
			checkPages(t, committed+other.put()+written, f.pages(other.vals()...))
			checkPages(t, committed+other.put()+written+other.end("undo"), f.pages(f.vals()...))
		}
	}
}

// Promise 98: a page that is allocated, loaded and committed survives a crash and recovery, and an uncommitted one does not.
func TestLoadedPages(t *testing.T) {
	t.Parallel()
	for f := range fillings {
		for _, crash := range crashLines {
			checkPages(t, f.own()+f.load()+f.end("done")+crash, f.pages(f.val, 0, f.slot))
			for _, written := range f.written() {
				checkPages(t, f.own()+f.load()+written+crash, noPages)
			}
		}
		checkLines(t, f.own()+f.load()+f.end("done")+"fall 0\n", f.pages(f.val, 0, f.slot)+"down 3 3\n")
		checkLines(t, f.own()+f.load(), f.pages(f.val, 0, f.slot)+"up 2 0\n")
		checkPages(t, f.own()+f.load()+f.end("undo"), noPages)
	}
}

// modifications is the lines with which a transaction could modify a page.
func (f filling) modifications() []string {
	free := f
	free.table = 0
	return []string{f.put(), f.own(), free.own(), f.load()}
}

// Promise 99: a page that one transaction modified cannot be modified by another one until the first ends.
func TestPageOfAnotherTransaction(t *testing.T) {
	t.Parallel()
	for f := range fillings {
		for _, first := range []string{f.own(), f.own() + f.put(), f.own() + f.load()} {
			for _, step := range []int{1, 2} {
				other := f
				other.tx, other.val = 1+(f.tx+step-1)%3, 1+f.val%9
				for _, line := range other.modifications() {
					checkLines(t, first+line, impl.LinesRun(first))
				}
				checkPages(t, first+f.end("done")+other.put(), otherPages(f, first, other))
				checkPages(t, first+f.end("undo")+other.own()+other.put(), other.pages(other.vals()...))
				checkPages(t, first+f.end("done")+other.put()+f.put()+other.end("done")+"fall 0\nrise 0\n", otherPages(f, first, other))
			}
		}
	}
}

// otherPages is the pages when another transaction puts a value behind what a first one did.
func otherPages(f filling, first string, other filling) string {
	vals := []int{0, 0, 0}
	if strings.Contains(first, "load") {
		vals = []int{f.val, 0, f.slot}
	}
	vals[other.slot] = other.val
	return f.pages(vals...)
}

// Promise 99, behind scripts: what another transaction would do to a locked page changes nothing, until that one ends.
func TestLockedPagesOfScripts(t *testing.T) {
	t.Parallel()
	locked := 0
	for s := range scripts {
		for number := range 5 {
			holders := holdersIn(s.engine.Log, number)
			if s.engine.Down || len(holders) == 0 || len(s.text) > 460 {
				continue
			}
			other := filling{1 + holders[0]%3, number, 2, 1, 7}
			for _, line := range other.modifications() {
				checkLines(t, s.text+line, impl.LinesRun(s.text))
			}
			for _, end := range []string{fmt.Sprintln("done", holders[0]), fmt.Sprintln("undo", holders[0]), "fall 99\nrise 99\n"} {
				if final(s.text+end+other.own()+other.put()) == final(s.text+end) {
					t.Fatalf("page %d cannot be modified behind %q", number, s.text+end)
				}
			}
			locked++
		}
	}
	checkCount(t, locked, 100)
}

// Promise 100: an unknown line prints "what", and changes nothing.
func TestUnknownLines(t *testing.T) {
	for _, line := range unknownLines {
		line += "\n"
		checkLines(t, line, "what\n"+noPages+"up 0 0\n")
		checkLines(t, line+"own 1 4 1\n"+line+"put 1 4 0 3\nsee\n"+line+line+"fall 1\n"+line,
			"what\nwhat\n"+status("up 2 0", map[int]string{4: "1 3 0 0"})+"what\nwhat\nwhat\n"+noPages+"down 1 0\n")
	}
	for one := range 256 {
		if one != '\n' {
			checkLines(t, "own 1 4 1\n"+string([]byte{byte(one)})+"\n", "what\n"+status("up 1 0", map[int]string{4: "1 0 0 0"}))
		}
	}
}

// Promise 100, of the commands with one byte more, less or other: what is no command is unknown.
func TestMisspeltCommands(t *testing.T) {
	t.Parallel()
	for name := range numbersOfCommand {
		for one := range 256 {
			for at := range len(name) + 1 {
				letter := string([]byte{byte(one)})
				checkModel(t, "own 1 4 1\n"+name[:at]+letter+name[at:]+" 1 4 0 3\n")
				if at < len(name) {
					checkModel(t, "own 1 4 1\n"+name[:at]+letter+name[at+1:]+" 1 4 0 3\n")
					checkModel(t, "own 1 4 1\n"+name[:at]+name[at+1:]+" 1 4 0 3\n")
				}
			}
		}
		checkLines(t, strings.ToUpper(name)+" 1 4 1 2\n", "what\n"+noPages+"up 0 0\n")
		checkLines(t, strings.ToUpper(name[:1])+name[1:]+" 1 4 1 2\n", "what\n"+noPages+"up 0 0\n")
	}
}

// Promise 100, of a line at any place in a script: an unknown one prints "what" there, and one that is not possible is as if it were not there.
func TestLinesInScripts(t *testing.T) {
	t.Parallel()
	dice := rand.New(rand.NewPCG(31, 101))
	impossible := []string{"put 1 5 0 3", "put 4 0 0 3", "put 0 0 0 3", "put 1 0 3 3", "put 1 0 0 10", "own 1 0 4", "own 1 5 1", "own 4 0 1", "load 1 0 1 2 10", "load 1 5 1 2 3", "load 1 0 1 2",
		"done 0", "done 4", "undo 0", "undo 4", "done", "undo", "write 5", "write", "fall", "fall 100", "rise", "rise -1", "put", "own", "load", "done  1", "write  0"}
	for s := range scripts {
		lines := strings.SplitAfter(s.text, "\n")
		at := dice.IntN(len(lines))
		before, after := strings.Join(lines[:at], ""), strings.Join(lines[at:], "")
		if len(s.text) > 460 {
			continue
		}
		checkLines(t, before+impossible[dice.IntN(len(impossible))]+"\n"+after, impl.LinesRun(s.text))
		printed := strings.TrimSuffix(impl.LinesRun(before), final(before))
		rest := strings.TrimPrefix(impl.LinesRun(s.text), printed)
		checkLines(t, before+unknownLines[dice.IntN(len(unknownLines))]+"\n"+after, printed+"what\n"+rest)
	}
}

// Promise 100, of what the rules of the engine forbid.
func TestImpossibleLines(t *testing.T) {
	before := "own 1 4 1\nput 1 4 0 3\ndone 1\nown 2 3 2\nown 3 2 3\nload 3 2 1 2 3\n"
	want := status("up 6 3", map[int]string{2: "3 1 2 3", 3: "2 0 0 0", 4: "1 3 0 0"})
	checkLines(t, before, want)
	for _, line := range []string{
		"put 1 0 0 5", "put 1 3 0 5", "put 2 2 0 5", "put 3 3 0 5", "put 1 4 3 5", "put 1 4 0 10", "put 0 4 0 5", "put 4 4 0 5", "put 1 5 0 5", "put 1 4 0 99", "put 99 4 0 5",
		"own 1 4 2", "own 1 4 0", "own 1 0 0", "own 1 0 4", "own 1 3 0", "own 2 3 1", "own 3 2 0", "own 0 0 1", "own 4 0 1", "own 1 5 1",
		"load 1 4 1 2 3", "load 1 0 1 2 3", "load 3 2 4 5 6", "load 1 3 1 2 3", "load 2 3 1 2 10", "load 2 3 1 2", "load 2 5 1 2 3", "load 0 3 1 2 3",
		"done 1", "done 0", "done 4", "undo 1", "undo 0", "undo 4", "write 5", "write 99", "rise 0", "rise 99", "fall x", "rise x", "fall 100", "fall -1",
	} {
		checkLines(t, before+line+"\n", want)
		checkModel(t, before+line+"\n")
	}
}

// Promise 101: appending "see" or "what" leaves the final lines unchanged, unless the script becomes too long; "see" prints them twice.
func TestAppendedLines(t *testing.T) {
	t.Parallel()
	check := func(text string) {
		answer := impl.LinesRun(text)
		lines, before := finalLines(answer)
		for line, want := range map[string]string{"see\n": answer + lines, "what\n": before + "what\n" + lines} {
			if len(text)+len(line) > 500 {
				want = "too long\n"
			}
			checkLines(t, text+line, want)
		}
	}
	tooLong := 0
	for _, text := range []string{"", "see\n", "what\n", "\n", "own 1 4 1\nfall 0\n", strings.Repeat("\n", 495), strings.Repeat("\n", 496), strings.Repeat("\n", 497)} {
		check(text)
	}
	for s := range scripts {
		check(s.text)
		if len(s.text) > 495 {
			tooLong++
		}
	}
	checkCount(t, tooLong, 5)
}

// Promise 102: appending "fall 99" and "rise 99" gives the same final lines as appending both twice, unless the script becomes too long.
func TestAppendedCrashes(t *testing.T) {
	t.Parallel()
	const crash = "fall 99\nrise 99\n"
	changed, checked := 0, 0
	check := func(text string) {
		if len(text)+2*len(crash) > 500 {
			checkLines(t, text+crash+crash, "too long\n")
			return
		}
		once, twice := final(text+crash), final(text+crash+crash)
		if once != twice || !strings.Contains(once, "\nup ") {
			t.Fatalf("the final lines of %q are %q behind a crash, and %q behind another one", text, once, twice)
		}
		if once != final(text) {
			changed++
		}
		checked++
	}
	for _, text := range []string{"", "\n", "fall 0\n", "own 1 4 1\n", "own 1 4 1\nfall 1\n", "own 1 4 1\nfall 1\nrise 1\n", strings.Repeat("own 1 0 1\nown 1 0 0\n", 23) + "undo 1\n"} {
		check(text)
	}
	for _, f := range oneOfEach {
		check(f.before)
		check(f.before + f.line + "\n")
	}
	for s := range scripts {
		check(s.text)
	}
	checkCount(t, changed, 150)
	checkCount(t, checked, 300)
}
