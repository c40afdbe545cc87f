package tests

import (
	"fmt"
	"math/rand/v2"
	"slices"
	"strings"
	"testing"

	"loop.example/tabularium/impl"
)

// scriptOf is lines as a script.
func scriptOf(lines ...string) string {
	text := ""
	for _, line := range lines {
		text += line + "\n"
	}
	return text
}

// status is a status with new pages but for those given.
func status(last string, others map[int]string) string {
	text := ""
	for number := range 5 {
		page := "0 0 0 0"
		if other, given := others[number]; given {
			page = other
		}
		text += page + "\n"
	}
	return text + last + "\n"
}

// checkLines checks the answer to a script.
func checkLines(t *testing.T, text, want string) {
	t.Helper()
	if got := impl.LinesRun(text); got != want {
		t.Fatalf("LinesRun of %q is %q, want %q", text, got, want)
	}
}

// checkModel checks the answer to a script against the model.
func checkModel(t *testing.T, text string) {
	t.Helper()
	checkLines(t, text, wantLines(text))
}

// What each command does, written out.
func TestWrittenScripts(t *testing.T) {
	for _, c := range []struct {
		script string
		last   string
		pages  map[int]string
	}{
		{"", "up 0 0", nil},
		{"own 1 4 2\n", "up 1 0", map[int]string{4: "2 0 0 0"}},
		{"own 1 4 2\nown 1 4 0\n", "up 2 0", nil},
		{"own 1 4 2\nput 1 4 2 9\n", "up 2 0", map[int]string{4: "2 0 0 9"}},
		{"own 3 0 3\nput 3 0 0 1\nput 3 0 1 2\nput 3 0 2 3\nput 3 0 1 0\n", "up 5 0", map[int]string{0: "3 1 0 3"}},
		{"own 2 3 1\nload 2 3 7 0 9\n", "up 2 0", map[int]string{3: "1 7 0 9"}},
		{"own 1 4 2\nput 1 4 2 9\ndone 1\n", "up 3 3", map[int]string{4: "2 0 0 9"}},
		{"own 2 3 1\nload 2 3 7 0 9\ndone 2\n", "up 3 3", map[int]string{3: "1 7 0 9"}},
		{"own 1 4 2\nput 1 4 2 9\nundo 1\n", "up 5 0", nil},
		{"own 2 3 1\nload 2 3 7 0 9\nundo 2\n", "up 4 0", nil},
		{"own 1 4 2\nwrite 4\nput 1 4 2 9\n", "up 2 1", map[int]string{4: "2 0 0 9"}},
		{"own 1 4 2\nput 1 4 2 9\nwrite 3\n", "up 2 0", map[int]string{4: "2 0 0 9"}},
		{"own 1 4 2\nown 2 3 1\nforce\nput 1 4 2 9\n", "up 3 2", map[int]string{3: "1 0 0 0", 4: "2 0 0 9"}},
		{"own 1 4 2\nput 1 4 2 9\nfall 0\n", "down 0 0", nil},
		{"own 1 4 2\nput 1 4 2 9\nfall 1\n", "down 1 0", nil},
		{"own 1 4 2\nput 1 4 2 9\nfall 2\n", "down 2 0", nil},
		{"own 1 4 2\nput 1 4 2 9\nfall 99\nfall 1\n", "down 1 0", nil},
		{"own 1 4 2\nwrite 4\nput 1 4 2 9\nfall 0\n", "down 1 1", map[int]string{4: "2 0 0 0"}},
		{"own 1 4 2\nput 1 4 2 9\nfall 2\nrise 0\n", "down 2 0", nil},
		{"own 1 4 2\nput 1 4 2 9\nfall 2\nrise 1\n", "down 3 0", nil},
		{"own 1 4 2\nput 1 4 2 9\nfall 2\nrise 1\nrise 1\n", "down 4 0", nil},
		{"own 1 4 2\nput 1 4 2 9\nfall 2\nrise 1\nrise 1\nrise 1\n", "up 5 0", nil},
		{"own 1 4 2\nput 1 4 2 9\nfall 2\nrise 3\n", "up 5 0", nil},
		{"own 1 4 2\nput 1 4 2 9\ndone 1\nput 2 4 0 5\nfall 99\nrise 99\n", "up 6 3", map[int]string{4: "2 0 0 9"}},
		{"own 1 4 2\nput 1 4 2 9\nwrite 4\nfall 2\nrise 2\n", "down 4 2", map[int]string{4: "2 0 0 9"}},
		{"own 1 0 1\nown 2 1 2\nown 3 2 3\nput 3 2 0 8\ndone 2\nundo 1\n", "up 7 5", map[int]string{1: "2 0 0 0", 2: "3 8 0 0"}},
		{"own 1 0 1\nown 2 1 2\nown 3 2 3\nput 3 2 0 8\ndone 3\nfall 0\nrise 99\nput 1 2 0 0\n", "up 10 5", map[int]string{2: "3 0 0 0"}},
	} {
		checkLines(t, c.script, status(c.last, c.pages))
		checkModel(t, c.script)
	}
}

// "see" prints what there is at that moment, at the beginning, in the middle and at the end, also while the engine has crashed.
func TestSee(t *testing.T) {
	empty, owned, put := status("up 0 0", nil), status("up 1 0", map[int]string{1: "3 0 0 0"}), status("up 2 0", map[int]string{1: "3 0 4 0"})
	checkLines(t, "see\n", empty+empty)
	checkLines(t, "see\nsee\n", empty+empty+empty)
	checkLines(t, "see\nown 1 1 3\nsee\nput 1 1 1 4\nsee\n", empty+owned+put+put)
	checkLines(t, "own 1 1 3\nput 1 1 1 4\nwrite 1\nsee\nfall 0\nsee\nrise 2\nsee\nrise 1\n",
		status("up 2 2", map[int]string{1: "3 0 4 0"})+status("down 2 2", map[int]string{1: "3 0 4 0"})+status("down 4 2", map[int]string{1: "3 0 4 0"})+status("up 5 2", nil))
	checkLines(t, "what\nsee\nhello\nsee 1 2 3\n\n", "what\n"+empty+"what\n"+empty+"what\n"+empty)
}

// What follows the last newline is ignored, whatever it is, and so is the script if there is none.
func TestTextBehindTheLastNewline(t *testing.T) {
	for _, rest := range append([]string{"see", "own 1 4 1", "put 1 4 0 3", "done 1", "fall 0", "force "}, unknownLines...) {
		checkLines(t, rest, status("up 0 0", nil))
		checkLines(t, "own 1 4 1\nput 1 4 0 3\nhello\n"+rest, "what\n"+status("up 2 0", map[int]string{4: "1 3 0 0"}))
	}
}

// The numbers of a word with one and with two digits, also with leading zeros: a crash leaves just so many records.
func TestNumbers(t *testing.T) {
	t.Parallel()
	// 97 records, the most that leave space for "fall" and a word of two digits
	before := strings.Repeat("own 1 0 1\nown 1 0 0\n", 24) + "undo 1\n"
	for n := range 100 {
		want := status(fmt.Sprint("down ", min(n, 97), " 0"), nil)
		checkLines(t, fmt.Sprintf("%sfall %d\n", before, n), want)
		checkLines(t, fmt.Sprintf("%sfall %02d\n", before, n), want)
	}
}

// oneOfEach is a script for each command, with the line of the command that changes something behind it.
var oneOfEach = []struct{ before, line string }{
	{"own 1 4 1\n", "put 1 4 0 3"},
	{"own 1 0 1\ndone 1\n", "put 3 0 2 9"},
	{"", "own 1 4 1"},
	{"own 1 1 1\n", "own 1 1 0"},
	{"own 1 4 1\n", "load 1 4 1 2 3"},
	{"own 2 1 3\n", "load 2 1 0 0 9"},
	{"own 1 4 1\n", "done 1"},
	{"own 3 0 2\n", "done 3"},
	{"own 1 4 1\n", "undo 1"},
	{"own 2 1 1\nput 2 1 1 1\n", "undo 2"},
	{"own 1 1 1\n", "write 1"},
	{"own 1 0 1\n", "write 0"},
	{"own 1 4 1\n", "force"},
	{"own 1 4 1\n", "fall 0"},
	{"own 1 4 1\n", "fall 1"},
	{"own 1 4 1\nfall 1\n", "rise 1"},
	{"own 1 4 1\nfall 1\n", "rise 2"},
	{"own 1 4 1\nfall 0\n", "rise 0"},
	{"own 1 4 1\n", "see"},
}

// Leading zeros and additional words, also empty ones, change nothing.
func TestAdditionalWords(t *testing.T) {
	for _, c := range oneOfEach {
		want := impl.LinesRun(scriptOf(c.before + c.line))
		if want == impl.LinesRun(c.before) {
			t.Errorf("%q changes nothing behind %q", c.line, c.before)
		}
		checkModel(t, scriptOf(c.before+c.line))
		for _, more := range append([]string{"", " ", "1", "1 2 3", "see", " 5", "what", "\t"}, noNumbers...) {
			checkLines(t, scriptOf(c.before+c.line+" "+more), want)
		}
		words := strings.Split(c.line, " ")
		for i := range words[1:] {
			words[1+i] = "0" + words[1+i]
			checkLines(t, scriptOf(c.before+strings.Join(words, " ")), want)
		}
	}
}

// Words that are not there, empty words and words that are no numbers change nothing, since nothing has the number -1.
func TestNoNumbers(t *testing.T) {
	for _, c := range oneOfEach {
		want := impl.LinesRun(c.before)
		words := strings.Split(c.line, " ")
		for i := 1; i < len(words); i++ {
			checkLines(t, scriptOf(c.before+strings.Join(words[:i], " ")), want)
			checkLines(t, scriptOf(c.before+strings.Join(words[:i], " ")+" "), want)
			checkLines(t, scriptOf(c.before+strings.Join(words[:i], " ")+"  "+strings.Join(words[i:], " ")), want)
			for _, other := range append([]string{""}, noNumbers...) {
				changed := slices.Clone(words)
				changed[i] = other
				checkLines(t, scriptOf(c.before+strings.Join(changed, " ")), want)
			}
		}
	}
}

// Every word of up to two bytes counts as a number only if it has digits only.
func TestShortWords(t *testing.T) {
	t.Parallel()
	before := "own 1 0 1\nown 1 0 0\n"
	for first := range 256 {
		for _, word := range []string{string([]byte{byte(first)}), string([]byte{byte(first), '1'}), string([]byte{'1', byte(first)}), string([]byte{byte(first), byte(first)})} {
			checkModel(t, before+"fall "+word+"\n")
		}
	}
}

// A script of exactly 500 bytes is executed, and one of 501 is too long, whatever the bytes are, also behind the last newline.
func TestLengthOfScripts(t *testing.T) {
	for _, c := range []struct{ unit, want string }{
		{"x", status("up 0 0", nil)},
		{"\x00", status("up 0 0", nil)},
		{"\xff", status("up 0 0", nil)},
		{" ", status("up 0 0", nil)},
		{"\n", strings.Repeat("what\n", 500) + status("up 0 0", nil)},
		{"\xc3\xa9", status("up 0 0", nil)},
		{" \n", strings.Repeat("what\n", 250) + status("up 0 0", nil)},
		{"see\n", strings.Repeat(status("up 0 0", nil), 126)},
		{"own 1 0 1\nown 1 0 0\n", status("up 50 0", nil)},
	} {
		full := strings.Repeat(c.unit, 500/len(c.unit))
		checkLines(t, full, c.want)
		checkLines(t, full+"\n", "too long\n")
		checkLines(t, full+" ", "too long\n")
		checkLines(t, full+full, "too long\n")
	}
	checkLines(t, "own 1 4 1\n"+strings.Repeat("x", 490), status("up 1 0", map[int]string{4: "1 0 0 0"}))
	checkLines(t, "own 1 4 1\n"+strings.Repeat("x", 491), "too long\n")
	checkLines(t, strings.Repeat("\u20ac", 167), "too long\n")
	checkLines(t, strings.Repeat("see\n", 1000000), "too long\n")
}

// A script may have more commands than a run has events, and its log grows by all of them.
func TestManyCommands(t *testing.T) {
	pair := "own 1 0 1\nown 1 0 0\n"
	for count := range 50 {
		commands := strings.Repeat(pair, count/2)
		if count%2 == 1 {
			commands += "own 1 0 1\n"
		}
		checkLines(t, commands, status(fmt.Sprint("up ", count, " 0"), map[int]string{0: fmt.Sprint(count%2, " 0 0 0")}))
	}
	checkLines(t, strings.Repeat(pair, 24)+"own 1 0 1\nundo 1\n", status("up 99 0", nil))
	checkLines(t, strings.Repeat("force\n", 70)+"own 1 4 1\nput 1 4 0 3\ndone 1\n", status("up 3 3", map[int]string{4: "1 3 0 0"}))
	checkLines(t, strings.Repeat("fall 0\n", 35)+strings.Repeat("rise 0\n", 35)+"own 1 4 1\n", status("up 1 0", map[int]string{4: "1 0 0 0"}))
	checkLines(t, strings.Repeat("rise 1\n", 41)+"own 2 3 1\nput 2 3 1 6\nfall 2\n"+strings.Repeat("rise 1\n", 23), status("up 5 0", nil))
}

// Every modification of a script has log space: it needs 10 bytes and adds at most three to the records and the undo cost, and nothing else adds to them.
// So the 50th of the longest scripts has it, too, with one, two or three open transactions.
func TestLogSpaceOfScripts(t *testing.T) {
	for _, open := range []int{1, 2, 3} {
		lines := ""
		for n := range 49 {
			lines += fmt.Sprintf("own %d %d %d\n", 1+n%open, n%open, 1-n/open%2)
		}
		if before, after := wantLines(lines), wantLines(lines+"own 1 4 2\n"); before == after {
			t.Errorf("there is no space behind %q", lines)
		}
		checkModel(t, lines)
		checkModel(t, lines+"own 1 4 2\n")
	}
}

// While the engine has crashed, nothing but "fall" and "rise" changes anything, and "see" and unknown lines print what they print.
func TestScriptsOfCrashedEngines(t *testing.T) {
	before := "own 1 4 1\nput 1 4 0 3\nown 2 3 2\ndone 1\nput 2 3 0 7\nwrite 3\nown 3 2 1\nfall 99\n"
	down := status("down 6 5", map[int]string{3: "2 7 0 0"})
	checkLines(t, before, down)
	for _, line := range []string{"put 2 3 0 8", "put 1 4 0 8", "own 1 0 1", "own 2 3 0", "load 3 2 1 2 3", "done 2", "done 1", "undo 2", "undo 3", "write 3", "write 4", "force", "fall 6", "fall 99", "rise", "fall", "rise 0"} {
		checkLines(t, before+line+"\n", down)
	}
	checkLines(t, before+"see\nwhat\nsee\n", down+"what\n"+down+down)
	checkLines(t, before+"fall 0\n", status("down 5 5", map[int]string{3: "2 7 0 0"}))
	checkLines(t, before+"rise 4\n", status("down 10 5", map[int]string{3: "2 7 0 0"}))
	checkLines(t, before+"rise 5\n", status("up 11 5", map[int]string{4: "1 3 0 0"}))
	checkLines(t, before+"fall 0\nrise 3\nput 2 3 0 8\n", status("up 8 5", map[int]string{4: "1 3 0 0"}))
}

func TestScriptsAreOfAllKinds(t *testing.T) {
	seen := map[string]int{}
	for s := range scripts {
		lines := strings.Split(s.text, "\n")
		countKinds(seen, engineKinds(s.engine))
		countKinds(seen, map[string]bool{
			"empty":                s.text == "",
			"short":                0 < len(s.text) && len(s.text) < 100,
			"of almost 500 bytes":  len(s.text) > 490,
			"with many lines":      len(lines) > 45,
			"with see":             slices.Contains(lines, "see"),
			"with an unknown line": linesPrinted(s.text)%6 != 0,
			"with two blanks":      strings.Contains(s.text, "  "),
			"with a blank at last": strings.Contains(s.text, " \n"),
			"recovered":            !s.engine.Down && strings.Contains(s.text, "\nfall "),
		})
	}
	checkKinds(t, seen, 3)
}

// LinesRun is what the model says, twice the same, with no text or some behind the last newline.
func TestScripts(t *testing.T) {
	t.Parallel()
	for s := range scripts {
		checkModel(t, s.text)
		checkModel(t, s.text)
		checkModel(t, s.text+"see")
		checkModel(t, strings.TrimSuffix(s.text, "\n"))
	}
}

// LinesRun is what the model says, of scripts with some bytes changed, inserted or left out.
func TestEditedScripts(t *testing.T) {
	t.Parallel()
	dice := rand.New(rand.NewPCG(31, 100))
	const bytes = " \n0123456789put\r\t\x00\xff-+"
	anyByte := func() string {
		return string([]byte{bytes[dice.IntN(len(bytes))]})
	}
	for s := range scripts {
		for range 3 {
			text := s.text
			for range 1 + dice.IntN(5) {
				from := dice.IntN(len(text) + 1)
				to := min(from+dice.IntN(2), len(text))
				text = text[:from] + []string{"", anyByte()}[dice.IntN(2)] + text[to:]
			}
			checkModel(t, text)
		}
	}
}

// A call changes nothing that another one sees, also at the same time.
func TestScriptsAtTheSameTime(t *testing.T) {
	t.Parallel()
	one, other := "own 1 4 1\nput 1 4 0 3\ndone 1\n", "own 2 3 2\nfall 99\nhello\n"
	done := make(chan bool)
	for range 4 {
		go func() {
			same := true
			for range 50 {
				same = same && impl.LinesRun(one) == wantLines(one) && impl.LinesRun(other) == wantLines(other)
			}
			done <- same
		}()
	}
	for range 4 {
		if !<-done {
			t.Error("a script is answered with what another one has done")
		}
	}
}
