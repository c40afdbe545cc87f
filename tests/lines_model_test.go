package tests

import (
	"fmt"
	"math/rand/v2"
	"regexp"
	"strconv"
	"strings"

	"loop.example/tabularium/impl"
)

// What the document says of scripts, plainly and with its numbers written out, to compare the program with.

// shell is what the interface keeps, and what it has printed.
type shell struct {
	engine impl.Engine
	output string
}

// numbersOfCommand is how many numbers each command but "see" has.
var numbersOfCommand = map[string]int{"put": 4, "own": 3, "load": 5, "done": 1, "undo": 1, "write": 1, "force": 0, "fall": 1, "rise": 1}

var numberWord = regexp.MustCompile(`^[0-9]{1,2}$`)

// wantNumber is a word with a number instead of what is none.
func wantNumber(word string) string {
	if !numberWord.MatchString(word) {
		return "-1"
	}
	return word
}

func (s *shell) line(line string) {
	words := append(strings.Split(line, " "), make([]string, 5)...)
	count, known := numbersOfCommand[words[0]]
	switch {
	case words[0] == "see":
		s.output += wantStatus(s.engine)
	case !known:
		s.output += "what\n"
	default:
		words = words[:1+count]
		for i, word := range words[1:] {
			words[1+i] = wantNumber(word)
		}
		s.engine = wantDo(s.engine, eventOf(words))
	}
}

func wantStatus(e impl.Engine) string {
	text := ""
	for _, p := range e.Mem {
		text += fmt.Sprintln(p.Owner, p.Vals[0], p.Vals[1], p.Vals[2])
	}
	state := "up"
	if e.Down {
		state = "down"
	}
	return text + fmt.Sprintln(state, len(e.Log), e.Safe)
}

// wantLines is the answer to a script, for all scripts.
func wantLines(text string) string {
	if len(text) > 500 {
		return "too long\n"
	}
	s := shell{engine: newEngine()}
	lines := strings.Split(text, "\n")
	for _, line := range lines[:len(lines)-1] {
		s.line(line)
	}
	return s.output + wantStatus(s.engine)
}

// lineOf is the line of an event, with 99 for greater numbers, and an unknown one for an unknown kind.
func lineOf(v impl.Event) string {
	switch v.Kind {
	case 1:
		return fmt.Sprintf("put %d %d %d %d", v.Tx, v.Page, v.Slot, v.N)
	case 2:
		return fmt.Sprintf("own %d %d %d", v.Tx, v.Page, v.N)
	case 3:
		return fmt.Sprintf("load %d %d %s", v.Tx, v.Page, strings.Trim(fmt.Sprint(v.Vals), "[]"))
	case 4, 5:
		return fmt.Sprintf("%s %d", kinds[v.Kind], v.Tx)
	case 6:
		return fmt.Sprintf("write %d", v.Page)
	case 7:
		return "force"
	case 8, 9:
		return fmt.Sprintf("%s %d", kinds[v.Kind], min(v.N, 99))
	}
	return "kind " + strconv.Itoa(v.Kind)
}

// unknownLines is lines that are no commands.
var unknownLines = []string{
	"", " ", "  ", " see", " put 1 4 0 3", "what", "hello", "up", "down", "too long", "end 1", "undoes 1", "owner 1 4 1", "1", "-", "-1",
	"See", "SEE", "Put 1 4 0 3", "PUT 1 4 0 3", "Own 1 4 1", "lOAD 1 4 1 2 3", "Done 1", "FORCE", "fALL 0", "Rise 99",
	"pu 1 4 0 3", "puts 1 4 0 3", "ow 1 4 1", "sees", "se", "ee", "ssee", "don 1", "forced", "forc", "wrote 4", "writ 4", "fal 0", "falls 0", "rise99", "fall0", "put1 4 0 3",
	"see\r", "\rsee", "\r", "see\t", "\tsee", "\t", "put\t1 4 0 3", "done\t1", "force\v", "\fforce",
	"see\x00", "\x00see", "\x00", "s\x00ee", "\xff", "see\xff", "\xc3\xa9", "s\xc3\xa9e", "\xef\xbb\xbfsee", "see\xc2\xa0", "\xc2\xa0force", "\u2028", "put,1 4 0 3", "see;", "\"see\"", "'force'", "\\n",
}

// noNumbers is words without a blank that are no numbers.
var noNumbers = []string{
	"000", "001", "010", "100", "123", "1000000000000000000001", "-", "-0", "-1", "+1", "+", "1-", "a", "1a", "a1", "0x", "0x1", "x1", "1e", "1.", ".1", "1,", "1_", "_1",
	"/", ":", "1/", "1:", "/1", ":1", "1\t", "\t1", "1\r", "\r", "\x001", "1\x00", "\x00", "\x01", "\xff", "\xb1", "1\xb1", "\xc2\xb2", "\u0663", "\uff11", "l", "O", "one",
}

// asWritten is a line with leading zeros and additional words, which change nothing.
func asWritten(line string, dice *rand.Rand) string {
	words := strings.Split(line, " ")
	for i, word := range words[1:] {
		if len(word) == 1 && dice.IntN(2) == 0 {
			words[1+i] = "0" + word
		}
	}
	return strings.Join(words, " ") + []string{"", " ", "  7", " see", " \xff x"}[dice.IntN(5)]
}

// misspelt is a line with a word that is missing, or empty, or none that is meant.
func misspelt(line string, dice *rand.Rand) string {
	words := strings.Split(line, " ")
	n := dice.IntN(len(words))
	switch dice.IntN(3) {
	case 0:
		words = words[:n]
	case 1:
		words[n] = " " + words[n]
	case 2:
		words[n] = noNumbers[dice.IntN(len(noNumbers))]
	}
	return strings.Join(words, " ")
}

// nextLine is a line that mostly changes an engine.
func nextLine(e impl.Engine, style int, dice *rand.Rand) string {
	line := lineOf(nextEvent(e, style, dice))
	switch dice.IntN(25) {
	case 0:
		return "see"
	case 1:
		return unknownLines[dice.IntN(len(unknownLines))]
	case 2:
		return misspelt(line, dice)
	case 3, 4:
		return asWritten(line, dice)
	}
	return line
}

// script is lines of the interface, with the engine behind them.
type script struct {
	text   string
	engine impl.Engine
}

// anyScript is a script of at most so many bytes.
func anyScript(most, style int, dice *rand.Rand) script {
	s, text := shell{engine: newEngine()}, ""
	for {
		line := nextLine(s.engine, style, dice)
		if len(text)+len(line)+1 > most {
			return script{text, s.engine}
		}
		text += line + "\n"
		s.line(line)
	}
}

// scripts gives the same scripts each time, of 0 to 500 bytes.
func scripts(yield func(script) bool) {
	dice := rand.New(rand.NewPCG(31, 95))
	for run := range 150 * styles {
		most := []int{500, 460, 30 + dice.IntN(200), run / 20}[run%4]
		if !yield(anyScript(most, run/4%styles, dice)) {
			return
		}
	}
}
