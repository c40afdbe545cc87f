package tests

import (
	"fmt"
	"math/rand/v2"
	"slices"
	"strconv"
	"strings"

	"loop.example/tabularium/impl"
)

// What the document says of events, plainly and with its numbers written out, to compare the program with.

// wantDo is a valid engine after an event, for all events.
func wantDo(e impl.Engine, v impl.Event) impl.Engine {
	switch v.Kind {
	case 1:
		return wantPut(e, v.Tx, v.Page, v.Slot, v.N)
	case 2:
		return wantOwn(e, v.Tx, v.Page, v.N)
	case 3:
		return wantLoad(e, v.Tx, v.Page, v.Vals)
	case 4:
		return runDone(e, v.Tx)
	case 5:
		return runUndo(e, v.Tx)
	case 6:
		if in(v.Page, [2]int{0, 4}) {
			return runWrite(e, v.Page)
		}
	case 7:
		return runForce(e)
	case 8:
		if v.N >= 0 {
			return runFall(e, v.N)
		}
	case 9:
		if v.N >= 0 {
			e, _ = runRiseBy(e, v.N)
		}
	}
	return e
}

// wantTrue is the pages with the effects of what commits.
func wantTrue(events []impl.Event) []impl.Page {
	pages, e := newPages(nil), newEngine()
	for _, v := range events {
		if v.Kind == 4 && !e.Down {
			for number := range pages {
				if slices.Contains(holdersIn(e.Log, number), v.Tx) {
					pages[number] = copyPages(e.Mem)[number]
					pages[number].Lsn = 0
				}
			}
		}
		e = wantDo(e, v)
	}
	return pages
}

// kinds is the names of the kinds, each at its number.
var kinds = []string{"", "put", "own", "load", "done", "undo", "write", "force", "fall", "rise"}

// eventsOf is events that are written as names with the numbers that the kind uses, and separated by commas.
func eventsOf(text string) []impl.Event {
	var events []impl.Event
	for part := range strings.SplitSeq(text, ",") {
		if words := strings.Fields(part); len(words) > 0 {
			events = append(events, eventOf(words))
		}
	}
	return events
}

func eventOf(words []string) impl.Event {
	var n []int
	for _, word := range words[1:] {
		number, err := strconv.Atoi(word)
		if err != nil {
			panic(err)
		}
		n = append(n, number)
	}
	v := impl.Event{Kind: slices.Index(kinds, words[0])}
	switch words[0] {
	case "put":
		v.Tx, v.Page, v.Slot, v.N = n[0], n[1], n[2], n[3]
	case "own":
		v.Tx, v.Page, v.N = n[0], n[1], n[2]
	case "load":
		v.Tx, v.Page, v.Vals = n[0], n[1], n[2:]
	case "done", "undo":
		v.Tx = n[0]
	case "write":
		v.Page = n[0]
	case "fall", "rise":
		v.N = n[0]
	case "force":
	default:
		panic(fmt.Sprint("no event: ", words))
	}
	return v
}

// event is the only event of a text.
func event(text string) impl.Event {
	return eventsOf(text)[0]
}

// play is events from EngineNew on, with the engine behind them.
type play struct {
	events []impl.Event
	engine impl.Engine
}

// likelyKinds is how likely each kind is, in an engine that runs and in one that has crashed.
var likelyKinds = map[bool][]int{
	false: {0, 37, 13, 22, 7, 4, 8, 4, 4, 1},
	true:  {0, 7, 4, 4, 14, 5, 3, 3, 20, 40},
}

// Kinds that some plays do not have.
const (
	allKinds = iota
	noFall
	noDone
	noWrite
	styles
)

func hasKind(style, kind int) bool {
	switch style {
	case noFall:
		return kind != 8
	case noDone:
		return kind != 4
	case noWrite:
		return kind != 6 && kind != 7
	}
	return true
}

func likelyKind(down bool, style int, dice *rand.Rand) int {
	for {
		n := dice.IntN(100)
		for kind, likely := range likelyKinds[down] {
			if n -= likely; n < 0 {
				if hasKind(style, kind) {
					return kind
				}
				break
			}
		}
	}
}

// anyEvent is an event that may be possible. The fields that its kind does not use are anything, too.
func anyEvent(down bool, style int, dice *rand.Rand) impl.Event {
	v := impl.Event{Kind: likelyKind(down, style, dice), Tx: 1 + dice.IntN(3), Page: dice.IntN(5), Slot: dice.IntN(3)}
	v.Vals = []int{dice.IntN(10), dice.IntN(10), dice.IntN(10)}
	switch v.Kind {
	case 1:
		v.N = max(0, dice.IntN(13)-3)
	case 2:
		v.N = (dice.IntN(8) + 2) / 3
	case 8:
		v.N = []int{0, dice.IntN(20), 150}[dice.IntN(3)]
	case 9:
		v.N = []int{0, dice.IntN(9), 150}[dice.IntN(3)]
	default:
		v.N = dice.IntN(200) - 50
	}
	return v
}

// impossible is an event with a kind, or a field that its kind uses, that is out of range.
func impossible(v impl.Event, style int, dice *rand.Rand) impl.Event {
	none := []impl.Event{{Kind: 0}, {Kind: -1}, {Kind: 10}, {Kind: 6, Page: -1}, {Kind: 6, Page: 5}, {Kind: 8, N: -1}, {Kind: 9, N: -1}, {Kind: 4}, {Kind: 4, Tx: -1}, {Kind: 4, Tx: 4}}
	if v.Kind > 5 || dice.IntN(3) == 0 {
		if other := none[dice.IntN(len(none))]; hasKind(style, other.Kind) {
			return other
		}
	}
	switch dice.IntN(5) {
	case 0:
		v.Tx = []int{-1, 0, 4}[dice.IntN(3)]
	case 1:
		v.Page = []int{-1, 5}[dice.IntN(2)]
	case 2:
		v.Slot = []int{-1, 3}[dice.IntN(2)]
	case 3:
		v.N = []int{-1, 10}[dice.IntN(2)]
	case 4:
		v.Vals = [][]int{nil, {1, 2}, {1, 2, 3, 4}, {1, 2, 10}, {-1, 2, 3}}[dice.IntN(5)]
	}
	return v
}

// nextEvent is an event that mostly changes an engine.
func nextEvent(e impl.Engine, style int, dice *rand.Rand) impl.Event {
	v := anyEvent(e.Down, style, dice)
	if dice.IntN(20) == 0 {
		return impossible(v, style, dice)
	}
	for tries := dice.IntN(7); tries < 6 && sameEngine(e, wantDo(e, v)); tries++ {
		v = anyEvent(e.Down, style, dice)
	}
	return v
}

// further is a play with so many events more.
func (p play) further(count, style int, dice *rand.Rand) play {
	p.events = slices.Clone(p.events)
	for range count {
		v := nextEvent(p.engine, style, dice)
		p.events, p.engine = append(p.events, v), wantDo(p.engine, v)
	}
	return play{p.events, copyOf(p.engine)}
}

// plays gives the same plays each time, of 0 to 40 events, each a run of its own.
func plays(yield func(play) bool) {
	dice := rand.New(rand.NewPCG(22, 73))
	for run := range 41 * 3 * styles {
		if !yield(play{nil, newEngine()}.further(40-run%41, run/41%styles, dice)) {
			return
		}
	}
}

// upPlays gives the plays whose engine runs at the end.
func upPlays(yield func(play) bool) {
	for p := range plays {
		if !p.engine.Down && !yield(p) {
			return
		}
	}
}
