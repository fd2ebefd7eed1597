package tests

import (
	"fmt"
	"maps"
	"regexp"
	"slices"
	"strconv"
	"strings"
	"testing"

	"loop.example/g01354/impl"
)

// deskOf returns the desk with two sets with texts, without the functions that are tested.
func deskOf(first, second string) impl.Desk {
	return impl.Desk{First: setOf(first), Second: setOf(second)}
}

func deskText(d impl.Desk) string {
	return textOf(d.First) + " and " + textOf(d.Second)
}

const newDeskText = "2:0011,1100 and 2:0000,0011,0101,1110"

// wantLine checks the output of a line, and the desk after it, and returns this desk.
func wantLine(t *testing.T, d impl.Desk, line, output, after string) impl.Desk {
	t.Helper()
	before := deskText(d)
	next, got := impl.RunLine(d, line)
	if got != output || deskText(next) != after {
		t.Errorf("%q on %s = %s, %q, want %s, %q", line, before, deskText(next), got, after, output)
	}
	if deskText(d) != before {
		t.Errorf("%q changes its desk %s to %s", line, before, deskText(d))
	}
	return next
}

// knownLine is a line on a desk with its output. The desk after it has the sets first and second, or
// those it had, where these are empty.
type knownLine struct {
	desk          [2]string
	line, output  string
	first, second string
}

func (k knownLine) after() string {
	first, second := k.desk[0], k.desk[1]
	if k.first != "" {
		first = k.first
	}
	if k.second != "" {
		second = k.second
	}
	return first + " and " + second
}

const (
	chessText = "2:0011,1100"
	wiresText = "2:0000,0101,1010,1111"
	sumsText  = "2:0000,0111,1011,1100"
	carryText = "2:0000,0011,0101,1110"
	wallText  = "2:0001"
	evenText  = "2:0000,0111,1101"
	tileText  = "3:0122"
	twiceText = "3:0102,0111,1001,1112"
)

// changing are lines that change the first set to what they put out.
func changing() []knownLine {
	joined := "4:0011,1100,2222,2233,2323,3332"
	lines := []knownLine{
		{[2]string{chessText, carryText}, "set 2:0001", "2:0001", "", ""},
		{[2]string{chessText, carryText}, "set 6:", "6:", "", ""},
		{[2]string{chessText, carryText}, "set " + fullSix, fullSix, "", ""},
		{[2]string{chessText, carryText}, "take 0", "2:1100", "", ""},
		{[2]string{chessText, carryText}, "take 1", "2:0011", "", ""},
		{[2]string{"2:1111", carryText}, "take 0", "2:", "", ""},
		{[2]string{fullSix, carryText}, "take 15", strings.TrimSuffix(fullSix, ",5555"), "", ""},
		{[2]string{tileText, carryText}, "flip", "3:0221", "", ""},
		{[2]string{tileText, carryText}, "mirror", "3:2102", "", ""},
		{[2]string{tileText, carryText}, "turn", "3:2012", "", ""},
		{[2]string{tileText, carryText}, "transpose", "3:1022", "", ""},
		{[2]string{"2:", carryText}, "flip", "2:", "", ""},
		{[2]string{tileText, carryText}, "rename 2 0 1", "3:2011", "", ""},
		{[2]string{tileText, carryText}, "rename 0 1 2", tileText, "", ""},
		{[2]string{"1:", carryText}, "rename 0", "1:", "", ""},
		{[2]string{chessText, carryText}, "join", joined, "", ""},
		{[2]string{joined, carryText}, "join", "6:0011,1100,2222,2233,2323,3332,4444,4455,4545,5554", "", ""},
		{[2]string{chessText, carryText}, "product", "4:0022,0033,0123,1132,2200,2211,2301,3310", "", ""},
		{[2]string{chessText, chessText}, "stack", "2:0010,1101", "", ""},
		{[2]string{chessText, carryText}, "stack", "4:0021,1030,2100,2111", "", ""},
		{[2]string{carryText, chessText}, "stack", "4:0011,1020,1100,2131", "", ""},
		{[2]string{"3:0011,0122,1100", carryText}, "keep", "3:0011,1100", "", ""},
		{[2]string{wallText, carryText}, "keep", wallText, "", ""},
		{[2]string{"3:0011,0122,1100", carryText}, "trim", "3:0011,1100", "", ""},
		{[2]string{wallText, carryText}, "trim", "2:", "", ""},
		{[2]string{"3:0011,0122,1100", carryText}, "power 1", "3:0011,1100", "", ""},
		{[2]string{chessText, carryText}, "power 2", "2:0010,1101", "", ""},
		{[2]string{chessText, carryText}, "times 2 1 0 1 1 2", twiceText, "", ""},
		{[2]string{chessText, carryText}, "times 1 1 0 0 0 0", "1:0000", "", ""},
		{[2]string{chessText, carryText}, "swap", carryText, "", chessText},
		{[2]string{"1:", "6:"}, "swap", "6:", "", "1:"},
	}
	for _, name := range names {
		lines = append(lines, knownLine{[2]string{"1:", "6:"}, "name " + name[0], name[1], "", ""})
	}
	for i := range lines {
		lines[i].first = lines[i].output
	}
	return lines
}

// asking are lines that do not change the desk, and some that change it without putting out the first
// set.
func asking() []knownLine {
	chess, sums := [2]string{chessText, carryText}, [2]string{sumsText, chessText}
	carry, wall := [2]string{carryText, chessText}, [2]string{wallText, wallText}
	wires, even := [2]string{wiresText, carryText}, [2]string{evenText, chessText}
	short, none := [2]string{"2:0011", carryText}, [2]string{"1:", "1:"}
	return []knownLine{
		{[2]string{"6:", "1:"}, "reset", "ok", chessText, carryText},
		{chess, "reset", "ok", "", ""},
		{chess, "copy", chessText, "", chessText},
		{none, "copy", "1:", "", ""},
		{chess, "show", chessText, "", ""},
		{chess, "look", carryText, "", ""},
		{none, "show", "1:", "", ""},
		{wires, "right 0", "0 1", "", ""},
		{wires, "right 3", "2 3", "", ""},
		{short, "right 0", "none", "", ""},
		{wires, "below 0", "0 2", "", ""},
		{short, "below 0", "none", "", ""},
		{chess, "rows 5", "2", "", ""},
		{carry, "rows 5", "64", "", ""},
		{none, "rows 40", "0", "", ""},
		{[2]string{wiresText, wallText}, "rows 40", "2199023255552", "", ""},
		{chess, "rounds 4", "2", "", ""},
		{chess, "rounds 3", "0", "", ""},
		{carry, "row 0 1 1", "0 2 2", "", ""},
		{chess, "row 1", "1", "", ""},
		{carry, "south 0 1 1", "0 1 1;1 0 0", "", ""},
		{chess, "south 0", "1", "", ""},
		{chess, "south 0 0", "none", "", ""},
		{carry, "around 0 1 1", "0 1 1", "", ""},
		{chess, "around 0 1", "1 0", "", ""},
		{chess, "around 0", "none", "", ""},
		{chess, "lasting", "0 1", "", ""},
		{short, "lasting", "none", "", ""},
		{chess, "corner 0", "yes", "", ""},
		{carry, "corner 0", "no", "", ""},
		{chess, "pairs", "0 0;0 1;1 0;1 1", "", ""},
		{[2]string{chessText, chessText}, "pairs", "0 1;1 0", "", ""},
		{[2]string{"3:0120", "2:1000"}, "pairs", "0 1;2 0", "", ""},
		{wall, "pairs", "none", "", ""},
		{wall, "height 3", "2", "", ""},
		{none, "height 6", "1", "", ""},
		{wall, "width 1", "1", "", ""},
		{carry, "table 1", "2 1;0 1", "", ""},
		{short, "table 1", "none", "", ""},
		{sums, "strip 2 4", "8 16 32 64", "", ""},
		{short, "strip 1 3", "1 0 0", "", ""},
		{sums, "cylinder 2 3", "8", "", ""},
		{chess, "cylinder 5 1", "0", "", ""},
		{chess, "period 2", "2", "", ""},
		{chess, "mixing 1", "no", "", ""},
		{[2]string{"1:0000", "1:"}, "mixing 1", "yes", "", ""},
		{sums, "recurrence 2", "2", "", ""},
		{chess, "recurrence 1", "1", "", ""},
		{none, "recurrence 1", "none", "", ""},
		{none, "digits 2 3 1 3", "0 1 1", "", ""},
		{chess, "digits 5 1 1000 1", "5", "", ""},
		{[2]string{twiceText, chessText}, "factors", "2 1", "", ""},
		{wires, "factors", "1 1", "", ""},
		{chess, "factors", "none", "", ""},
		{even, "traces 2 3", "0 0 0;0 0 1;0 1 1;1 0 0;1 0 1;1 1 0;1 1 1", "", ""},
		{chess, "traces 1 1", "0;1", "", ""},
		{wall, "traces 2 3", "none", "", ""},
		{even, "same 1 2", "no", "", ""},
		{wall, "same 3 8", "yes", "", ""},
		{wall, "stable 3", "2", "", ""},
		{chess, "stable 8", "1", "", ""},
		{even, "forbidden 1 5", "0 1 0;0 1 1 1 0", "", ""},
		{wall, "forbidden 1 5", "1", "", ""},
		{wires, "forbidden 3 5", "none", "", ""},
		{wall, "widest 3", "0", "", ""},
		{[2]string{"4:0010,1020,2131", "1:"}, "widest 1", "3", "", ""},
	}
}

func knownLines() []knownLine {
	return append(changing(), asking()...)
}

func TestKnownLines(t *testing.T) {
	commands := map[string]bool{}
	for _, k := range knownLines() {
		wantLine(t, deskOf(k.desk[0], k.desk[1]), k.line, k.output, k.after())
		commands[strings.Fields(k.line)[0]] = true
	}
	for name := range ownCommands() {
		if !commands[name] {
			t.Errorf("there is no known line with %s", name)
		}
	}
}

// ownCommand has how many numbers a command takes (any, if it is -1; -2 stands for a text), and what
// its functions return. The two sets are those after the line.
type ownCommand struct {
	takes int
	call  func(d impl.Desk, n []int64, text string) (impl.Desk, any, int64)
}

// makes is a command whose result is the first set after it.
func makes(takes int, call func(t, u impl.Set, n []int64) (impl.Set, int64)) ownCommand {
	return ownCommand{takes, func(d impl.Desk, n []int64, _ string) (impl.Desk, any, int64) {
		set, code := call(d.First, d.Second, n)
		return impl.Desk{First: set, Second: d.Second}, set, code
	}}
}

// reads is a command that makes the first set of its text.
func reads(call func(text string) (impl.Set, int64)) ownCommand {
	return ownCommand{-2, func(d impl.Desk, _ []int64, text string) (impl.Desk, any, int64) {
		set, code := call(text)
		return impl.Desk{First: set, Second: d.Second}, set, code
	}}
}

// asks is a command that changes nothing.
func asks[R any](takes int, call func(t, u impl.Set, n []int64) (R, int64)) ownCommand {
	return ownCommand{takes, func(d impl.Desk, n []int64, _ string) (impl.Desk, any, int64) {
		result, code := call(d.First, d.Second, n)
		return d, result, code
	}}
}

// exchanges is a command without functions, after which the desk has two sets.
func exchanges(after func(t, u impl.Set) (impl.Desk, any)) ownCommand {
	return ownCommand{0, func(d impl.Desk, _ []int64, _ string) (impl.Desk, any, int64) {
		next, output := after(d.First, d.Second)
		return next, output, impl.ErrNone
	}}
}

// alone is a function of the first set, with is one of this set and a number, and both is one of two
// sets.
func alone[R any](call func(impl.Set) (R, int64)) func(t, u impl.Set, n []int64) (R, int64) {
	return func(t, _ impl.Set, _ []int64) (R, int64) { return call(t) }
}

func with[R any](call func(impl.Set, int64) (R, int64)) func(t, u impl.Set, n []int64) (R, int64) {
	return func(t, _ impl.Set, n []int64) (R, int64) { return call(t, n[0]) }
}

func withTwo[R any](call func(impl.Set, int64, int64) (R, int64)) func(t, u impl.Set, n []int64) (R, int64) {
	return func(t, _ impl.Set, n []int64) (R, int64) { return call(t, n[0], n[1]) }
}

func withList[R any](call func(impl.Set, []int64) (R, int64)) func(t, u impl.Set, n []int64) (R, int64) {
	return func(t, _ impl.Set, n []int64) (R, int64) { return call(t, n) }
}

func both[R any](call func(impl.Set, impl.Set) (R, int64)) func(t, u impl.Set, n []int64) (R, int64) {
	return func(t, u impl.Set, _ []int64) (R, int64) { return call(t, u) }
}

// ownCommands is the table of the document.
func ownCommands() map[string]ownCommand {
	commands := map[string]ownCommand{
		"set":        reads(impl.ParseSet),
		"name":       reads(impl.NamedSet),
		"take":       makes(1, with(impl.TakeTile)),
		"flip":       makes(0, alone(impl.FlippedSet)),
		"mirror":     makes(0, alone(impl.MirroredSet)),
		"turn":       makes(0, alone(impl.TurnedSet)),
		"transpose":  makes(0, alone(impl.TransposedSet)),
		"rename":     makes(-1, withList(impl.RenameColours)),
		"join":       makes(0, both(impl.JoinSets)),
		"product":    makes(0, both(impl.ProductOfSets)),
		"stack":      makes(0, both(impl.StackSets)),
		"keep":       makes(0, alone(impl.KeepLasting)),
		"trim":       makes(0, alone(impl.TrimSet)),
		"power":      makes(1, with(impl.PowerOf)),
		"right":      asks(1, with(impl.RightOf)),
		"below":      asks(1, with(impl.BelowOf)),
		"rows":       asks(1, with(impl.CountRows)),
		"rounds":     asks(1, with(impl.CountRounds)),
		"row":        asks(-1, withList(impl.FirstRow)),
		"south":      asks(-1, withList(impl.SouthWords)),
		"around":     asks(-1, withList(impl.SouthRounds)),
		"lasting":    asks(0, alone(impl.LastingTiles)),
		"corner":     asks(1, with(impl.IsDetermined)),
		"pairs":      asks(0, both(impl.PairsOfStack)),
		"height":     asks(1, with(impl.FailingHeight)),
		"width":      asks(1, with(impl.FailingWidth)),
		"table":      asks(1, with(impl.ColumnTable)),
		"strip":      asks(2, withTwo(impl.StripSequence)),
		"cylinder":   asks(2, withTwo(impl.CountCylinders)),
		"period":     asks(1, with(impl.PeriodOfHeight)),
		"mixing":     asks(1, with(impl.IsMixing)),
		"recurrence": asks(1, with(impl.RecurrenceOf)),
		"factors":    asks(0, alone(impl.FactorsOf)),
		"traces":     asks(2, withTwo(impl.TraceWords)),
		"stable":     asks(1, with(impl.StableHeight)),
		"forbidden":  asks(2, withTwo(impl.LeastForbidden)),
		"widest":     asks(1, with(impl.WidestFilling)),
		"swap":       exchanges(func(t, u impl.Set) (impl.Desk, any) { return impl.Desk{First: u, Second: t}, u }),
		"copy":       exchanges(func(t, u impl.Set) (impl.Desk, any) { return impl.Desk{First: t, Second: t}, t }),
		"show":       exchanges(func(t, u impl.Set) (impl.Desk, any) { return impl.Desk{First: t, Second: u}, t }),
		"look":       exchanges(func(t, u impl.Set) (impl.Desk, any) { return impl.Desk{First: t, Second: u}, u }),
		"reset":      exchanges(func(_, _ impl.Set) (impl.Desk, any) { return deskOf(chessText, carryText), "ok" }),
	}
	commands["times"] = makes(6, func(_, _ impl.Set, n []int64) (impl.Set, int64) {
		return impl.MultiplyingSet(n[0], n[1], n[2], n[3], n[4], n[5])
	})
	commands["digits"] = asks(4, func(_, _ impl.Set, n []int64) ([]int64, int64) {
		return impl.DigitsOf(n[0], n[1], n[2], n[3])
	})
	commands["same"] = asks(2, func(t, u impl.Set, n []int64) (bool, int64) {
		return impl.SameTraces(t, u, n[0], n[1])
	})
	return commands
}

// ownOutput is how a result is put out.
func ownOutput(result any) string {
	switch r := result.(type) {
	case impl.Set:
		return textOf(r)
	case bool:
		if r {
			return "yes"
		}
		return "no"
	case []int64:
		if len(r) > 0 {
			return strings.Trim(fmt.Sprint(r), "[]")
		}
		return "none"
	case [][]int64:
		if len(r) > 0 {
			return strings.Trim(strings.ReplaceAll(fmt.Sprint(r), "] [", ";"), "[]")
		}
		return "none"
	}
	return fmt.Sprint(result)
}

var (
	lineOfNumbers = regexp.MustCompile(`\A[a-z]+( (0|[1-9][0-9]{0,8}))*\z`)
	lineOfText    = regexp.MustCompile(`\A(set|name) [^ ]+\z`)
)

// ownLine executes a line by the functions of the other chapters.
func ownLine(d impl.Desk, line string) (impl.Desk, string) {
	name, rest, _ := strings.Cut(line, " ")
	command, known := ownCommands()[name]
	var numbers []int64
	switch {
	case !known:
		return d, "error"
	case command.takes == -2:
		if !lineOfText.MatchString(line) {
			return d, "error"
		}
	default:
		words := strings.Fields(rest)
		if !lineOfNumbers.MatchString(line) || command.takes >= 0 && len(words) != command.takes {
			return d, "error"
		}
		for _, word := range words {
			number, _ := strconv.ParseInt(word, 10, 64)
			numbers = append(numbers, number)
		}
	}
	next, result, code := command.call(d, numbers, rest)
	if code != impl.ErrNone {
		return d, "error"
	}
	return next, ownOutput(result)
}

// drawnLine returns a line with a command for a desk, mostly with as many words as it takes.
func (d *draw) drawnLine(desk impl.Desk, name string, takes int) string {
	switch {
	case name == "name":
		return "name " + append(names, [2]string{"nobody", ""})[d.below(len(names)+1)][0]
	case name == "set":
		texts := append(sampleTexts(), "2:1100,0011", "7:", "2:0002")
		return "set " + texts[d.below(len(texts))]
	case name == "rename" && d.below(4) > 0:
		return name + d.drawnRenaming(int(desk.First.Colours))
	case takes == -1:
		takes = d.below(5)
	case d.below(12) == 0:
		takes += 1 - 2*d.below(2)
	}
	line := name
	for range takes {
		number := d.below(2 + d.below(5))
		if d.below(20) == 0 {
			number = d.below(100)
		}
		line += fmt.Sprint(" ", number)
	}
	return line
}

// drawnRenaming returns the numbers 0 to c - 1 in any order, each with a blank ahead.
func (d *draw) drawnRenaming(c int) string {
	var words []string
	for k := range c {
		words = slices.Insert(words, d.below(k+1), fmt.Sprint(" ", k))
	}
	return strings.Join(words, "")
}

// lines are compared with what the functions of the other chapters return, on desks of all kinds.
func TestDrawnLines(t *testing.T) {
	d := draw(111)
	texts := slices.DeleteFunc(sampleTexts(), func(text string) bool { return len(text) > 60 })
	texts = append(texts, fullTwo, fullSix)
	commands := ownCommands()
	for _, name := range slices.Sorted(maps.Keys(commands)) {
		outputs, errors := 0, 0
		for range 200 {
			desk := deskOf(texts[d.below(len(texts))], texts[d.below(len(texts))])
			line := d.drawnLine(desk, name, commands[name].takes)
			next, output := ownLine(desk, line)
			wantLine(t, desk, line, output, deskText(next))
			if output == "error" {
				errors++
			} else {
				outputs++
			}
		}
		if outputs < 20 || errors < 3 {
			t.Errorf("%s: %d outputs, %d errors", name, outputs, errors)
		}
	}
}
