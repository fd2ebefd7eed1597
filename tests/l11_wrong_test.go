package tests

import (
	"maps"
	"slices"
	"strings"
	"testing"
)

// wrongWords are words that are no numbers, made of one that is.
func wrongWords(number string) []string {
	return []string{
		"", "0" + number, "00" + number, "+" + number, "-" + number, number + "x", "x" + number, number + ".0", number + "e0",
		"0x" + number, "0b" + number, "0o" + number, number + "_", number + ",", "\t" + number, number + "\t", number + "\n",
		number + "\r", "000000000" + number, "none", "\x00", number + "\x00", "\xff", "\u0661", "\uff11", "\u00a0" + number,
		"9999999999", "99999999999999999999", "18446744073709551616", strings.Repeat("9", 1000),
	}
}

// wrongLines returns lines that are none of the document's, made of one that is.
func wrongLines(line string) []string {
	name, rest, more := strings.Cut(line, " ")
	lines := []string{
		" " + line, line + " ", "  " + line, line + "  ", line + "\n", line + "\r", line + "\t", "\n" + line, line + "\n" + line,
		line + ";", line + "\x00", "\ufeff" + line, strings.ToUpper(name) + line[len(name):], strings.ToUpper(name[:1]) + line[1:],
		strings.Replace(line, name, name+"x", 1), strings.Replace(line, name, "x"+name, 1), line + " x", line + " -1", line + " 01",
		name + "\t" + rest, name + "  " + rest, name + ": " + rest, name + " x" + rest,
	}
	takes := ownCommands()[name].takes
	if takes != -1 {
		lines = append(lines, line+" 0", line+" 1", line+" 1 1")
	}
	if takes == -2 {
		return append(lines, name, name+" ")
	}
	words := strings.Fields(line)
	for i := 1; i < len(words); i++ {
		for _, wrong := range wrongWords(words[i]) {
			lines = append(lines, strings.Join(slices.Concat(words[:i], []string{wrong}, words[i+1:]), " "))
		}
		if takes != -1 {
			lines = append(lines, strings.Join(words[:i], " "))
		}
	}
	if !more {
		lines = append(lines, line+" "+line, line+line)
	}
	return lines
}

// each way in which a line is wrong has the output error, and leaves the desk as it is.
func TestWrongLines(t *testing.T) {
	for _, k := range knownLines() {
		desk := deskOf(k.desk[0], k.desk[1])
		for _, line := range wrongLines(k.line) {
			wantLine(t, desk, line, "error", deskText(desk))
		}
	}
}

func TestLinesThatAreNone(t *testing.T) {
	lines := []string{
		"", " ", "  ", "\t", "\n", "\r\n", "\x00", "\xff\xfe", "fly", "0", "5", "rows5", "5 rows", "-", "ok", "error", "none", "help",
		"set 2:0011 1100", "set 2:0011, 1100", "set2:0011", "chess", "name chess carry", "name Chess", "name 2:0011,1100",
		"set chess", "turn turn", "rows rows", "rows five", "First", "show T", "copy U", "columns 1", "squares 2", "torus 1 1", "sets",
		"put 0000", "join 2:0011", "same 1 2 2:0011", "is 0 1", "", "digits", "times", "rename", "row", "south", "around",
		strings.Repeat("rows ", 1000), strings.Repeat(" ", 5000), "row" + strings.Repeat(" 0", 5000), strings.Repeat("x", 100000),
	}
	for _, line := range lines {
		wantLine(t, deskOf(tileText, carryText), line, "error", tileText+" and "+carryText)
	}
}

// lines of known words in any order are compared, too: most of them are wrong.
func TestLinesOfDrawnWords(t *testing.T) {
	d := draw(112)
	words := slices.Sorted(maps.Keys(ownCommands()))
	words = append(words, "0", "1", "2", "3", "00", "-1", "", "2:0011,1100", "2:", "chess", "x")
	errors := 0
	for range 4000 {
		desk := deskOf(evenText, wallText)
		var line []string
		for range 1 + d.below(4) {
			line = append(line, words[d.below(len(words))])
		}
		text := strings.Join(line, " ")
		next, output := ownLine(desk, text)
		wantLine(t, desk, text, output, deskText(next))
		if output == "error" {
			errors++
		}
	}
	if errors < 500 || errors > 3800 {
		t.Errorf("%d errors", errors)
	}
}

// functions that return another code make a line wrong, for each such code.
func TestCodesMakeLinesWrong(t *testing.T) {
	many, alike := "6:0000,1111,2222,3333,4444,5555", "4:0011,1100,2222,3333"
	cases := []struct{ first, second, line string }{
		{chessText, carryText, "set 2:1100,0011"},
		{chessText, carryText, "set 2:0012"},
		{chessText, carryText, "name stairs"},
		{chessText, carryText, "take 2"},
		{"2:", carryText, "take 0"},
		{chessText, carryText, "rename"},
		{chessText, carryText, "rename 1"},
		{chessText, carryText, "rename 1 1"},
		{chessText, carryText, "rename 1 2"},
		{chessText, carryText, "rename 1 0 2"},
		{many, carryText, "join"},
		{fullTwo, chessText, "join"},
		{alike, carryText, "product"},
		{fullTwo, fullTwo, "stack"},
		{fullTwo, chessText, "power 2"},
		{chessText, carryText, "power 0"},
		{chessText, carryText, "power 5"},
		{chessText, carryText, "times 0 1 0 1 1 2"},
		{chessText, carryText, "times 3 3 0 5 0 5"},
		{chessText, carryText, "right 2"},
		{chessText, carryText, "below 2"},
		{chessText, carryText, "rows 0"},
		{chessText, carryText, "rows 41"},
		{fullTwo, carryText, "rows 40"},
		{chessText, carryText, "rounds 41"},
		{chessText, carryText, "row"},
		{chessText, carryText, "row 0 0"},
		{chessText, carryText, "south 2"},
		{fullTwo, carryText, "south 0 0 0 0 0 0 0 0"},
		{fullTwo, carryText, "around 0 0 0 0 0 0 0 0"},
		{chessText, carryText, "corner 4"},
		{chessText, carryText, "height 0"},
		{chessText, carryText, "height 6"},
		{chessText, carryText, "width 7"},
		{chessText, carryText, "width 6"},
		{fullTwo, carryText, "table 4"},
		{chessText, carryText, "strip 1 31"},
		{chessText, carryText, "strip 5 1"},
		{chessText, carryText, "cylinder 6 3"},
		{chessText, carryText, "cylinder 5 4"},
		{"2:0010", carryText, "period 1"},
		{chessText, carryText, "mixing 0"},
		{chessText, carryText, "recurrence 5"},
		{chessText, carryText, "digits 6 1 1 1"},
		{chessText, carryText, "digits 1 1 1001 1"},
		{chessText, carryText, "traces 4 1"},
		{wiresText, carryText, "traces 1 8"},
		{wallText, wiresText, "same 1 8"},
		{"3:0001,0012,0102,1200", carryText, "stable 9"},
		{chessText, carryText, "forbidden 1 6"},
		{chessText, carryText, "widest 1"},
	}
	for _, c := range cases {
		wantLine(t, deskOf(c.first, c.second), c.line, "error", c.first+" and "+c.second)
	}
}
