package tests

import (
	"fmt"
	"maps"
	"slices"
	"strings"
	"testing"

	"loop.example/g01354/impl"
)

func TestLimitsOfTheConsole(t *testing.T) {
	if limits := []int64{impl.MaxConsole, impl.MaxLines}; !slices.Equal(limits, []int64{4000, 40}) {
		t.Errorf("limits %v", limits)
	}
}

func TestNewDesk(t *testing.T) {
	for range 2 {
		d := impl.NewDesk()
		if deskText(d) != newDeskText || !impl.IsDesk(d) {
			t.Fatalf("NewDesk = %s", deskText(d))
		}
		// what is done to a new desk must not reach the next one
		d.First.Tiles[0], d.Second.Tiles[3] = mark, mark
	}
}

func TestDesks(t *testing.T) {
	texts := sampleTexts()
	for i, text := range texts {
		d := deskOf(text, texts[(i+5)%len(texts)])
		if !impl.IsDesk(d) {
			t.Errorf("IsDesk of %s = false", deskText(d))
		}
	}
	empty := impl.Desk{First: impl.Set{Colours: 1, Tiles: []impl.Tile{}}, Second: impl.Set{Colours: 6}}
	if !impl.IsDesk(empty) {
		t.Errorf("IsDesk of %s = false", deskText(empty))
	}
}

// noDesks returns what is no desk as its first set, its second one, or both are none.
func noDesks() []impl.Desk {
	var desks []impl.Desk
	for _, no := range noSets() {
		desks = append(desks, impl.Desk{First: no, Second: setOf(carryText)}, impl.Desk{First: setOf(chessText), Second: no},
			impl.Desk{First: no, Second: no})
	}
	return desks
}

// no line, also one that asks for no set or makes the desk new, is executed on what is no desk.
func TestNoDesks(t *testing.T) {
	lines := []string{"", "fly", "set 2:0001", "name", "rows 5", "rows -5", "show", "look", "swap", "copy", "digits 2 3 1 3", "reset"}
	for _, no := range noDesks() {
		if impl.IsDesk(no) {
			t.Errorf("IsDesk of %s = true", deskText(no))
		}
		for _, line := range lines {
			d, output := impl.RunLine(no, line)
			if output != "" || deskText(d) != "0: and 0:" {
				t.Errorf("%q on %s = %s, %q", line, deskText(no), deskText(d), output)
			}
		}
	}
}

// wantNoSharing runs a line on a desk with spare capacity. What is written into the desk that it
// returns must reach neither the desk that was given, nor the other set.
func wantNoSharing(t *testing.T, desk [2]string, line string) {
	t.Helper()
	before := impl.Desk{First: marked(desk[0]), Second: marked(desk[1])}
	after, _ := impl.RunLine(before, line)
	second := textOf(after.Second)
	first := after.First.Tiles[:cap(after.First.Tiles)]
	for i := range first {
		first[i] = impl.Tile{99, 99, 99, 99}
	}
	if textOf(after.Second) != second {
		t.Errorf("the sets share memory after %q on %v", line, desk)
	}
	wide := after.Second.Tiles[:cap(after.Second.Tiles)]
	for i := range wide {
		wide[i] = impl.Tile{99, 99, 99, 99}
	}
	if !kept(before.First, desk[0]) || !kept(before.Second, desk[1]) {
		t.Errorf("%q on %v changes its argument, or shares memory with it", line, desk)
	}
}

func TestLinesShareNothing(t *testing.T) {
	for _, k := range knownLines() {
		wantNoSharing(t, k.desk, k.line)
		wantNoSharing(t, k.desk, k.line+" ")
		wantNoSharing(t, [2]string{fullTwo, fullSix}, k.line)
	}
	for _, line := range []string{"", "fly", "take 16", "name nobody", "copy", "swap", "reset", "show"} {
		wantNoSharing(t, [2]string{chessText, carryText}, line)
	}
}

func TestDesksAreNew(t *testing.T) {
	for _, text := range []string{"", "rows 5\n", "copy\n", "set 2:0001\ncopy\nfly\n", "reset"} {
		first, ok := impl.DeskAfter(text)
		want := deskText(first)
		for _, set := range []impl.Set{first.First, first.Second} {
			set.Tiles[0] = mark
		}
		again, sure := impl.DeskAfter(text)
		if !ok || !sure || deskText(again) != want {
			t.Errorf("DeskAfter of %q = %s, %v, then %s, %v", text, want, ok, deskText(again), sure)
		}
	}
}

// wantConsole checks the outputs of a text, and the desk after it.
func wantConsole(t *testing.T, text, outputs, after string) {
	t.Helper()
	if got := impl.Console(text); got != outputs {
		t.Errorf("Console of %q = %q, want %q", text, got, outputs)
	}
	d, ok := impl.DeskAfter(text)
	if !ok || deskText(d) != after || !impl.IsDesk(d) {
		t.Errorf("DeskAfter of %q = %s, %v, want %s", text, deskText(d), ok, after)
	}
}

// wantRefused checks a text that is over the limits.
func wantRefused(t *testing.T, what, text string) {
	t.Helper()
	outputs := impl.Console(text)
	d, ok := impl.DeskAfter(text)
	if outputs != "" || ok || deskText(d) != "0: and 0:" {
		t.Errorf("%s: Console = %q, DeskAfter = %s, %v", what, outputs, deskText(d), ok)
	}
}

func TestKnownTexts(t *testing.T) {
	cases := []struct{ text, outputs, after string }{
		{"", "", newDeskText},
		{"\n", "", newDeskText},
		{"\n\n\n", "", newDeskText},
		{"rows 5", "2\n", newDeskText},
		{"rows 5\n", "2\n", newDeskText},
		{"rows 5\n\n", "2\n", newDeskText},
		{"\n\nrows 5\n\nshow", "2\n2:0011,1100\n", newDeskText},
		{" ", "error\n", newDeskText},
		{"\t", "error\n", newDeskText},
		{"\r\n", "error\n", newDeskText},
		{"rows 5\r\nrows 5\n", "error\n2\n", newDeskText},
		{"rows 5 \n rows 5\nrows  5", "error\nerror\nerror\n", newDeskText},
		{"rows 5;rows 5", "error\n", newDeskText},
		{"rows\n5", "error\nerror\n", newDeskText},
		{"\x00\xff\n\v\f", "error\nerror\n", newDeskText},
		{"swap\nlook", carryText + "\n" + chessText + "\n", carryText + " and " + chessText},
		{"swap\nswap\n", carryText + "\n" + chessText + "\n", newDeskText},
		{"copy\nstack\nlook", chessText + "\n2:0010,1101\n" + chessText + "\n", "2:0010,1101 and " + chessText},
		{"set 2:0001\nreset\nshow", "2:0001\nok\n" + chessText + "\n", newDeskText},
		{"set 2:0001\nset 2:0002\nshow", "2:0001\nerror\n2:0001\n", "2:0001 and " + carryText},
		{"take 0\ntake 0\ntake 0\nlasting", "2:1100\n2:\nerror\nnone\n", "2: and " + carryText},
		{"name wheel\ncopy\nfly\nname wall\nswap", "3:0120,1201,2012\n3:0120,1201,2012\nerror\n2:0001\n3:0120,1201,2012\n",
			"3:0120,1201,2012 and 2:0001"},
	}
	for _, c := range cases {
		wantConsole(t, c.text, c.outputs, c.after)
	}
}

// Promise 11: lines lead from desks to desks, and the console joins their outputs.
func TestTextsOfDrawnLines(t *testing.T) {
	d := draw(113)
	commands := ownCommands()
	all := slices.Sorted(maps.Keys(commands))
	outputs, errors := 0, 0
	for range 300 {
		own, byLines := deskOf(chessText, carryText), impl.NewDesk()
		text, joined := "", ""
		for range d.below(41) {
			if d.below(10) == 0 {
				text += "\n"
				continue
			}
			name := all[d.below(len(all))]
			line := d.drawnLine(own, name, commands[name].takes)
			next, want := ownLine(own, line)
			byLines = wantLine(t, byLines, line, want, deskText(next))
			own, text, joined = next, text+line+"\n", joined+want+"\n"
			if want == "error" {
				errors++
			} else {
				outputs++
			}
		}
		if len(text) > impl.MaxConsole {
			wantRefused(t, "a long text", text)
			continue
		}
		wantConsole(t, text, joined, deskText(own))
		wantConsole(t, strings.TrimSuffix(text, "\n"), joined, deskText(own))
	}
	if outputs < 1000 || errors < 1000 {
		t.Errorf("%d outputs, %d errors", outputs, errors)
	}
}

// textOfLength returns a text of a number of bytes, at its end a line that changes the desk. The line
// ahead of it is as long as needed.
func textOfLength(n int, end string) string {
	line := "name wall" + end
	return "rows 5\n" + strings.Repeat("x", n-8-len(line)) + "\n" + line
}

func TestLongestTexts(t *testing.T) {
	outputs, after := "2\nerror\n2:0001\n", "2:0001 and "+carryText
	for _, end := range []string{"", "\n", "\n\n"} {
		for _, n := range []int{100, 3999, 4000} {
			if text := textOfLength(n, end); len(text) != n {
				t.Fatalf("%d bytes", len(text))
			}
			wantConsole(t, textOfLength(n, end), outputs, after)
		}
		for _, n := range []int{4001, 4002, 100000} {
			wantRefused(t, fmt.Sprintf("%d bytes", n), textOfLength(n, end))
		}
	}
	wantConsole(t, strings.Repeat("x", 4000), "error\n", newDeskText)
	wantRefused(t, "one line", strings.Repeat("x", 4001))
	wantConsole(t, strings.Repeat(" ", 4000), "error\n", newDeskText)
	wantRefused(t, "blanks", strings.Repeat(" ", 4001))
	// bytes are counted, not runes
	wantConsole(t, strings.Repeat("\u00e9", 2000), "error\n", newDeskText)
	wantRefused(t, "2001 runes", strings.Repeat("\u00e9", 2001))
}

func TestMostLines(t *testing.T) {
	for _, n := range []int{1, 39, 40} {
		want := strings.Repeat("2\n", n)
		wantConsole(t, strings.Repeat("rows 5\n", n), want, newDeskText)
		wantConsole(t, strings.TrimSuffix(strings.Repeat("rows 5\n", n), "\n"), want, newDeskText)
		wantConsole(t, strings.Repeat("\n", n), "", newDeskText)
		wantConsole(t, strings.Repeat("\n", n-1)+"rows 5", "2\n", newDeskText)
		wantConsole(t, strings.Repeat("\n", n-1)+"rows 5\n", "2\n", newDeskText)
		wantConsole(t, "rows 5"+strings.Repeat("\n", n), "2\n", newDeskText)
	}
	for _, n := range []int{41, 42, 500} {
		what := fmt.Sprintf("%d lines", n)
		wantRefused(t, what, strings.Repeat("rows 5\n", n))
		wantRefused(t, what, strings.TrimSuffix(strings.Repeat("rows 5\n", n), "\n"))
		wantRefused(t, what, strings.Repeat("\n", n))
		wantRefused(t, what, strings.Repeat("\n", n-1)+"rows 5")
		wantRefused(t, what, strings.Repeat("\n", n-1)+"rows 5\n")
		wantRefused(t, what, "rows 5"+strings.Repeat("\n", n))
	}
	wantRefused(t, "4000 lines", strings.Repeat("\n", 4000))
	wantRefused(t, "4001 lines", strings.Repeat("\n", 4001))
}

// bytes of all kinds are lines, or none, but never more than these.
func TestDrawnTexts(t *testing.T) {
	d := draw(114)
	few := "rows 15\n\n set2:0,\x00\xff\r\t"
	for range 2000 {
		var text []byte
		for range d.below(60) {
			if d.below(4) == 0 {
				text = append(text, byte(d.below(256)))
			} else {
				text = append(text, few[d.below(len(few))])
			}
		}
		own, joined := deskOf(chessText, carryText), ""
		lines := strings.Split(strings.TrimSuffix(string(text), "\n"), "\n")
		for _, line := range slices.DeleteFunc(lines, func(line string) bool { return line == "" }) {
			next, output := ownLine(own, line)
			own, joined = next, joined+output+"\n"
		}
		wantConsole(t, string(text), joined, deskText(own))
	}
}

// texts whose lines all take long are executed as well.
func TestSlowTexts(t *testing.T) {
	for _, line := range []string{"recurrence 4", "strip 4 30", "height 6", "forbidden 3 5", "same 3 8", "stable 8", "table 4", "widest 3"} {
		for _, text := range []string{fullTwo, fullSix, "5:0000,0101,1010,1111,2222,2323,3232,3333,4444"} {
			outputs := impl.Console("set " + text + "\ncopy\n" + strings.Repeat(line+"\n", 38))
			rows := strings.Split(outputs, "\n")
			if len(rows) != 41 || rows[0] != text || rows[1] != text || rows[2] != rows[39] || rows[40] != "" {
				t.Errorf("%s on %s: %q", line, text, outputs)
			}
		}
	}
}
