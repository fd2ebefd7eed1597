package tests

import (
	"fmt"
	"slices"
	"testing"

	"loop.example/g01354/impl"
)

// ownStack is a stack of two sets, however many colours and tiles it has.
type ownStack struct {
	set   impl.Set
	pairs [][]int64
	// firsts has for each tile the numbers of the first two that make it.
	firsts map[impl.Tile][2]int64
	// stacked is the number of stacked pairs.
	stacked int
}

// stackedOn returns the stack of s above t, tile by tile.
func stackedOn(s, t impl.Set) ownStack {
	own := ownStack{firsts: map[impl.Tile][2]int64{}}
	for _, a := range s.Tiles {
		for _, b := range t.Tiles {
			if a[3] == b[1] {
				own.pairs = append(own.pairs, []int64{a[0], b[0]}, []int64{a[2], b[2]})
				own.stacked++
			}
		}
	}
	own.pairs = sortedWords(own.pairs)
	numbers := map[[2]int64]int64{}
	for number, pair := range own.pairs {
		numbers[[2]int64(pair)] = int64(number)
	}
	for i, a := range s.Tiles {
		for k, b := range t.Tiles {
			tile := impl.Tile{numbers[[2]int64{a[0], b[0]}], a[1], numbers[[2]int64{a[2], b[2]}], b[3]}
			if _, old := own.firsts[tile]; a[3] == b[1] && !old {
				own.firsts[tile] = [2]int64{int64(i), int64(k)}
				own.set.Tiles = append(own.set.Tiles, tile)
			}
		}
	}
	own.set.Colours = max(int64(len(own.pairs)), s.Colours, t.Colours)
	own.set.Tiles = inOrder(own.set.Tiles)
	return own
}

// inOrder returns tiles in ascending order.
func inOrder(tiles []impl.Tile) []impl.Tile {
	return slices.SortedFunc(slices.Values(tiles), func(a, b impl.Tile) int { return slices.Compare(a[:], b[:]) })
}

// isSmall reports whether a stack is a set.
func (own ownStack) isSmall() bool {
	return own.set.Colours <= impl.MaxColours && len(own.set.Tiles) <= impl.MaxTiles
}

func TestLimitsOfStacks(t *testing.T) {
	if limits := []int64{impl.MaxStacked, impl.MaxHeight}; !slices.Equal(limits, []int64{3000, 6}) {
		t.Errorf("limits %v", limits)
	}
}

// wantStack checks what is said of two sets, and of all lists of one tile, and of none.
func wantStack(t *testing.T, s, u impl.Set) ownStack {
	t.Helper()
	what := fmt.Sprintf("of %s above %s", textOf(s), textOf(u))
	want := stackedOn(s, u)
	pairs, code := impl.PairsOfStack(s, u)
	wantLists(t, "PairsOfStack "+what, pairs, code, want.pairs)
	stack, code := impl.StackSets(s, u)
	if want.isSmall() {
		wantSet(t, "StackSets "+what, stack, code, textOf(want.set))
	} else {
		wantCode(t, "StackSets "+what, stack, code, impl.ErrLimit)
	}
	for i := int64(-1); i <= int64(len(want.set.Tiles)); i++ {
		wantSplit(t, s, u, want, []int64{i})
	}
	wantSplit(t, s, u, want, nil)
	return want
}

// wantSplit checks SplitRow for a list that may be a row of a stack.
func wantSplit(t *testing.T, s, u impl.Set, own ownStack, row []int64) {
	t.Helper()
	what := fmt.Sprintf("SplitRow of %s above %s, %v", textOf(s), textOf(u), row)
	upper, lower, code := impl.SplitRow(s, u, row)
	want := int64(impl.ErrNone)
	switch {
	case !own.isSmall():
		want = impl.ErrLimit
	case !isRowOf(own.set, row):
		want = impl.ErrRange
	}
	if want != impl.ErrNone {
		wantCode(t, what, upper, code, want)
		wantCode(t, what, lower, code, want)
		return
	}
	var first, second []int64
	for _, i := range row {
		both := own.firsts[own.set.Tiles[i]]
		first, second = append(first, both[0]), append(second, both[1])
	}
	wantList(t, what, upper, code, first)
	wantList(t, what, lower, code, second)
}

// isRowOf reports whether a list is a row of a set.
func isRowOf(set impl.Set, row []int64) bool {
	for _, i := range row {
		if i < 0 || i >= int64(len(set.Tiles)) {
			return false
		}
	}
	return len(row) >= 1 && len(row) <= impl.MaxLength && fills(set, [][]int64{row})
}

// each sample is stacked above each.
func TestStacks(t *testing.T) {
	small, great := 0, 0
	for _, first := range sampleTexts() {
		for _, second := range sampleTexts() {
			if own := wantStack(t, setOf(first), setOf(second)); own.isSmall() {
				small++
			} else {
				great++
			}
		}
	}
	if small < 100 || great < 100 {
		t.Errorf("only %d stacks that are sets, and %d that are none", small, great)
	}
}

func TestKnownStacks(t *testing.T) {
	cases := []struct {
		upper, lower string
		pairs        [][]int64
		stack        string
	}{
		{"2:0011,1100", "2:0011,1100", [][]int64{{0, 1}, {1, 0}}, "2:0010,1101"},
		{"1:0000", "1:0000", [][]int64{{0, 0}}, "1:0000"},
		{"2:0001", "2:0001", nil, "2:"},                           // nothing fits below a wall
		{"2:0001", "2:0100", [][]int64{{0, 0}}, "2:0000"},         // north of the upper tile, south of the lower one
		{"3:0102", "4:2231", [][]int64{{0, 2}, {0, 3}}, "4:0111"}, // colours of the upper tile stand first
		{"3:2102", "4:0231", [][]int64{{0, 3}, {2, 0}}, "4:1101"}, // numbers in order, not as tiles come
		{"6:5115", "1:", nil, "6:"},
		{"1:", "5:0123", nil, "5:"},
		{"5:", "3:", nil, "5:"},
		{"1:0000", "3:0010,1020,2000", [][]int64{{0, 0}, {0, 1}, {0, 2}}, "3:0010,1020,2000"},
		{"3:0010,1020,2000", "1:0000", [][]int64{{0, 0}, {1, 0}, {2, 0}}, "3:0010,1020,2000"},
		{"2:0000,0001", "2:0000,0100", [][]int64{{0, 0}}, "2:0000"}, // two stacked pairs make one tile
	}
	for _, c := range cases {
		what := c.upper + " above " + c.lower
		pairs, code := impl.PairsOfStack(setOf(c.upper), setOf(c.lower))
		wantLists(t, "PairsOfStack of "+what, pairs, code, c.pairs)
		stack, code := impl.StackSets(setOf(c.upper), setOf(c.lower))
		wantSet(t, "StackSets of "+what, stack, code, c.stack)
	}
}

// stacks have at most six pairs and sixteen tiles, those that are made more than once counted once.
func TestGreatStacks(t *testing.T) {
	const fifteen = "6:0000,0010,0020,0030,1000,1010,1020,1030,2000,2010,2020,2030,3000,3010,3020"
	cases := []struct {
		upper, lower   string
		pairs, stacked int
		tiles          int
		code           int64
	}{
		{"4:0000,1010,2020", "2:0000,1010", 6, 6, 6, impl.ErrNone},
		{"4:0000,1010,2020,3031", "2:0000,0100,1010", 7, 7, 7, impl.ErrLimit},
		{"6:0011,2031,4051", "2:0100", 6, 3, 3, impl.ErrNone},
		{"6:0000,1010,2020,3030,4040,5050", "6:0000,1010,2020,3030,4040,5050", 36, 36, 36, impl.ErrLimit},
		{fifteen, "1:0000", 4, 15, 15, impl.ErrNone},
		{fifteen + ",3030", "1:0000", 4, 16, 16, impl.ErrNone},
		{fifteen + ",3031", "2:0000,0100", 4, 16, 16, impl.ErrNone},
		{fifteen + ",3031", "2:0000,0100,0101", 4, 17, 17, impl.ErrLimit},
		{"1:0000", "6:0000", 1, 1, 1, impl.ErrNone},
		{fullTwo, "2:0000,0001,0100,0101", 2, 32, 16, impl.ErrNone},
		{fullTwo, "3:0000,0001,0002,0100,0101", 2, 40, 24, impl.ErrLimit},
		{fullTwo, fullTwo, 4, 128, 64, impl.ErrLimit},
	}
	for _, c := range cases {
		own := wantStack(t, setOf(c.upper), setOf(c.lower))
		if len(own.pairs) != c.pairs || own.stacked != c.stacked || len(own.set.Tiles) != c.tiles {
			t.Errorf("%s above %s: %d pairs, %d stacked ones, %d tiles", c.upper, c.lower, len(own.pairs), own.stacked, len(own.set.Tiles))
		}
		_, code := impl.StackSets(setOf(c.upper), setOf(c.lower))
		if code != c.code {
			t.Errorf("StackSets of %s above %s: code %d", c.upper, c.lower, code)
		}
	}
}

// smallStacks are pairs of sets with stacks that have rows, but not too many of them.
func smallStacks() [][2]impl.Set {
	var list [][2]impl.Set
	d := draw(4)
	for len(list) < 150 {
		s, u := setOf(d.drawnText(1+d.below(4), 1+d.below(6))), setOf(d.drawnText(1+d.below(4), 1+d.below(6)))
		own := stackedOn(s, u)
		if own.isSmall() && len(allRows(own.set, 3)) > 3 && len(allRows(own.set, 3)) < 300 {
			list = append(list, [2]impl.Set{s, u})
		}
	}
	return append(list, [2]impl.Set{setOf(fullTwo), setOf("2:0000,0001,0100,0101")})
}

// promises 4 and 13: rows of stacks are rows of both sets one above the other, with the north words
// of the upper one and the south words of the lower one.
func TestRowsOfStacks(t *testing.T) {
	for _, both := range smallStacks() {
		s, u := both[0], both[1]
		own := stackedOn(s, u)
		for n := 1; n <= 3; n++ {
			for _, row := range allRows(own.set, n) {
				wantSplit(t, s, u, own, row)
				upper, lower, _ := impl.SplitRow(s, u, row)
				if len(upper) != n || !isRowOf(s, upper) || !isRowOf(u, lower) {
					t.Fatalf("%v above %v: no rows", upper, lower)
				}
				stack, _ := impl.StackSets(s, u)
				top, bottom, code := impl.WordsOfRow(stack, row)
				wantList(t, "the north word of a stack", top, code, wordAt(s, upper, 1))
				wantList(t, "the south word of a stack", bottom, code, wordAt(u, lower, 3))
				wantList(t, "the word between", wordAt(s, upper, 3), code, wordAt(u, lower, 1))
			}
		}
	}
}

// each row above a row that fits is a row of the stack.
func TestRowsThatMakeStacks(t *testing.T) {
	for _, both := range smallStacks() {
		stack, code := impl.StackSets(both[0], both[1])
		if code != impl.ErrNone {
			t.Fatalf("StackSets: %d", code)
		}
		made := map[string]bool{}
		for _, upper := range allRows(both[0], 2) {
			for _, lower := range allRows(both[1], 2) {
				if slices.Equal(wordAt(both[0], upper, 3), wordAt(both[1], lower, 1)) {
					made[pairedRow(both[0], both[1], upper, lower)] = true
				}
			}
		}
		var tiles []string
		for _, row := range allRows(stack, 2) {
			upper, lower, _ := impl.SplitRow(both[0], both[1], row)
			tiles = append(tiles, pairedRow(both[0], both[1], upper, lower))
		}
		slices.Sort(tiles)
		if len(slices.Compact(tiles)) != len(made) || len(tiles) != len(made) {
			t.Errorf("%d rows of a stack, %d of both sets", len(tiles), len(made))
		}
		for _, row := range tiles {
			if !made[row] {
				t.Errorf("%s is no row of both sets", row)
			}
		}
	}
}

// pairedRow tells two rows, one above the other, without the colours between them.
func pairedRow(s, t impl.Set, upper, lower []int64) string {
	text := ""
	for k := range upper {
		a, b := s.Tiles[upper[k]], t.Tiles[lower[k]]
		text += fmt.Sprint(a[0], b[0], a[1], a[2], b[2], b[3], ",")
	}
	return text
}

func TestLengthsOfSplitRows(t *testing.T) {
	chess := setOf("2:0011,1100")
	own := stackedOn(chess, chess)
	for n := range 25 {
		wantSplit(t, chess, chess, own, chessRows(1, n)[0])
	}
	wantSplit(t, chess, chess, own, make([]int64, 1000))
	for k := range impl.MaxLength {
		for _, number := range append(extremes, -1, 0, 1, 2) {
			row := chessRows(1, impl.MaxLength)[0]
			row[k] = number
			wantSplit(t, chess, chess, own, row)
		}
	}
	upper, lower, code := impl.SplitRow(chess, chess, []int64{1, 0, 1})
	wantList(t, "the upper row", upper, code, []int64{1, 0, 1})
	wantList(t, "the lower row", lower, code, []int64{0, 1, 0})
}

// the first tile of the upper set counts more than that of the lower one.
func TestFirstPairsOfStacks(t *testing.T) {
	upper, lower, code := impl.SplitRow(setOf("3:0000,0001,0002"), setOf("3:0100,0200"), []int64{0, 0})
	wantList(t, "the upper tiles", upper, code, []int64{1, 1})
	wantList(t, "the lower tiles", lower, code, []int64{0, 0})
	upper, lower, code = impl.SplitRow(setOf("3:0001,0002"), setOf("3:0010,0100,0200"), []int64{0})
	wantList(t, "the upper tile", upper, code, []int64{0})
	wantList(t, "the lower tile", lower, code, []int64{1})
	// the tiles of the upper set ascend, those below them descend
	upper, lower, code = impl.SplitRow(setOf("3:0001,0002"), setOf("3:0100,0200,0210"), []int64{0, 0})
	wantList(t, "the upper tiles", upper, code, []int64{0, 0})
	wantList(t, "the lower tiles", lower, code, []int64{0, 0})
	upper, lower, code = impl.SplitRow(setOf("3:0001,0002"), setOf("3:0100,0200,0210"), []int64{0, 1})
	wantList(t, "the upper tiles", upper, code, []int64{0, 1})
	wantList(t, "the lower tiles", lower, code, []int64{0, 2})
}

// a set that is none is told first, wherever it stands, then a stack that is too great.
func TestErrorsOfStacks(t *testing.T) {
	full := setOf(fullTwo)
	for _, no := range noSets() {
		for _, both := range [][2]impl.Set{{no, full}, {full, no}, {no, no}, {no, setOf("1:0000")}} {
			what := fmt.Sprintf(" of %v", both)
			pairs, code := impl.PairsOfStack(both[0], both[1])
			wantCode(t, "PairsOfStack"+what, pairs, code, impl.ErrInvalid)
			stack, code := impl.StackSets(both[0], both[1])
			wantCode(t, "StackSets"+what, stack, code, impl.ErrInvalid)
			for _, row := range [][]int64{nil, {0}, {-1}} {
				upper, lower, code := impl.SplitRow(both[0], both[1], row)
				wantCode(t, "SplitRow (upper)"+what, upper, code, impl.ErrInvalid)
				wantCode(t, "SplitRow (lower)"+what, lower, code, impl.ErrInvalid)
			}
		}
	}
	for _, row := range [][]int64{nil, {-1}, {0}, {0, 1000}, make([]int64, 21)} {
		upper, lower, code := impl.SplitRow(full, full, row)
		wantCode(t, "SplitRow (upper) of a great stack", upper, code, impl.ErrLimit)
		wantCode(t, "SplitRow (lower) of a great stack", lower, code, impl.ErrLimit)
	}
}

func TestStacksShareNothing(t *testing.T) {
	const first, second = "2:0011,0110,1100", "2:0010,1100"
	s, u := marked(first), marked(second)
	pairs, _ := impl.PairsOfStack(s, u)
	if len(pairs) < 2 {
		t.Fatalf("pairs %v", pairs)
	}
	wantApart(t, "PairsOfStack", pairs)
	again, code := impl.PairsOfStack(s, u)
	wantLists(t, "PairsOfStack again", again, code, stackedOn(s, u).pairs)
	chess := marked("2:0011,1100")
	row := withSpare([]int64{0, 1, 0}, 77)
	upper, lower, code := impl.SplitRow(chess, chess, row)
	fillUp([][]int64{upper})
	wantList(t, "the lower row beside an upper one that is filled", lower, code, []int64{1, 0, 1})
	fillUp([][]int64{lower})
	if !kept(s, first) || !kept(u, second) || !kept(chess, "2:0011,1100") {
		t.Errorf("a set is changed")
	}
	if !slices.Equal(row[:7], []int64{0, 1, 0, 77, 77, 77, 77}) {
		t.Errorf("a row is changed: %v", row[:7])
	}
}
