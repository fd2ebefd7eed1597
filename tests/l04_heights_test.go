package tests

import (
	"fmt"
	"strings"
	"testing"

	"loop.example/g01354/impl"
)

// moreTexts are the samples, and texts of sets of a few tiles.
func moreTexts() []string {
	texts := sampleTexts()
	d := draw(5)
	for c := 2; c <= impl.MaxColours; c++ {
		for n := 2; n <= 12; n++ {
			texts = append(texts, d.drawnText(c, n), d.drawnText(c, n))
		}
	}
	return texts
}

// ownKept returns a set, or a stack of any size, with its lasting tiles kept: those with long rows to
// the west, and long rows to the east.
func ownKept(set impl.Set) impl.Set {
	begins, ends := onWays(set, 0, 2), onWays(set, 2, 0)
	left := impl.Set{Colours: set.Colours}
	for _, a := range set.Tiles {
		if begins[a[2]] && ends[a[0]] {
			left.Tiles = append(left.Tiles, a)
		}
	}
	return left
}

// onWays returns the colours at which rows of any length begin, which go from one side to the other.
func onWays(set impl.Set, from, to int) map[int64]bool {
	colours := map[int64]bool{}
	for colour := range set.Colours {
		colours[colour] = true
	}
	for {
		next := map[int64]bool{}
		for _, a := range set.Tiles {
			if colours[a[to]] {
				next[a[from]] = true
			}
		}
		if len(next) == len(colours) {
			return next
		}
		colours = next
	}
}

func TestKeptTilesAreLasting(t *testing.T) {
	taken, left := 0, 0
	for _, text := range moreTexts() {
		set := setOf(text)
		got, code := impl.KeepLasting(set)
		want := textOf(ownKept(set))
		wantSet(t, "KeepLasting of "+text, got, code, want)
		all, code := impl.LastingTiles(got)
		if code != impl.ErrNone || len(all) != len(got.Tiles) {
			t.Errorf("KeepLasting of %s leaves tiles that are not lasting", text)
		}
		again, code := impl.KeepLasting(got)
		wantSet(t, "KeepLasting again of "+text, again, code, want)
		left += len(got.Tiles)
		taken += len(set.Tiles) - len(got.Tiles)
	}
	if taken < 50 || left < 50 {
		t.Errorf("only %d tiles taken, and %d left", taken, left)
	}
}

func TestKnownLastingTiles(t *testing.T) {
	cases := [][2]string{
		{"6:", "6:"},
		{"2:0011", "2:"},
		{"2:0001", "2:0001"}, // what is above or below does not matter
		{"6:0010,1020,2030,3040,4050,5050", "6:5050"},
		{"6:0000,0010,1020,2030,3040,4050", "6:0000"},
		{"6:0000,0010,1020,2030,3040,4050,5050", "6:0000,0010,1020,2030,3040,4050,5050"},
		{"2:0011,1100", "2:0011,1100"},
		{fullTwo, fullTwo},
	}
	for _, c := range cases {
		got, code := impl.KeepLasting(setOf(c[0]))
		wantSet(t, "KeepLasting of "+c[0], got, code, c[1])
	}
}

// ownTrimmed returns all tiles of a set that are in one of its parts that have neighbours for all
// sides.
func ownTrimmed(set impl.Set) impl.Set {
	used := 0
	for part := range 1 << len(set.Tiles) {
		if part&^used != 0 && hasNeighbours(set, part) {
			used |= part
		}
	}
	left := impl.Set{Colours: set.Colours}
	for i, a := range set.Tiles {
		if used>>i&1 == 1 {
			left.Tiles = append(left.Tiles, a)
		}
	}
	return left
}

// hasNeighbours reports whether each tile of a part of a set, told as bits, has neighbours in it.
func hasNeighbours(set impl.Set, part int) bool {
	var at [4][impl.MaxColours]bool
	for i, a := range set.Tiles {
		for side, colour := range a {
			at[side][colour] = at[side][colour] || part>>i&1 == 1
		}
	}
	for i, a := range set.Tiles {
		for side, colour := range a {
			if part>>i&1 == 1 && !at[(side+2)%4][colour] {
				return false
			}
		}
	}
	return true
}

func TestTrimmedSets(t *testing.T) {
	taken, left := 0, 0
	for _, text := range moreTexts() {
		set := setOf(text)
		want := textOf(ownTrimmed(set))
		got, code := impl.TrimSet(set)
		wantSet(t, "TrimSet of "+text, got, code, want)
		if !hasNeighbours(got, 1<<len(got.Tiles)-1) {
			t.Errorf("TrimSet of %s leaves a tile without a neighbour", text)
		}
		again, code := impl.TrimSet(got)
		wantSet(t, "TrimSet again of "+text, again, code, want)
		left += len(got.Tiles)
		taken += len(set.Tiles) - len(got.Tiles)
	}
	if taken < 50 || left < 50 {
		t.Errorf("only %d tiles taken, and %d left", taken, left)
	}
}

// ways of tiles are taken out one by one, from the end that is loose, in all directions.
func TestTrimmedWays(t *testing.T) {
	cases := [][2]string{
		{"6:", "6:"},
		{"1:0000", "1:0000"}, // a tile may be its own neighbour
		{"2:0001", "2:"},
		{"2:0010", "2:"},
		{"2:0100", "2:"},
		{"2:1000", "2:"},
		{"2:0011,1100", "2:0011,1100"},
		{"6:0010,1020,2030,3040,4050", "6:"},
		{"6:0010,1020,2030,3040,4050,5050", "6:5050"},
		{"6:0000,0010,1020,2030,3040,4050", "6:0000"},
		{"6:0000,0010,1020,2030,3040,4050,5050", "6:0000,0010,1020,2030,3040,4050,5050"},
		{"6:1000,2010,3020,4030,5040", "6:"},
		{"6:1000,2010,3020,4030,5040,5050", "6:5050"},
		{"6:0000,1000,2010,3020,4030,5040", "6:0000"},
		{"6:0001,0102,0203,0304,0405", "6:"},
		{"6:0001,0102,0203,0304,0405,0505", "6:0505"},
		{"6:0000,0001,0102,0203,0304,0405", "6:0000"},
		{"6:0100,0201,0302,0403,0504", "6:"},
		{"6:0100,0201,0302,0403,0504,0505", "6:0505"},
		{"6:0000,0100,0201,0302,0403,0504", "6:0000"},
		{"4:0001,0120,3333", "4:3333"}, // the tile without a neighbour to its east was below the first one
	}
	for _, c := range cases {
		set := setOf(c[0])
		if textOf(ownTrimmed(set)) != c[1] {
			t.Errorf("%s is trimmed to %s", c[0], textOf(ownTrimmed(set)))
		}
		got, code := impl.TrimSet(set)
		wantSet(t, "TrimSet of "+c[0], got, code, c[1])
	}
}

// wantPower checks all powers of a set, and returns whether the last one is a set, too.
func wantPower(t *testing.T, text string) bool {
	t.Helper()
	power, code := ownKept(setOf(text)), int64(impl.ErrNone)
	for k := int64(1); k <= 4; k++ {
		if k > 1 && code == impl.ErrNone {
			stack := stackedOn(power, setOf(text))
			power = ownKept(stack.set)
			if !stack.isSmall() {
				code = impl.ErrLimit
			}
		}
		got, gotCode := impl.PowerOf(setOf(text), k)
		what := fmt.Sprintf("PowerOf of %s, %d", text, k)
		if code == impl.ErrNone {
			wantSet(t, what, got, gotCode, textOf(power))
		} else {
			wantCode(t, what, got, gotCode, code)
		}
	}
	return code == impl.ErrNone
}

func TestPowers(t *testing.T) {
	small, great := 0, 0
	for _, text := range moreTexts() {
		if wantPower(t, text) {
			small++
		} else {
			great++
		}
	}
	if small < 20 || great < 20 {
		t.Errorf("only %d sets with all powers, and %d without", small, great)
	}
}

func TestKnownPowers(t *testing.T) {
	cases := []struct {
		text string
		k    int64
		want string
		code int64
	}{
		{"1:0000", 4, "1:0000", impl.ErrNone},
		{"6:", 4, "6:", impl.ErrNone},
		{"2:0011,1100", 1, "2:0011,1100", impl.ErrNone},
		{"2:0011,1100", 2, "2:0010,1101", impl.ErrNone},
		{"2:0011,1100", 3, "2:0011,1100", impl.ErrNone},
		{"2:0011,1100", 4, "2:0010,1101", impl.ErrNone},
		{"2:0001", 1, "2:0001", impl.ErrNone}, // nothing stands below it
		{"2:0001", 2, "2:", impl.ErrNone},
		{"3:0102,1200", 1, "3:0102", impl.ErrNone}, // the tile that is not lasting
		{"3:0102,1200", 2, "3:", impl.ErrNone},     // is below the other one
		{"2:0000,1010", 2, "4:0000,1010,2020,3030", impl.ErrNone},
		{"2:0000,1010", 3, "", impl.ErrLimit}, // eight pairs of colours
		{"1:0000", 5, "", impl.ErrRange},
		{"1:0000", 0, "", impl.ErrRange},
		{"2:0000,1010", 5, "", impl.ErrRange},
	}
	for _, c := range cases {
		got, code := impl.PowerOf(setOf(c.text), c.k)
		what := fmt.Sprintf("PowerOf of %s, %d", c.text, c.k)
		if c.code == impl.ErrNone {
			wantSet(t, what, got, code, c.want)
		} else {
			wantCode(t, what, got, code, c.code)
		}
	}
}

// a stack counts before its lasting tiles are kept: by its pairs of colours, at most 6, and by its
// tiles, at most 16.
func TestGreatPowers(t *testing.T) {
	cases := []struct {
		text           string
		colours        int64
		tiles, lasting int
		code           int64
	}{
		{"6:0000,0010,0020,0030,0040,5151", 6, 6, 2, impl.ErrNone},
		{"6:0000,0010,0020,0030,0040,5110,5151", 7, 7, 2, impl.ErrLimit},
		{"6:0000,0010,0011,0012,0013,0014,0015,0020,0200,0301", 6, 16, 2, impl.ErrNone},
		{"6:0000,0010,0011,0012,0013,0014,0015,0020,0110,0200,0301", 6, 17, 2, impl.ErrLimit},
	}
	for _, c := range cases {
		set := setOf(c.text)
		stack := stackedOn(ownKept(set), set).set
		left := ownKept(stack)
		if stack.Colours != c.colours || len(stack.Tiles) != c.tiles || len(left.Tiles) != c.lasting {
			t.Errorf("%s: %d colours, %d tiles, %d lasting ones", c.text, stack.Colours, len(stack.Tiles), len(left.Tiles))
		}
		power, code := impl.PowerOf(set, 2)
		if code != c.code || code == impl.ErrNone && len(power.Tiles) != c.lasting {
			t.Errorf("PowerOf of %s, 2 = %v, %d", c.text, power, code)
		}
		wantPower(t, c.text)
	}
}

// swapped returns a set transposed.
func swapped(set impl.Set) impl.Set {
	var tiles []impl.Tile
	for _, a := range set.Tiles {
		tiles = append(tiles, impl.Tile{a[1], a[0], a[3], a[2]})
	}
	return impl.Set{Colours: set.Colours, Tiles: inOrder(tiles)}
}

// hasNoWide reports whether no fillings of h rows are wide. All columns of h tiles are made, and
// what has more columns than there are has one of them twice, and so goes on for ever.
func hasNoWide(set impl.Set, h int) bool {
	turned := swapped(set)
	columns := allRows(turned, h)
	reached := map[string]bool{}
	for _, column := range columns {
		reached[fmt.Sprint(wordAt(turned, column, 1))] = true
	}
	for range len(columns) + 1 {
		next := map[string]bool{}
		for _, column := range columns {
			if reached[fmt.Sprint(wordAt(turned, column, 1))] {
				next[fmt.Sprint(wordAt(turned, column, 3))] = true
			}
		}
		if len(next) == len(reached) && sameKeys(next, reached) {
			break
		}
		reached = next
	}
	return len(reached) == 0
}

func sameKeys(a, b map[string]bool) bool {
	for key := range a {
		if !b[key] {
			return false
		}
	}
	return true
}

// ownHeight returns what FailingHeight of a set has to, by stacks of any size.
func ownHeight(set impl.Set, most int) (int64, int64) {
	stack := ownKept(set)
	for h := 1; h <= most; h++ {
		if h > 1 {
			next := stackedOn(stack, set)
			if next.stacked > impl.MaxStacked {
				return 0, impl.ErrLimit
			}
			stack = ownKept(next.set)
		}
		if len(stack.Tiles) == 0 {
			return int64(h), impl.ErrNone
		}
	}
	return 0, impl.ErrNotFound
}

// wantHeight checks the least height that fails, and the least width of the set transposed.
func wantHeight(t *testing.T, set impl.Set, most int64, want, wantedCode int64) {
	t.Helper()
	what := fmt.Sprintf("FailingHeight of %s, %d", textOf(set), most)
	got, code := impl.FailingHeight(set, most)
	if got != want || code != wantedCode {
		t.Errorf("%s = %d, %d, want %d, %d", what, got, code, want, wantedCode)
	}
	got, code = impl.FailingWidth(swapped(set), most)
	if got != want || code != wantedCode {
		t.Errorf("%s, of the set transposed, = %d, %d, want %d, %d", strings.Replace(what, "Height", "Width", 1), got, code, want, wantedCode)
	}
}

// heights and widths are compared with those of stacks that are made one on top of the other.
func TestFailingHeights(t *testing.T) {
	found := map[int64]int{}
	texts := moreTexts()
	d := draw(8)
	for range 150 {
		texts = append(texts, d.drawnText(3+d.below(4), 6+d.below(11)))
	}
	for _, text := range texts {
		set := setOf(text)
		for most := range impl.MaxHeight {
			want, code := ownHeight(set, most+1)
			wantHeight(t, set, int64(most+1), want, code)
			found[want*10+code]++
		}
	}
	for _, kind := range []int64{10, 20, 30, impl.ErrLimit, impl.ErrNotFound} {
		if found[kind] < 5 {
			t.Errorf("found %v", found)
		}
	}
}

// the guarantee: heights that fail have no filling that is wide, and lesser ones have.
func TestHeightsWithoutWideFillings(t *testing.T) {
	found := [6]int{}
	d := draw(9)
	texts := []string{"6:", "1:0000", "2:0011,1100", "2:0001", "2:0010"}
	for range 600 {
		texts = append(texts, d.drawnText(2+d.below(3), 2+d.below(5)))
	}
	for _, text := range texts {
		set := setOf(text)
		least := int64(1)
		for least <= 4 && !hasNoWide(set, int(least)) {
			least++
		}
		if least > 4 {
			wantHeight(t, set, 4, 0, impl.ErrNotFound)
		} else {
			wantHeight(t, set, 4, least, impl.ErrNone)
		}
		found[least]++
	}
	if found[1] < 20 || found[2] < 20 || found[3] < 5 || found[5] < 20 {
		t.Errorf("found %v", found)
	}
}

// sets that were found by search, with the least height that fails.
func TestKnownHeights(t *testing.T) {
	cases := []struct {
		text  string
		least int64
	}{
		{"1:", 1},
		{"6:", 1},
		{"6:2000,5440", 1},
		{"2:0001", 2},
		{"5:1030,2202,3140,3143,4023,4131,4244", 2},
		{"4:0201,1021,1022,1103,1220,1233,1300,2132,2213,2220,3101,3102,3113,3201,3301,3302", 2},
		{"6:0402,0445,1242,1342,1533,1543,2125,2345,3031,3452,3500,5024,5421,5500", 3},
		{"5:1110,1144,1323,2144,2221,2224,3034,3043,3143,4320", 4},
		{"4:0111,0203,0221,1203,1213,1231,2001,2022,2133,2311,3003,3212,3213,3320", 5},
		{"4:0100,0311,0313,1110,1203,1221,1230,2023,2031,2103,2301,2312,3111,3113,3210,3323", 5},
		{"5:0224,0241,0332,0420,0430,0442,1142,2031,2133,3001,3130,3133,3243,3322,3431", 6},
		{"4:0130,0200,0201,0220,0230,0232,1013,1133,1213,1330,2010,2221,2333,3133,3212,3302", 6},
	}
	for _, c := range cases {
		for most := range int64(impl.MaxHeight) {
			if most+1 < c.least {
				wantHeight(t, setOf(c.text), most+1, 0, impl.ErrNotFound)
			} else {
				wantHeight(t, setOf(c.text), most+1, c.least, impl.ErrNone)
			}
		}
	}
}

// 3000 stacked pairs may be made, and not one more; those of heights that are not asked do not count.
func TestGreatHeights(t *testing.T) {
	cases := []struct {
		text string
		// made has the numbers of stacked pairs, for each height from 2 on.
		made []int
	}{
		{"3:0010,0022,1000,1012,1222,2000,2210,2222", []int{32, 112, 350, 1031, 3000}},
		{"3:0101,0112,0211,0212,1021,1022,1201,2002,2102,2121,2202,2221", []int{54, 212, 770, 3000, 11576}},
		{"3:0012,0021,0120,0122,0201,1000,1010,1012,1021,1112,1212,1220,2121", []int{55, 227, 844, 3001}},
		{"3:0021,0110,0111,0200,1000,1102,1110,1111,1120,1121,2001,2011,2101,2210,2211", []int{91, 528, 3001}},
		{"3:0000,0002,0010,0011,0102,0110,1000,1010,1020,1102,1110,1122,1200,1211,2100,2210", []int{94, 549, 2999, 16009}},
		{"2:0000,0011,0100,0110,1011,1100,1110", []int{23, 79, 263, 895, 2999}},
		{fullTwo, []int{128, 512, 2048, 8192}},
	}
	for _, c := range cases {
		set := setOf(c.text)
		stack := ownKept(set)
		code := int64(impl.ErrNotFound)
		wantHeight(t, set, 1, 0, code)
		for i, made := range c.made {
			next := stackedOn(stack, set)
			if next.stacked != made {
				t.Errorf("%s, height %d: %d stacked pairs", c.text, i+2, next.stacked)
			}
			if made > impl.MaxStacked {
				code = impl.ErrLimit
			}
			wantHeight(t, set, int64(i+2), 0, code)
			stack = ownKept(next.set)
		}
		if code == impl.ErrLimit {
			wantHeight(t, set, impl.MaxHeight, 0, code)
		}
	}
}

func TestErrorsOfHeights(t *testing.T) {
	numbers := append(extremes, -1, 0, 1, 3, 4, 5, 6, 7)
	for _, k := range numbers {
		for _, text := range []string{"6:", "1:0000", "2:0001", fullTwo} {
			if k < 1 || k > 4 {
				power, code := impl.PowerOf(setOf(text), k)
				wantCode(t, fmt.Sprintf("PowerOf of %s, %d", text, k), power, code, impl.ErrRange)
			}
			if k < 1 || k > impl.MaxHeight {
				wantHeight(t, setOf(text), k, 0, impl.ErrRange)
			}
		}
		for _, no := range noSets() {
			what := fmt.Sprintf(" of %v, %d", no, k)
			power, code := impl.PowerOf(no, k)
			wantCode(t, "PowerOf"+what, power, code, impl.ErrInvalid)
			height, code := impl.FailingHeight(no, k)
			wantCode(t, "FailingHeight"+what, height, code, impl.ErrInvalid)
			width, code := impl.FailingWidth(no, k)
			wantCode(t, "FailingWidth"+what, width, code, impl.ErrInvalid)
		}
	}
	for _, no := range noSets() {
		lasting, code := impl.KeepLasting(no)
		wantCode(t, fmt.Sprintf("KeepLasting of %v", no), lasting, code, impl.ErrInvalid)
		trimmed, code := impl.TrimSet(no)
		wantCode(t, fmt.Sprintf("TrimSet of %v", no), trimmed, code, impl.ErrInvalid)
	}
}

// heightCalls are the calls that return tiles, of two sets each, with tiles to keep and to take.
func heightCalls() map[string]func(t, u impl.Set) []impl.Tile {
	of := func(s impl.Set, _ int64) []impl.Tile { return s.Tiles }
	return map[string]func(t, u impl.Set) []impl.Tile{
		"StackSets":        func(t, u impl.Set) []impl.Tile { return of(impl.StackSets(t, u)) },
		"KeepLasting":      func(t, u impl.Set) []impl.Tile { return of(impl.KeepLasting(t)) },
		"KeepLasting some": func(t, u impl.Set) []impl.Tile { return of(impl.KeepLasting(u)) },
		"TrimSet":          func(t, u impl.Set) []impl.Tile { return of(impl.TrimSet(t)) },
		"TrimSet some":     func(t, u impl.Set) []impl.Tile { return of(impl.TrimSet(u)) },
		"PowerOf 1":        func(t, u impl.Set) []impl.Tile { return of(impl.PowerOf(t, 1)) },
		"PowerOf 1 some":   func(t, u impl.Set) []impl.Tile { return of(impl.PowerOf(u, 1)) },
		"PowerOf 2":        func(t, u impl.Set) []impl.Tile { return of(impl.PowerOf(t, 2)) },
	}
}

func TestHeightsChangeNothing(t *testing.T) {
	const first, second = "2:0011,1100", "3:0000,1111,1220,2212"
	wantArgumentsKept(t, heightCalls(), first, second)
	set := marked(second)
	impl.FailingHeight(set, 4)
	impl.FailingWidth(set, 4)
	if !kept(set, second) {
		t.Errorf("a set is changed")
	}
}
