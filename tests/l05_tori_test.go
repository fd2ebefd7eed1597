package tests

import (
	"fmt"
	"runtime"
	"slices"
	"testing"
	"time"

	"loop.example/g01354/impl"
)

// meets reports whether tiles meet with the same colours at each place, also from the last tile of a
// row to the first one, and, if down is true, from the last row to the first one.
func meets(set impl.Set, rows [][]int64, down bool) bool {
	h, w := len(rows), len(rows[0])
	for y := range h {
		for x := range w {
			a := set.Tiles[rows[y][x]]
			if a[2] != set.Tiles[rows[y][(x+1)%w]][0] {
				return false
			}
			if (down || y+1 < h) && a[3] != set.Tiles[rows[(y+1)%h][x]][1] {
				return false
			}
		}
	}
	return true
}

// allTori returns all tori of h rows and w columns, in order, place by place. It reports whether
// there are at most so many.
func allTori(set impl.Set, h, w, most int) ([][][]int64, bool) {
	var tori [][][]int64
	var fill func(list []int64)
	fill = func(list []int64) {
		k := len(list)
		if len(tori) > most {
			return
		}
		if k == h*w {
			tori = append(tori, slices.Collect(slices.Chunk(slices.Clone(list), w)))
			return
		}
		for i, a := range set.Tiles {
			longer := append(list, int64(i))
			tile := func(at int) impl.Tile { return set.Tiles[longer[at]] }
			ok := k%w == 0 || tile(k - 1)[2] == a[0]
			ok = ok && (k < w || tile(k - w)[3] == a[1])
			ok = ok && (k%w < w-1 || a[2] == tile(k - k%w)[0])
			if ok && (k < h*w-w || a[3] == tile(k % w)[1]) {
				fill(longer)
			}
		}
	}
	fill(nil)
	return tori, len(tori) <= most
}

// toriSizes are the sizes of tori, least ones first.
var toriSizes = [][2]int{{1, 1}, {1, 2}, {2, 1}, {1, 3}, {3, 1}, {2, 2}, {2, 3}, {3, 2}, {3, 3}}

func TestLimitOfTori(t *testing.T) {
	if impl.MaxTorus != 3 {
		t.Errorf("MaxTorus = %d", impl.MaxTorus)
	}
}

// wantAround checks whether rows are a cylinder, and a torus.
func wantAround(t *testing.T, set impl.Set, rows [][]int64, cylinder, torus bool) {
	t.Helper()
	got, code := impl.IsCylinder(set, rows)
	if got != cylinder || code != impl.ErrNone {
		t.Errorf("IsCylinder of %s, %v = %v, %d", textOf(set), rows, got, code)
	}
	got, code = impl.IsTorus(set, rows)
	if got != torus || code != impl.ErrNone {
		t.Errorf("IsTorus of %s, %v = %v, %d", textOf(set), rows, got, code)
	}
}

// all rows of a few tiles are tried.
func TestAround(t *testing.T) {
	cylinders, tori := 0, 0
	for _, text := range []string{"1:0000", "2:0001", "2:0010", "2:0011,1100", "3:0120,1201,2012", "2:0000,0011,0101,1110", "2:0000,0101,1010,1111", "3:0102,1200"} {
		set := setOf(text)
		for _, size := range toriSizes[:8] {
			for number := range power(len(set.Tiles), size[0]*size[1]) {
				rows := rowsFrom(number, len(set.Tiles), size[0], size[1])
				cylinder, torus := meets(set, rows, false), meets(set, rows, true)
				wantAround(t, set, rows, cylinder, torus)
				if cylinder {
					cylinders++
				}
				if torus {
					tori++
				}
			}
		}
	}
	if tori < 100 || cylinders < tori+25 {
		t.Errorf("%d cylinders, %d tori", cylinders, tori)
	}
}

func TestAroundOfAllSizes(t *testing.T) {
	chess := setOf("2:0011,1100")
	for h := range impl.MaxSide + 2 {
		for w := range impl.MaxSide + 2 {
			rows := chessRows(h, w)
			if h < 1 || w < 1 || h > impl.MaxSide || w > impl.MaxSide {
				yes, code := impl.IsTorus(chess, rows)
				wantCode(t, fmt.Sprintf("IsTorus of %v", rows), yes, code, impl.ErrRange)
				yes, code = impl.IsCylinder(chess, rows)
				wantCode(t, fmt.Sprintf("IsCylinder of %v", rows), yes, code, impl.ErrRange)
				continue
			}
			wantAround(t, chess, rows, w%2 == 0, w%2 == 0 && h%2 == 0)
		}
	}
}

// one row, or column, that does not go around is enough.
func TestOneRowNotAround(t *testing.T) {
	const side = impl.MaxSide
	zeros := slices.Repeat([][]int64{repeated(0, side)}, side)
	for k := range side {
		wantAround(t, setOf("2:0000,0001"), zeros, true, true)
		wantAround(t, setOf("2:0000,0010"), fixed(zeros, k, side-1, 1), false, false)
		wantAround(t, setOf("2:0000,1000"), fixed(zeros, k, 0, 1), false, false)
		wantAround(t, setOf("2:0000,0001"), fixed(zeros, side-1, k, 1), true, false)
		wantAround(t, setOf("2:0000,0100"), fixed(zeros, 0, k, 1), true, false)
		// rows that go around, but are no filling
		wantAround(t, setOf("2:0000,0101"), fixed(zeros, 3, k, 1), false, false)
	}
}

// wantTori checks all that is told of the tori of a size.
func wantTori(t *testing.T, set impl.Set, h, w int, tori [][][]int64) {
	t.Helper()
	what := fmt.Sprintf("of %s, %d, %d", textOf(set), h, w)
	wantCount(t, "CountTori "+what, int64(len(tori)))(impl.CountTori(set, int64(h), int64(w)))
	first, code := impl.FirstTorus(set, int64(h), int64(w))
	if len(tori) == 0 {
		wantCode(t, "FirstTorus "+what, first, code, impl.ErrNotFound)
	} else {
		wantLists(t, "FirstTorus "+what, first, code, tori[0])
		wantAround(t, set, first, true, true)
	}
	forms := map[string]bool{}
	for _, torus := range tori {
		forms[fmt.Sprint(ownLeast(torus))] = true
	}
	count, code := impl.CountForms(set, int64(h), int64(w))
	if len(tori) > 4000 {
		wantCode(t, "CountForms "+what, count, code, impl.ErrLimit)
	} else {
		wantCount(t, "CountForms "+what, int64(len(forms)))(count, code)
	}
}

// all tori of sets are made one by one.
func TestTori(t *testing.T) {
	none, some := 0, 0
	for _, text := range moreTexts() {
		set := setOf(text)
		var least [][]int64
		table := slices.Repeat([][]int64{nil}, 3)
		for y := range table {
			table[y] = repeated(0, 3)
		}
		all := true
		for _, size := range toriSizes {
			tori, ok := allTori(set, size[0], size[1], mostTried)
			if all = all && ok; !ok {
				continue
			}
			wantTori(t, set, size[0], size[1], tori)
			table[size[0]-1][size[1]-1] = int64(len(tori))
			if len(tori) > 0 && least == nil {
				least = tori[0]
			}
			if len(tori) > 0 {
				some++
			} else {
				none++
			}
		}
		got, code := impl.LeastTorus(set)
		if least != nil {
			wantLists(t, "LeastTorus of "+text, got, code, least)
		} else {
			wantCode(t, "LeastTorus of "+text, got, code, impl.ErrNotFound)
		}
		if got, code := impl.TorusTable(set); all {
			wantLists(t, "TorusTable of "+text, got, code, table)
		}
	}
	if none < 100 || some < 100 {
		t.Errorf("sizes without tori: %d, with tori: %d", none, some)
	}
}

// all fillings of sets are made one by one.
func TestCylinders(t *testing.T) {
	none, some := 0, 0
	for _, text := range moreTexts() {
		set := setOf(text)
		for h := 1; h <= 5; h++ {
			for w := 1; w <= 3; w++ {
				fillings, ok := allFillings(set, h, w)
				if !ok {
					continue
				}
				count := int64(0)
				for _, rows := range fillings {
					if meets(set, rows, false) {
						count++
					}
				}
				wantCount(t, fmt.Sprintf("CountCylinders of %s, %d, %d", text, h, w), count)(impl.CountCylinders(set, int64(h), int64(w)))
				if count > 0 {
					some++
				} else {
					none++
				}
			}
		}
	}
	if none < 100 || some < 100 {
		t.Errorf("sizes without cylinders: %d, with cylinders: %d", none, some)
	}
}

// upright has all tiles of four colours with the colour 0 at the west and the east.
func upright() impl.Set {
	return setWith(4, loops(0, 0, 4), loops(0, 1, 4), loops(0, 2, 4), loops(0, 3, 4))
}

// known numbers, up to the greatest ones: the colours that can be chosen freely are counted.
func TestKnownTori(t *testing.T) {
	for h := 1; h <= 5; h++ {
		for w := 1; w <= 3; w++ {
			cases := []struct {
				set             impl.Set
				cylinders, tori int
			}{
				{setOf("1:"), 0, 0},
				{setOf("6:"), 0, 0},
				{setOf("1:0000"), 1, 1},
				{setOf("2:0001"), 1 / h, 0}, // nothing stands below the wall, and its rows go around
				{setOf("2:0000,0101,1010,1111"), 1 << (h + w), 1 << (h + w)},
				{setOf(fullTwo), 1 << (2*h*w + w), 1 << (2 * h * w)},
				{upright(), power(4, h*w+w), power(4, h*w)},
			}
			for _, c := range cases {
				what := fmt.Sprintf("of %s, %d, %d", textOf(c.set), h, w)
				wantCount(t, "CountCylinders "+what, int64(c.cylinders))(impl.CountCylinders(c.set, int64(h), int64(w)))
				if h > 3 {
					continue
				}
				wantCount(t, "CountTori "+what, int64(c.tori))(impl.CountTori(c.set, int64(h), int64(w)))
				first, code := impl.FirstTorus(c.set, int64(h), int64(w))
				if c.tori > 0 {
					wantLists(t, "FirstTorus "+what, first, code, slices.Repeat([][]int64{repeated(0, w)}, h))
				} else {
					wantCode(t, "FirstTorus "+what, first, code, impl.ErrNotFound)
				}
			}
		}
	}
}

// allWords returns all words of n colours.
func allWords(c, n int) [][]int64 {
	var words [][]int64
	for number := range power(c, n) {
		words = append(words, rowsFrom(number, c, 1, n)[0])
	}
	return words
}

// great numbers are those of the fillings of chapter 3 with the same words at opposite sides.
func TestGreatNumbersOfTori(t *testing.T) {
	for _, text := range []string{fullTwo, "2:0000,0011,0100,0110,1011,1100,1110", "3:0000,0021,0101,0110,0200,1010,1022,1110,1120,2000,2020,2021,2120,2121,2122,2220"} {
		set := setOf(text)
		for h := 1; h <= 5; h++ {
			for w := 1; w <= 3; w++ {
				tori, cylinders := int64(0), int64(0)
				for _, side := range allWords(int(set.Colours), h) {
					count, _ := impl.CountFillings(set, freePlan(h, w), [][]int64{side, {}, side, {}})
					cylinders += count
					for _, end := range allWords(int(set.Colours), w) {
						if count > 0 && h <= 3 {
							closed, _ := impl.CountFillings(set, freePlan(h, w), [][]int64{side, end, side, end})
							tori += closed
						}
					}
				}
				what := fmt.Sprintf("of %s, %d, %d", text, h, w)
				wantCount(t, "CountCylinders "+what, cylinders)(impl.CountCylinders(set, int64(h), int64(w)))
				if h <= 3 {
					wantCount(t, "CountTori "+what, tori)(impl.CountTori(set, int64(h), int64(w)))
				}
			}
		}
	}
}

// ladder returns tiles that have tori of h rows and w columns, and of sizes that are multiples of
// these, and no others. Their colours begin with from.
func ladder(from, h, w int) []string {
	var words []string
	for y := range h {
		for x := range w {
			words = append(words, fmt.Sprintf("%d%d%d%d", from+x, from+y, from+(x+1)%w, from+(y+1)%h))
		}
	}
	return words
}

func TestLeastTori(t *testing.T) {
	cases := []struct {
		parts [][2]int
		least [2]int
	}{
		{[][2]int{{3, 3}, {1, 1}}, [2]int{1, 1}},
		{[][2]int{{2, 1}, {1, 2}}, [2]int{1, 2}},
		{[][2]int{{1, 3}, {2, 1}}, [2]int{2, 1}},
		{[][2]int{{3, 1}, {1, 3}}, [2]int{1, 3}},
		{[][2]int{{2, 2}, {3, 1}}, [2]int{3, 1}},
		{[][2]int{{2, 3}, {2, 2}}, [2]int{2, 2}},
		{[][2]int{{3, 2}, {2, 3}}, [2]int{2, 3}},
		{[][2]int{{3, 2}}, [2]int{3, 2}},
		{[][2]int{{3, 3}}, [2]int{3, 3}},
		{[][2]int{{4, 1}}, [2]int{}},
		{[][2]int{{1, 4}}, [2]int{}},
		{[][2]int{{2, 4}}, [2]int{}},
		{[][2]int{{4, 4}}, [2]int{}},
	}
	for _, c := range cases {
		var words []string
		colours := 0
		for _, part := range c.parts {
			words = append(words, ladder(colours, part[0], part[1])...)
			colours += max(part[0], part[1])
		}
		set := setWith(colours, words)
		what := fmt.Sprintf("LeastTorus of %v, %s", c.parts, textOf(set))
		least, code := impl.LeastTorus(set)
		if c.least == [2]int{} {
			wantCode(t, what, least, code, impl.ErrNotFound)
			continue
		}
		tori, _ := allTori(set, c.least[0], c.least[1], mostTried)
		wantLists(t, what, least, code, tori[0])
	}
}

// transposedTable returns a table with rows and columns exchanged.
func transposedTable(table [][]int64) [][]int64 {
	own := make([][]int64, len(table))
	for _, row := range table {
		for x, count := range row {
			own[x] = append(own[x], count)
		}
	}
	return own
}

// the guarantee: first tori are tori, tables have the counts, and tori of flipped and mirrored sets
// are as many. Promise 17: tori are fillings, and there are no more of them than cylinders.
func TestToriOfMovedSets(t *testing.T) {
	d := draw(31)
	found := 0
	texts := sampleTexts()
	for range 60 {
		texts = append(texts, d.drawnText(d.below(5)+2, d.below(9)+8))
	}
	for _, text := range texts {
		set := setOf(text)
		table, code := impl.TorusTable(set)
		if code != impl.ErrNone {
			t.Fatalf("TorusTable of %s: code %d", text, code)
		}
		for _, size := range toriSizes {
			h, w := int64(size[0]), int64(size[1])
			what := fmt.Sprintf("of %s, %d, %d", text, h, w)
			count := table[h-1][w-1]
			wantCount(t, "CountTori "+what, count)(impl.CountTori(set, h, w))
			if cylinders, code := impl.CountCylinders(set, h, w); code != impl.ErrNone || cylinders < count {
				t.Errorf("CountCylinders %s = %d, %d, and %d tori", what, cylinders, code, count)
			}
			first, code := impl.FirstTorus(set, h, w)
			if count == 0 {
				wantCode(t, "FirstTorus "+what, first, code, impl.ErrNotFound)
				continue
			}
			found++
			yes, filled := impl.IsFilling(set, first)
			if code != impl.ErrNone || filled != impl.ErrNone || !yes || !meets(set, first, true) {
				t.Errorf("FirstTorus %s = %v, %d", what, first, code)
			}
		}
		flipped, _ := impl.FlippedSet(set)
		mirrored, _ := impl.MirroredSet(set)
		turned, _ := impl.TurnedSet(set)
		transposed, _ := impl.TransposedSet(set)
		for i, moved := range []impl.Set{flipped, mirrored, turned, transposed} {
			got, code := impl.TorusTable(moved)
			want := table
			if i > 1 {
				want = transposedTable(table)
			}
			wantLists(t, fmt.Sprintf("TorusTable of %s, as for %s", textOf(moved), text), got, code, want)
		}
	}
	if found < 200 {
		t.Errorf("only %d sizes with tori", found)
	}
}

// sizeCalls are the functions of a set and a size, with the greatest number of rows.
func sizeCalls() []struct {
	name string
	most int64
	call func(set impl.Set, h, w int64) (any, int64)
} {
	return []struct {
		name string
		most int64
		call func(set impl.Set, h, w int64) (any, int64)
	}{
		{"FirstTorus", 3, func(set impl.Set, h, w int64) (any, int64) {
			rows, code := impl.FirstTorus(set, h, w)
			return rows, code
		}},
		{"CountTori", 3, func(set impl.Set, h, w int64) (any, int64) {
			count, code := impl.CountTori(set, h, w)
			return count, code
		}},
		{"CountCylinders", 5, func(set impl.Set, h, w int64) (any, int64) {
			count, code := impl.CountCylinders(set, h, w)
			return count, code
		}},
		{"CountForms", 3, func(set impl.Set, h, w int64) (any, int64) {
			count, code := impl.CountForms(set, h, w)
			return count, code
		}},
	}
}

func TestErrorsOfSizes(t *testing.T) {
	numbers := append([]int64{-1, 0, 1, 2, 3, 4, 5, 6}, extremes...)
	for _, f := range sizeCalls() {
		for _, h := range numbers {
			for _, w := range numbers {
				what := fmt.Sprintf("%s %d, %d", f.name, h, w)
				for _, no := range noSets() {
					got, code := f.call(no, h, w)
					wantCode(t, fmt.Sprintf("%s of %v", what, no), got, code, impl.ErrInvalid)
				}
				// ahead of the errors of sets without tori, and with too many
				for _, text := range []string{"2:0001", "1:", "1:0000", fullTwo} {
					got, code := f.call(setOf(text), h, w)
					if h < 1 || h > f.most || w < 1 || w > 3 {
						wantCode(t, what+" of "+text, got, code, impl.ErrRange)
					} else if code == impl.ErrRange || code == impl.ErrInvalid {
						t.Errorf("%s of %s: code %d", what, text, code)
					}
				}
			}
		}
	}
	for _, no := range noSets() {
		least, code := impl.LeastTorus(no)
		wantCode(t, fmt.Sprintf("LeastTorus of %v", no), least, code, impl.ErrInvalid)
		table, code := impl.TorusTable(no)
		wantCode(t, fmt.Sprintf("TorusTable of %v", no), table, code, impl.ErrInvalid)
	}
}

func TestToriShareNothing(t *testing.T) {
	const text = "2:0000,0101,1010,1111"
	set := marked(text)
	// all rows are the same round
	first, _ := impl.FirstTorus(set, 3, 3)
	wantApart(t, "FirstTorus", first)
	table, _ := impl.TorusTable(set)
	wantApart(t, "TorusTable", table)
	set.Tiles = withSpare(setOf("2:0001,0100").Tiles, mark)
	least, _ := impl.LeastTorus(set)
	if len(least) != 2 {
		t.Errorf("LeastTorus = %v", least)
	}
	wantApart(t, "LeastTorus", least)
	if !kept(set, "2:0001,0100") {
		t.Errorf("LeastTorus changes the set")
	}
	set = marked(text)
	for _, f := range sizeCalls() {
		if _, code := f.call(set, 2, 2); code != impl.ErrNone {
			t.Errorf("%s: code %d", f.name, code)
		}
	}
	rows := spread([][]int64{{0, 1}, {2, 3}})
	wantAround(t, set, rows, true, true)
	if !kept(set, text) || !untouched(rows, [][]int64{{0, 1}, {2, 3}}) {
		t.Errorf("an argument is changed")
	}
}

// what sends rows that go around ends with each call, also where only the first torus is asked, and
// where there is none.
func TestNothingIsLeftRunning(t *testing.T) {
	before := runtime.NumGoroutine()
	for _, text := range []string{fullTwo, "2:0001", "1:", "3:0120,1201,2012"} {
		for range 20 {
			for _, f := range sizeCalls() {
				f.call(setOf(text), 3, 3)
			}
			impl.LeastTorus(setOf(text))
			impl.TorusTable(setOf(text))
		}
	}
	wantNothingRunning(t, before)
}

// wantNothingRunning checks that there are no more goroutines than before. One that has done its work
// may take a moment to end.
func wantNothingRunning(t *testing.T, before int) {
	t.Helper()
	for range 200 {
		if runtime.NumGoroutine() <= before {
			return
		}
		time.Sleep(10 * time.Millisecond)
	}
	t.Errorf("%d goroutines, %d before", runtime.NumGoroutine(), before)
}
