package tests

import (
	"fmt"
	"slices"
	"testing"

	"loop.example/g01354/impl"
)

func TestLimitsOfFillings(t *testing.T) {
	if limits := []int64{impl.MaxPlan, impl.MaxFillings, impl.MaxCount}; !slices.Equal(limits, []int64{5, 60, 1000000000000000}) {
		t.Errorf("limits %v", limits)
	}
}

func TestFreePlan(t *testing.T) {
	sizes := append([]int64{-1, 0, 1, 2, 3, 4, 5, 6}, extremes...)
	for _, h := range sizes {
		for _, w := range sizes {
			what := fmt.Sprintf("FreePlan %d, %d", h, w)
			plan, code := impl.FreePlan(h, w)
			if h < 1 || h > impl.MaxPlan || w < 1 || w > impl.MaxPlan {
				wantCode(t, what, plan, code, impl.ErrRange)
				continue
			}
			wantLists(t, what, plan, code, freePlan(int(h), int(w)))
			fillUp(plan[:1])
			if !equalRows(plan[1:], freePlan(int(h), int(w))[1:]) {
				t.Errorf("the rows of %s share memory", what)
			}
		}
	}
}

// stairs returns the set with fillings of at most h rows and w columns: colours ascend in it.
func stairs(c, h, w int) impl.Set {
	var words []string
	for x := range w {
		for y := range h {
			words = append(words, fmt.Sprintf("%d%d%d%d", x, y, x+1, y+1))
		}
	}
	return setWith(c, words)
}

func TestSizes(t *testing.T) {
	for h := range 6 {
		for w := range 4 {
			if h*w > impl.MaxTiles {
				continue
			}
			set := stairs(6, h, w)
			wantCount(t, "GreatestSquare "+textOf(set), int64(min(h, w)))(impl.GreatestSquare(set))
			table, code := impl.SizeTable(set)
			want := make([][]int64, 3)
			for y := range want {
				want[y] = make([]int64, 3)
				for x := range want[y] {
					if y < h && x < w {
						want[y][x] = 1
					}
				}
			}
			wantLists(t, "SizeTable "+textOf(set), table, code, want)
		}
	}
	// rows of n tiles at most, of any number
	for n := range 6 {
		var words []string
		for x := range n {
			words = append(words, fmt.Sprintf("%d0%d0", x, x+1))
		}
		wantCount(t, fmt.Sprintf("GreatestSquare of a path of %d", n), int64(n))(impl.GreatestSquare(setWith(6, words)))
	}
	wantCount(t, "GreatestSquare of chess", impl.MaxPlan)(impl.GreatestSquare(setOf("2:0011,1100")))
}

// the sizes of fillings that are made one by one.
func TestSizesOfSamples(t *testing.T) {
	d := draw(5)
	texts := sampleTexts()
	for range 60 {
		texts = append(texts, d.drawnText(d.below(4)+2, d.below(8)+1))
	}
	for _, text := range texts {
		set := setOf(text)
		filled := func(h, w int) bool {
			fillings, ok := allFillings(set, h, w)
			return !ok || len(fillings) > 0
		}
		want := make([][]int64, 3)
		greatest := 0
		for y := range want {
			want[y] = make([]int64, 3)
			for x := range want[y] {
				if filled(y+1, x+1) {
					want[y][x] = 1
				}
			}
		}
		for greatest < impl.MaxPlan && filled(greatest+1, greatest+1) {
			greatest++
		}
		table, code := impl.SizeTable(set)
		wantLists(t, "SizeTable "+text, table, code, want)
		wantCount(t, "GreatestSquare "+text, int64(greatest))(impl.GreatestSquare(set))
		for n := 1; n <= 4; n++ {
			if fillings, ok := allFillings(set, n, n); ok {
				wantCount(t, fmt.Sprintf("CountSquares %s, %d", text, n), int64(len(fillings)))(impl.CountSquares(set, int64(n)))
			}
		}
	}
}

// known numbers, up to the greatest ones.
func TestGreatCounts(t *testing.T) {
	for h := 1; h <= impl.MaxPlan; h++ {
		for w := 1; w <= impl.MaxPlan; w++ {
			for text, exponent := range map[string]int{
				"1:0000":                0,
				"2:0011,1100":           1,
				"2:0000,0101,1010,1111": h + w,
				"2:0000,0111,1011,1100": h + w,
				fullTwo:                 h*(w+1) + w*(h+1),
			} {
				what := fmt.Sprintf("of %s, %d, %d", text, h, w)
				count, code := impl.CountFillings(setOf(text), freePlan(h, w), open())
				if exponent >= 50 {
					wantCode(t, "CountFillings "+what, count, code, impl.ErrLimit)
					continue
				}
				wantCount(t, "CountFillings "+what, 1<<exponent)(count, code)
				if h == w && h <= 4 {
					wantCount(t, "CountSquares "+what, 1<<exponent)(impl.CountSquares(setOf(text), int64(h)))
				}
			}
		}
	}
}

// thousand has 1000 rows of five tiles, each of which fits below each.
const thousand = "6:0010,0030,1010,1050,2030,3000,3020,3030,3050,4000,4040,5010,5030,5040,5050"

// thousandAndOne has one row of five tiles more.
const thousandAndOne = "6:0020,0050,1000,1020,2000,2020,2030,2040,3000,3030,3050,4030,4040,5000,5030,5050"

func TestGreatestCount(t *testing.T) {
	plan := freePlan(5, 5)
	wantCount(t, "CountFillings of thousand", impl.MaxCount)(impl.CountFillings(setOf(thousand), plan, open()))
	count, code := impl.CountFillings(setOf(thousandAndOne), plan, open())
	wantCode(t, "CountFillings of more", count, code, impl.ErrLimit)
	wantCount(t, "four rows of more", 1001*1001*1001*1001)(impl.CountFillings(setOf(thousandAndOne), freePlan(4, 5), open()))
	// where there are too many to be counted, the other functions answer all the same
	set := setOf(fullTwo)
	first, code := impl.FirstFilling(set, plan, open())
	wantLists(t, "FirstFilling of many", first, code, slices.Repeat([][]int64{repeated(0, 5)}, 5))
	list, code := impl.FillingList(set, plan, open())
	wantCode(t, "FillingList of many", list, code, impl.ErrLimit)
	same, code := impl.SamePlaces(set, fixed(plan, 2, 3, 9), open())
	wantLists(t, "SamePlaces of many", same, code, fixed(plan, 2, 3, 9))
	tiles, code := impl.TilesAt(set, plan, open(), 4, 0)
	wantList(t, "TilesAt of many", tiles, code, []int64{0, 1, 2, 3, 4, 5, 6, 7, 8, 9, 10, 11, 12, 13, 14, 15})
	tiles, code = impl.TilesAt(set, fixed(plan, 2, 3, 9), open(), 2, 4)
	// right of the tile 1001 are those with 0 at the west
	wantList(t, "TilesAt beside one of many", tiles, code, []int64{0, 1, 2, 3, 4, 5, 6, 7})
}

func TestMostFillings(t *testing.T) {
	plan := freePlan(1, 2)
	// of n tiles of one colour at the west and the east, each may stand at the left of each
	sixty := setWith(6, loops(0, 0, 6), loops(0, 1, 1), loops(1, 0, 3), loops(2, 0, 1), loops(3, 0, 1))
	list, code := impl.FillingList(sixty, plan, open())
	fillings, _ := allFillings(sixty, 1, 2)
	if code != impl.ErrNone || len(list) != impl.MaxFillings || !slices.EqualFunc(list, fillings, equalRows) {
		t.Errorf("FillingList of %d = %v, %d", len(fillings), list, code)
	}
	more := setWith(6, loops(0, 0, 6), loops(1, 0, 5))
	wantCount(t, "CountFillings of more", impl.MaxFillings+1)(impl.CountFillings(more, plan, open()))
	list, code = impl.FillingList(more, plan, open())
	wantCode(t, "FillingList of more", list, code, impl.ErrLimit)
	list, code = impl.FillingList(more, plan, [][]int64{{1}, {}, {}, {}})
	if code != impl.ErrNone || len(list) != 25 {
		t.Errorf("FillingList of some = %v, %d", list, code)
	}
}

// the guarantee: sets turned, flipped or with renamed colours have as many fillings of squares.
func TestSquaresOfMovedSets(t *testing.T) {
	d := draw(23)
	texts := sampleTexts()
	for range 20 {
		texts = append(texts, d.drawnText(d.below(5)+2, 16))
	}
	for _, text := range texts {
		set := setOf(text)
		p := make([]int64, set.Colours)
		for colour := range p {
			p[colour] = int64(colour+1) % set.Colours
		}
		turned, _ := impl.TurnedSet(set)
		flipped, _ := impl.FlippedSet(set)
		mirrored, _ := impl.MirroredSet(set)
		transposed, _ := impl.TransposedSet(set)
		renamed, _ := impl.RenameColours(set, p)
		greatest, _ := impl.GreatestSquare(set)
		for _, moved := range []impl.Set{turned, flipped, mirrored, transposed, renamed} {
			what := fmt.Sprintf("%s, as for %s", textOf(moved), text)
			wantCount(t, "GreatestSquare "+what, greatest)(impl.GreatestSquare(moved))
			for n := int64(1); n <= 4; n++ {
				count, code := impl.CountSquares(set, n)
				if code != impl.ErrNone {
					t.Errorf("CountSquares %s, %d: code %d", text, n, code)
				}
				wantCount(t, "CountSquares "+what, count)(impl.CountSquares(moved, n))
			}
		}
		table, _ := impl.SizeTable(set)
		want := make([][]int64, 3)
		for y := range want {
			for x := range want {
				want[y] = append(want[y], table[x][y])
			}
		}
		got, code := impl.SizeTable(transposed)
		wantLists(t, "SizeTable transposed, of "+text, got, code, want)
	}
}

// taskCalls are the functions that have a plan and borders.
func taskCalls() map[string]func(k task) (any, int64) {
	return map[string]func(k task) (any, int64){
		"FirstFilling": func(k task) (any, int64) {
			rows, code := impl.FirstFilling(k.set, k.plan, k.borders)
			return rows, code
		},
		"CountFillings": func(k task) (any, int64) {
			count, code := impl.CountFillings(k.set, k.plan, k.borders)
			return count, code
		},
		"FillingList": func(k task) (any, int64) {
			list, code := impl.FillingList(k.set, k.plan, k.borders)
			return list, code
		},
		"SamePlaces": func(k task) (any, int64) {
			plan, code := impl.SamePlaces(k.set, k.plan, k.borders)
			return plan, code
		},
		"TilesAt": func(k task) (any, int64) {
			tiles, code := impl.TilesAt(k.set, k.plan, k.borders, 0, 0)
			return tiles, code
		},
	}
}

// wantTaskCode checks that a task has the same error in all functions.
func wantTaskCode(t *testing.T, k task, want int64) {
	t.Helper()
	for name, call := range taskCalls() {
		got, code := call(k)
		wantCode(t, fmt.Sprint(name, " ", k), got, code, want)
	}
}

// badPlans are no plans for sets of two tiles.
func badPlans() [][][]int64 {
	plans := [][][]int64{
		nil, {}, {nil}, {{}}, {{}, {}}, {{-1}, nil}, {nil, {-1}}, {{-1, -1}, {-1}}, {{-1}, {-1, -1}},
		{{-1, -1}, {-1, -1}, {-1}}, freePlan(6, 1), freePlan(1, 6), freePlan(6, 6), freePlan(6, 5), freePlan(5, 6),
		{{2}}, {{-2}}, fixed(freePlan(5, 5), 4, 4, 2), fixed(freePlan(5, 5), 4, 4, -2), fixed(freePlan(2, 3), 0, 1, 2),
	}
	for _, i := range extremes {
		plans = append(plans, [][]int64{{i}})
	}
	return plans
}

// badBorders are no borders for two rows of three tiles with two colours.
func badBorders() [][][]int64 {
	none := [][][]int64{nil, {}, {{}, {}, {}}, {{}, {}, {}, {}, {}}, {{0, 0}, {0, 0, 0}, {0, 0}}}
	for side, own := range []int{2, 3, 2, 3} {
		for n := 1; n <= 6; n++ {
			if n != own {
				none = append(none, fixedSide(side, repeated(0, n)))
			}
		}
		for _, colour := range append([]int64{-1, 2}, extremes...) {
			for k := range own {
				word := repeated(0, own)
				word[k] = colour
				none = append(none, fixedSide(side, word))
			}
		}
	}
	return none
}

// fixedSide returns borders that ask for a word at one side.
func fixedSide(side int, word []int64) [][]int64 {
	borders := open()
	borders[side] = word
	return borders
}

func TestTasksErrors(t *testing.T) {
	chess := setOf("2:0011,1100")
	for _, plan := range badPlans() {
		wantTaskCode(t, task{chess, plan, open()}, impl.ErrRange)
		wantTaskCode(t, task{chess, plan, nil}, impl.ErrRange)
	}
	for _, borders := range badBorders() {
		wantTaskCode(t, task{chess, freePlan(2, 3), borders}, impl.ErrRange)
		// ahead of the errors of tasks with no filling, or with too many
		wantTaskCode(t, task{chess, [][]int64{{0, 0, 0}, {0, 0, 0}}, borders}, impl.ErrRange)
		wantTaskCode(t, task{setOf(fullTwo), freePlan(2, 3), borders}, impl.ErrRange)
	}
	for _, no := range noSets() {
		wantTaskCode(t, task{no, freePlan(1, 1), open()}, impl.ErrInvalid)
		wantTaskCode(t, task{no, nil, nil}, impl.ErrInvalid)
		wantTaskCode(t, task{no, [][]int64{{99}}, open()}, impl.ErrInvalid)
	}
	wantTaskCode(t, task{setOf("2:"), [][]int64{{0}}, open()}, impl.ErrRange)
	wantTask(t, task{setOf("2:"), freePlan(5, 5), open()}, nil)
	wantTask(t, task{setOf("6:"), freePlan(5, 5), fixedSide(0, repeated(5, 5))}, nil)
}

func TestTilesAtErrors(t *testing.T) {
	for _, text := range []string{"2:0011,1100", "2:", "2:0001"} {
		set, plan := setOf(text), freePlan(2, 3)
		for _, y := range append([]int64{-1, 0, 1, 2, 3}, extremes...) {
			for _, x := range append([]int64{-1, 0, 1, 2, 3}, extremes...) {
				if y < 0 || y > 1 || x < 0 || x > 2 {
					tiles, code := impl.TilesAt(set, plan, open(), y, x)
					wantCode(t, fmt.Sprintf("TilesAt %d, %d", y, x), tiles, code, impl.ErrRange)
				}
			}
		}
		tiles, code := impl.TilesAt(set, nil, nil, 0, 0)
		wantCode(t, "TilesAt of no plan", tiles, code, impl.ErrRange)
	}
	for _, no := range noSets() {
		tiles, code := impl.TilesAt(no, freePlan(2, 3), open(), -1, 0)
		wantCode(t, "TilesAt for no set", tiles, code, impl.ErrInvalid)
	}
}

func TestSquaresErrors(t *testing.T) {
	for _, n := range append([]int64{-1, 0, 5, 6}, extremes...) {
		for _, text := range []string{"2:0011,1100", "2:", fullSix} {
			count, code := impl.CountSquares(setOf(text), n)
			wantCode(t, fmt.Sprintf("CountSquares %s, %d", text, n), count, code, impl.ErrRange)
		}
	}
	for _, no := range noSets() {
		for _, n := range []int64{0, 1, 4, 5} {
			count, code := impl.CountSquares(no, n)
			wantCode(t, "CountSquares for no set", count, code, impl.ErrInvalid)
		}
		greatest, code := impl.GreatestSquare(no)
		wantCode(t, "GreatestSquare for no set", greatest, code, impl.ErrInvalid)
		table, code := impl.SizeTable(no)
		wantCode(t, "SizeTable for no set", table, code, impl.ErrInvalid)
	}
}

// spread returns a copy of a list of lists with spare capacity in all of them.
func spread(lists [][]int64) [][]int64 {
	var own [][]int64
	for _, list := range lists {
		own = append(own, withSpare(list, 77))
	}
	return withSpare(own, []int64{77})
}

// untouched reports whether lists that spread made are as they were, spare capacity included.
func untouched(own, lists [][]int64) bool {
	for i, list := range own {
		if !slices.Equal(list, lists[i]) || !slices.Equal(list[len(list):cap(list)][:4], repeated(77, 4)) {
			return false
		}
	}
	for _, list := range own[len(own):cap(own)][:4] {
		if !slices.Equal(list, []int64{77}) {
			return false
		}
	}
	return len(own) == len(lists)
}

func TestFillingsShareNothing(t *testing.T) {
	const text = "2:0000,0111,1011,1100"
	plan, borders := fixed(freePlan(2, 3), 1, 1, 2), fixedSide(0, []int64{1, 0})
	k := task{marked(text), spread(plan), spread(borders)}
	for name, call := range taskCalls() {
		got, code := call(k)
		if code != impl.ErrNone {
			t.Errorf("%s %v: code %d", name, k, code)
		}
		switch lists := got.(type) {
		case []int64:
			fillUp([][]int64{lists})
		case [][]int64:
			wantApart(t, name, lists)
		case [][][]int64:
			wantApart(t, name, slices.Concat(lists...))
			wantHeadsApart(t, lists)
		}
		if !kept(k.set, text) || !untouched(k.plan, plan) || !untouched(k.borders, borders) {
			t.Fatalf("%s changes an argument, or shares memory with it", name)
		}
	}
	table, _ := impl.SizeTable(k.set)
	wantApart(t, "SizeTable", table)
	if !kept(k.set, text) {
		t.Errorf("SizeTable changes the set")
	}
}

// wantApart checks that what is written into one of some lists, spare capacity included, is in no
// other one.
func wantApart(t *testing.T, what string, lists [][]int64) {
	t.Helper()
	wantListsApart(t, what, lists, 99)
}

// wantListsApart is wantApart for lists of anything, with what is written.
func wantListsApart[T any](t *testing.T, what string, lists [][]T, written T) {
	t.Helper()
	for i, list := range lists {
		before := fmt.Sprint(lists[i+1:])
		wide := list[:cap(list)]
		for k := range wide {
			wide[k] = written
		}
		if fmt.Sprint(lists[i+1:]) != before {
			t.Fatalf("the lists of %s share memory", what)
		}
	}
}

// wantHeadsApart checks that the lists of rows share no memory.
func wantHeadsApart(t *testing.T, list [][][]int64) {
	t.Helper()
	if len(list) < 2 {
		t.Fatalf("a list of %d fillings", len(list))
	}
	for i := range list {
		wide := list[i][:cap(list[i])]
		for y := range wide {
			wide[y] = nil
		}
		for _, rows := range list[i+1:] {
			if len(rows) != 2 || len(rows[0]) != 3 || len(rows[1]) != 3 {
				t.Fatalf("fillings share memory: %v", rows)
			}
		}
	}
}
