package tests

import (
	"fmt"
	"slices"
	"testing"

	"loop.example/g01354/impl"
)

// mostTried is how many fillings of a size are made one by one.
const mostTried = 3000

// allFillings returns all fillings of h rows and w columns, in order, place by place. It reports
// whether there are not too many.
func allFillings(set impl.Set, h, w int) ([][][]int64, bool) {
	found := [][]int64{nil}
	for k := range h * w {
		var longer [][]int64
		for _, list := range found {
			for i, a := range set.Tiles {
				if k%w > 0 && set.Tiles[list[k-1]][2] != a[0] || k >= w && set.Tiles[list[k-w]][3] != a[1] {
					continue
				}
				longer = append(longer, append(slices.Clone(list), int64(i)))
			}
		}
		if found = longer; len(found) > mostTried {
			return nil, false
		}
	}
	var fillings [][][]int64
	for _, list := range found {
		fillings = append(fillings, slices.Collect(slices.Chunk(list, w)))
	}
	return fillings, true
}

// fulfils reports whether a filling has what a plan and borders ask for.
func fulfils(set impl.Set, rows, plan, borders [][]int64) bool {
	for y, row := range plan {
		for x, i := range row {
			if i != -1 && rows[y][x] != i {
				return false
			}
		}
	}
	for side, word := range wordsAround(set, rows) {
		if len(borders[side]) > 0 && !slices.Equal(borders[side], word) {
			return false
		}
	}
	return true
}

// freePlan returns a plan of h rows and w columns that fixes nothing.
func freePlan(h, w int) [][]int64 {
	plan := make([][]int64, h)
	for y := range plan {
		plan[y] = repeated(-1, w)
	}
	return plan
}

// open are borders that ask for nothing.
func open() [][]int64 {
	return [][]int64{{}, nil, {}, nil}
}

// copied returns a copy of a list of lists.
func copied(lists [][]int64) [][]int64 {
	var own [][]int64
	for _, list := range lists {
		own = append(own, slices.Clone(list))
	}
	return own
}

func equalRows(a, b [][]int64) bool {
	return slices.EqualFunc(a, b, slices.Equal[[]int64])
}

// task is what the functions of fillings are asked for.
type task struct {
	set           impl.Set
	plan, borders [][]int64
}

func (k task) String() string {
	return fmt.Sprintf("for %s, plan %v, borders %v", textOf(k.set), k.plan, k.borders)
}

// drawTask makes a task for a set, from one of its fillings if there are any.
func (d *draw) drawTask(set impl.Set, h, w int, fillings [][][]int64) task {
	k := task{set, freePlan(h, w), open()}
	if len(fillings) > 0 && d.below(6) > 0 {
		rows := fillings[d.below(len(fillings))]
		for y := range h {
			for x := range w {
				if d.below(5) == 0 {
					k.plan[y][x] = rows[y][x]
				}
			}
		}
		for side, word := range wordsAround(set, rows) {
			if d.below(3) == 0 {
				k.borders[side] = word
			}
		}
	}
	if d.below(4) == 0 && len(set.Tiles) > 0 {
		k.plan[d.below(h)][d.below(w)] = int64(d.below(len(set.Tiles)))
	}
	if side := d.below(16); side < 4 {
		k.borders[side] = nil
		for range []int{h, w, h, w}[side] {
			k.borders[side] = append(k.borders[side], int64(d.below(int(set.Colours))))
		}
	}
	return k
}

// tilesIn returns the tiles that stand in a place of fillings, ascending.
func tilesIn(fillings [][][]int64, y, x int) []int64 {
	var tiles []int64
	for _, rows := range fillings {
		tiles = append(tiles, rows[y][x])
	}
	slices.Sort(tiles)
	return slices.Compact(tiles)
}

// wantTask checks all that is told of a task, which has the fillings want.
func wantTask(t *testing.T, k task, want [][][]int64) {
	t.Helper()
	wantCount(t, fmt.Sprint("CountFillings ", k), int64(len(want)))(impl.CountFillings(k.set, k.plan, k.borders))
	list, code := impl.FillingList(k.set, k.plan, k.borders)
	if len(want) > impl.MaxFillings {
		wantCode(t, fmt.Sprint("FillingList ", k), list, code, impl.ErrLimit)
	} else if code != impl.ErrNone || !slices.EqualFunc(list, want, equalRows) {
		t.Errorf("FillingList %v = %v, %d, want %v", k, list, code, want)
	}
	same := freePlan(len(k.plan), len(k.plan[0]))
	for y := range same {
		for x := range same[y] {
			tiles, code := impl.TilesAt(k.set, k.plan, k.borders, int64(y), int64(x))
			there := tilesIn(want, y, x)
			wantList(t, fmt.Sprintf("TilesAt %v, %d, %d", k, y, x), tiles, code, there)
			if len(there) == 1 {
				same[y][x] = there[0]
			}
		}
	}
	first, code := impl.FirstFilling(k.set, k.plan, k.borders)
	places, second := impl.SamePlaces(k.set, k.plan, k.borders)
	if len(want) == 0 {
		wantCode(t, fmt.Sprint("FirstFilling ", k), first, code, impl.ErrNotFound)
		wantCode(t, fmt.Sprint("SamePlaces ", k), places, second, impl.ErrNotFound)
		return
	}
	wantLists(t, fmt.Sprint("FirstFilling ", k), first, code, want[0])
	wantLists(t, fmt.Sprint("SamePlaces ", k), places, second, same)
}

// plans and borders are drawn for sets whose fillings are made one by one.
func TestFillingsAsked(t *testing.T) {
	d := draw(3)
	none, few, many := 0, 0, 0
	for _, text := range append(sampleTexts(), "3:0000,0120,1201,2012,2222", "4:0123,1230,2301,3012") {
		set := setOf(text)
		for size := range impl.MaxPlan * impl.MaxPlan {
			h, w := size/impl.MaxPlan+1, size%impl.MaxPlan+1
			fillings, ok := allFillings(set, h, w)
			if !ok {
				continue
			}
			for range 8 / set.Colours {
				k := d.drawTask(set, h, w, fillings)
				var want [][][]int64
				for _, rows := range fillings {
					if fulfils(set, rows, k.plan, k.borders) {
						want = append(want, rows)
					}
				}
				wantTask(t, k, want)
				switch {
				case len(want) == 0:
					none++
				case len(want) <= impl.MaxFillings:
					few++
				default:
					many++
				}
			}
		}
	}
	if min(none, few, many) < 50 {
		t.Errorf("tasks without fillings: %d, with few: %d, with many: %d", none, few, many)
	}
}

// fixed returns a plan with one place of another one fixed.
func fixed(plan [][]int64, y, x int, i int64) [][]int64 {
	own := copied(plan)
	own[y][x] = i
	return own
}

// what is told of rectangles with too many fillings for a list agrees with itself.
func TestGreatRectangles(t *testing.T) {
	d := draw(17)
	for _, text := range []string{"2:0000,0111,1011,1100", "2:0000,0011,0101,1110", "3:0001,0110,1000,1112,1221,2112,2201", "4:0000,0132,1021,1303,2210,3120,3333"} {
		set := setOf(text)
		for _, size := range [][2]int{{5, 5}, {4, 5}, {5, 3}} {
			first, code := impl.FirstFilling(set, freePlan(size[0], size[1]), open())
			if code != impl.ErrNone {
				t.Fatalf("FirstFilling for %s, %v: code %d", text, size, code)
			}
			k := d.drawTask(set, size[0], size[1], [][][]int64{first})
			wantSums(t, k)
			wantSums(t, task{set, freePlan(size[0], size[1]), open()})
		}
	}
}

// wantSums checks that the fillings of a task are those with each tile in a place, and that the
// places that are the same are so.
func wantSums(t *testing.T, k task) {
	t.Helper()
	total, code := impl.CountFillings(k.set, k.plan, k.borders)
	if code != impl.ErrNone {
		t.Fatalf("CountFillings %v: code %d", k, code)
	}
	same := freePlan(len(k.plan), len(k.plan[0]))
	for y, row := range k.plan {
		for x, asked := range row {
			var there []int64
			sum := int64(0)
			for i := range int64(len(k.set.Tiles)) {
				if asked != -1 && asked != i {
					continue
				}
				count, _ := impl.CountFillings(k.set, fixed(k.plan, y, x, i), k.borders)
				if sum += count; count > 0 {
					there = append(there, i)
				}
			}
			if sum != total {
				t.Errorf("CountFillings %v = %d, but %d by the tiles at %d, %d", k, total, sum, y, x)
			}
			tiles, code := impl.TilesAt(k.set, k.plan, k.borders, int64(y), int64(x))
			wantList(t, fmt.Sprintf("TilesAt %v, %d, %d", k, y, x), tiles, code, there)
			if len(there) == 1 {
				same[y][x] = there[0]
			}
		}
	}
	places, code := impl.SamePlaces(k.set, k.plan, k.borders)
	if total == 0 {
		wantCode(t, fmt.Sprint("SamePlaces ", k), places, code, impl.ErrNotFound)
		return
	}
	wantLists(t, fmt.Sprint("SamePlaces ", k), places, code, same)
}

// in sums, west and north words of all kinds have one filling each.
func TestSumsByBorders(t *testing.T) {
	sums := setOf("2:0000,0111,1011,1100")
	d := draw(29)
	for range 60 {
		h, w := d.below(impl.MaxPlan)+1, d.below(impl.MaxPlan)+1
		borders := open()
		rows := freePlan(h, w)
		for range h {
			borders[0] = append(borders[0], int64(d.below(2)))
		}
		for range w {
			borders[1] = append(borders[1], int64(d.below(2)))
		}
		left, above := slices.Clone(borders[0]), slices.Clone(borders[1])
		for y := range h {
			for x := range w {
				// the tile number 2 a + b has a at its west and b at its north side
				rows[y][x] = 2*left[y] + above[x]
				tile := sums.Tiles[rows[y][x]]
				left[y], above[x] = tile[2], tile[3]
			}
		}
		wantTask(t, task{sums, freePlan(h, w), borders}, [][][]int64{rows})
		borders[2], borders[3] = left, above
		wantTask(t, task{sums, freePlan(h, w), borders}, [][][]int64{rows})
		borders[2][d.below(h)] ^= 1
		wantTask(t, task{sums, freePlan(h, w), borders}, nil)
	}
}

// promise 3: first fillings are fillings that fulfil what is asked, and no others are before them.
func TestFirstFillingsFulfil(t *testing.T) {
	d := draw(41)
	found := 0
	for range 150 {
		set := setOf(d.drawnText(d.below(4)+2, d.below(12)+5))
		h, w := d.below(impl.MaxPlan)+1, d.below(impl.MaxPlan)+1
		some, code := impl.FirstFilling(set, freePlan(h, w), open())
		if code != impl.ErrNone {
			continue
		}
		k := d.drawTask(set, h, w, [][][]int64{some})
		rows, code := impl.FirstFilling(k.set, k.plan, k.borders)
		if code == impl.ErrNotFound {
			continue
		}
		found++
		if yes, code := impl.IsFilling(set, rows); !yes || code != impl.ErrNone || !fills(set, rows) {
			t.Errorf("FirstFilling %v = %v, which is no filling", k, rows)
		}
		if len(rows) != h || len(rows[0]) != w || !fulfils(set, rows, k.plan, k.borders) {
			t.Errorf("FirstFilling %v = %v, which does not fulfil it", k, rows)
		}
		wantNoneBefore(t, k, rows)
	}
	if found < 50 {
		t.Errorf("only %d fillings", found)
	}
}

// wantNoneBefore checks that no filling of a task is less than the first one.
func wantNoneBefore(t *testing.T, k task, first [][]int64) {
	t.Helper()
	plan := copied(k.plan)
	for y, row := range first {
		for x, i := range row {
			for less := range i {
				if k.plan[y][x] != -1 {
					break
				}
				count, code := impl.CountFillings(k.set, fixed(plan, y, x, less), k.borders)
				if count != 0 || code != impl.ErrNone {
					t.Errorf("FirstFilling %v = %v, but %d have %d at %d, %d, code %d", k, first, count, less, y, x, code)
				}
			}
			plan[y][x] = i
		}
	}
}
