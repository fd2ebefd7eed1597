package tests

import (
	"fmt"
	"slices"
	"testing"

	"loop.example/g01354/impl"
)

// growTask is a set with a list of blocks for it.
type growTask struct {
	set    impl.Set
	blocks [][]int64
}

func (k growTask) String() string {
	return fmt.Sprintf("of %s, %v", textOf(k.set), k.blocks)
}

func taskOf(text string, blocks ...[]int64) growTask {
	return growTask{setOf(text), blocks}
}

func (k growTask) fitsRight(i, other int64) bool {
	return k.set.Tiles[i][2] == k.set.Tiles[other][0]
}

func (k growTask) fitsBelow(i, other int64) bool {
	return k.set.Tiles[i][3] == k.set.Tiles[other][1]
}

// isRule goes through the blocks, and through all pairs of tiles, as the document tells it.
func (k growTask) isRule() bool {
	for i, a := range k.blocks {
		if !k.fitsRight(a[0], a[1]) || !k.fitsRight(a[2], a[3]) || !k.fitsBelow(a[0], a[2]) || !k.fitsBelow(a[1], a[3]) {
			return false
		}
		for j, b := range k.blocks {
			if k.fitsRight(int64(i), int64(j)) && !(k.fitsRight(a[1], b[0]) && k.fitsRight(a[3], b[2])) {
				return false
			}
			if k.fitsBelow(int64(i), int64(j)) && !(k.fitsBelow(a[2], b[0]) && k.fitsBelow(a[3], b[1])) {
				return false
			}
		}
	}
	return true
}

func (k growTask) isOneToOne() bool {
	different := map[string]bool{}
	for _, block := range k.blocks {
		different[fmt.Sprint(block)] = true
	}
	return len(different) == len(k.blocks)
}

// grown returns rows grown, place by place.
func (k growTask) grown(rows [][]int64) [][]int64 {
	own := make([][]int64, 2*len(rows))
	for y := range own {
		for x := range 2 * len(rows[0]) {
			own[y] = append(own[y], k.blocks[rows[y/2][x/2]][2*(y%2)+x%2])
		}
	}
	return own
}

// drawnBlocks returns a list of blocks for n tiles. The tiles in the block of i are among some that
// follow i, from an offset on, around.
func (d *draw) drawnBlocks(n, offset, some int) [][]int64 {
	blocks := make([][]int64, n)
	for i := range blocks {
		for range 4 {
			blocks[i] = append(blocks[i], int64((i+offset+d.below(some))%n))
		}
	}
	return blocks
}

// drawnTasks returns lists of blocks of all kinds for sets of all sizes. Few of them are rules.
func drawnTasks() []growTask {
	d := draw(91)
	var tasks []growTask
	for _, text := range moreTexts() {
		set := setOf(text)
		n := len(set.Tiles)
		if n == 0 {
			tasks = append(tasks, growTask{set, nil}, growTask{set, [][]int64{}})
			continue
		}
		tasks = append(tasks,
			growTask{set, d.drawnBlocks(n, 0, n)},
			growTask{set, d.drawnBlocks(n, 0, 2)},
			growTask{set, d.drawnBlocks(n, d.below(n), 1+d.below(3))},
		)
	}
	return tasks
}

// drawnRule returns a rule for fullTwo, whose tiles are numbered by their colours: each colour at the
// west and the east becomes two of them, and so does each one at the north and the south. The sides
// inside of a block have any colours.
func (d *draw) drawnRule() growTask {
	k := growTask{set: setOf(fullTwo)}
	sideways := [2][2]int{{d.below(2), d.below(2)}, {d.below(2), d.below(2)}}
	down := [2][2]int{{d.below(2), d.below(2)}, {d.below(2), d.below(2)}}
	number := func(w, n, e, s int) int64 { return int64(8*w + 4*n + 2*e + s) }
	for _, a := range k.set.Tiles {
		w, n, e, s := sideways[a[0]], down[a[1]], sideways[a[2]], down[a[3]]
		upper, lower, left, right := d.below(2), d.below(2), d.below(2), d.below(2)
		k.blocks = append(k.blocks, []int64{
			number(w[0], n[0], upper, left), number(upper, n[1], e[0], right),
			number(w[1], left, lower, s[0]), number(lower, right, e[1], s[1]),
		})
	}
	return k
}

// drawnRules returns rules for fullTwo, one to one and not.
func drawnRules() []growTask {
	d := draw(93)
	var rules []growTask
	for range 60 {
		rules = append(rules, d.drawnRule())
	}
	return rules
}

// smallTasks returns all lists of blocks for sets of one and two tiles, and for greater ones lists of
// blocks that are fillings.
func smallTasks() []growTask {
	d := draw(92)
	texts := []string{"1:0000", "2:0001", "2:0101", "2:1010", "2:0011,1100", "2:0000,1111", "2:0000,0101", "2:0000,1010", "2:0001,0100", "2:0110,1001"}
	for range 20 {
		texts = append(texts, d.drawnText(2, 2))
	}
	var tasks []growTask
	for _, text := range texts {
		set := setOf(text)
		n := len(set.Tiles)
		for number := range power(n, 4*n) {
			tasks = append(tasks, growTask{set, rowsFrom(number, n, n, 4)})
		}
	}
	for _, text := range moreTexts() {
		set := setOf(text)
		fillings, ok := allFillings(set, 2, 2)
		if !ok || len(fillings) == 0 {
			continue
		}
		for range 20 {
			k := growTask{set: set}
			for range set.Tiles {
				k.blocks = append(k.blocks, slices.Concat(fillings[d.below(len(fillings))]...))
			}
			tasks = append(tasks, k)
		}
	}
	return tasks
}

func TestLimitsOfGrowing(t *testing.T) {
	if impl.MaxSteps != 20 || impl.MaxGrown != 3 {
		t.Errorf("limits %d, %d", impl.MaxSteps, impl.MaxGrown)
	}
}

func wantAnswer(t *testing.T, what string, want bool) func(got bool, code int64) {
	t.Helper()
	return func(got bool, code int64) {
		t.Helper()
		if got != want || code != impl.ErrNone {
			t.Errorf("%s = %v, %d, want %v", what, got, code, want)
		}
	}
}

func TestRules(t *testing.T) {
	rules, others, oneToOne := 0, 0, 0
	for _, k := range slices.Concat(smallTasks(), drawnTasks(), drawnRules()) {
		wantAnswer(t, "IsRule "+k.String(), k.isRule())(impl.IsRule(k.set, k.blocks))
		wantAnswer(t, "IsOneToOne "+k.String(), k.isOneToOne())(impl.IsOneToOne(k.set, k.blocks))
		switch {
		case !k.isRule():
			others++
		case k.isOneToOne():
			oneToOne++
		default:
			rules++
		}
	}
	if min(rules, others, oneToOne) < 40 {
		t.Errorf("%d rules, %d that are one to one, %d others", rules, oneToOne, others)
	}
}

// in a set with all tiles of two colours each colour of each place counts.
func TestOneColourMakesNoRule(t *testing.T) {
	for _, k := range drawnRules()[:8] {
		wantAnswer(t, "IsRule "+k.String(), true)(impl.IsRule(k.set, k.blocks))
		for _, block := range k.blocks {
			for place := range block {
				for _, side := range []int64{8, 4, 2, 1} {
					block[place] ^= side
					wantAnswer(t, "IsRule "+k.String(), false)(impl.IsRule(k.set, k.blocks))
					block[place] ^= side
				}
			}
		}
	}
}

func TestKnownRules(t *testing.T) {
	wide, tall := "2:0000,1010", "2:0000,0101"
	same := [][]int64{{0, 0, 0, 0}, {1, 1, 1, 1}}
	cases := []struct {
		task           growTask
		rule, oneToOne bool
	}{
		{taskOf("1:"), true, true},
		{taskOf("6:"), true, true},
		{taskOf("1:0000", []int64{0, 0, 0, 0}), true, true},
		{taskOf("2:0001", []int64{0, 0, 0, 0}), false, true},
		{taskOf("2:0011,1100", []int64{0, 1, 1, 0}, []int64{0, 1, 1, 0}), true, false},
		{taskOf("2:0011,1100", []int64{1, 0, 0, 1}, []int64{1, 0, 0, 1}), true, false},
		// each block alone is a filling
		{taskOf("2:0011,1100", []int64{0, 1, 1, 0}, []int64{1, 0, 0, 1}), false, true},
		{taskOf("2:0011,1100", []int64{0, 0, 1, 1}, []int64{0, 0, 1, 1}), false, false},
		// tiles of one colour in each row, or in each column, become tiles of any two colours there
		{growTask{setOf(wide), same}, true, true},
		{taskOf(wide, []int64{0, 0, 1, 1}, []int64{1, 1, 0, 0}), true, true},
		{taskOf(wide, []int64{0, 1, 0, 1}, []int64{1, 1, 0, 0}), false, true},
		{growTask{setOf(tall), same}, true, true},
		{taskOf(tall, []int64{0, 1, 0, 1}, []int64{1, 0, 1, 0}), true, true},
		{taskOf(tall, []int64{0, 0, 1, 1}, []int64{1, 0, 1, 0}), false, true},
		// a tile that stands next to itself, and nothing else, shows that these are none
		{taskOf("4:0000,1020,2030", []int64{1, 2, 1, 2}, repeated(0, 4), repeated(0, 4)), false, false},
		{taskOf("4:0000,0102,0203", []int64{1, 1, 2, 2}, repeated(0, 4), repeated(0, 4)), false, false},
		{taskOf("4:0000,1020,2010", []int64{1, 2, 1, 2}, repeated(0, 4), repeated(0, 4)), true, false},
		{taskOf("4:0000,0102,0201", []int64{1, 1, 2, 2}, repeated(0, 4), repeated(0, 4)), true, false},
		// tiles that fit nowhere ask only for blocks that are fillings
		{taskOf("3:0000,1122", []int64{0, 0, 0, 0}, []int64{0, 0, 0, 0}), true, false},
		{taskOf("3:0000,1122", []int64{0, 0, 0, 0}, []int64{1, 1, 1, 1}), false, true},
	}
	for _, c := range cases {
		wantAnswer(t, "IsRule "+c.task.String(), c.rule)(impl.IsRule(c.task.set, c.task.blocks))
		wantAnswer(t, "IsOneToOne "+c.task.String(), c.oneToOne)(impl.IsOneToOne(c.task.set, c.task.blocks))
	}
}

// one place makes blocks different, wherever it is.
func TestOnePlaceMakesBlocksDifferent(t *testing.T) {
	set := setOf("2:0000,0001,0010")
	for place := range 4 {
		blocks := [][]int64{{0, 1, 2, 0}, {1, 1, 1, 1}, {0, 1, 2, 0}}
		wantAnswer(t, "IsOneToOne of equal blocks", false)(impl.IsOneToOne(set, blocks))
		blocks[2][place] = (blocks[2][place] + 1) % 3
		wantAnswer(t, "IsOneToOne of different blocks", true)(impl.IsOneToOne(set, blocks))
	}
}

// drawnNumbers returns h rows of w numbers of n tiles.
func (d *draw) drawnNumbers(n, h, w int) [][]int64 {
	rows := make([][]int64, h)
	for y := range rows {
		for range w {
			rows[y] = append(rows[y], int64(d.below(n)))
		}
	}
	return rows
}

// leastGrowing returns the least rows that grow to rows, tried one by one, and whether there are some.
func (k growTask) leastGrowing(rows [][]int64) ([][]int64, bool) {
	h, w, n := len(rows)/2, len(rows[0])/2, len(k.set.Tiles)
	if 2*h != len(rows) || 2*w != len(rows[0]) {
		return nil, false
	}
	var least []int64
	for number := range power(n, h*w) {
		tried := rowsFrom(number, n, h, w)
		list := slices.Concat(tried...)
		if equalRows(k.grown(tried), rows) && (least == nil || slices.Compare(list, least) < 0) {
			least = list
		}
	}
	return slices.Collect(slices.Chunk(least, max(w, 1))), least != nil
}

// wantShrunk checks that rows are shrunk to the least rows that grow to them, and reports whether there
// are some.
func wantShrunk(t *testing.T, k growTask, rows [][]int64) bool {
	t.Helper()
	what := fmt.Sprintf("ShrinkRows %v, %v", k, rows)
	got, code := impl.ShrinkRows(k.set, k.blocks, rows)
	want, ok := k.leastGrowing(rows)
	if ok {
		wantLists(t, what, got, code, want)
	} else {
		wantCode(t, what, got, code, impl.ErrNotFound)
	}
	return ok
}

// promise 9: rows that are grown are shrunk again.
func TestGrownRowsAreShrunk(t *testing.T) {
	d := draw(94)
	again, others := 0, 0
	for _, k := range slices.Concat(drawnTasks(), drawnRules()) {
		n := len(k.set.Tiles)
		for range min(n, 4) {
			rows := d.drawnNumbers(n, 1+d.below(4), 1+d.below(4))
			what := fmt.Sprintf("%v, %v", k, rows)
			grown, code := impl.GrowRows(k.set, k.blocks, rows)
			wantLists(t, "GrowRows "+what, grown, code, k.grown(rows))
			shrunk, code := impl.ShrinkRows(k.set, k.blocks, grown)
			if k.isOneToOne() {
				wantLists(t, "ShrinkRows of grown rows "+what, shrunk, code, rows)
				again++
				continue
			}
			back, second := impl.GrowRows(k.set, k.blocks, shrunk)
			wantLists(t, "GrowRows of shrunk rows "+what, back, second, grown)
			if code != impl.ErrNone || slices.Compare(slices.Concat(shrunk...), slices.Concat(rows...)) > 0 {
				t.Errorf("ShrinkRows of grown rows %s = %v, %d", what, shrunk, code)
			}
			others++
		}
	}
	if min(again, others) < 50 {
		t.Errorf("%d lists that are one to one, %d others", again, others)
	}
}

// of few tiles all rows are tried that may grow to some.
func TestLeastRowsThatGrow(t *testing.T) {
	d := draw(95)
	found, none := 0, 0
	for _, k := range drawnTasks() {
		n := len(k.set.Tiles)
		if n < 2 || n > 4 {
			continue
		}
		for range 6 {
			h, w := 1+d.below(2), 1+d.below(3)
			rows := k.grown(d.drawnNumbers(n, h, w))
			for range 3 {
				if wantShrunk(t, k, rows) {
					found++
				} else {
					none++
				}
				rows[d.below(2*h)][d.below(2*w)] = int64(d.below(n))
			}
			wantShrunk(t, k, d.drawnNumbers(n, h, w))
		}
	}
	if min(found, none) < 100 {
		t.Errorf("%d rows that are grown, %d others", found, none)
	}
}

func TestKnownGrowth(t *testing.T) {
	k := taskOf("2:0000,0001,0010,0011", []int64{0, 1, 2, 3}, []int64{3, 2, 1, 0}, []int64{0, 1, 2, 3}, []int64{3, 3, 3, 3})
	grown := [][]int64{{0, 1, 3, 2}, {2, 3, 1, 0}, {3, 3, 0, 1}, {3, 3, 2, 3}}
	got, code := impl.GrowRows(k.set, k.blocks, [][]int64{{2, 1}, {3, 0}})
	wantLists(t, "GrowRows", got, code, grown)
	got, code = impl.ShrinkRows(k.set, k.blocks, grown)
	wantLists(t, "ShrinkRows", got, code, [][]int64{{0, 1}, {3, 0}})
	for y := range grown {
		for x := range grown {
			rows := copied(grown)
			rows[y][x] = (rows[y][x] + 1) % 4
			got, code = impl.ShrinkRows(k.set, k.blocks, rows)
			wantCode(t, fmt.Sprintf("ShrinkRows with another tile at %d, %d", y, x), got, code, impl.ErrNotFound)
		}
	}
}

// rows of all sizes are grown up to MaxSide, and shrunk where their sizes are even.
func TestGrowthOfAllSizes(t *testing.T) {
	d := draw(96)
	k := taskOf("2:0000,0001,0010", []int64{0, 1, 2, 0}, []int64{2, 2, 1, 2}, []int64{1, 0, 0, 2})
	one := taskOf("1:0000", []int64{0, 0, 0, 0})
	for h := 1; h <= impl.MaxSide; h++ {
		for w := 1; w <= impl.MaxSide; w++ {
			what := fmt.Sprintf("of %d rows and %d columns", h, w)
			rows, zeros := d.drawnNumbers(3, h, w), d.drawnNumbers(1, h, w)
			grown, code := impl.GrowRows(k.set, k.blocks, rows)
			if 2*h > impl.MaxSide || 2*w > impl.MaxSide {
				wantCode(t, "GrowRows "+what, grown, code, impl.ErrLimit)
			} else {
				wantLists(t, "GrowRows "+what, grown, code, k.grown(rows))
				shrunk, code := impl.ShrinkRows(k.set, k.blocks, grown)
				wantLists(t, "ShrinkRows "+what, shrunk, code, rows)
			}
			shrunk, code := impl.ShrinkRows(one.set, one.blocks, zeros)
			if h%2 == 0 && w%2 == 0 {
				wantLists(t, "ShrinkRows "+what, shrunk, code, d.drawnNumbers(1, h/2, w/2))
			} else {
				wantCode(t, "ShrinkRows "+what, shrunk, code, impl.ErrNotFound)
			}
		}
	}
}

// wantGrownFilling checks that a filling grows to a filling.
func wantGrownFilling(t *testing.T, k growTask, rows [][]int64) {
	t.Helper()
	grown, code := impl.GrowRows(k.set, k.blocks, rows)
	filling, second := impl.IsFilling(k.set, grown)
	if code != impl.ErrNone || second != impl.ErrNone || !filling || !fills(k.set, grown) {
		t.Errorf("%v: the filling %v grows to %v, %d", k, rows, grown, code)
	}
}

// promise 16: fillings grown by rules are fillings.
func TestFillingsGrowToFillings(t *testing.T) {
	found := 0
	for _, k := range slices.Concat(smallTasks(), drawnTasks()) {
		if yes, _ := impl.IsRule(k.set, k.blocks); !yes {
			continue
		}
		for _, size := range [][2]int{{1, 1}, {1, 2}, {2, 1}, {2, 2}, {1, 4}, {4, 1}, {2, 3}, {3, 2}} {
			fillings, _ := allFillings(k.set, size[0], size[1])
			for _, rows := range fillings[:min(len(fillings), 30)] {
				wantGrownFilling(t, k, rows)
				found++
			}
		}
	}
	if found < 500 {
		t.Errorf("only %d fillings", found)
	}
	d := draw(97)
	for _, k := range drawnRules() {
		for range 20 {
			h, w := 1+d.below(4), 1+d.below(4)
			wantGrownFilling(t, k, d.drawTorus(h, w, func(y, x int) int { return y*w + x }))
		}
	}
}

// a list of blocks that is no rule makes something else of a filling of one or two tiles.
func TestOthersGrowToNoFillings(t *testing.T) {
	for _, k := range slices.Concat(smallTasks(), drawnTasks()) {
		broken := false
		for _, size := range [][2]int{{1, 1}, {1, 2}, {2, 1}} {
			fillings, _ := allFillings(k.set, size[0], size[1])
			for _, rows := range fillings {
				grown, _ := impl.GrowRows(k.set, k.blocks, rows)
				broken = broken || !fills(k.set, grown)
			}
		}
		wantAnswer(t, "IsRule "+k.String(), !broken)(impl.IsRule(k.set, k.blocks))
	}
}
