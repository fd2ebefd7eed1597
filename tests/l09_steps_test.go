package tests

import (
	"fmt"
	"maps"
	"runtime"
	"slices"
	"testing"

	"loop.example/g01354/impl"
)

// allTasks are lists of blocks of all kinds, rules and others.
func allTasks() []growTask {
	rules := slices.DeleteFunc(smallTasks(), func(k growTask) bool { return !k.isRule() })
	return slices.Concat(drawnTasks(), drawnRules()[:20], rules, ways())
}

// ways returns lists of blocks for sixteen tiles that are reached one after the other.
func ways() []growTask {
	set := setOf(fullTwo)
	around, along := growTask{set: set}, growTask{set: set}
	for i := range int64(16) {
		around.blocks = append(around.blocks, repeated((i+1)%16, 4))
		along.blocks = append(along.blocks, repeated(min(i+1, 15), 4))
	}
	back := growTask{set, copied(along.blocks)}
	back.blocks[15] = repeated(5, 4)
	return []growTask{around, along, back, slowest()}
}

// slowest returns the primitive list for sixteen tiles for which the most steps are needed until all
// stand in what is grown from each one.
func slowest() growTask {
	k := growTask{set: setOf(fullTwo)}
	for i := range int64(15) {
		k.blocks = append(k.blocks, repeated(i+1, 4))
	}
	k.blocks = append(k.blocks, []int64{0, 0, 1, 0})
	return k
}

// grownFrom returns what is grown from a tile by n steps, place by place.
func (k growTask) grownFrom(i int64, n int) [][]int64 {
	rows := [][]int64{{i}}
	for range n {
		rows = k.grown(rows)
	}
	return rows
}

func TestGrownTiles(t *testing.T) {
	for _, k := range allTasks() {
		for i := range int64(len(k.set.Tiles)) {
			for n := range 4 {
				what := fmt.Sprintf("GrowTile %v, %d, %d", k, i, n)
				got, code := impl.GrowTile(k.set, k.blocks, i, int64(n))
				wantLists(t, what, got, code, k.grownFrom(i, n))
				filling, second := impl.IsFilling(k.set, got)
				if second != impl.ErrNone || len(got) != 1<<n || k.isRule() && !filling {
					t.Errorf("%s = %v: a filling: %v", what, got, filling)
				}
			}
		}
	}
}

func TestKnownGrownTiles(t *testing.T) {
	k := taskOf("2:0000,0001,0010,0011", []int64{0, 1, 2, 3}, []int64{3, 2, 1, 0}, []int64{0, 1, 2, 3}, []int64{3, 3, 3, 3})
	cases := []struct {
		i, n int64
		want [][]int64
	}{
		{2, 0, [][]int64{{2}}},
		{0, 1, [][]int64{{0, 1}, {2, 3}}},
		{1, 2, [][]int64{{3, 3, 0, 1}, {3, 3, 2, 3}, {3, 2, 0, 1}, {1, 0, 2, 3}}},
		{3, 3, slices.Repeat([][]int64{repeated(3, 8)}, 8)},
	}
	for _, c := range cases {
		got, code := impl.GrowTile(k.set, k.blocks, c.i, c.n)
		wantLists(t, fmt.Sprintf("GrowTile %d, %d", c.i, c.n), got, code, c.want)
	}
}

// ownNumbers returns the numbers of a tile after 0, 1, .., n steps, where each tile adds those of its
// block to the numbers after the next step.
func (k growTask) ownNumbers(i int64, n int) [][]int64 {
	numbers := [][]int64{make([]int64, len(k.blocks))}
	numbers[0][i] = 1
	for step := range n {
		next := make([]int64, len(k.blocks))
		for j, count := range numbers[step] {
			for _, own := range k.blocks[j] {
				next[own] += count
			}
		}
		numbers = append(numbers, next)
	}
	return numbers
}

// promise 9: numbers after n steps add up to 4^n.
func TestNumbersAfterSteps(t *testing.T) {
	for _, k := range allTasks() {
		for i := range int64(len(k.set.Tiles)) {
			own := k.ownNumbers(i, 20)
			for _, n := range []int64{0, 1, 2, 7, 19, 20} {
				what := fmt.Sprintf("NumbersAfter %v, %d, %d", k, i, n)
				got, code := impl.NumbersAfter(k.set, k.blocks, i, n)
				wantList(t, what, got, code, own[n])
				sum := int64(0)
				for _, number := range got {
					sum += number
				}
				if sum != 1<<(2*n) {
					t.Errorf("%s = %v, which add up to %d", what, got, sum)
				}
			}
		}
	}
}

// what is grown from a tile is counted.
func TestNumbersOfGrownTiles(t *testing.T) {
	for _, k := range drawnTasks() {
		for i := range int64(len(k.set.Tiles)) {
			for n := range 5 {
				counted := make([]int64, len(k.set.Tiles))
				for _, own := range slices.Concat(k.grownFrom(i, n)...) {
					counted[own]++
				}
				got, code := impl.NumbersAfter(k.set, k.blocks, i, int64(n))
				wantList(t, fmt.Sprintf("NumbersAfter %v, %d, %d", k, i, n), got, code, counted)
			}
		}
	}
}

func TestKnownNumbers(t *testing.T) {
	one := taskOf("1:0000", []int64{0, 0, 0, 0})
	for n := range int64(21) {
		got, code := impl.NumbersAfter(one.set, one.blocks, 0, n)
		wantList(t, fmt.Sprintf("NumbersAfter of one tile, %d", n), got, code, []int64{1 << (2 * n)})
	}
	// 3^n stay, and what does not has 1 in its own block no more
	stays := taskOf("2:0000,1111", []int64{0, 0, 0, 1}, []int64{1, 1, 1, 1})
	power := int64(1)
	for n := range int64(21) {
		got, code := impl.NumbersAfter(stays.set, stays.blocks, 0, n)
		wantList(t, fmt.Sprintf("NumbersAfter of a tile that stays, %d", n), got, code, []int64{power, 1<<(2*n) - power})
		power *= 3
	}
}

// fullAfter returns the number of steps, of at least 1, after which all tiles stand in what is grown
// from each one, and whether there is one. It goes on until the tiles that stand are those of before.
func (k growTask) fullAfter() (int, bool) {
	var stand [16]uint16
	for i := range k.blocks {
		stand[i] = 1 << i
	}
	seen := map[[16]uint16]bool{}
	for n := 1; ; n++ {
		var next [16]uint16
		for i, block := range k.blocks {
			for _, own := range block {
				next[i] |= stand[own]
			}
		}
		stand = next
		full := true
		for i := range k.blocks {
			full = full && stand[i] == uint16(1<<len(k.blocks)-1)
		}
		if full || seen[stand] {
			return n, full
		}
		seen[stand] = true
	}
}

func TestPrimitive(t *testing.T) {
	found := map[bool]int{}
	longest := 0
	for _, k := range allTasks() {
		n, want := k.fullAfter()
		wantAnswer(t, "IsPrimitive "+k.String(), want)(impl.IsPrimitive(k.set, k.blocks))
		found[want]++
		if want {
			longest = max(longest, n)
		}
	}
	if min(found[true], found[false]) < 30 || longest != 226 {
		t.Errorf("primitive: %v, after %d steps at most", found, longest)
	}
}

// sets of each number of tiles, at which the most steps are needed.
func TestSlowestPrimitive(t *testing.T) {
	for m := 2; m <= 16; m++ {
		k := growTask{set: setOf(fullTwo)}
		k.set.Tiles = k.set.Tiles[:m]
		for i := range m {
			k.blocks = append(k.blocks, repeated(int64((i+1)%m), 4))
		}
		wantAnswer(t, "IsPrimitive around "+k.String(), false)(impl.IsPrimitive(k.set, k.blocks))
		for place := range 4 {
			k.blocks[m-1] = repeated(0, 4)
			k.blocks[m-1][place] = 1
			if n, ok := k.fullAfter(); !ok || n != (m-1)*(m-1)+1 {
				t.Errorf("%v: %d steps, %v", k, n, ok)
			}
			wantAnswer(t, "IsPrimitive "+k.String(), true)(impl.IsPrimitive(k.set, k.blocks))
		}
	}
}

func TestKnownPrimitive(t *testing.T) {
	cases := []struct {
		task growTask
		want bool
	}{
		{taskOf("1:"), true},
		{taskOf("6:"), true},
		{taskOf("1:0000", []int64{0, 0, 0, 0}), true},
		{taskOf("2:0000,1111", []int64{0, 0, 0, 0}, []int64{1, 1, 1, 1}), false},
		{taskOf("2:0000,1111", []int64{1, 1, 1, 1}, []int64{0, 0, 0, 0}), false},
		{taskOf("2:0000,1111", []int64{1, 1, 1, 1}, []int64{0, 0, 0, 1}), true},
		{taskOf("2:0000,1111", []int64{0, 1, 0, 0}, []int64{1, 1, 1, 1}), false},
		{taskOf("2:0000,1111", []int64{0, 0, 0, 0}, []int64{0, 1, 1, 1}), false},
		// both tiles follow both, but no step has all three
		{taskOf("3:0000,1111,2222", []int64{1, 2, 1, 2}, []int64{0, 0, 0, 0}, []int64{0, 0, 0, 0}), false},
		{taskOf("3:0000,1111,2222", []int64{1, 2, 1, 2}, []int64{0, 0, 0, 0}, []int64{0, 0, 1, 0}), true},
	}
	for _, c := range cases {
		wantAnswer(t, "IsPrimitive "+c.task.String(), c.want)(impl.IsPrimitive(c.task.set, c.task.blocks))
	}
}

// ownPeriod returns the least k, and the least p, for which corners are equal after k and k + p steps.
// There have to be more than twice as many corners as tiles.
func ownPeriod(corners []int64) (int64, int64) {
	half := len(corners) / 2
	for k := range half {
		for p := 1; p <= half; p++ {
			if corners[k] == corners[k+p] {
				return int64(k), int64(p)
			}
		}
	}
	return -1, -1
}

func TestCorners(t *testing.T) {
	for _, k := range allTasks() {
		for i := range int64(len(k.set.Tiles)) {
			corners := []int64{i}
			for len(corners) < 40 {
				corners = append(corners, k.blocks[corners[len(corners)-1]][0])
			}
			what := fmt.Sprintf("%v, %d", k, i)
			for _, n := range []int64{0, 1, 5, 19, 20} {
				got, code := impl.CornersOf(k.set, k.blocks, i, n)
				wantList(t, "CornersOf "+what, got, code, corners[:n+1])
			}
			for n := range 4 {
				if corner := k.grownFrom(i, n)[0][0]; corner != corners[n] {
					t.Errorf("%s: the corner %d after %d steps", what, corner, n)
				}
			}
			first, period := ownPeriod(corners)
			gotFirst, gotPeriod, code := impl.CornerPeriod(k.set, k.blocks, i)
			if gotFirst != first || gotPeriod != period || code != impl.ErrNone {
				t.Errorf("CornerPeriod %s = %d, %d, %d, want %d, %d", what, gotFirst, gotPeriod, code, first, period)
			}
		}
	}
}

func TestKnownPeriods(t *testing.T) {
	tasks := ways()
	around, along, back := tasks[0], tasks[1], tasks[2]
	cases := []struct {
		task     growTask
		i, k, p  int64
		afterAll int64
	}{
		{around, 0, 0, 16, 4},
		{around, 15, 0, 16, 3},
		{along, 0, 15, 1, 15},
		{along, 14, 1, 1, 15},
		{along, 15, 0, 1, 15},
		{back, 0, 5, 11, 9},
		{back, 5, 0, 11, 14},
		{back, 15, 0, 11, 13},
		{taskOf("1:0000", []int64{0, 0, 0, 0}), 0, 0, 1, 0},
		// the corner alone counts
		{taskOf("3:0000,1111,2222", []int64{1, 2, 2, 2}, []int64{0, 2, 2, 2}, []int64{2, 0, 0, 0}), 0, 0, 2, 0},
		{taskOf("3:0000,1111,2222", []int64{1, 0, 0, 0}, []int64{2, 0, 0, 0}, []int64{1, 0, 0, 0}), 0, 1, 2, 2},
	}
	for _, c := range cases {
		what := fmt.Sprintf("%v, %d", c.task, c.i)
		k, p, code := impl.CornerPeriod(c.task.set, c.task.blocks, c.i)
		if k != c.k || p != c.p || code != impl.ErrNone {
			t.Errorf("CornerPeriod %s = %d, %d, %d, want %d, %d", what, k, p, code, c.k, c.p)
		}
		corners, code := impl.CornersOf(c.task.set, c.task.blocks, c.i, 20)
		if code != impl.ErrNone || len(corners) != 21 || corners[20] != c.afterAll {
			t.Errorf("CornersOf %s = %v, %d", what, corners, code)
		}
	}
}

// neighboursIn returns the pairs of neighbours in the rows that are put in.
func neighboursIn(pairs map[[2]int64]bool, rows [][]int64) map[[2]int64]bool {
	for _, row := range rows {
		for x := range row[1:] {
			pairs[[2]int64{row[x], row[x+1]}] = true
		}
	}
	return pairs
}

// standing has the tiles, and the pairs, of what is grown from a tile.
type standing struct {
	tiles map[int64]bool
	pairs map[[2]int64]bool
}

// after returns what stands after one step more: all of it is in the blocks of the tiles, and in those
// of the pairs.
func (s standing) after(k growTask) standing {
	next := standing{map[int64]bool{}, map[[2]int64]bool{}}
	for i := range s.tiles {
		for _, own := range k.blocks[i] {
			next.tiles[own] = true
		}
		neighboursIn(next.pairs, k.grown([][]int64{{i}}))
	}
	for pair := range s.pairs {
		neighboursIn(next.pairs, k.grown([][]int64{pair[:]}))
	}
	return next
}

// with returns all that stands in one of both.
func (s standing) with(other standing) standing {
	all := standing{maps.Clone(s.tiles), maps.Clone(s.pairs)}
	maps.Copy(all.tiles, other.tiles)
	maps.Copy(all.pairs, other.pairs)
	return all
}

func (s standing) size() int {
	return len(s.tiles) + len(s.pairs)
}

func (s standing) tileList() []int64 {
	return slices.Sorted(maps.Keys(s.tiles))
}

func (s standing) pairLists() [][]int64 {
	var lists [][]int64
	for pair := range s.pairs {
		lists = append(lists, pair[:])
	}
	slices.SortFunc(lists, slices.Compare)
	return lists
}

// everGrown returns all that stands in what is grown from a tile. The first steps are checked against
// rows that are grown place by place.
func (k growTask) everGrown(t *testing.T, i int64) standing {
	t.Helper()
	own := standing{map[int64]bool{i: true}, map[[2]int64]bool{}}
	all := own
	for n := 1; ; n++ {
		own = own.after(k)
		if n < 5 {
			want := neighboursIn(map[[2]int64]bool{}, k.grownFrom(i, n))
			if !maps.Equal(own.pairs, want) {
				t.Errorf("%v, %d: the pairs after %d steps are %v, not %v", k, i, n, own.pairs, want)
			}
		}
		more := all.with(own)
		if more.size() == all.size() {
			return all
		}
		all = more
	}
}

func TestTilesAndPairsGrown(t *testing.T) {
	most := 0
	for _, k := range allTasks() {
		for i := range int64(len(k.set.Tiles)) {
			what := fmt.Sprintf("%v, %d", k, i)
			want := k.everGrown(t, i)
			tiles, code := impl.TilesGrown(k.set, k.blocks, i)
			wantList(t, "TilesGrown "+what, tiles, code, want.tileList())
			pairs, code := impl.PairsGrown(k.set, k.blocks, i)
			wantLists(t, "PairsGrown "+what, pairs, code, want.pairLists())
			most = max(most, len(pairs))
		}
	}
	if most < 200 {
		t.Errorf("at most %d pairs", most)
	}
}

// sixteen steps are enough for each tile that is grown.
func TestTilesGrownHaveNumbers(t *testing.T) {
	for _, k := range allTasks() {
		for i := range int64(len(k.set.Tiles)) {
			found := map[int64]bool{}
			for n := range int64(17) {
				numbers, _ := impl.NumbersAfter(k.set, k.blocks, i, n)
				for own, number := range numbers {
					if number > 0 {
						found[int64(own)] = true
					}
				}
			}
			tiles, code := impl.TilesGrown(k.set, k.blocks, i)
			wantList(t, fmt.Sprintf("TilesGrown %v, %d", k, i), tiles, code, slices.Sorted(maps.Keys(found)))
		}
	}
}

func TestKnownTilesAndPairs(t *testing.T) {
	cases := []struct {
		task  growTask
		i     int64
		tiles []int64
		pairs [][]int64
	}{
		{taskOf("1:0000", []int64{0, 0, 0, 0}), 0, []int64{0}, [][]int64{{0, 0}}},
		// a tile that is never grown again
		{taskOf("2:0000,1111", []int64{1, 1, 1, 1}, []int64{1, 1, 1, 1}), 0, []int64{0, 1}, [][]int64{{1, 1}}},
		// tiles one below the other are no pair, and those with others between them neither
		{taskOf("2:0000,1111", []int64{0, 0, 1, 1}, []int64{1, 1, 0, 0}), 1, []int64{0, 1}, [][]int64{{0, 0}, {1, 1}}},
		{taskOf("2:0000,1111", []int64{0, 1, 0, 1}, []int64{0, 1, 0, 1}), 0, []int64{0, 1}, [][]int64{{0, 1}, {1, 0}}},
		// 1 stands right of 2 only where blocks meet, and only in the upper row
		{taskOf("4:0000,1111,2222,3333", []int64{1, 1, 3, 3}, []int64{1, 2, 3, 3}, []int64{3, 3, 3, 3}, []int64{3, 3, 3, 3}), 0,
			[]int64{0, 1, 2, 3}, [][]int64{{1, 1}, {1, 2}, {2, 1}, {2, 3}, {3, 1}, {3, 3}}},
		// and here only in the lower one
		{taskOf("4:0000,1111,2222,3333", []int64{3, 3, 1, 1}, []int64{3, 3, 1, 2}, []int64{3, 3, 3, 3}, []int64{3, 3, 3, 3}), 0,
			[]int64{0, 1, 2, 3}, [][]int64{{1, 1}, {1, 2}, {2, 1}, {2, 3}, {3, 1}, {3, 3}}},
	}
	for _, c := range cases {
		what := fmt.Sprintf("%v, %d", c.task, c.i)
		tiles, code := impl.TilesGrown(c.task.set, c.task.blocks, c.i)
		wantList(t, "TilesGrown "+what, tiles, code, c.tiles)
		pairs, code := impl.PairsGrown(c.task.set, c.task.blocks, c.i)
		wantLists(t, "PairsGrown "+what, pairs, code, c.pairs)
	}
}

// growCalls are the functions of a list of blocks, with a tile, rows of one tile, and a number of steps.
func growCalls() map[string]func(k growTask, i, n int64) (any, int64) {
	return map[string]func(k growTask, i, n int64) (any, int64){
		"IsRule": func(k growTask, _, _ int64) (any, int64) {
			yes, code := impl.IsRule(k.set, k.blocks)
			return yes, code
		},
		"IsOneToOne": func(k growTask, _, _ int64) (any, int64) {
			yes, code := impl.IsOneToOne(k.set, k.blocks)
			return yes, code
		},
		"IsPrimitive": func(k growTask, _, _ int64) (any, int64) {
			yes, code := impl.IsPrimitive(k.set, k.blocks)
			return yes, code
		},
		"GrowRows": func(k growTask, i, _ int64) (any, int64) {
			rows, code := impl.GrowRows(k.set, k.blocks, [][]int64{{i}})
			return rows, code
		},
		"ShrinkRows": func(k growTask, i, _ int64) (any, int64) {
			rows, code := impl.ShrinkRows(k.set, k.blocks, [][]int64{{i, i}, {i, i}})
			return rows, code
		},
		"GrowTile": func(k growTask, i, n int64) (any, int64) {
			rows, code := impl.GrowTile(k.set, k.blocks, i, n)
			return rows, code
		},
		"NumbersAfter": func(k growTask, i, n int64) (any, int64) {
			numbers, code := impl.NumbersAfter(k.set, k.blocks, i, n)
			return numbers, code
		},
		"CornersOf": func(k growTask, i, n int64) (any, int64) {
			corners, code := impl.CornersOf(k.set, k.blocks, i, n)
			return corners, code
		},
		"CornerPeriod": func(k growTask, i, _ int64) (any, int64) {
			first, period, code := impl.CornerPeriod(k.set, k.blocks, i)
			return [2]int64{first, period}, code
		},
		"PairsGrown": func(k growTask, i, _ int64) (any, int64) {
			pairs, code := impl.PairsGrown(k.set, k.blocks, i)
			return pairs, code
		},
		"TilesGrown": func(k growTask, i, _ int64) (any, int64) {
			tiles, code := impl.TilesGrown(k.set, k.blocks, i)
			return tiles, code
		},
	}
}

// badBlocks are no lists of blocks for two tiles.
func badBlocks() [][][]int64 {
	bad := [][][]int64{
		nil, {}, {nil}, {nil, nil}, {{0, 0, 0, 0}}, {{0, 0, 0, 0}, nil}, {{}, {0, 0, 0, 0}},
		{{0, 0, 0, 0}, {0, 0, 0}}, {{0, 0, 0, 0, 0}, {0, 0, 0, 0}}, {{0, 0, 0, 0, 0}, {0, 0, 0}},
		{{0, 0, 0, 0}, {0, 0, 0, 0}, {0, 0, 0, 0}}, {{0, 0, 0, 0}, {0, 0, 0, 0}, nil}, {{0, 0, 0, 0, 0, 0, 0, 0}},
	}
	for place := range 4 {
		for _, number := range append(extremes, -1, 2) {
			for i := range 2 {
				blocks := [][]int64{{0, 1, 1, 0}, {0, 1, 1, 0}}
				blocks[i][place] = number
				bad = append(bad, blocks)
			}
		}
	}
	return bad
}

func TestErrorsOfBlocks(t *testing.T) {
	chess := setOf("2:0011,1100")
	for name, call := range growCalls() {
		for _, blocks := range badBlocks() {
			got, code := call(growTask{chess, blocks}, 0, 1)
			wantCode(t, fmt.Sprintf("%s of chess, %v", name, blocks), got, code, impl.ErrRange)
			for _, no := range noSets() {
				for _, number := range []int64{0, -1, 99} {
					got, code = call(growTask{no, blocks}, number, number)
					wantCode(t, fmt.Sprintf("%s of %v, %v", name, no, blocks), got, code, impl.ErrInvalid)
				}
			}
		}
		for _, blocks := range [][][]int64{{nil}, {{}}, {{0, 0, 0, 0}}} {
			got, code := call(growTask{setOf("2:"), blocks}, 0, 0)
			wantCode(t, fmt.Sprintf("%s of no tiles, %v", name, blocks), got, code, impl.ErrRange)
		}
		for _, no := range noSets() {
			blocks := slices.Repeat([][]int64{{0, 0, 0, 0}}, len(no.Tiles))
			got, code := call(growTask{no, blocks}, 0, 0)
			wantCode(t, fmt.Sprintf("%s of %v", name, no), got, code, impl.ErrInvalid)
		}
	}
}

func TestErrorsOfTiles(t *testing.T) {
	k := taskOf("2:0011,1100", []int64{0, 1, 1, 0}, []int64{0, 1, 1, 0})
	for name, call := range growCalls() {
		if name == "IsRule" || name == "IsOneToOne" || name == "IsPrimitive" {
			continue
		}
		for _, i := range append(extremes, -1, 2) {
			for _, n := range append(extremes, -1, 0, 1) {
				got, code := call(k, i, n)
				wantCode(t, fmt.Sprintf("%s of the tile %d, %d", name, i, n), got, code, impl.ErrRange)
			}
		}
		// a set without tiles has no number of one
		for _, blocks := range [][][]int64{nil, {}} {
			got, code := call(growTask{setOf("2:"), blocks}, 0, 0)
			wantCode(t, name+" of no tiles", got, code, impl.ErrRange)
		}
	}
}

func TestErrorsOfSteps(t *testing.T) {
	k := taskOf("2:0011,1100", []int64{0, 1, 1, 0}, []int64{0, 1, 1, 0})
	for name, most := range map[string]int64{"GrowTile": 3, "NumbersAfter": 20, "CornersOf": 20} {
		call := growCalls()[name]
		for _, n := range []int64{0, 1, most} {
			if _, code := call(k, 1, n); code != impl.ErrNone {
				t.Errorf("%s by %d steps: code %d", name, n, code)
			}
		}
		for _, n := range append(extremes, -1, most+1) {
			for i := range int64(2) {
				got, code := call(k, i, n)
				wantCode(t, fmt.Sprintf("%s by %d steps", name, n), got, code, impl.ErrRange)
			}
		}
	}
}

func TestErrorsOfGrownRows(t *testing.T) {
	k := taskOf("2:0011,1100", []int64{0, 1, 1, 0}, []int64{0, 1, 1, 0})
	calls := map[string]func(impl.Set, [][]int64, [][]int64) ([][]int64, int64){"GrowRows": impl.GrowRows, "ShrinkRows": impl.ShrinkRows}
	tooGreat := [][][]int64{
		chessRows(9, 1), chessRows(1, 9), chessRows(9, 9), chessRows(10, 2), chessRows(16, 16),
		// ErrLimit, and ErrNotFound, come after ErrRange
		{{0, 0, 0, 0, 2}}, {{0, 0, 0, 0, 0}, {0}}, {{0}, {0}, {0}, {0}, {-1}}, {{0}, {0}, {0}, {0}, {}},
	}
	for name, call := range calls {
		for _, rows := range slices.Concat(badRows(), tooGreat) {
			got, code := call(k.set, k.blocks, rows)
			wantCode(t, fmt.Sprintf("%s of %v", name, rows), got, code, impl.ErrRange)
			for _, no := range noSets() {
				got, code = call(no, k.blocks, rows)
				wantCode(t, fmt.Sprintf("%s for %v", name, no), got, code, impl.ErrInvalid)
			}
		}
		for _, blocks := range badBlocks() {
			for _, rows := range [][][]int64{{{0}}, {{0, 0, 0, 0, 0}}, chessRows(5, 5), chessRows(2, 2)} {
				got, code := call(k.set, blocks, rows)
				wantCode(t, fmt.Sprintf("%s by %v", name, blocks), got, code, impl.ErrRange)
			}
		}
	}
	for _, size := range [][2]int{{4, 4}, {1, 4}, {4, 1}} {
		rows := chessRows(size[0], size[1])
		grown, code := impl.GrowRows(k.set, k.blocks, rows)
		wantLists(t, fmt.Sprintf("GrowRows %v", rows), grown, code, k.grown(rows))
	}
	for _, size := range [][2]int{{5, 4}, {4, 5}, {1, 5}, {5, 1}, {8, 8}, {1, 8}, {8, 1}} {
		grown, code := impl.GrowRows(k.set, k.blocks, chessRows(size[0], size[1]))
		wantCode(t, fmt.Sprintf("GrowRows of %v", size), grown, code, impl.ErrLimit)
	}
}

func TestGrowingSharesNothing(t *testing.T) {
	const text = "2:0000,0001,0010,0011"
	blocks := [][]int64{{0, 1, 2, 3}, {3, 2, 1, 0}, {1, 0, 0, 2}, {0, 0, 0, 0}}
	small, great := [][]int64{{0, 1, 0}, {0, 2, 3}}, [][]int64{{0, 1, 0, 1}, {2, 3, 2, 3}, {3, 2, 0, 0}, {1, 0, 0, 0}}
	k := growTask{marked(text), spread(blocks)}
	rows, wide := spread(small), spread(great)
	for range 2 {
		results := map[string][][]int64{}
		results["GrowRows"], _ = impl.GrowRows(k.set, k.blocks, rows)
		results["ShrinkRows"], _ = impl.ShrinkRows(k.set, k.blocks, wide)
		results["GrowTile"], _ = impl.GrowTile(k.set, k.blocks, 0, 3)
		results["PairsGrown"], _ = impl.PairsGrown(k.set, k.blocks, 0)
		tiles, _ := impl.TilesGrown(k.set, k.blocks, 0)
		corners, _ := impl.CornersOf(k.set, k.blocks, 0, 20)
		numbers, _ := impl.NumbersAfter(k.set, k.blocks, 0, 0)
		results["lists"] = [][]int64{tiles, corners, numbers}
		wants := map[string]string{
			"GrowRows":   fmt.Sprint((growTask{k.set, blocks}).grown(small)),
			"ShrinkRows": "[[0 0] [1 3]]",
			"GrowTile":   fmt.Sprint((growTask{k.set, blocks}).grownFrom(0, 3)),
			"lists":      fmt.Sprint([][]int64{{0, 1, 2, 3}, repeated(0, 21), {1, 0, 0, 0}}),
		}
		for name, lists := range results {
			if want := wants[name]; len(lists) < 2 || want != "" && fmt.Sprint(lists) != want {
				t.Errorf("%s = %v, want %s", name, lists, want)
			}
			wantApart(t, name, lists)
			for y := range lists[:cap(lists)] {
				lists[:cap(lists)][y] = nil
			}
		}
		for _, call := range growCalls() {
			call(k, 1, 2)
		}
		if !kept(k.set, text) || !untouched(k.blocks, blocks) || !untouched(rows, small) || !untouched(wide, great) {
			t.Fatalf("an argument is changed, or shares memory with a result")
		}
	}
}

// what counts tiles has ended when a call returns.
func TestNoTileIsCountedLater(t *testing.T) {
	before := runtime.NumGoroutine()
	k := slowest()
	for range 100 {
		for i := range int64(16) {
			impl.NumbersAfter(k.set, k.blocks, i, 20)
		}
	}
	wantNothingRunning(t, before)
}
