package tests

import (
	"fmt"
	"slices"
	"strings"
	"testing"

	"loop.example/g01354/impl"
)

// boardTask asks for boards of h rows and w columns.
type boardTask struct {
	tiles []impl.Tile
	b     int64
	h, w  int
}

func (k boardTask) String() string {
	return fmt.Sprintf("of %v, %d, %d, %d", k.tiles, k.b, k.h, k.w)
}

// inRows returns rows of a width with the elements of a list.
func inRows[T any](list []T, width int) [][]T {
	return slices.Collect(slices.Chunk(slices.Clone(list), width))
}

// ownTiles returns the turned tiles of rows, row by row. It reports whether each tile stands once.
func (k boardTask) ownTiles(rows [][]impl.Placed) ([][]impl.Tile, bool) {
	seen := 0
	turned := make([][]impl.Tile, len(rows))
	for y, row := range rows {
		turned[y] = make([]impl.Tile, 0, len(row))
		for _, p := range row {
			if p.Tile < 0 || p.Tile >= int64(len(k.tiles)) || p.Turn < 0 || p.Turn > 3 {
				return nil, false
			}
			seen |= 1 << p.Tile
			turned[y] = append(turned[y], ownTurned(k.tiles[p.Tile], p.Turn))
		}
	}
	return turned, seen == 1<<len(k.tiles)-1 && len(rows)*len(rows[0]) == len(k.tiles)
}

// isBoard reports whether rows are a board, side by side.
func (k boardTask) isBoard(rows [][]impl.Placed) bool {
	turned, once := k.ownTiles(rows)
	if !once {
		return false
	}
	for y, row := range turned {
		for x, a := range row {
			across := []int64{k.b, k.b, k.b, k.b}
			if x > 0 {
				across[0] = row[x-1][2]
			}
			if y > 0 {
				across[1] = turned[y-1][x][3]
			}
			if x+1 < len(row) {
				across[2] = row[x+1][0]
			}
			if y+1 < len(turned) {
				across[3] = turned[y+1][x][1]
			}
			for side, colour := range across {
				if colour >= 0 && colour != a[side] {
					return false
				}
			}
		}
	}
	return true
}

// allBoards returns the first board and how many there are, of all ways to place the tiles.
func (k boardTask) allBoards() ([][]impl.Placed, int64) {
	var first [][]impl.Placed
	count := int64(0)
	var lay func(list []impl.Placed)
	lay = func(list []impl.Placed) {
		if len(list) == len(k.tiles) {
			if rows := inRows(list, k.w); k.isBoard(rows) {
				count++
				if first == nil {
					first = rows
				}
			}
			return
		}
		for i := range int64(len(k.tiles)) {
			if slices.ContainsFunc(list, func(p impl.Placed) bool { return p.Tile == i }) {
				continue
			}
			for turn := range int64(4) {
				lay(append(list, impl.Placed{Tile: i, Turn: turn}))
			}
		}
	}
	lay(nil)
	return first, count
}

// wantIsBoard checks rows, and their tiles, and reports whether they are a board.
func wantIsBoard(t *testing.T, k boardTask, rows [][]impl.Placed) bool {
	t.Helper()
	want := k.isBoard(rows)
	got, code := impl.IsBoard(k.tiles, k.b, rows)
	if got != want || code != impl.ErrNone {
		t.Errorf("IsBoard %v, %v = %v, %d", k, rows, got, code)
	}
	turned, code := impl.BoardTiles(k.tiles, k.b, rows)
	if !want {
		wantCode(t, fmt.Sprintf("BoardTiles %v, %v", k, rows), turned, code, impl.ErrNotFound)
		return false
	}
	own, _ := k.ownTiles(rows)
	wantLists(t, fmt.Sprintf("BoardTiles %v, %v", k, rows), turned, code, own)
	return true
}

// wantBoards checks the first board, which is none if there is none, and the number of boards.
func wantBoards(t *testing.T, k boardTask, want [][]impl.Placed, count int64) {
	t.Helper()
	wantCount(t, fmt.Sprintf("CountBoards %v", k), count)(impl.CountBoards(k.tiles, k.b, int64(k.h), int64(k.w)))
	first, code := impl.FirstBoard(k.tiles, k.b, int64(k.h), int64(k.w))
	if count == 0 {
		wantCode(t, fmt.Sprintf("FirstBoard %v", k), first, code, impl.ErrNotFound)
		return
	}
	wantLists(t, fmt.Sprintf("FirstBoard %v", k), first, code, want)
	// promise 7: first boards are boards
	if !wantIsBoard(t, k, first) {
		t.Errorf("FirstBoard %v = %v", k, first)
	}
}

// boardSizes are the numbers of rows and columns of all boards of n tiles.
func boardSizes(n int) [][2]int {
	var sizes [][2]int
	for h := 1; h <= n; h++ {
		if n%h == 0 {
			sizes = append(sizes, [2]int{h, n / h})
		}
	}
	return sizes
}

// drawnBoard returns tiles that have a board, for no border colour or one of c, and such a board.
func (d *draw) drawnBoard(c, h, w int) (boardTask, [][]impl.Placed) {
	k := boardTask{make([]impl.Tile, h*w), int64(d.below(c+1) - 1), h, w}
	var order []int64
	for i := range int64(h * w) {
		order = slices.Insert(order, d.below(len(order)+1), i)
	}
	rows, turned := make([][]impl.Placed, h), make([][]impl.Tile, h)
	for y := range h {
		for x := range w {
			a := d.drawnTile(c)
			for side, at := range []bool{x == 0, y == 0, x == w-1, y == h-1} {
				if at && k.b >= 0 {
					a[side] = k.b
				}
			}
			if x > 0 {
				a[0] = turned[y][x-1][2]
			}
			if y > 0 {
				a[1] = turned[y-1][x][3]
			}
			p := impl.Placed{Tile: order[y*w+x], Turn: int64(d.below(4))}
			k.tiles[p.Tile] = ownTurned(a, 4-p.Turn)
			turned[y], rows[y] = append(turned[y], a), append(rows[y], p)
		}
	}
	return k, rows
}

// drawnBoardTasks returns tasks with and without boards, of n tiles.
func (d *draw) drawnBoardTasks(n, times int) []boardTask {
	var tasks []boardTask
	for range times {
		for _, size := range boardSizes(n) {
			c := 1 + d.below(6)
			with, _ := d.drawnBoard(c, size[0], size[1])
			tasks = append(tasks, with, boardTask{d.drawnTiles(c, n), int64(d.below(c+1) - 1), size[0], size[1]})
			few := boardTask{d.drawnTiles(2, n), int64(d.below(3) - 1), size[0], size[1]}
			// a border colour that no tile has
			tasks = append(tasks, few, boardTask{few.tiles, 2 + int64(d.below(4)), few.h, few.w})
		}
	}
	return tasks
}

// all ways to place the tiles are tried.
func TestBoards(t *testing.T) {
	d := draw(73)
	none, some := 0, 0
	for n, times := range []int{0, 60, 60, 40, 20, 5, 0} {
		for _, k := range d.drawnBoardTasks(n, times) {
			first, count := k.allBoards()
			wantBoards(t, k, first, count)
			if count == 0 {
				none++
			} else {
				some++
			}
		}
	}
	if none < 200 || some < 200 {
		t.Errorf("tasks without boards: %d, with boards: %d", none, some)
	}
}

func TestBoardsOfSixTiles(t *testing.T) {
	d := draw(74)
	for _, size := range boardSizes(6) {
		k, rows := d.drawnBoard(3, size[0], size[1])
		if !wantIsBoard(t, k, rows) {
			t.Fatalf("%v has not the board %v", k, rows)
		}
		first, count := k.allBoards()
		wantBoards(t, k, first, count)
	}
}

// compareBoards compares boards of the same size by their places.
func compareBoards(a, b [][]impl.Placed) int {
	return slices.CompareFunc(slices.Concat(a...), slices.Concat(b...), func(p, q impl.Placed) int {
		return slices.Compare([]int64{p.Tile, p.Turn}, []int64{q.Tile, q.Turn})
	})
}

// a first board is found where there is one, and it is not behind that one.
func TestBoardsThatAreMade(t *testing.T) {
	d := draw(75)
	earlier := 0
	for n := 1; n <= 6; n++ {
		for _, size := range boardSizes(n) {
			for c := 1; c <= 6; c++ {
				k, rows := d.drawnBoard(c, size[0], size[1])
				first, code := impl.FirstBoard(k.tiles, k.b, int64(k.h), int64(k.w))
				if code != impl.ErrNone || !k.isBoard(first) || compareBoards(first, rows) > 0 {
					t.Errorf("FirstBoard %v = %v, %d, and there is %v", k, first, code, rows)
				}
				if compareBoards(first, rows) < 0 {
					earlier++
				}
				wantIsBoard(t, k, rows)
				wantIsBoard(t, k, first)
			}
		}
	}
	if earlier < 30 {
		t.Errorf("only %d boards have one before them", earlier)
	}
}

// boards are changed at a place, or at two.
func TestChangedBoards(t *testing.T) {
	d := draw(76)
	still, broken := 0, 0
	for n := 1; n <= 6; n++ {
		for _, size := range boardSizes(n) {
			for range 60 {
				k, rows := d.drawnBoard(1+d.below(4), size[0], size[1])
				first, second := &rows[d.below(k.h)][d.below(k.w)], &rows[d.below(k.h)][d.below(k.w)]
				switch d.below(4) {
				case 0:
					first.Turn = int64(d.below(6) - 1)
				case 1:
					first.Tile = int64(d.below(n+2) - 1)
				case 2:
					*first, *second = *second, *first
				case 3:
					k.b = int64(d.below(7) - 1)
				}
				if wantIsBoard(t, k, rows) {
					still++
				} else {
					broken++
				}
			}
		}
	}
	if still < 100 || broken < 100 {
		t.Errorf("changed boards that are still boards: %d, that are not: %d", still, broken)
	}
}

// all rows of one and of two placed tiles are tried, with numbers that no board has.
func TestRowsOfFewTiles(t *testing.T) {
	var all []impl.Placed
	for i := int64(-1); i <= 2; i++ {
		for turn := int64(-1); turn <= 4; turn++ {
			all = append(all, impl.Placed{Tile: i, Turn: turn})
		}
	}
	boards := 0
	for _, text := range []string{"1:0000", "2:0001", "2:0000,0001", "2:0011,0110", "3:0012,0120", "2:0001,0111"} {
		for b := int64(-1); b < 6; b++ {
			k := boardTask{tiles: setOf(text).Tiles, b: b}
			for _, p := range all {
				rows := [][][]impl.Placed{{{p}}}
				for _, q := range all {
					rows = append(rows, [][]impl.Placed{{p, q}}, [][]impl.Placed{{p}, {q}})
				}
				for _, own := range rows {
					if wantIsBoard(t, k, own) {
						boards++
					}
				}
			}
		}
	}
	if boards < 50 {
		t.Errorf("only %d boards", boards)
	}
}

// rows of any size are asked: they are no board if they have not as many places as there are tiles.
func TestRowsOfOtherSizes(t *testing.T) {
	for n := 1; n <= 6; n++ {
		for h := 1; h <= 8; h++ {
			for w := 1; w <= 8; w++ {
				k := boardTask{make([]impl.Tile, n), 0, h, w}
				var list []impl.Placed
				for i := range h * w {
					list = append(list, impl.Placed{Tile: int64(i % n)})
				}
				if wantIsBoard(t, k, inRows(list, w)) != (h*w == n) {
					t.Errorf("%d tiles in %d rows and %d columns", n, h, w)
				}
			}
		}
	}
	// a row that stands very often has more places than can be listed
	wide := slices.Repeat([][]impl.Placed{make([]impl.Placed, 1<<20)}, 1<<20)
	yes, code := impl.IsBoard(make([]impl.Tile, 6), 0, wide)
	if yes || code != impl.ErrNone {
		t.Errorf("IsBoard of many places = %v, %d", yes, code)
	}
	turned, code := impl.BoardTiles(make([]impl.Tile, 6), 0, wide)
	wantCode(t, "BoardTiles of many places", turned, code, impl.ErrNotFound)
}

// each number of a placed tile is asked, also where the other ones are as they should be.
func TestPlacedNumbers(t *testing.T) {
	k := boardTask{make([]impl.Tile, 6), 0, 2, 3}
	for at := range 6 {
		for _, number := range append(extremes, -1, 6, 1<<32+3) {
			var list []impl.Placed
			for i := range int64(6) {
				list = append(list, impl.Placed{Tile: i, Turn: i % 4})
			}
			if !wantIsBoard(t, k, inRows(list, 3)) {
				t.Errorf("%v is a board", list)
			}
			turned := slices.Clone(list)
			turned[at].Turn = number
			list[at].Tile = number
			if wantIsBoard(t, k, inRows(list, 3)) || wantIsBoard(t, k, inRows(turned, 3)) {
				t.Errorf("%d is the number of no tile, and of no turn", number)
			}
		}
	}
}

// placed returns a board with tiles and turns given in turn, row by row.
func placed(w int, numbers ...int64) [][]impl.Placed {
	var list []impl.Placed
	for pair := range slices.Chunk(numbers, 2) {
		list = append(list, impl.Placed{Tile: pair[0], Turn: pair[1]})
	}
	return inRows(list, w)
}

func TestKnownBoards(t *testing.T) {
	cases := []struct {
		tiles []impl.Tile
		b     int64
		h     int
		first [][]impl.Placed
		count int64
	}{
		// of a tile, the turns are different boards, also where they are equal
		{[]impl.Tile{{5, 5, 5, 5}}, -1, 1, placed(1, 0, 0), 4},
		{[]impl.Tile{{5, 5, 5, 5}}, 5, 1, placed(1, 0, 0), 4},
		{[]impl.Tile{{5, 5, 5, 5}}, 4, 1, nil, 0},
		{[]impl.Tile{{0, 1, 2, 3}}, -1, 1, placed(1, 0, 0), 4},
		{[]impl.Tile{{0, 1, 2, 3}}, 0, 1, nil, 0},
		// two tiles with a colour in common stand in two orders, and one below the other one, too
		{[]impl.Tile{{0, 1, 2, 5}, {3, 5, 4, 4}}, -1, 1, placed(2, 0, 3, 1, 3), 2},
		{[]impl.Tile{{0, 1, 2, 5}, {3, 5, 4, 4}}, -1, 2, placed(1, 0, 0, 1, 0), 2},
		{[]impl.Tile{{0, 1, 2, 5}, {3, 4, 4, 4}}, -1, 2, nil, 0},
		// equal tiles are different ones by their numbers
		{[]impl.Tile{{0, 0, 0, 1}, {0, 0, 0, 1}}, 0, 1, placed(2, 0, 3, 1, 1), 2},
		{[]impl.Tile{{0, 0, 0, 1}, {0, 0, 0, 1}}, 0, 2, placed(1, 0, 0, 1, 2), 2},
		{[]impl.Tile{{0, 0, 0, 1}, {0, 0, 0, 1}}, 1, 2, nil, 0},
		{[]impl.Tile{{0, 0, 0, 1}, {0, 0, 0, 1}}, -1, 1, placed(2, 0, 0, 1, 0), 20},
		// the first tile does not stand first
		{[]impl.Tile{{1, 0, 1, 0}, {0, 0, 0, 1}, {0, 1, 0, 0}}, 0, 1, placed(3, 1, 3, 0, 0, 2, 3), 4},
		{[]impl.Tile{{1, 0, 1, 0}, {0, 0, 0, 1}, {0, 1, 0, 0}}, 0, 3, placed(1, 1, 0, 0, 1, 2, 0), 4},
		// four corners with four colours between them, in four directions
		{[]impl.Tile{{0, 0, 1, 4}, {1, 0, 0, 2}, {0, 4, 3, 0}, {3, 2, 0, 0}}, 0, 2, placed(2, 0, 0, 1, 0, 2, 0, 3, 0), 4},
		{[]impl.Tile{{3, 2, 0, 0}, {0, 4, 3, 0}, {0, 0, 2, 1}, {0, 0, 1, 4}}, 0, 2, placed(2, 0, 2, 1, 2, 2, 3, 3, 2), 4},
		{[]impl.Tile{{3, 2, 0, 0}, {0, 4, 3, 0}, {0, 0, 1, 2}, {0, 0, 1, 4}}, 0, 2, nil, 0},
	}
	for _, c := range cases {
		k := boardTask{c.tiles, c.b, c.h, len(c.tiles) / c.h}
		wantBoards(t, k, c.first, c.count)
		if first, count := k.allBoards(); count != c.count || compareBoards(first, c.first) != 0 {
			t.Errorf("boards %v: %v, %d", k, first, count)
		}
	}
}

// all orders and turns are boards if all sides have the same colour.
func TestGreatestNumbersOfBoards(t *testing.T) {
	count := int64(1)
	for n := 1; n <= 6; n++ {
		count *= int64(4 * n)
		var list []impl.Placed
		for i := range int64(n) {
			list = append(list, impl.Placed{Tile: i})
		}
		tiles := slices.Repeat([]impl.Tile{{5, 5, 5, 5}}, n)
		for _, size := range boardSizes(n) {
			first := inRows(list, size[1])
			for b := int64(-1); b < 6; b++ {
				k := boardTask{tiles, b, size[0], size[1]}
				if b == -1 || b == 5 {
					wantBoards(t, k, first, count)
				} else {
					wantBoards(t, k, nil, 0)
				}
			}
		}
	}
	if count != 2949120 {
		t.Errorf("%d boards", count)
	}
}

// boards that are turned or mirrored are boards of the same tiles, and of mirrored ones.
func TestMovedBoards(t *testing.T) {
	d := draw(77)
	for n := 1; n <= 6; n++ {
		for _, size := range boardSizes(n) {
			for range 6 {
				k, _ := d.drawnBoard(3, size[0], size[1])
				count, code := impl.CountBoards(k.tiles, k.b, int64(k.h), int64(k.w))
				if code != impl.ErrNone || count == 0 || count%2 > 0 {
					t.Errorf("CountBoards %v = %d, %d", k, count, code)
				}
				wantCount(t, fmt.Sprintf("CountBoards %v, turned", k), count)(impl.CountBoards(k.tiles, k.b, int64(k.w), int64(k.h)))
				var mirrored []impl.Tile
				for i, a := range k.tiles {
					mirrored = append(mirrored, ownTurned(impl.Tile{a[2], a[1], a[0], a[3]}, int64(i)))
				}
				slices.Reverse(mirrored)
				wantCount(t, fmt.Sprintf("CountBoards %v, mirrored", k), count)(impl.CountBoards(mirrored, k.b, int64(k.h), int64(k.w)))
			}
		}
	}
}

// boardCalls are the functions of tiles, a border colour and a size, or rows of this size.
func boardCalls() map[string]func(k boardTask, h, w int64) (any, int64) {
	return map[string]func(k boardTask, h, w int64) (any, int64){
		"FirstBoard": func(k boardTask, h, w int64) (any, int64) {
			rows, code := impl.FirstBoard(k.tiles, k.b, h, w)
			return rows, code
		},
		"CountBoards": func(k boardTask, h, w int64) (any, int64) {
			count, code := impl.CountBoards(k.tiles, k.b, h, w)
			return count, code
		},
		"IsBoard": func(k boardTask, h, w int64) (any, int64) {
			yes, code := impl.IsBoard(k.tiles, k.b, k.zeros(h, w))
			return yes, code
		},
		"BoardTiles": func(k boardTask, h, w int64) (any, int64) {
			turned, code := impl.BoardTiles(k.tiles, k.b, k.zeros(h, w))
			return turned, code
		},
	}
}

// zeros returns rows of unturned tiles in order.
func (k boardTask) zeros(h, w int64) [][]impl.Placed {
	var list []impl.Placed
	for i := range h * w {
		list = append(list, impl.Placed{Tile: i})
	}
	return inRows(list, int(w))
}

func TestErrorsOfBoardTiles(t *testing.T) {
	for name, call := range boardCalls() {
		for n := 1; n <= 6; n++ {
			k := boardTask{make([]impl.Tile, n), 0, 1, n}
			for _, b := range append(extremes, -2, 6) {
				bad := k
				bad.b = b
				got, code := call(bad, 1, int64(n))
				wantCode(t, fmt.Sprintf("%s %v", name, bad), got, code, impl.ErrRange)
			}
			for _, a := range badTiles() {
				for at := range n {
					for b := int64(-1); b < 2; b++ {
						bad := boardTask{slices.Clone(k.tiles), b, 1, n}
						bad.tiles[at] = a
						got, code := call(bad, 1, int64(n))
						wantCode(t, fmt.Sprintf("%s %v", name, bad), got, code, impl.ErrRange)
					}
				}
			}
			for b := int64(-1); b < 6; b++ {
				k.b = b
				if _, code := call(k, 1, int64(n)); code == impl.ErrRange {
					t.Errorf("%s %v: code %d", name, k, code)
				}
			}
		}
		for _, n := range []int{0, 7, 8, 100} {
			for _, size := range append(boardSizes(n), [2]int{1, 1}, [2]int{2, 3}) {
				for b := int64(-1); b < 2; b++ {
					bad := boardTask{make([]impl.Tile, n), b, size[0], size[1]}
					got, code := call(bad, int64(size[0]), int64(size[1]))
					wantCode(t, fmt.Sprintf("%s %v", name, bad), got, code, impl.ErrRange)
				}
			}
		}
	}
}

func TestErrorsOfBoardSizes(t *testing.T) {
	numbers := append([]int64{-6, -3, -2, -1, 0, 1, 2, 3, 4, 5, 6, 7, 1 << 62, 1<<62 + 1, 1 << 61}, extremes...)
	for n := range 7 {
		for _, h := range numbers {
			for _, w := range numbers {
				// ahead of the error that there is no board
				for _, b := range []int64{-1, 0, 1} {
					tiles := make([]impl.Tile, n)
					what := fmt.Sprintf("of %d tiles, %d, %d, %d", n, b, h, w)
					first, code := impl.FirstBoard(tiles, b, h, w)
					count, second := impl.CountBoards(tiles[:min(n, 4)], b, h, w)
					if n == 0 || h < 1 || w < 1 || h > 6 || w > 6 || h*w != int64(n) {
						wantCode(t, "FirstBoard "+what, first, code, impl.ErrRange)
						if n <= 4 {
							wantCode(t, "CountBoards "+what, count, second, impl.ErrRange)
						}
						continue
					}
					if b == 1 {
						wantCode(t, "FirstBoard "+what, first, code, impl.ErrNotFound)
					} else if code != impl.ErrNone {
						t.Errorf("FirstBoard %s: code %d", what, code)
					}
					if n <= 4 && second != impl.ErrNone {
						t.Errorf("CountBoards %s: code %d", what, second)
					}
				}
			}
		}
	}
}

// rows that are none, and rows of different lengths, are asked ahead of what stands in them.
func TestErrorsOfBoardRows(t *testing.T) {
	one := impl.Placed{}
	two := impl.Placed{Tile: 1}
	none := impl.Placed{Tile: -1, Turn: 4}
	bad := [][][]impl.Placed{
		nil, {}, {nil}, {{}}, {{}, {}}, {{one}, nil}, {nil, {one}}, {{one}, {}}, {{}, {one, two}},
		{{one, two}, {one}}, {{one}, {two, one}}, {{one}, {two}, {}}, {{one, two}, {}}, {{none}, {none, none}},
		{{one}, {two}, {one}, {two}, {one}, {two}, {one}, {two, one}},
	}
	for _, rows := range bad {
		for n := range 8 {
			for b := int64(-2); b < 7; b++ {
				what := fmt.Sprintf("of %d tiles, %d, %v", n, b, rows)
				yes, code := impl.IsBoard(make([]impl.Tile, n), b, rows)
				wantCode(t, "IsBoard "+what, yes, code, impl.ErrRange)
				turned, code := impl.BoardTiles(make([]impl.Tile, n), b, rows)
				wantCode(t, "BoardTiles "+what, turned, code, impl.ErrRange)
			}
		}
	}
	// what is not as told is asked ahead of what is no board
	for _, rows := range [][][]impl.Placed{{{none}}, {{one, one}}, {{one, two}}} {
		for _, b := range []int64{-2, 6} {
			turned, code := impl.BoardTiles(make([]impl.Tile, 2), b, rows)
			wantCode(t, "BoardTiles of no board", turned, code, impl.ErrRange)
		}
		turned, code := impl.BoardTiles([]impl.Tile{{6, 0, 0, 0}, {}}, 0, rows)
		wantCode(t, "BoardTiles of no tiles", turned, code, impl.ErrRange)
	}
}

// whole shows all that is in lists, up to their capacity.
func whole[T any](lists [][]T) string {
	var words []string
	for _, list := range lists[:cap(lists)] {
		words = append(words, fmt.Sprint(list[:cap(list)]))
	}
	return strings.Join(words, ";")
}

func TestBoardsShareNothing(t *testing.T) {
	d := draw(78)
	for _, size := range [][2]int{{1, 4}, {2, 2}, {2, 3}, {3, 2}, {6, 1}} {
		k, board := d.drawnBoard(2, size[0], size[1])
		spare := impl.Placed{Tile: 77, Turn: 77}
		var rows [][]impl.Placed
		for _, row := range board {
			rows = append(rows, withSpare(row, spare))
		}
		rows = withSpare(rows, []impl.Placed{spare})
		k.tiles = withSpare(k.tiles, mark)
		before, tilesBefore := whole(rows), whole([][]impl.Tile{k.tiles})
		h, w := int64(k.h), int64(k.w)
		for range 2 {
			first, code := impl.FirstBoard(k.tiles, k.b, h, w)
			turned, second := impl.BoardTiles(k.tiles, k.b, rows)
			own, _ := k.ownTiles(rows)
			wantLists(t, fmt.Sprintf("BoardTiles %v", k), turned, second, own)
			if code != impl.ErrNone || !k.isBoard(first) {
				t.Errorf("FirstBoard %v = %v, %d", k, first, code)
			}
			impl.IsBoard(k.tiles, k.b, rows)
			impl.CountBoards(k.tiles, k.b, h, w)
			wantListsApart(t, "FirstBoard", first, spare)
			wantListsApart(t, "BoardTiles", turned, mark)
			if whole(rows) != before || whole([][]impl.Tile{k.tiles}) != tilesBefore {
				t.Fatalf("an argument is changed, or shares memory with a result")
			}
		}
	}
}
