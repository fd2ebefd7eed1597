package tests

import (
	"fmt"
	"testing"

	"loop.example/g01354/impl"
)

func TestNeighbours(t *testing.T) {
	for _, text := range sampleTexts() {
		set := setOf(text)
		for i, a := range set.Tiles {
			var right, below []int64
			for k, b := range set.Tiles {
				if b[0] == a[2] {
					right = append(right, int64(k))
				}
				if b[1] == a[3] {
					below = append(below, int64(k))
				}
			}
			got, code := impl.RightOf(set, int64(i))
			wantList(t, fmt.Sprintf("RightOf %s, %d", text, i), got, code, right)
			got, code = impl.BelowOf(set, int64(i))
			wantList(t, fmt.Sprintf("BelowOf %s, %d", text, i), got, code, below)
		}
	}
	got, code := impl.RightOf(setOf("6:0123"), 0)
	wantList(t, "RightOf a tile without neighbours", got, code, nil)
	got, code = impl.BelowOf(setOf("6:0123"), 0)
	wantList(t, "BelowOf a tile without neighbours", got, code, nil)
}

func TestNeighboursErrors(t *testing.T) {
	for _, f := range []struct {
		name string
		call func(impl.Set, int64) ([]int64, int64)
	}{{"RightOf", impl.RightOf}, {"BelowOf", impl.BelowOf}} {
		for _, text := range sampleTexts() {
			for _, i := range []int64{-1, int64(len(setOf(text).Tiles)), -1 << 63, 1<<63 - 1} {
				got, code := f.call(setOf(text), i)
				wantCode(t, fmt.Sprintf("%s %s, %d", f.name, text, i), got, code, impl.ErrRange)
			}
		}
		for _, no := range noSets() {
			got, code := f.call(no, -1)
			wantCode(t, fmt.Sprintf("%s %v", f.name, no), got, code, impl.ErrInvalid)
		}
	}
}

// fills reports whether rows of numbers of tiles are a filling, place by place.
func fills(set impl.Set, rows [][]int64) bool {
	for y := range rows {
		for x := range rows[y] {
			a := set.Tiles[rows[y][x]]
			if x+1 < len(rows[y]) && set.Tiles[rows[y][x+1]][0] != a[2] {
				return false
			}
			if y+1 < len(rows) && set.Tiles[rows[y+1][x]][1] != a[3] {
				return false
			}
		}
	}
	return true
}

// wordsAround returns the border words of a filling, tile by tile.
func wordsAround(set impl.Set, rows [][]int64) [][]int64 {
	words := make([][]int64, 4)
	h, w := len(rows), len(rows[0])
	for y := range h {
		for x := range w {
			a := set.Tiles[rows[y][x]]
			for side, at := range []bool{x == 0, y == 0, x == w-1, y == h-1} {
				if at {
					words[side] = append(words[side], a[side])
				}
			}
		}
	}
	return words
}

// rowsFrom writes a number with n digits, n the number of tiles, into h rows of w numbers.
func rowsFrom(number, n, h, w int) [][]int64 {
	rows := make([][]int64, h)
	for y := range rows {
		for range w {
			rows[y] = append(rows[y], int64(number%n))
			number /= n
		}
	}
	return rows
}

func power(n, k int) int {
	p := 1
	for range k {
		p *= n
	}
	return p
}

// all rows of a few tiles are tried.
func TestFillings(t *testing.T) {
	sizes := [][2]int{{1, 1}, {1, 2}, {2, 1}, {2, 2}, {1, 3}, {3, 1}, {2, 3}, {3, 2}}
	found := 0
	for _, text := range []string{"1:0000", "2:0011,1100", "2:0001", "3:0120,1201,2012", "2:0000,0011,0101,1110", "2:0000,0101,1010,1111", "3:0102,1200", "6:0123,2301,2325"} {
		set := setOf(text)
		for _, size := range sizes {
			for number := range power(len(set.Tiles), size[0]*size[1]) {
				rows := rowsFrom(number, len(set.Tiles), size[0], size[1])
				what := fmt.Sprintf("of %s, %v", text, rows)
				got, code := impl.IsFilling(set, rows)
				want := fills(set, rows)
				if got != want || code != impl.ErrNone {
					t.Fatalf("IsFilling %s = %v, %d", what, got, code)
				}
				words, code := impl.BordersOf(set, rows)
				if want {
					wantLists(t, "BordersOf "+what, words, code, wordsAround(set, rows))
					found++
				} else {
					wantCode(t, "BordersOf "+what, words, code, impl.ErrState)
				}
			}
		}
	}
	if found < 200 {
		t.Errorf("only %d fillings", found)
	}
}

// the border words of one tile are its colours.
func TestBordersOfOneTile(t *testing.T) {
	for _, text := range sampleTexts() {
		for i, a := range setOf(text).Tiles {
			words, code := impl.BordersOf(setOf(text), [][]int64{{int64(i)}})
			wantLists(t, "BordersOf one tile", words, code, [][]int64{{a[0]}, {a[1]}, {a[2]}, {a[3]}})
		}
	}
}

// chessRows returns rows of the set chess in which neighbours differ.
func chessRows(h, w int) [][]int64 {
	rows := make([][]int64, h)
	for y := range rows {
		for x := range w {
			rows[y] = append(rows[y], int64((x+y)%2))
		}
	}
	return rows
}

func TestFillingsOfAllSizes(t *testing.T) {
	chess := setOf("2:0011,1100")
	for h := range impl.MaxSide + 2 {
		for w := range impl.MaxSide + 2 {
			rows := chessRows(h, w)
			what := fmt.Sprintf("%d rows of %d tiles", h, w)
			yes, code := impl.IsFilling(chess, rows)
			words, second := impl.BordersOf(chess, rows)
			if h < 1 || w < 1 || h > impl.MaxSide || w > impl.MaxSide {
				wantCode(t, "IsFilling of "+what, yes, code, impl.ErrRange)
				wantCode(t, "BordersOf "+what, words, second, impl.ErrRange)
				continue
			}
			if !yes || code != impl.ErrNone {
				t.Errorf("IsFilling of %s = %v, %d", what, yes, code)
			}
			wantLists(t, "BordersOf "+what, words, second, wordsAround(chess, rows))
		}
	}
}

// one wrong tile anywhere in rows of the greatest size makes them none.
func TestOneWrongTile(t *testing.T) {
	chess := setOf("2:0011,1100")
	for y := range impl.MaxSide {
		for x := range impl.MaxSide {
			rows := chessRows(impl.MaxSide, impl.MaxSide)
			rows[y][x] = 1 - rows[y][x]
			if yes, code := impl.IsFilling(chess, rows); yes || code != impl.ErrNone {
				t.Errorf("IsFilling with a wrong tile at %d, %d = %v, %d", y, x, yes, code)
			}
			words, code := impl.BordersOf(chess, rows)
			wantCode(t, "BordersOf with a wrong tile", words, code, impl.ErrState)
		}
	}
}

// badRows are no rows of numbers of two tiles, all of the same length.
func badRows() [][][]int64 {
	return [][][]int64{
		nil, {}, {nil}, {{}}, {{}, {}}, {{0}, nil}, {nil, {0}}, {{0, 1}, {1}}, {{0}, {1, 0}},
		{{2}}, {{-1}}, {{0, 2}}, {{0, 0}, {0, -1}}, {{0, 0}, {2, 0}}, {{1<<63 - 1}}, {{-1 << 63}},
		{{0}, {1}, {0, 1}},
	}
}

func TestFillingsErrors(t *testing.T) {
	set := setOf("2:0011,1100")
	for _, rows := range badRows() {
		yes, code := impl.IsFilling(set, rows)
		wantCode(t, fmt.Sprintf("IsFilling of %v", rows), yes, code, impl.ErrRange)
		words, code := impl.BordersOf(set, rows)
		wantCode(t, fmt.Sprintf("BordersOf %v", rows), words, code, impl.ErrRange)
	}
	yes, code := impl.IsFilling(setOf("2:"), [][]int64{{0}})
	wantCode(t, "IsFilling without tiles", yes, code, impl.ErrRange)
	for _, no := range noSets() {
		for _, rows := range [][][]int64{nil, {{0}}, {{0, 0}}} {
			yes, code := impl.IsFilling(no, rows)
			wantCode(t, fmt.Sprintf("IsFilling for %v", no), yes, code, impl.ErrInvalid)
			words, code := impl.BordersOf(no, rows)
			wantCode(t, fmt.Sprintf("BordersOf for %v", no), words, code, impl.ErrInvalid)
		}
	}
}
