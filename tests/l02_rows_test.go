package tests

import (
	"fmt"
	"slices"
	"strings"
	"testing"

	"loop.example/g01354/impl"
)

// extremes are numbers that are never right.
var extremes = []int64{-1 << 63, 1<<63 - 1, -1 << 32, 1 << 32}

// allRows returns all rows of n tiles, in order, tile by tile.
func allRows(set impl.Set, n int) [][]int64 {
	rows := [][]int64{nil}
	for range n {
		var longer [][]int64
		for _, row := range rows {
			for i, a := range set.Tiles {
				if len(row) == 0 || set.Tiles[row[len(row)-1]][2] == a[0] {
					longer = append(longer, append(slices.Clone(row), int64(i)))
				}
			}
		}
		rows = longer
	}
	return rows
}

// wordAt returns the colours of the tiles of a row at a side.
func wordAt(set impl.Set, row []int64, side int) []int64 {
	var word []int64
	for _, i := range row {
		word = append(word, set.Tiles[i][side])
	}
	return word
}

// goesAround reports whether a row is a round.
func goesAround(set impl.Set, row []int64) bool {
	return set.Tiles[row[len(row)-1]][2] == set.Tiles[row[0]][0]
}

// repeated returns a list with a number n times.
func repeated(number int64, n int) []int64 {
	return slices.Repeat([]int64{number}, n)
}

// loops returns tiles that may stand beside each other, of one colour at the west and the east side,
// one north colour, and n south colours.
func loops(colour, north, n int) []string {
	var words []string
	for south := range n {
		words = append(words, fmt.Sprintf("%d%d%d%d", colour, north, colour, south))
	}
	return words
}

// setWith returns the set of c colours with the tiles of some lists.
func setWith(c int, lists ...[]string) impl.Set {
	words := slices.Concat(lists...)
	slices.Sort(words)
	return setOf(fmt.Sprintf("%d:%s", c, strings.Join(words, ",")))
}

func TestLimitsOfRows(t *testing.T) {
	if limits := []int64{impl.MaxLength, impl.MaxWords}; !slices.Equal(limits, []int64{20, 200}) {
		t.Errorf("limits %v", limits)
	}
}

// wantRow checks what is said of a list that may be a row.
func wantRow(t *testing.T, set impl.Set, list []int64, want bool) {
	t.Helper()
	what := fmt.Sprintf("of %s, %v", textOf(set), list)
	got, code := impl.IsRow(set, list)
	if got != want || code != impl.ErrNone {
		t.Errorf("IsRow %s = %v, %d", what, got, code)
	}
	north, south, code := impl.WordsOfRow(set, list)
	if !want {
		wantCode(t, "WordsOfRow (north) "+what, north, code, impl.ErrRange)
		wantCode(t, "WordsOfRow (south) "+what, south, code, impl.ErrRange)
		return
	}
	wantList(t, "WordsOfRow (north) "+what, north, code, wordAt(set, list, 1))
	wantList(t, "WordsOfRow (south) "+what, south, code, wordAt(set, list, 3))
}

// all lists of few numbers are tried, with those of no tile among them.
func TestRows(t *testing.T) {
	for _, text := range sampleTexts() {
		set := setOf(text)
		if len(set.Tiles) > 9 {
			continue
		}
		for n := 1; n <= 3; n++ {
			rows := map[string]bool{}
			for _, row := range allRows(set, n) {
				rows[fmt.Sprint(row)] = true
			}
			base := len(set.Tiles) + 2
			for number := range power(base, n) {
				list := rowsFrom(number, base, 1, n)[0]
				for k := range list {
					list[k]--
				}
				wantRow(t, set, list, rows[fmt.Sprint(list)])
			}
		}
	}
}

func TestLengthsOfRows(t *testing.T) {
	chess, plain := setOf("2:0011,1100"), setOf("1:0000")
	for n := range 25 {
		wantRow(t, chess, chessRows(1, n)[0], n >= 1 && n <= impl.MaxLength)
		wantRow(t, plain, repeated(0, n), n >= 1 && n <= impl.MaxLength)
	}
	wantRow(t, chess, nil, false)
	wantRow(t, chess, make([]int64, 1000), false)
	for k := range impl.MaxLength {
		list := chessRows(1, impl.MaxLength)[0]
		list[k] = 1 - list[k]
		wantRow(t, chess, list, false)
		for _, number := range append(extremes, -1, 2) {
			list[k] = number
			wantRow(t, chess, list, false)
		}
	}
	wantRow(t, setOf("2:"), []int64{0}, false)
	wantRow(t, setOf("2:"), nil, false)
	// a row need not go around, nor fit anything above or below it
	wantRow(t, setOf("3:0112,1220"), []int64{0, 1}, true)
	wantRow(t, setOf("3:0112,1220"), []int64{1, 0}, false)
}

// rows are counted by making them all.
func TestCountsOfRows(t *testing.T) {
	found := 0
	for _, text := range sampleTexts() {
		set := setOf(text)
		for n := 1; n <= 4; n++ {
			rows := allRows(set, n)
			rounds := 0
			for _, row := range rows {
				if goesAround(set, row) {
					rounds++
				}
			}
			found += rounds
			wantCount(t, fmt.Sprintf("CountRows of %s, %d", text, n), int64(len(rows)))(impl.CountRows(set, int64(n)))
			wantCount(t, fmt.Sprintf("CountRounds of %s, %d", text, n), int64(rounds))(impl.CountRounds(set, int64(n)))
		}
	}
	if found < 1000 {
		t.Errorf("only %d rounds", found)
	}
}

// wantCount checks a result that is a number and a code.
func wantCount(t *testing.T, what string, want int64) func(got, code int64) {
	t.Helper()
	return func(got, code int64) {
		t.Helper()
		if got != want || code != impl.ErrNone {
			t.Errorf("%s = %d, %d, want %d", what, got, code, want)
		}
	}
}

// the rows of these sets are counted by short formulas.
func TestCountsOfLongRows(t *testing.T) {
	for n := int64(1); n <= 40; n++ {
		what := fmt.Sprintf(" of %d tiles", n)
		even := 2 * (1 - n%2)
		three := int64(0)
		if n%3 == 0 {
			three = 3
		}
		wantCount(t, "rows of plain"+what, 1)(impl.CountRows(setOf("1:0000"), n))
		wantCount(t, "rounds of plain"+what, 1)(impl.CountRounds(setOf("1:0000"), n))
		wantCount(t, "rows of chess"+what, 2)(impl.CountRows(setOf("2:0011,1100"), n))
		wantCount(t, "rounds of chess"+what, even)(impl.CountRounds(setOf("2:0011,1100"), n))
		wantCount(t, "rows of carry"+what, 2<<n)(impl.CountRows(setOf("2:0000,0011,0101,1110"), n))
		wantCount(t, "rounds of carry"+what, 1<<n+1)(impl.CountRounds(setOf("2:0000,0011,0101,1110"), n))
		wantCount(t, "rows of wheel"+what, 3)(impl.CountRows(setOf("3:0120,1201,2012"), n))
		wantCount(t, "rounds of wheel"+what, three)(impl.CountRounds(setOf("3:0120,1201,2012"), n))
		wantCount(t, "rows without tiles"+what, 0)(impl.CountRows(setOf("6:"), n))
		wantCount(t, "rounds without tiles"+what, 0)(impl.CountRounds(setOf("6:"), n))
	}
}

// 10 tiles of which each may stand beside each have 10^15 rows of 15 tiles, all of them rounds; with
// another tile that fits itself alone there is one more.
func TestGreatestCounts(t *testing.T) {
	const most = 1_000_000_000_000_000
	ten := setWith(5, loops(0, 0, 5), loops(0, 1, 5))
	eleven := setWith(5, loops(0, 0, 5), loops(0, 1, 5), loops(1, 0, 1))
	wantCount(t, "CountRows at the limit", most)(impl.CountRows(ten, 15))
	wantCount(t, "CountRounds at the limit", most)(impl.CountRounds(ten, 15))
	wantCount(t, "CountRows below the limit", most/10+1)(impl.CountRows(eleven, 14))
	wantCount(t, "CountRounds below the limit", most/10+1)(impl.CountRounds(eleven, 14))
	for _, call := range []func(impl.Set, int64) (int64, int64){impl.CountRows, impl.CountRounds} {
		got, code := call(eleven, 15)
		wantCode(t, "a count beyond the limit", got, code, impl.ErrLimit)
		for n := int64(17); n <= 40; n++ {
			got, code = call(setOf(fullTwo), n)
			wantCode(t, fmt.Sprintf("a count for all tiles of two colours, %d", n), got, code, impl.ErrLimit)
		}
	}
	wantCount(t, "CountRows of all tiles", 2<<48)(impl.CountRows(setOf(fullTwo), 16))
	wantCount(t, "CountRounds of all tiles", 1<<48)(impl.CountRounds(setOf(fullTwo), 16))
	// 16 tiles that all fit each other have 16^n rows
	sixteen := setWith(4, loops(0, 0, 4), loops(0, 1, 4), loops(0, 2, 4), loops(0, 3, 4))
	wantCount(t, "CountRows of 16 tiles", 1<<48)(impl.CountRows(sixteen, 12))
	for n := int64(13); n <= 40; n++ {
		got, code := impl.CountRows(sixteen, n)
		wantCode(t, fmt.Sprintf("CountRows of 16 tiles, %d", n), got, code, impl.ErrLimit)
	}
}

func TestCountsErrors(t *testing.T) {
	for _, call := range []func(impl.Set, int64) (int64, int64){impl.CountRows, impl.CountRounds} {
		for _, n := range append(extremes, -1, 0, 41) {
			for _, text := range []string{"1:0000", "2:", fullTwo} {
				got, code := call(setOf(text), n)
				wantCode(t, fmt.Sprintf("a count for %d tiles", n), got, code, impl.ErrRange)
			}
			for _, no := range noSets() {
				got, code := call(no, n)
				wantCode(t, fmt.Sprintf("a count for %v", no), got, code, impl.ErrInvalid)
			}
		}
		for _, no := range noSets() {
			got, code := call(no, 3)
			wantCode(t, fmt.Sprintf("a count for %v", no), got, code, impl.ErrInvalid)
		}
	}
}

func TestRowsOfNoSets(t *testing.T) {
	for _, no := range noSets() {
		for _, list := range [][]int64{nil, {0}, {-1}, repeated(0, 21)} {
			got, code := impl.IsRow(no, list)
			wantCode(t, fmt.Sprintf("IsRow of %v", no), got, code, impl.ErrInvalid)
			north, south, code := impl.WordsOfRow(no, list)
			wantCode(t, fmt.Sprintf("WordsOfRow of %v", no), north, code, impl.ErrInvalid)
			wantCode(t, fmt.Sprintf("WordsOfRow of %v", no), south, code, impl.ErrInvalid)
		}
	}
}

// cyclic reports for each colour whether it lies on a closed way of tiles, or leads to, or comes
// from, one, by the ways between all colours.
func cyclic(set impl.Set) (leads, comes [6]bool) {
	var ways [6][6]bool
	for _, a := range set.Tiles {
		ways[a[0]][a[2]] = true
	}
	for k := range ways {
		for i := range ways {
			for j := range ways {
				ways[i][j] = ways[i][j] || ways[i][k] && ways[k][j]
			}
		}
	}
	for i := range ways {
		for j := range ways {
			onCycle := ways[j][j]
			leads[i] = leads[i] || onCycle && (i == j || ways[i][j])
			comes[i] = comes[i] || onCycle && (i == j || ways[j][i])
		}
	}
	return leads, comes
}

func TestLastingTiles(t *testing.T) {
	texts := sampleTexts()
	d := draw(2)
	for c := 2; c <= impl.MaxColours; c++ {
		for n := 1; n <= 8; n++ {
			texts = append(texts, d.drawnText(c, n), d.drawnText(c, n))
		}
	}
	lasting := 0
	for _, text := range texts {
		set := setOf(text)
		leads, comes := cyclic(set)
		var want []int64
		for i, a := range set.Tiles {
			if comes[a[0]] && leads[a[2]] {
				want = append(want, int64(i))
			}
		}
		got, code := impl.LastingTiles(set)
		wantList(t, "LastingTiles of "+text, got, code, want)
		lasting += len(want)
		if len(got) > 0 {
			continue
		}
		// without lasting tiles there are no long rows
		for n := int64(impl.MaxColours); n <= 40; n++ {
			wantCount(t, "CountRows of "+text, 0)(impl.CountRows(set, n))
		}
	}
	if lasting < 50 {
		t.Errorf("only %d lasting tiles", lasting)
	}
}

func TestLastingTilesOfWays(t *testing.T) {
	cases := []struct {
		text string
		want []int64
	}{
		{"6:", nil},
		{"2:0011", nil},
		{"6:0010,1020,2030,3040,4050", nil}, // a way without an end that lasts
		{"6:0010,1020,2030,3040,4050,5050", []int64{5}}, // ahead of the loop not as many tiles as asked
		{"6:0000,0010,1020,2030,3040,4050", []int64{0}}, // and here behind it
		{"6:0000,0010,1020,2030,3040,4050,5050", []int64{0, 1, 2, 3, 4, 5, 6}},
		{"6:0010,1020,2030,3040,4050,5000", []int64{0, 1, 2, 3, 4, 5}},
		{"3:0010,0100,1000,1020", []int64{0, 1, 2}},
		{"2:0001", []int64{0}}, // what is below or above a tile does not matter
	}
	for _, c := range cases {
		got, code := impl.LastingTiles(setOf(c.text))
		wantList(t, "LastingTiles of "+c.text, got, code, c.want)
	}
	for _, no := range noSets() {
		got, code := impl.LastingTiles(no)
		wantCode(t, fmt.Sprintf("LastingTiles of %v", no), got, code, impl.ErrInvalid)
	}
}

func TestIsDetermined(t *testing.T) {
	yes, no := 0, 0
	for _, text := range sampleTexts() {
		set := setOf(text)
		for corner, at := range [][2]int{{0, 1}, {1, 2}, {2, 3}, {3, 0}} {
			want := true
			for i, a := range set.Tiles {
				for _, b := range set.Tiles[:i] {
					want = want && (a[at[0]] != b[at[0]] || a[at[1]] != b[at[1]])
				}
			}
			got, code := impl.IsDetermined(set, int64(corner))
			if got != want || code != impl.ErrNone {
				t.Errorf("IsDetermined of %s, %d = %v, %d", text, corner, got, code)
			}
			if want {
				yes++
			} else {
				no++
			}
		}
		for _, corner := range append(extremes, -1, 4) {
			got, code := impl.IsDetermined(set, corner)
			wantCode(t, fmt.Sprintf("IsDetermined at %d", corner), got, code, impl.ErrRange)
		}
	}
	if yes < 20 || no < 20 {
		t.Errorf("only %d determined ones, and %d that are not", yes, no)
	}
	for _, set := range noSets() {
		for _, corner := range []int64{-1, 0, 4} {
			got, code := impl.IsDetermined(set, corner)
			wantCode(t, fmt.Sprintf("IsDetermined of %v", set), got, code, impl.ErrInvalid)
		}
	}
}

// two tiles that differ at one side alone are told apart at two corners.
func TestDeterminedCorners(t *testing.T) {
	for side := range 4 {
		set := impl.Set{Colours: 2, Tiles: make([]impl.Tile, 2)}
		set.Tiles[1][side] = 1
		for corner := range int64(4) {
			want := corner == int64(side) || (corner+1)%4 == int64(side)
			got, code := impl.IsDetermined(set, corner)
			if got != want || code != impl.ErrNone {
				t.Errorf("IsDetermined of %s, %d = %v, %d", textOf(set), corner, got, code)
			}
		}
	}
	for corner := range int64(4) {
		if got, code := impl.IsDetermined(setOf("2:"), corner); !got || code != impl.ErrNone {
			t.Errorf("the set without tiles is determined at %d: %v, %d", corner, got, code)
		}
	}
}
