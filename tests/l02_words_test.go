package tests

import (
	"fmt"
	"slices"
	"testing"

	"loop.example/g01354/impl"
)

// overCalls are the functions that take a set and a north word, each with what it returns as lists.
func overCalls() map[string]func(impl.Set, []int64) ([][]int64, int64) {
	return map[string]func(impl.Set, []int64) ([][]int64, int64){
		"CountRowsOver": func(t impl.Set, north []int64) ([][]int64, int64) {
			count, code := impl.CountRowsOver(t, north)
			if count == 0 {
				return nil, code
			}
			return [][]int64{{count}}, code
		},
		"FirstRow": func(t impl.Set, north []int64) ([][]int64, int64) {
			row, code := impl.FirstRow(t, north)
			if len(row) == 0 {
				return nil, code
			}
			return [][]int64{row}, code
		},
		"SouthWords":  impl.SouthWords,
		"SouthRounds": impl.SouthRounds,
	}
}

// sortedWords returns lists in order, each once.
func sortedWords(words [][]int64) [][]int64 {
	words = slices.Clone(words)
	slices.SortFunc(words, slices.Compare[[]int64])
	return slices.CompactFunc(words, slices.Equal[[]int64])
}

// wantOver checks all that is said of a north word, of which rows are all rows.
func wantOver(t *testing.T, set impl.Set, north []int64, rows [][]int64) {
	t.Helper()
	what := fmt.Sprintf("%s, %v", textOf(set), north)
	var words, rounds [][]int64
	for _, row := range rows {
		words = append(words, wordAt(set, row, 3))
		if goesAround(set, row) {
			rounds = append(rounds, wordAt(set, row, 3))
		}
	}
	wantCount(t, "CountRowsOver "+what, int64(len(rows)))(impl.CountRowsOver(set, north))
	first, code := impl.FirstRow(set, north)
	if len(rows) == 0 {
		wantCode(t, "FirstRow "+what, first, code, impl.ErrNotFound)
	} else {
		wantList(t, "FirstRow "+what, first, code, rows[0])
	}
	wantWords(t, "SouthWords "+what, sortedWords(words))(impl.SouthWords(set, north))
	wantWords(t, "SouthRounds "+what, sortedWords(rounds))(impl.SouthRounds(set, north))
}

// wantWords checks a result that is a list of words, which may be too many.
func wantWords(t *testing.T, what string, want [][]int64) func(got [][]int64, code int64) {
	t.Helper()
	return func(got [][]int64, code int64) {
		t.Helper()
		if len(want) > impl.MaxWords {
			wantCode(t, what, got, code, impl.ErrLimit)
		} else {
			wantLists(t, what, got, code, want)
		}
	}
}

// all north words of few colours are tried, and the rows over them are all rows.
func TestRowsOverWords(t *testing.T) {
	found := 0
	for _, text := range sampleTexts() {
		set := setOf(text)
		for n := 1; n <= 4; n++ {
			over := map[string][][]int64{}
			for _, row := range allRows(set, n) {
				key := fmt.Sprint(wordAt(set, row, 1))
				over[key] = append(over[key], row)
			}
			total := int64(0)
			for number := range power(int(set.Colours), n) {
				north := rowsFrom(number, int(set.Colours), 1, n)[0]
				wantOver(t, set, north, over[fmt.Sprint(north)])
				count, _ := impl.CountRowsOver(set, north)
				total += count
				found += len(over[fmt.Sprint(north)])
			}
			wantCount(t, "CountRows of "+text, total)(impl.CountRows(set, int64(n)))
		}
	}
	if found < 10000 {
		t.Errorf("only %d rows", found)
	}
}

// longer words are drawn, for sets with few rows.
func TestRowsOverLongWords(t *testing.T) {
	d := draw(11)
	found := 0
	for _, text := range []string{"2:0011,1100", "2:0000,0011,0101,1110", "2:0000,0101,1010,1111", "3:0120,1201,2012", "2:0000,0111,1011,1100", "4:0011,0112,1020,1130,2001,2110,3000,3111"} {
		set := setOf(text)
		for n := 5; n <= 9; n++ {
			rows := allRows(set, n)
			for range 8 {
				north := wordAt(set, rows[d.below(len(rows))], 1)
				if d.below(3) == 0 {
					north[d.below(n)] = int64(d.below(int(set.Colours)))
				}
				var over [][]int64
				for _, row := range rows {
					if slices.Equal(wordAt(set, row, 1), north) {
						over = append(over, row)
					}
				}
				wantOver(t, set, north, over)
				found += len(over)
			}
		}
	}
	if found < 400 {
		t.Errorf("only %d rows", found)
	}
}

// the set carry adds 1 to a number, or 0, as told by the east colour of the last tile.
func TestCarry(t *testing.T) {
	carry := setOf("2:0000,0011,0101,1110")
	wantWords(t, "SouthWords of 0111", [][]int64{{0, 1, 1, 1}, {1, 0, 0, 0}})(impl.SouthWords(carry, []int64{0, 1, 1, 1}))
	wantWords(t, "SouthRounds of 0111", [][]int64{{0, 1, 1, 1}})(impl.SouthRounds(carry, []int64{0, 1, 1, 1}))
	ones := repeated(1, impl.MaxLength)
	wantWords(t, "SouthWords of ones", [][]int64{repeated(0, impl.MaxLength), ones})(impl.SouthWords(carry, ones))
	wantWords(t, "SouthRounds of ones", [][]int64{repeated(0, impl.MaxLength), ones})(impl.SouthRounds(carry, ones))
	first, code := impl.FirstRow(carry, ones)
	wantList(t, "FirstRow of ones", first, code, repeated(2, impl.MaxLength))
}

// hub has 200 south words below 00011, all of them of rounds.
func hub(more ...string) impl.Set {
	return setWith(6, loops(0, 0, 2), loops(0, 1, 5), more)
}

func TestMostWords(t *testing.T) {
	north := []int64{0, 0, 0, 1, 1}
	for _, call := range []func(impl.Set, []int64) ([][]int64, int64){impl.SouthWords, impl.SouthRounds} {
		words, code := call(hub(), north)
		if code != impl.ErrNone || len(words) != impl.MaxWords || !slices.IsSortedFunc(words, slices.Compare[[]int64]) {
			t.Errorf("%d words, %d", len(words), code)
		}
		for _, word := range words {
			if len(word) != 5 || max(word[0], word[1], word[2]) > 1 || max(word[3], word[4]) > 4 {
				t.Errorf("the word %v", word)
			}
		}
		if len(sortedWords(words)) != len(words) {
			t.Errorf("words stand there twice")
		}
		words, code = call(hub("1015", "1115"), north)
		wantCode(t, "201 words", words, code, impl.ErrLimit)
		// another colour at the west and the east side, and the same words again
		same := slices.Concat(loops(1, 0, 2), loops(1, 1, 5))
		words, code = call(hub(same...), north)
		if code != impl.ErrNone || len(sortedWords(words)) != impl.MaxWords || len(words) != impl.MaxWords {
			t.Errorf("the same words again: %d words, %d", len(words), code)
		}
		for _, n := range []int{9, impl.MaxLength} {
			words, code = call(hub(), repeated(0, n))
			wantCode(t, fmt.Sprintf("words of %d letters", n), words, code, impl.ErrLimit)
		}
	}
	// a word more that is that of no round
	words, code := impl.SouthWords(hub("0125"), north)
	wantCode(t, "SouthWords of more than the rounds", words, code, impl.ErrLimit)
	words, code = impl.SouthRounds(hub("0125"), north)
	if code != impl.ErrNone || len(words) != impl.MaxWords {
		t.Errorf("SouthRounds of 200 words among more: %d words, %d", len(words), code)
	}
}

// rows that would be too many to be made one by one.
func TestManyRows(t *testing.T) {
	var square []string
	for west := range 4 {
		for east := range 4 {
			square = append(square, fmt.Sprintf("%d0%d0", west, east))
		}
	}
	set, zeros := setWith(4, square), repeated(0, impl.MaxLength)
	wantCount(t, "CountRowsOver", 1<<42)(impl.CountRowsOver(set, zeros))
	wantWords(t, "SouthWords", [][]int64{zeros})(impl.SouthWords(set, zeros))
	wantWords(t, "SouthRounds", [][]int64{zeros})(impl.SouthRounds(set, zeros))
	first, code := impl.FirstRow(set, zeros)
	wantList(t, "FirstRow", first, code, zeros)
	// no tile has the last colour
	end := append(repeated(0, impl.MaxLength-1), 1)
	wantOver(t, set, end, nil)
	// six south colours at each place
	set = setWith(6, loops(0, 0, 6))
	wantCount(t, "CountRowsOver of 6^19", 609359740010496)(impl.CountRowsOver(set, zeros[1:]))
	count, code := impl.CountRowsOver(set, zeros)
	wantCode(t, "CountRowsOver of 6^20", count, code, impl.ErrLimit)
	words, code := impl.SouthWords(set, zeros)
	wantCode(t, "SouthWords of 6^20", words, code, impl.ErrLimit)
	words, code = impl.SouthRounds(set, zeros)
	wantCode(t, "SouthRounds of 6^20", words, code, impl.ErrLimit)
}

// more than 10^15 rows are over the word without its last colour, and one over it all.
func TestOneRowOfMany(t *testing.T) {
	var tiles []string
	for west := range 2 {
		tiles = append(tiles, loopsTo(west, 0, 4)...)
		tiles = append(tiles, loopsTo(west, 1, 3)...)
	}
	set := setWith(4, tiles, []string{"2020", "2123"})
	north := append(repeated(0, impl.MaxLength-1), 1)
	row, south := append(repeated(14, 19), 15), append(repeated(0, 19), 3)
	count, code := impl.CountRowsOver(set, repeated(0, 19))
	wantCode(t, "CountRowsOver of all but the last one", count, code, impl.ErrLimit)
	wantOver(t, set, north, [][]int64{row})
	wantWords(t, "SouthWords of one row", [][]int64{south})(impl.SouthWords(set, north))
}

// loopsTo returns n tiles with a west and an east colour, the north colour 0, and south colours.
func loopsTo(west, east, n int) []string {
	var words []string
	for south := range n {
		words = append(words, fmt.Sprintf("%d0%d%d", west, east, south))
	}
	return words
}

func TestLengthsOfWords(t *testing.T) {
	plain := setOf("1:0000")
	for name, call := range overCalls() {
		for n := range 25 {
			got, code := call(plain, repeated(0, n))
			if n < 1 || n > impl.MaxLength {
				wantCode(t, fmt.Sprintf("%s of %d colours", name, n), got, code, impl.ErrRange)
			} else if code != impl.ErrNone || len(got) != 1 {
				t.Errorf("%s of %d colours = %v, %d", name, n, got, code)
			}
		}
		got, code := call(plain, nil)
		wantCode(t, name+" of nothing", got, code, impl.ErrRange)
	}
}

func TestWordsErrors(t *testing.T) {
	for name, call := range overCalls() {
		for _, text := range sampleTexts() {
			set := setOf(text)
			for _, colour := range append(extremes, -1, set.Colours) {
				for k := range 3 {
					north := repeated(0, 3)
					north[k] = colour
					got, code := call(set, north)
					wantCode(t, fmt.Sprintf("%s of %s, %v", name, text, north), got, code, impl.ErrRange)
				}
			}
		}
		for _, no := range noSets() {
			for _, north := range [][]int64{nil, {0}, {7}, repeated(0, 21)} {
				got, code := call(no, north)
				wantCode(t, fmt.Sprintf("%s of %v, %v", name, no, north), got, code, impl.ErrInvalid)
			}
		}
	}
	// ErrRange comes ahead of ErrLimit and ErrNotFound
	for name, call := range overCalls() {
		got, code := call(setWith(6, loops(0, 0, 6)), repeated(0, 21))
		wantCode(t, name+" of 21 colours, of many rows", got, code, impl.ErrRange)
		got, code = call(setOf("2:"), []int64{2})
		wantCode(t, name+" of a wrong colour, without tiles", got, code, impl.ErrRange)
	}
	for _, c := range []int64{1, 6} {
		wantOver(t, impl.Set{Colours: c}, []int64{c - 1}, nil)
		wantOver(t, impl.Set{Colours: c}, repeated(0, impl.MaxLength), nil)
	}
}

func TestRowsKeepArguments(t *testing.T) {
	const text = "2:0000,0011,0101,1110"
	set := marked(text)
	north, row := withSpare([]int64{1, 1, 0, 1}, 77), withSpare([]int64{1, 3, 3}, 77)
	for _, call := range overCalls() {
		lists, code := call(set, north)
		if code != impl.ErrNone || len(lists) == 0 {
			t.Errorf("%v, %d", lists, code)
		}
		fillUp(lists)
	}
	impl.IsRow(set, row)
	first, second, _ := impl.WordsOfRow(set, row)
	fillUp([][]int64{first, second})
	lasting, _ := impl.LastingTiles(set)
	fillUp([][]int64{lasting})
	impl.CountRows(set, 5)
	impl.CountRounds(set, 5)
	impl.IsDetermined(set, 1)
	if !kept(set, text) {
		t.Errorf("the set is changed: %v", set)
	}
	if !slices.Equal(north[:8], []int64{1, 1, 0, 1, 77, 77, 77, 77}) || !slices.Equal(row[:7], []int64{1, 3, 3, 77, 77, 77, 77}) {
		t.Errorf("a list is changed: %v, %v", north[:8], row[:7])
	}
}

// fillUp writes into lists, up to their capacity.
func fillUp(lists [][]int64) {
	for _, list := range lists {
		list = list[:cap(list)]
		for i := range list {
			list[i] = 99
		}
	}
}

// what is written into one list of a result must not reach another one.
func TestWordsShareNothing(t *testing.T) {
	north := []int64{0, 0, 0, 1, 1}
	for _, call := range []func(impl.Set, []int64) ([][]int64, int64){impl.SouthWords, impl.SouthRounds} {
		want, _ := call(hub(), north)
		got, code := call(hub(), north)
		for i := range got {
			wantLists(t, "words behind those that are filled", got[i:], code, want[i:])
			fillUp(got[i : i+1])
		}
	}
	first, second, code := impl.WordsOfRow(setOf("2:0011,1100"), []int64{0, 1, 0})
	fillUp([][]int64{first})
	wantList(t, "the south word beside a north word that is filled", second, code, []int64{1, 0, 1})
}
