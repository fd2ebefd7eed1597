package tests

import (
	"fmt"
	"maps"
	"slices"
	"testing"

	"loop.example/g01354/impl"
)

// wordsOver returns the north words of n colours of the rows above a word, or of all rows if this is
// nil, as texts. Words are kept with the colours at the east ends of their rows.
func wordsOver(set impl.Set, n int, below []int64) map[string]int {
	words := map[string]int{"": 1<<impl.MaxColours - 1}
	for k := range n {
		longer := map[string]int{}
		for word, ends := range words {
			for _, a := range set.Tiles {
				if ends>>a[0]&1 == 1 && (below == nil || a[3] == below[k]) {
					longer[word+string(rune('0'+a[1]))] |= 1 << a[2]
				}
			}
		}
		words = longer
	}
	return words
}

// ownTraces returns the traces of n colours of the heights 1, 2 and 3, row by row: those of a height
// are the north words above traces of the height below. It leaves off above a height with many.
func ownTraces(set impl.Set, n int) [][][]int64 {
	traces := [][][]int64{digitLists(slices.Sorted(maps.Keys(wordsOver(set, n, nil))))}
	for len(traces) < 3 && len(traces[len(traces)-1]) <= 300 {
		words := map[string]int{}
		for _, below := range traces[len(traces)-1] {
			maps.Copy(words, wordsOver(set, n, below))
		}
		traces = append(traces, digitLists(slices.Sorted(maps.Keys(words))))
	}
	return traces
}

func hasWord(words [][]int64, word []int64) bool {
	_, found := slices.BinarySearchFunc(words, word, slices.Compare)
	return found
}

// traceTexts are texts of sets of all kinds, such with different traces of different heights among
// them.
func traceTexts() []string {
	texts := append(stripTexts(), "2:0000,0111,1000", "2:0000,0111,1101", "3:0001,0102", "4:0001,0102,0203", "3:0001,0012,0102,1200")
	d := draw(101)
	for range 60 {
		texts = append(texts, d.drawnText(2+d.below(2), 3+d.below(6)), d.drawnText(3+d.below(4), 6+d.below(11)))
	}
	return texts
}

func TestLimitsOfTraces(t *testing.T) {
	if limits := []int64{impl.MaxTrace, impl.MaxCounted}; !slices.Equal(limits, []int64{8, 1000}) {
		t.Errorf("limits %v", limits)
	}
}

// wantTraces checks the list, the number, and some of the traces of a height.
func wantTraces(t *testing.T, set impl.Set, h, n int, want [][]int64) {
	t.Helper()
	what := fmt.Sprintf(" of %s, %d, %d", textOf(set), h, n)
	wantWords(t, "TraceWords"+what, want)(impl.TraceWords(set, int64(h), int64(n)))
	count, code := impl.CountTraces(set, int64(h), int64(n))
	if len(want) > 1000 {
		wantCode(t, "CountTraces"+what, count, code, impl.ErrLimit)
	} else {
		wantCount(t, "CountTraces"+what, int64(len(want)))(count, code)
	}
	words := power(int(set.Colours), n)
	for number := 0; number < words; number += 1 + words/9 {
		word := rowsFrom(number, int(set.Colours), 1, n)[0]
		wantAnswer(t, fmt.Sprintf("IsTrace%s, %v", what, word), hasWord(want, word))(impl.IsTrace(set, int64(h), word))
	}
	for k := 0; k < len(want); k += 1 + len(want)/4 {
		wantAnswer(t, fmt.Sprintf("IsTrace%s, %v", what, want[k]), true)(impl.IsTrace(set, int64(h), want[k]))
	}
}

// wantStable checks the least stable height, for which not all traces need to be told.
func wantStable(t *testing.T, set impl.Set, n int, traces [][][]int64) string {
	t.Helper()
	what := fmt.Sprintf("StableHeight of %s, %d", textOf(set), n)
	height, code := impl.StableHeight(set, int64(n))
	switch {
	case len(traces[0]) > impl.MaxWords:
		wantCode(t, what, height, code, impl.ErrLimit)
		if len(traces) == 3 && len(traces[1]) <= impl.MaxWords {
			return "many of height 1 alone"
		}
		return "many"
	case equalRows(traces[0], traces[1]):
		wantCount(t, what, 1)(height, code)
		return "1"
	case equalRows(traces[1], traces[2]):
		wantCount(t, what, 2)(height, code)
		if len(traces[1]) > 0 {
			return "2 with traces"
		}
		return "2"
	}
	wantCode(t, what, height, code, impl.ErrNotFound)
	return "none"
}

// traces are compared with those that are made row by row.
func TestTraces(t *testing.T) {
	found := map[string]int{}
	for i, text := range traceTexts() {
		set := setOf(text)
		for n := 1 + i%2; n <= 8; n += 2 {
			traces := ownTraces(set, n)
			for k, words := range traces {
				wantTraces(t, set, k+1, n, words)
				switch {
				case len(words) > 1000:
					found["great numbers"]++
				case len(words) > 200:
					found["long lists"]++
				}
				if k > 0 && 0 < len(words) && len(words) < len(traces[k-1]) {
					found[fmt.Sprint("fewer of height ", k+1)]++
				}
			}
			found["stable: "+wantStable(t, set, n, traces)]++
			if len(traces[0]) > 1000 {
				break
			}
		}
	}
	for _, kind := range []string{"great numbers", "long lists", "fewer of height 2", "fewer of height 3", "stable: 1",
		"stable: 2", "stable: 2 with traces", "stable: none", "stable: many", "stable: many of height 1 alone"} {
		if found[kind] < 10 {
			t.Errorf("%s: %d", kind, found[kind])
		}
	}
}

// powersOf returns the numbers of words of 1, 2, .., 8 colours.
func powersOf(c int) []int {
	var numbers []int
	for n := 1; n <= 8; n++ {
		numbers = append(numbers, power(c, n))
	}
	return numbers
}

func TestKnownTraces(t *testing.T) {
	none, two := make([]int, 8), []int{2, 2, 2, 2, 2, 2, 2, 2}
	cases := []struct {
		text string
		// counts are for each height those of traces of 1, 2, .., 8 colours.
		counts [3][]int
	}{
		{"1:", [3][]int{none, none, none}},
		{"6:", [3][]int{none, none, none}},
		{"1:0000", [3][]int{powersOf(1), powersOf(1), powersOf(1)}},
		{"2:0011,1100", [3][]int{two, two, two}},
		{"2:0000,0101,1010,1111", [3][]int{powersOf(2), powersOf(2), powersOf(2)}},
		{"2:0000,0111,1011,1100", [3][]int{powersOf(2), powersOf(2), powersOf(2)}},
		{"2:0001", [3][]int{powersOf(1), none, none}},
		{"3:0120,1201,2012", [3][]int{{3, 3, 3, 3, 3, 3, 3, 3}, {3, 3, 3, 3, 3, 3, 3, 3}, {3, 3, 3, 3, 3, 3, 3, 3}}},
		{fullTwo, [3][]int{powersOf(2), powersOf(2), powersOf(2)}},
		// no two ones beside each other
		{"2:0000,0111,1000", [3][]int{{2, 3, 5, 8, 13, 21, 34, 55}, {2, 3, 5, 8, 13, 21, 34, 55}, {2, 3, 5, 8, 13, 21, 34, 55}}},
		// a colour more above each row
		{"3:0001,0102", [3][]int{powersOf(2), powersOf(1), none}},
		{"4:0001,0102,0203", [3][]int{{3, 9, 27, 81, 243, 729, 2187, 6561}, powersOf(2), powersOf(1)}},
	}
	for _, c := range cases {
		set := setOf(c.text)
		for h := 1; h <= 3; h++ {
			for n := 1; n <= 8; n++ {
				what := fmt.Sprintf("CountTraces of %s, %d, %d", c.text, h, n)
				want := c.counts[h-1][n-1]
				count, code := impl.CountTraces(set, int64(h), int64(n))
				if want > 1000 {
					wantCode(t, what, count, code, impl.ErrLimit)
				} else {
					wantCount(t, what, int64(want))(count, code)
				}
			}
		}
	}
	words, code := impl.TraceWords(setOf("2:0011,1100"), 3, 4)
	wantLists(t, "TraceWords of chess", words, code, [][]int64{{0, 1, 0, 1}, {1, 0, 1, 0}})
	words, code = impl.TraceWords(setOf("3:0120,1201,2012"), 2, 3)
	wantLists(t, "TraceWords of wheel", words, code, [][]int64{{0, 2, 1}, {1, 0, 2}, {2, 1, 0}})
	words, code = impl.TraceWords(setOf("2:0000,0111,1000"), 1, 2)
	wantLists(t, "TraceWords without ones", words, code, [][]int64{{0, 0}, {0, 1}, {1, 0}})
}

// striped returns a set whose tiles have the colour at the north at the south, too, so that it has the
// same traces of all heights.
func striped(set impl.Set) impl.Set {
	var tiles []impl.Tile
	for _, a := range set.Tiles {
		tiles = append(tiles, impl.Tile{a[0], a[1], a[2], a[1]})
	}
	return impl.Set{Colours: set.Colours, Tiles: slices.Compact(inOrder(tiles))}
}

// 200 traces are told, and 1000 are counted, but not one more. Sets were found by search.
func TestMostTraces(t *testing.T) {
	cases := []struct {
		text        string
		h, n, count int
	}{
		{"3:0012,0022,0102,1111,1122,1201,1211,2021,2220", 1, 5, 201},
		{"3:0012,0022,0102,1111,1122,1201,1211,2021,2220", 2, 5, 200},
		{"3:0012,0022,0102,1111,1122,1201,1211,2021,2220", 3, 5, 200},
		{"3:0002,0022,0112,0222,1000,1012,1020,1022,2002,2020,2101,2102,2210,2211,2222", 3, 5, 201},
		{"6:1120,1450,2154,2402,3251,3343,4043,5035,5253,5354,5523", 2, 8, 201},
		{"4:0231,1333,2130,2320,3023,3310,3312", 1, 7, 200},
		{"4:0001,0100,0101,0301,1133,1202,2021,2022,2032,2113,2123,2330,3221,3310", 1, 4, 200},
		{"5:0121,0233,1113,1124,1441,2000,2111,2120,2143,3102,4204,4240,4404", 1, 7, 1000},
		{"4:0110,0301,0330,1003,1103,2001,3023", 1, 8, 1000},
		{"3:0110,0122,1101,1202,1211,1221,2020,2021,2111,2200", 2, 7, 1000},
		{"3:0110,0122,1101,1202,1211,1221,2020,2021,2111,2200", 3, 7, 1000},
		{"4:0121,0201,0211,1111,2030,2201,2221,2231,3200,3230,3303,3310", 1, 7, 1001},
		{"6:0145,0432,1052,1220,1504,2043,2155,2301,2525,3043,3342,3405,4335,4531,5141", 1, 6, 1001},
		{"5:0013,0410,2130,2342,3030,3044,3333,3421,4022,4110", 2, 8, 1001},
		// there are many of fewer colours, and most of these do not go on
		{"6:0245,0445,0502,1253,1404,2235,2342,2535,3532,4042,4104,4222,4335,4435,4542,5205", 2, 5, 1416},
		{"6:0245,0445,0502,1253,1404,2235,2342,2535,3532,4042,4104,4222,4335,4435,4542,5205", 2, 8, 88},
		{"5:0213,1004,1222,1323,1422,2033,2143,2243,3014,3210,3330,3410,4010,4022,4302,4440", 3, 6, 1102},
		{"5:0213,1004,1222,1323,1422,2033,2143,2243,3014,3210,3330,3410,4010,4022,4302,4440", 3, 8, 42},
	}
	for _, c := range cases {
		set := setOf(c.text)
		wantMany(t, set, c.h, c.n, c.count)
		if c.h > 1 {
			continue
		}
		for h := 1; h <= 3; h++ {
			wantMany(t, striped(set), h, c.n, c.count)
		}
		height, code := impl.StableHeight(striped(set), int64(c.n))
		if c.count > 200 {
			wantCode(t, fmt.Sprintf("StableHeight with %d traces", c.count), height, code, impl.ErrLimit)
		} else {
			wantCount(t, fmt.Sprintf("StableHeight with %d traces", c.count), 1)(height, code)
		}
	}
	for n, count := range powersOf(6) {
		for h := 1; h <= 3; h++ {
			wantMany(t, setWith(6, loopsOver(0, 6)), h, n+1, count)
		}
	}
}

// loopsOver returns n tiles that may stand beside each other and above themselves, with different
// north colours.
func loopsOver(colour, n int) []string {
	var words []string
	for north := range n {
		words = append(words, fmt.Sprintf("%d%d%d%d", colour, north, colour, north))
	}
	return words
}

// wantMany checks what is said where there are many traces.
func wantMany(t *testing.T, set impl.Set, h, n, count int) {
	t.Helper()
	what := fmt.Sprintf(" of %s, %d, %d", textOf(set), h, n)
	words, code := impl.TraceWords(set, int64(h), int64(n))
	if count > 200 {
		wantCode(t, "TraceWords"+what, words, code, impl.ErrLimit)
	} else if code != impl.ErrNone || len(words) != count || !equalRows(words, sortedWords(words)) {
		t.Errorf("TraceWords%s: %d words, %d", what, len(words), code)
	}
	got, code := impl.CountTraces(set, int64(h), int64(n))
	if count > 1000 {
		wantCode(t, "CountTraces"+what, got, code, impl.ErrLimit)
	} else {
		wantCount(t, "CountTraces"+what, int64(count))(got, code)
	}
	for k, pair := range [][2]impl.Set{{set, set}, {set, setOf("1:")}, {setOf("1:"), set}} {
		same, code := impl.SameTraces(pair[0], pair[1], int64(h), int64(n))
		if count > 200 {
			wantCode(t, "SameTraces"+what, same, code, impl.ErrLimit)
		} else {
			wantAnswer(t, "SameTraces"+what, k == 0 || count == 0)(same, code)
		}
	}
}

// setsBeside returns sets that may have the same traces as a set, and others.
func setsBeside(d *draw, set impl.Set) []impl.Set {
	c := int(set.Colours)
	sets := []impl.Set{striped(set), setOf(d.drawnText(c, 1+d.below(16)))}
	if n := len(set.Tiles); n > 0 {
		k := d.below(n)
		sets = append(sets, impl.Set{Colours: set.Colours, Tiles: slices.Concat(set.Tiles[:k], set.Tiles[k+1:])})
		changed := slices.Clone(set.Tiles)
		changed[k][d.below(4)] = int64(d.below(c))
		sets = append(sets, impl.Set{Colours: set.Colours, Tiles: slices.Compact(inOrder(changed))})
	}
	if c < impl.MaxColours {
		sets = append(sets, impl.Set{Colours: set.Colours + 1, Tiles: set.Tiles})
	}
	return sets
}

func TestSameTraces(t *testing.T) {
	d := draw(103)
	same, others := [3]int{}, [3]int{}
	for _, text := range traceTexts() {
		set := setOf(text)
		for _, other := range setsBeside(&d, set) {
			n := 1 + d.below(4)
			first, second := ownTraces(set, n), ownTraces(other, n)
			for k := range min(len(first), len(second)) {
				what := fmt.Sprintf("SameTraces of %s and %s, %d, %d", text, textOf(other), k+1, n)
				got, code := impl.SameTraces(set, other, int64(k+1), int64(n))
				if len(first[k]) > impl.MaxWords || len(second[k]) > impl.MaxWords {
					wantCode(t, what, got, code, impl.ErrLimit)
					continue
				}
				wantAnswer(t, what, equalRows(first[k], second[k]))(got, code)
				if !got {
					others[k]++
				} else if len(first[k]) > 0 {
					same[k]++
				}
			}
		}
	}
	for k := range 3 {
		if same[k] < 50 || others[k] < 50 {
			t.Errorf("height %d: %d of the same traces, %d others", k+1, same[k], others[k])
		}
	}
	zeros, down, ends := setOf("1:0000"), setOf("3:0001,0102"), setOf("3:0000,1120")
	for n := int64(1); n <= 7; n++ {
		wantAnswer(t, "SameTraces with a tile that stands alone", n > 1)(impl.SameTraces(zeros, ends, 1, n))
		for h := int64(1); h <= 3; h++ {
			wantAnswer(t, "SameTraces with two rows at most", h == 2)(impl.SameTraces(zeros, down, h, n))
		}
	}
}

// canEndAt returns whether a word is a trace, column by column from the east.
func canEndAt(set impl.Set, h int, word []int64) bool {
	var columns [6][][2]string
	var put func(from, to string, over, open int64)
	put = func(from, to string, over, open int64) {
		if len(from) == h {
			columns[over] = append(columns[over], [2]string{from, to})
			return
		}
		for _, a := range set.Tiles {
			if from == "" {
				put(fmt.Sprint(a[0]), fmt.Sprint(a[2]), a[1], a[3])
			} else if a[1] == open {
				put(from+fmt.Sprint(a[0]), to+fmt.Sprint(a[2]), over, a[3])
			}
		}
	}
	put("", "", 0, 0)
	var east map[string]bool
	for k := range slices.Backward(word) {
		begins := map[string]bool{}
		for _, column := range columns[word[k]] {
			if east == nil || east[column[1]] {
				begins[column[0]] = true
			}
		}
		east = begins
	}
	return len(east) > 0
}

// drawnTrace returns the north word of a filling of h rows and at most n columns.
func (d *draw) drawnTrace(set impl.Set, h, n int) []int64 {
	columns := allRows(swapped(set), h)
	var word []int64
	var reached []int64
	turned := swapped(set)
	for len(word) < n {
		var next [][]int64
		for _, column := range columns {
			if word == nil || slices.Equal(wordAt(turned, column, 1), reached) {
				next = append(next, column)
			}
		}
		if len(next) == 0 {
			break
		}
		column := next[d.below(len(next))]
		word, reached = append(word, turned.Tiles[column[0]][0]), wordAt(turned, column, 3)
	}
	return word
}

// words of up to 20 colours, of fillings that are made column by column, and changed ones.
func TestLongTraces(t *testing.T) {
	d := draw(104)
	traces, others, long := 0, 0, 0
	for k, text := range traceTexts() {
		set := setOf(text)
		if k%3 > 0 || len(allRows(swapped(set), 3)) > 1000 {
			continue
		}
		for h := 1; h <= 3; h++ {
			word := d.drawnTrace(set, h, 20-d.below(3)*d.below(3))
			if len(word) == 0 {
				continue
			}
			what := fmt.Sprintf("IsTrace of %s, %d, ", text, h)
			wantAnswer(t, what+fmt.Sprint(word), true)(impl.IsTrace(set, int64(h), word))
			for range 4 {
				changed := slices.Clone(word)
				changed[d.below(len(word))] = int64(d.below(int(set.Colours)))
				want := canEndAt(set, h, changed)
				wantAnswer(t, what+fmt.Sprint(changed), want)(impl.IsTrace(set, int64(h), changed))
				if want {
					traces++
				} else {
					others++
				}
			}
			if len(word) == 20 {
				long++
			}
		}
	}
	if traces < 100 || others < 100 || long < 50 {
		t.Errorf("%d traces, %d other words, %d of 20 colours", traces, others, long)
	}
}
