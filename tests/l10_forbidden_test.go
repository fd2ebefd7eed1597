package tests

import (
	"fmt"
	"slices"
	"testing"

	"loop.example/g01354/impl"
)

// isLeastForbidden tells it by the traces of 1, 2, .. colours.
func isLeastForbidden(traces [][][]int64, word []int64) bool {
	n := len(word)
	if hasWord(traces[n], word) {
		return false
	}
	return n == 1 || hasWord(traces[n-1], word[1:]) && hasWord(traces[n-1], word[:n-1])
}

// wantForbidden checks the least forbidden words of up to 5 colours of a height. The traces of n
// colours are at n.
func wantForbidden(t *testing.T, set impl.Set, h int, traces [][][]int64) (int, bool) {
	t.Helper()
	var least [][]int64
	many := false
	for n := 1; n <= 5 && n < len(traces); n++ {
		many = many || len(traces[n]) > impl.MaxWords
		what := fmt.Sprintf("LeastForbidden of %s, %d, %d", textOf(set), h, n)
		got, code := impl.LeastForbidden(set, int64(h), int64(n))
		if many {
			wantCode(t, what, got, code, impl.ErrLimit)
			continue
		}
		for _, word := range sortedWords(allWords(int(set.Colours), n)) {
			if isLeastForbidden(traces, word) {
				least = append(least, word)
			}
		}
		wantLists(t, what, got, code, least)
	}
	return len(least), many
}

// tracesByLength returns for each height the traces of up to 5 colours, at their numbers of colours,
// as far as they are told.
func tracesByLength(set impl.Set) [3][][][]int64 {
	lists := [3][][][]int64{{nil}, {nil}, {nil}}
	for n := 1; n <= 5; n++ {
		for k, words := range ownTraces(set, n) {
			if len(lists[k]) == n {
				lists[k] = append(lists[k], words)
			}
		}
	}
	return lists
}

func TestLeastForbidden(t *testing.T) {
	words, none, many := 0, 0, 0
	for k, text := range traceTexts() {
		set := setOf(text)
		if k%2 > 0 && set.Colours > 4 {
			continue
		}
		for h, traces := range tracesByLength(set) {
			number, long := wantForbidden(t, set, h+1, traces)
			switch {
			case long:
				many++
			case number == 0:
				none++
			default:
				words += number
			}
		}
	}
	if words < 5000 || none < 20 || many < 30 {
		t.Errorf("%d words, %d times none, %d times too many traces", words, none, many)
	}
}

func TestKnownForbiddenWords(t *testing.T) {
	cases := []struct {
		text  string
		h, n  int64
		least []string
	}{
		{"1:", 1, 5, []string{"0"}},
		{"3:", 2, 5, []string{"0", "1", "2"}},
		{"1:0000", 3, 5, nil},
		{"2:0000", 1, 5, []string{"1"}},
		{"2:0010", 1, 1, []string{"1"}},
		{"2:0010", 1, 5, []string{"1", "00"}},
		{"2:0011,1100", 1, 1, nil},
		{"2:0011,1100", 2, 5, []string{"00", "11"}},
		{"2:0000,0101,1010,1111", 3, 5, nil},
		{"2:0000,0111,1011,1100", 2, 5, nil},
		{"2:0001", 1, 5, []string{"1"}},
		{"2:0001", 2, 5, []string{"0", "1"}},
		{"3:0120,1201,2012", 2, 2, []string{"00", "01", "11", "12", "20", "22"}},
		{"3:0120,1201,2012", 3, 5, []string{"00", "01", "11", "12", "20", "22"}},
		// no two ones, and even numbers of ones, between zeros
		{"2:0000,0111,1000", 1, 5, []string{"11"}},
		{"2:0000,0111,1101", 1, 2, nil},
		{"2:0000,0111,1101", 1, 3, []string{"010"}},
		{"2:0000,0111,1101", 1, 4, []string{"010"}},
		{"2:0000,0111,1101", 1, 5, []string{"010", "01110"}},
		// rows of at most three tiles
		{"4:0010,1020,2131", 1, 5, []string{"2", "3", "10", "11", "000"}},
	}
	for _, c := range cases {
		what := fmt.Sprintf("LeastForbidden of %s, %d, %d", c.text, c.h, c.n)
		words, code := impl.LeastForbidden(setOf(c.text), c.h, c.n)
		wantLists(t, what, words, code, digitLists(c.least))
	}
}

// chain returns tiles from a colour to the next one, with as many different north colours as are
// told, from some colour on, for one colour after the other.
func chain(ranges ...[2]int) []string {
	var words []string
	for k, r := range ranges {
		for north := r[0]; north < r[0]+r[1]; north++ {
			words = append(words, fmt.Sprintf("%d%d%d%d", k, north, k+1, north))
		}
	}
	return words
}

// traces of fewer colours may be too many where those of more colours are not.
func TestMostForbidden(t *testing.T) {
	four := setWith(6, chain([2]int{0, 4}, [2]int{0, 4}, [2]int{0, 4}, [2]int{0, 3}, [2]int{5, 1}))
	full := setWith(6, chain([2]int{0, 5}, [2]int{0, 5}, [2]int{0, 4}, [2]int{0, 2}))
	cases := []struct {
		set    impl.Set
		counts [5]int
		most   int64
	}{
		{four, [5]int{5, 19, 76, 240, 192}, 3},
		{full, [5]int{5, 25, 100, 200, 0}, 5},
		{setWith(6, loopsOver(0, 6)), [5]int{6, 36, 216, 1296, 7776}, 2},
		{setWith(6, loopsOver(0, 5)), [5]int{5, 25, 125, 625, 3125}, 3},
		{setWith(6, loopsOver(0, 2)), [5]int{2, 4, 8, 16, 32}, 5},
	}
	for _, c := range cases {
		for h := int64(1); h <= 3; h++ {
			for k, count := range c.counts {
				wantMany(t, c.set, int(h), k+1, count)
				n := int64(k + 1)
				words, code := impl.LeastForbidden(c.set, h, n)
				what := fmt.Sprintf("LeastForbidden of %s, %d, %d", textOf(c.set), h, n)
				if n > c.most {
					wantCode(t, what, words, code, impl.ErrLimit)
				} else if code != impl.ErrNone {
					t.Errorf("%s: code %d", what, code)
				}
			}
		}
		if c.most == 5 {
			wantForbidden(t, c.set, 1, tracesByLength(c.set)[0])
		}
	}
}

// wantWidest checks the widest filling by the numbers of all fillings that are as wide, or wider.
func wantWidest(t *testing.T, set impl.Set, h int) (int64, bool) {
	t.Helper()
	what := fmt.Sprintf("WidestFilling of %s, %d", textOf(set), h)
	graph := graphOfHeight(set, h)
	got, code := impl.WidestFilling(set, int64(h))
	if len(graph.lasting()) > 0 {
		wantCode(t, what, got, code, impl.ErrNotFound)
		return 0, false
	}
	widest := int64(0)
	for _, number := range graph.sequence(len(graph.used()) + 1) {
		if number.Sign() > 0 {
			widest++
		}
	}
	wantCount(t, what, widest)(got, code)
	return widest, true
}

func TestWidestFillings(t *testing.T) {
	widths, without := map[int64]int{}, 0
	texts := traceTexts()
	d := draw(105)
	for range 300 {
		texts = append(texts, d.drawnText(2+d.below(5), 1+d.below(10)))
	}
	for _, text := range texts {
		for h := 1; h <= 3; h++ {
			if widest, ok := wantWidest(t, setOf(text), h); ok {
				widths[widest]++
			} else {
				without++
			}
		}
	}
	if widths[0] < 50 || widths[1] < 20 || widths[2] < 20 || widths[3]+widths[4] < 10 || without < 100 {
		t.Errorf("%d without a widest one, and %v", without, widths)
	}
}

// sets that were found by search, and some that are plain to see.
func TestKnownWidestFillings(t *testing.T) {
	cases := []struct {
		text   string
		h      int64
		widest int64
	}{
		{"1:", 1, 0},
		{"6:", 3, 0},
		{"2:0010", 1, 1},
		{"2:0010", 3, 1},
		{"2:0001", 2, 0},
		{"2:0001", 3, 0},
		{"4:0010,1020,2030", 1, 3},
		{"4:0010,1020,2030", 3, 3},
		{"6:0010,1020,2030,3040,4050", 2, 5},
		// the way that is taken first is not the longest one
		{"6:0010,0020,0050,1020,2050,4010", 1, 3},
		{"6:0332,1200,2155,4313,5542", 1, 5},
		{"6:0335,0534,1322,1445,1551,2004,2304,2503,3253,3311,3451,4342,4523,5242,5413,5513", 2, 34},
		{"4:0020,0110,0213,0222,1332,2033,2311,3011,3122,3231,3302,3311", 3, 9},
		{"6:0033,0055,0351,0511,1503,1505,2145,2310,3101,3330,3543,4115,4121,5024,5131,5530", 3, 56},
	}
	for _, c := range cases {
		what := fmt.Sprintf("WidestFilling of %s, %d", c.text, c.h)
		wantCount(t, what, c.widest)(impl.WidestFilling(setOf(c.text), c.h))
		wantWidest(t, setOf(c.text), int(c.h))
	}
	for _, text := range []string{"1:0000", "2:0011,1100", "2:0001", "3:0120,1201,2012", fullTwo, "6:0010,1020,2030,3040,4000"} {
		widest, code := impl.WidestFilling(setOf(text), 1)
		wantCode(t, "WidestFilling of "+text, widest, code, impl.ErrNotFound)
		wantWidest(t, setOf(text), 2)
		wantWidest(t, setOf(text), 3)
	}
}

// promise 14: heights that fail have a widest filling, and others do not.
func TestHeightsThatFailHaveAWidestFilling(t *testing.T) {
	found := [5]int{}
	texts := traceTexts()
	d := draw(106)
	for range 300 {
		texts = append(texts, d.drawnText(2+d.below(4), 3+d.below(8)))
	}
	for _, text := range texts {
		set := setOf(text)
		least, code := impl.FailingHeight(set, 3)
		if code == impl.ErrLimit {
			continue
		}
		if code == impl.ErrNotFound {
			least = 4
		}
		found[least]++
		before := int64(-1)
		for h := int64(1); h <= 3; h++ {
			widest, code := impl.WidestFilling(set, h)
			what := fmt.Sprintf("WidestFilling of %s, %d, where %d is the least height that fails", text, h, least)
			if h < least {
				wantCode(t, what, widest, code, impl.ErrNotFound)
				continue
			}
			if code != impl.ErrNone || before >= 0 && widest > before {
				t.Errorf("%s = %d, %d, behind %d", what, widest, code, before)
			}
			before = widest
			wantWidth(t, set, h, widest)
		}
	}
	for least := 1; least <= 4; least++ {
		if found[least] < 10 {
			t.Errorf("least heights %v", found)
		}
	}
}

// wantWidth checks that fillings of chapters 3 and 6 are as wide as the widest one, and not wider.
func wantWidth(t *testing.T, set impl.Set, h, widest int64) {
	t.Helper()
	counts, _ := impl.StripSequence(set, h, 30)
	for k, count := range counts {
		if (count > 0) != (int64(k) < widest) {
			t.Errorf("%s, %d: %d fillings of %d columns, and the widest one has %d", textOf(set), h, count, k+1, widest)
		}
	}
	for w := int64(1); w <= impl.MaxPlan; w++ {
		_, code := impl.FirstFilling(set, freePlan(int(h), int(w)), open())
		if (code == impl.ErrNone) != (w <= widest) {
			t.Errorf("FirstFilling of %s, %d, %d: code %d, and the widest one has %d", textOf(set), h, w, code, widest)
		}
	}
}

// promise 10: traces of greater heights are traces of lesser ones, and least forbidden words are no
// traces. Words of at most n colours that have no part that is least forbidden are traces.
func TestTracesAreKept(t *testing.T) {
	parts, least := 0, 0
	for i, text := range traceTexts() {
		set := setOf(text)
		for h := int64(1); h <= 3; h++ {
			for n := int64(1 + i%2); n <= 5; n += 2 {
				words, code := impl.TraceWords(set, h, n)
				for _, word := range words {
					for lesser := int64(1); lesser < h; lesser++ {
						wantAnswer(t, fmt.Sprintf("IsTrace of %s, %d, %v", text, lesser, word), true)(impl.IsTrace(set, lesser, word))
						parts++
					}
				}
				forbidden, missing := impl.LeastForbidden(set, h, n)
				if code != impl.ErrNone || missing != impl.ErrNone {
					continue
				}
				for _, word := range forbidden {
					wantAnswer(t, fmt.Sprintf("IsTrace of %s, %d, %v", text, h, word), false)(impl.IsTrace(set, h, word))
					least++
				}
				if power(int(set.Colours), int(n)) < 300 {
					wantLists(t, fmt.Sprintf("TraceWords of %s, %d, %d", text, h, n), words, code, wordsWithout(int(set.Colours), int(n), forbidden))
				}
			}
		}
	}
	if parts < 1000 || least < 1000 {
		t.Errorf("%d traces of greater heights, %d least forbidden words", parts, least)
	}
}

// wordsWithout returns the words of n colours that have none of some words in them.
func wordsWithout(c, n int, forbidden [][]int64) [][]int64 {
	return slices.DeleteFunc(sortedWords(allWords(c, n)), func(word []int64) bool {
		return slices.ContainsFunc(forbidden, func(part []int64) bool {
			for k := range n - len(part) + 1 {
				if slices.Equal(word[k:k+len(part)], part) {
					return true
				}
			}
			return false
		})
	})
}

// promise 12: traces of the height 1 are north words of rows.
func TestTracesOfRows(t *testing.T) {
	traces, others := 0, 0
	d := draw(107)
	for _, text := range traceTexts() {
		set := setOf(text)
		for n := 1; n <= 3; n++ {
			var words [][]int64
			for _, row := range allRows(set, n) {
				above, _, code := impl.WordsOfRow(set, row)
				if code != impl.ErrNone {
					t.Fatalf("WordsOfRow of %s, %v: code %d", text, row, code)
				}
				words = append(words, above)
			}
			wantWords(t, fmt.Sprintf("TraceWords of %s, 1, %d", text, n), sortedWords(words))(impl.TraceWords(set, 1, int64(n)))
		}
		for range 20 {
			word := d.drawnNumbers(int(set.Colours), 1, 1+d.below(20))[0]
			count, code := impl.CountRowsOver(set, word)
			want := count > 0 || code == impl.ErrLimit
			wantAnswer(t, fmt.Sprintf("IsTrace of %s, 1, %v", text, word), want)(impl.IsTrace(set, 1, word))
			if want {
				traces++
			} else {
				others++
			}
		}
	}
	if traces < 200 || others < 200 {
		t.Errorf("%d traces, %d other words", traces, others)
	}
}

// traces are words on top of fillings of chapter 3, and of words of chapter 2 that follow from them.
func TestTracesOfFillings(t *testing.T) {
	traces, others := 0, 0
	d := draw(108)
	for _, text := range traceTexts() {
		set := setOf(text)
		for range 20 {
			h, n := 1+d.below(3), 1+d.below(5)
			word := d.drawnNumbers(int(set.Colours), 1, n)[0]
			_, code := impl.FirstFilling(set, freePlan(h, n), [][]int64{{}, word, {}, {}})
			want := code == impl.ErrNone
			wantAnswer(t, fmt.Sprintf("IsTrace of %s, %d, %v", text, h, word), want)(impl.IsTrace(set, int64(h), word))
			if want {
				traces++
			} else {
				others++
			}
			below, code := impl.SouthWords(set, word)
			if h == 1 || code != impl.ErrNone {
				continue
			}
			follows := slices.ContainsFunc(below, func(south []int64) bool {
				trace, _ := impl.IsTrace(set, int64(h-1), south)
				return trace
			})
			if follows != want {
				t.Errorf("%s: a word follows from %v that is a trace of %d: %v", text, word, h-1, follows)
			}
		}
	}
	if traces < 500 || others < 500 {
		t.Errorf("%d traces, %d other words", traces, others)
	}
}

// traces of the height 2 are traces of the height 1 of the set stacked above itself.
func TestTracesOfStacks(t *testing.T) {
	stacks := 0
	for _, text := range traceTexts() {
		set := setOf(text)
		stack, code := impl.StackSets(set, set)
		if code != impl.ErrNone {
			continue
		}
		for n := int64(1); n <= 8; n++ {
			want, _ := impl.TraceWords(set, 2, n)
			words, code := impl.TraceWords(stack, 1, n)
			if code == impl.ErrNone {
				wantLists(t, fmt.Sprintf("TraceWords of the stack of %s, %d", text, n), words, code, want)
				stacks++
			}
		}
	}
	if stacks < 200 {
		t.Errorf("%d lists of stacks", stacks)
	}
}

// traceCall is a function of a set, a height and a number of colours, with the greatest ones that it
// takes, or 0 where any number will do, and whether it has ErrNotFound.
type traceCall struct {
	call         func(set impl.Set, h, n int64) (any, int64)
	mostH, mostN int64
	notFound     bool
}

// traceCalls are all functions of the chapter.
func traceCalls() map[string]traceCall {
	return map[string]traceCall{
		"IsTrace": {func(set impl.Set, h, n int64) (any, int64) {
			got, code := impl.IsTrace(set, h, repeated(0, int(max(0, min(n, 21)))))
			return got, code
		}, 3, 20, false},
		"TraceWords": {func(set impl.Set, h, n int64) (any, int64) {
			got, code := impl.TraceWords(set, h, n)
			return got, code
		}, 3, 8, false},
		"CountTraces": {func(set impl.Set, h, n int64) (any, int64) {
			got, code := impl.CountTraces(set, h, n)
			return got, code
		}, 3, 8, false},
		"SameTraces": {func(set impl.Set, h, n int64) (any, int64) {
			got, code := impl.SameTraces(set, set, h, n)
			return got, code
		}, 3, 8, false},
		"SameTraces, first": {func(set impl.Set, h, n int64) (any, int64) {
			got, code := impl.SameTraces(set, setOf("1:0000"), h, n)
			return got, code
		}, 3, 8, false},
		"SameTraces, second": {func(set impl.Set, h, n int64) (any, int64) {
			got, code := impl.SameTraces(setOf("1:0000"), set, h, n)
			return got, code
		}, 3, 8, false},
		"StableHeight": {func(set impl.Set, h, n int64) (any, int64) {
			got, code := impl.StableHeight(set, n)
			return got, code
		}, 0, 8, true},
		"LeastForbidden": {func(set impl.Set, h, n int64) (any, int64) {
			got, code := impl.LeastForbidden(set, h, n)
			return got, code
		}, 3, 5, false},
		"WidestFilling": {func(set impl.Set, h, n int64) (any, int64) {
			got, code := impl.WidestFilling(set, h)
			return got, code
		}, 3, 0, true},
	}
}

func isWithin(number, most int64) bool {
	return most == 0 || number >= 1 && number <= most
}

func TestErrorsOfTraces(t *testing.T) {
	heights := append([]int64{-1, 0, 1, 2, 3, 4, 5}, extremes...)
	numbers := append([]int64{-1, 0, 1, 3, 5, 6, 8, 9, 19, 20, 21}, extremes...)
	for name, f := range traceCalls() {
		for _, h := range heights {
			for _, n := range numbers {
				what := fmt.Sprintf("%s, %d, %d", name, h, n)
				for _, no := range noSets() {
					got, code := f.call(no, h, n)
					wantCode(t, fmt.Sprintf("%s of %v", what, no), got, code, impl.ErrInvalid)
				}
				// ahead of ErrLimit and ErrNotFound
				for _, set := range []impl.Set{setOf("1:0000"), setOf("6:"), setOf("3:0001,0102"), setWith(6, loopsOver(0, 6))} {
					got, code := f.call(set, h, n)
					switch {
					case !isWithin(h, f.mostH) || !isWithin(n, f.mostN):
						wantCode(t, what+" of "+textOf(set), got, code, impl.ErrRange)
					case code == impl.ErrNotFound && f.notFound:
					case code != impl.ErrNone && (code != impl.ErrLimit || n < 3):
						t.Errorf("%s of %s: code %d", what, textOf(set), code)
					}
				}
			}
		}
	}
}

// what is no word is told ahead of nothing but what is no set.
func TestErrorsOfTraceWords(t *testing.T) {
	for _, text := range sampleTexts() {
		set := setOf(text)
		for h := int64(0); h <= 4; h++ {
			for _, colour := range append(extremes, -1, set.Colours) {
				for k := range 3 {
					word := repeated(0, 3)
					word[k] = colour
					got, code := impl.IsTrace(set, h, word)
					wantCode(t, fmt.Sprintf("IsTrace of %s, %d, %v", text, h, word), got, code, impl.ErrRange)
				}
			}
			for _, n := range []int{0, 21, 22, 1000} {
				got, code := impl.IsTrace(set, h, repeated(0, n))
				wantCode(t, fmt.Sprintf("IsTrace of %s, %d, %d colours", text, h, n), got, code, impl.ErrRange)
			}
		}
		got, code := impl.IsTrace(set, 1, nil)
		wantCode(t, "IsTrace of nothing", got, code, impl.ErrRange)
	}
	for _, no := range noSets() {
		for _, word := range [][]int64{nil, {7}, repeated(0, 21)} {
			got, code := impl.IsTrace(no, 0, word)
			wantCode(t, fmt.Sprintf("IsTrace of %v, %v", no, word), got, code, impl.ErrInvalid)
		}
		for _, other := range append(noSets(), setOf("1:0000"), setWith(6, loopsOver(0, 6))) {
			for _, n := range []int64{0, 1, 8} {
				got, code := impl.SameTraces(no, other, n, n)
				wantCode(t, fmt.Sprintf("SameTraces of %v, %v", no, other), got, code, impl.ErrInvalid)
				got, code = impl.SameTraces(other, no, n, n)
				wantCode(t, fmt.Sprintf("SameTraces of %v, %v", other, no), got, code, impl.ErrInvalid)
			}
		}
	}
}

// the most columns and words that heights up to 3 can have are within the limits of chapter 6.
func TestGreatestHeightOfTraces(t *testing.T) {
	var words []string
	for k := range 16 {
		words = append(words, fmt.Sprintf("%d0%d0", k%6, (k*k+k/6)%6))
	}
	slices.Sort(words)
	set := setWith(6, slices.Compact(words))
	if len(set.Tiles) != 16 {
		t.Fatalf("%d tiles", len(set.Tiles))
	}
	wantCount(t, "CountColumns", 4096)(impl.CountColumns(set, 3))
	least := digitLists([]string{"1", "2", "3", "4", "5"})
	forbidden, code := impl.LeastForbidden(set, 3, 5)
	wantLists(t, "LeastForbidden", forbidden, code, least)
	wantCount(t, "StableHeight", 1)(impl.StableHeight(set, 8))
	wantCount(t, "CountTraces", 1)(impl.CountTraces(set, 3, 8))
	wantAnswer(t, "IsTrace", true)(impl.IsTrace(set, 3, repeated(0, 20)))
	widest, code := impl.WidestFilling(set, 3)
	wantCode(t, "WidestFilling", widest, code, impl.ErrNotFound)
}

func TestTracesShareNothing(t *testing.T) {
	const text = "2:0000,0111,1101"
	for name, f := range traceCalls() {
		set := marked(text)
		got, code := f.call(set, 2, 4)
		if code == impl.ErrInvalid || code == impl.ErrRange || code == impl.ErrLimit {
			t.Errorf("%s: code %d", name, code)
		}
		if lists, ok := got.([][]int64); ok {
			if len(lists) == 0 {
				t.Errorf("%s returns nothing", name)
			}
			wantApart(t, name, lists)
		}
		if !kept(set, text) {
			t.Errorf("%s changes an argument, or shares memory with it", name)
		}
		again, _ := f.call(set, 2, 4)
		if other, _ := f.call(setOf(text), 2, 4); fmt.Sprint(again) != fmt.Sprint(other) {
			t.Errorf("%s = %v, and %v after its result was written into", name, other, again)
		}
	}
	// two sets, and a word
	first, second := marked(text), marked("2:0011,1100")
	impl.SameTraces(first, second, 2, 3)
	word := withSpare([]int64{1, 0, 1}, 77)
	impl.IsTrace(first, 2, word)
	if !kept(first, text) || !kept(second, "2:0011,1100") || !slices.Equal(word[:7], []int64{1, 0, 1, 77, 77, 77, 77}) {
		t.Errorf("an argument is changed")
	}
}
