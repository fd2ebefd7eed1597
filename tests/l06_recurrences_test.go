package tests

import (
	"fmt"
	"math/big"
	"runtime"
	"slices"
	"testing"

	"loop.example/g01354/impl"
)

// parts returns the greatest sets of words that lead to each other, each as the places of its words in
// a list of words in order.
func (g ownGraph) parts(words []string) [][]int64 {
	reached := g.reached()
	var parts [][]int64
	placed := map[string]bool{}
	for _, first := range words {
		var part []int64
		for place, word := range words {
			if !placed[first] && reached[first][word] && reached[word][first] {
				part = append(part, int64(place))
			}
		}
		for _, place := range part {
			placed[words[place]] = true
		}
		if part != nil {
			parts = append(parts, part)
		}
	}
	return parts
}

// after returns the words that are reached from one by exactly 1, 2, .., most edges.
func (g ownGraph) after(first string, most int) []map[string]bool {
	now := map[string]bool{first: true}
	var all []map[string]bool
	for range most {
		next := map[string]bool{}
		for edge := range g {
			if now[edge[0]] {
				next[edge[1]] = true
			}
		}
		now, all = next, append(all, next)
	}
	return all
}

// period is found from the lengths of ways back to a word of a graph that is one part: it is enough to
// go to any way around without a repeated word, around it or not, and back.
func (g ownGraph) period(words []string) int64 {
	period := 0
	for k, reached := range g.after(words[0], 3*len(words)) {
		if reached[words[0]] {
			period = commonDivisor(period, k+1)
		}
	}
	return int64(period)
}

// isMixing reports whether for some number all ways of as many edges lead anywhere: for n words this
// is so for n n edges if it is so at all.
func (g ownGraph) isMixing(words []string) bool {
	lasting := ownGraph{}
	for edge, count := range g {
		if slices.Contains(words, edge[0]) && slices.Contains(words, edge[1]) {
			lasting[edge] = count
		}
	}
	for _, word := range words {
		all := lasting.after(word, len(words)*len(words))
		if len(all[len(all)-1]) < len(words) {
			return false
		}
	}
	return len(words) > 0
}

// wantParts checks the strong parts of a height, its period, and whether it is mixing.
func wantParts(t *testing.T, set impl.Set, h int, graph ownGraph) {
	t.Helper()
	what := fmt.Sprintf("of %s, %d", textOf(set), h)
	parts, a := impl.StrongParts(set, int64(h))
	period, b := impl.PeriodOfHeight(set, int64(h))
	mixing, c := impl.IsMixing(set, int64(h))
	words := graph.lasting()
	if graph.isGreat(set, h) || len(words) > 40 {
		wantCode(t, "StrongParts "+what, parts, a, impl.ErrLimit)
		wantCode(t, "PeriodOfHeight "+what, period, b, impl.ErrLimit)
		wantCode(t, "IsMixing "+what, mixing, c, impl.ErrLimit)
		return
	}
	want := graph.parts(words)
	wantLists(t, "StrongParts "+what, parts, a, want)
	if len(want) == 1 && len(want[0]) == len(words) {
		wantCount(t, "PeriodOfHeight "+what, graph.period(words))(period, b)
	} else {
		wantCode(t, "PeriodOfHeight "+what, period, b, impl.ErrState)
	}
	if want := graph.isMixing(words); mixing != want || c != impl.ErrNone {
		t.Errorf("IsMixing %s = %v, %d, want %v", what, mixing, c, want)
	}
}

func TestParts(t *testing.T) {
	numbers, periods := map[int]int{}, map[int64]int{}
	for _, text := range stripTexts() {
		set := setOf(text)
		for h := 1; h <= 4; h++ {
			wantParts(t, set, h, graphOfHeight(set, h))
			if parts, code := impl.StrongParts(set, int64(h)); code == impl.ErrNone {
				numbers[min(len(parts), 3)]++
			}
			if period, code := impl.PeriodOfHeight(set, int64(h)); code == impl.ErrNone {
				periods[period]++
			}
		}
	}
	if min(numbers[0], numbers[1], numbers[2], numbers[3]) < 20 {
		t.Errorf("heights by their number of parts: %v", numbers)
	}
	if min(periods[1], periods[2], periods[3], periods[4], periods[5], periods[6]) < 1 {
		t.Errorf("heights by their period: %v", periods)
	}
}

func TestKnownParts(t *testing.T) {
	for _, c := range []struct {
		arrows string
		parts  [][]int64
		period int64 // 0 if there is none
	}{
		{"", nil, 0},
		{"01 12 23 34 45", nil, 0},
		{"55", [][]int64{{0}}, 1},
		{"54 45", [][]int64{{0, 1}}, 2},
		{"01 12 20", [][]int64{{0, 1, 2}}, 3},
		{"01 12 23 34 45 50", [][]int64{{0, 1, 2, 3, 4, 5}}, 6},
		{"01 12 23 34 45 50 03", [][]int64{{0, 1, 2, 3, 4, 5}}, 2},
		{"01 12 23 34 45 50 04", [][]int64{{0, 1, 2, 3, 4, 5}}, 3},
		{"01 12 23 34 45 50 02", [][]int64{{0, 1, 2, 3, 4, 5}}, 1},
		{"01 12 23 34 45 50 55", [][]int64{{0, 1, 2, 3, 4, 5}}, 1},
		{"01 10 12 21 23 32", [][]int64{{0, 1, 2, 3}}, 2},
		{"01 12 20 02", [][]int64{{0, 1, 2}}, 1},
		{"31 13 50 35", [][]int64{{0, 1}}, 2},
		{"00 11", [][]int64{{0}, {1}}, 0},
		{"00 01 11", [][]int64{{0}, {1}}, 0},
		{"00 10 11", [][]int64{{0}, {1}}, 0},
		{"05 50 14 41 23 32", [][]int64{{0, 5}, {1, 4}, {2, 3}}, 0},
		{"55 50 01 12 22", [][]int64{{2}, {3}}, 0}, // the words are 0, 1, 2, 5
		{"00 01 12 22 31 30 03", [][]int64{{0, 3}, {2}}, 0},
	} {
		set := arrows(c.arrows)
		parts, code := impl.StrongParts(set, 1)
		wantLists(t, "StrongParts of "+c.arrows, parts, code, c.parts)
		period, code := impl.PeriodOfHeight(set, 1)
		if c.period == 0 {
			wantCode(t, "PeriodOfHeight of "+c.arrows, period, code, impl.ErrState)
		} else {
			wantCount(t, "PeriodOfHeight of "+c.arrows, c.period)(period, code)
		}
		mixing, code := impl.IsMixing(set, 1)
		if code != impl.ErrNone || mixing != (c.period == 1) {
			t.Errorf("IsMixing of %s = %v, %d", c.arrows, mixing, code)
		}
	}
	for h := int64(1); h <= 4; h++ {
		parts, code := impl.StrongParts(setOf("2:0000,0101,1010,1111"), h)
		var want [][]int64
		for word := range int64(1) << h {
			want = append(want, []int64{word})
		}
		wantLists(t, fmt.Sprintf("StrongParts of wires, %d", h), parts, code, want)
		wantCount(t, "PeriodOfHeight of chess", 2)(impl.PeriodOfHeight(setOf("2:0011,1100"), h))
		wantCount(t, "PeriodOfHeight of wheel", 3)(impl.PeriodOfHeight(setOf("3:0120,1201,2012"), h))
		wantCount(t, "PeriodOfHeight of plain", 1)(impl.PeriodOfHeight(setOf("1:0000"), h))
	}
}

// remainders returns numbers modulo Modulus.
func remainders(numbers []*big.Int) []int64 {
	var small []int64
	for _, number := range numbers {
		small = append(small, new(big.Int).Mod(number, big.NewInt(10007)).Int64())
	}
	return small
}

// tells reports whether a list is a recurrence of numbers modulo Modulus.
func tells(list, numbers []int64) bool {
	for n := len(list); n < len(numbers); n++ {
		sum := int64(0)
		for k, r := range list {
			sum += r * numbers[n-1-k]
		}
		if sum%10007 != numbers[n] {
			return false
		}
	}
	return true
}

// hasRecurrence reports whether some list of a length is a recurrence of numbers modulo Modulus, by
// the equations that it would have to fulfil.
func hasRecurrence(numbers []int64, length int) bool {
	var rows [][]int64
	for n := length; n < len(numbers); n++ {
		var row []int64
		for k := range length {
			row = append(row, numbers[n-1-k])
		}
		rows = append(rows, append(row, numbers[n]))
	}
	for column := range length {
		at := slices.IndexFunc(rows, func(row []int64) bool { return row[column] != 0 })
		if at < 0 {
			continue
		}
		first := rows[at]
		rows = slices.Delete(rows, at, at+1)
		over := new(big.Int).ModInverse(big.NewInt(first[column]), big.NewInt(10007)).Int64()
		for _, row := range rows {
			times := row[column] * over % 10007
			for k := range row {
				row[k] = (row[k] + (10007-times)*first[k]) % 10007
			}
		}
	}
	// what is left has no unknown numbers
	return !slices.ContainsFunc(rows, func(row []int64) bool { return row[length] != 0 })
}

// wantRecurrence checks the recurrence of a height, and returns its length, or -1.
func wantRecurrence(t *testing.T, set impl.Set, h int, graph ownGraph) int {
	t.Helper()
	what := fmt.Sprintf("RecurrenceOf %s, %d", textOf(set), h)
	got, code := impl.RecurrenceOf(set, int64(h))
	words := len(graph.used())
	if graph.isGreat(set, h) || words > 40 {
		wantCode(t, what, got, code, impl.ErrLimit)
		return -1
	}
	numbers := remainders(graph.sequence(2*words + 32))
	inRange := !slices.ContainsFunc(got, func(r int64) bool { return r < 0 || r >= 10007 })
	if code != impl.ErrNone || !inRange || !tells(got, numbers) {
		t.Errorf("%s = %v, %d for %v", what, got, code, numbers)
	}
	if len(got) > 0 && hasRecurrence(numbers[:2*words+2], len(got)-1) {
		t.Errorf("%s = %v is too long", what, got)
	}
	return len(got)
}

func TestRecurrences(t *testing.T) {
	lengths := map[int]int{}
	for _, text := range stripTexts() {
		set := setOf(text)
		for h := 1; h <= 4; h++ {
			length := wantRecurrence(t, set, h, graphOfHeight(set, h))
			lengths[min(length, 5)]++
		}
	}
	for length := -1; length <= 5; length++ {
		if lengths[length] < 20 {
			t.Errorf("heights by the length of their recurrence: %v", lengths)
		}
	}
}

// promise 6: recurrences tell all numbers of sequences.
func TestRecurrencesTellSequences(t *testing.T) {
	told := 0
	for _, text := range stripTexts() {
		set := setOf(text)
		for h := int64(1); h <= 4; h++ {
			recurrence, code := impl.RecurrenceOf(set, h)
			if code != impl.ErrNone {
				continue
			}
			// the longest sequence without a number that is too great
			n := int64(30)
			sequence, code := impl.StripSequence(set, h, n)
			for code == impl.ErrLimit && n > 1 {
				n--
				sequence, code = impl.StripSequence(set, h, n)
			}
			told += int(n)
			for k := range sequence {
				sequence[k] %= 10007
			}
			if code != impl.ErrNone || !tells(recurrence, sequence) {
				t.Errorf("the recurrence %v of %s, %d does not tell %v, %d", recurrence, text, h, sequence, code)
			}
		}
	}
	if told < 10000 {
		t.Errorf("only %d numbers of sequences", told)
	}
}

func TestKnownRecurrences(t *testing.T) {
	cases := []struct {
		set  impl.Set
		h    int64
		want []int64
	}{
		{setOf("1:"), 1, nil},
		{setOf("5:"), 4, nil},
		{setOf("2:0001"), 1, []int64{1}},
		{setOf("2:0001"), 2, nil},
		{setOf("1:0000"), 4, []int64{1}},
		{setOf("2:0011,1100"), 3, []int64{1}},
		{arrows("00 01 10"), 1, []int64{1, 1}},
		{arrows("01 12 20 21"), 1, []int64{0, 1, 1}},
		// strips that end: 5, 4, 3, 2, 1, 0, 0, ..
		{arrows("01 12 23 34 45"), 1, []int64{0, 0, 0, 0, 0}},
		{arrows("01"), 3, []int64{0}},
		// 2, 3, 4, ..
		{arrows("00 01 11"), 1, []int64{2, 10006}},
		// 3, 4, 4, .., and 4, 5, 6, 6, ..
		{arrows("01 11 12"), 1, []int64{1, 0}},
		{arrows("01 11 12 23"), 1, []int64{1, 0, 0}},
		// the squares 9, 25, 64, 169, ..
		{arrows("00 01 10"), 2, []int64{2, 2, 10006}},
		{setOf("3:0000,0101,0202,1010,1111,1212"), 1, []int64{3}},
		{setOf(fullTwo), 1, []int64{8}},
		{setOf(fullTwo), 2, []int64{32}},
		{setOf(fullTwo), 3, []int64{128}},
		{upright(), 1, []int64{16}},
		{upright(), 4, []int64{1024}},
	}
	for _, c := range cases {
		what := fmt.Sprintf("RecurrenceOf %s, %d", textOf(c.set), c.h)
		got, code := impl.RecurrenceOf(c.set, c.h)
		wantList(t, what, got, code, c.want)
	}
}

func TestMostWordsOfRecurrences(t *testing.T) {
	for _, c := range []struct {
		text  string
		h     int
		words int
	}{
		{"6:0251,1114,1532,3121,4430,4501,5224,5514,5552,5555", 3, 40},
		{"5:0034,1201,2321,2443,4044,4120,4142,4231,4232,4342", 3, 41},
		{"3:0221,1002,1011,2011,2020,2110,2122", 4, 40},
		{"3:0021,0112,0212,1211,2020,2022,2201", 4, 41},
	} {
		set := setOf(c.text)
		graph := graphOfHeight(set, c.h)
		if len(graph.used()) != c.words {
			t.Errorf("%s has %d words", c.text, len(graph.used()))
		}
		wantRecurrence(t, set, c.h, graph)
		// the words of the other functions are fewer
		wantColumns(t, set, c.h, graph)
		wantParts(t, set, c.h, graph)
		if _, code := impl.ColumnWords(set, int64(c.h)); code != impl.ErrNone {
			t.Errorf("ColumnWords of %s: code %d", c.text, code)
		}
	}
}

// heightCall is a function of a set and a height.
type heightCall func(set impl.Set, h int64) (any, int64)

func callOf[T any](f func(impl.Set, int64) (T, int64)) heightCall {
	return func(set impl.Set, h int64) (any, int64) {
		got, code := f(set, h)
		return got, code
	}
}

func stripCalls() map[string]heightCall {
	return map[string]heightCall{
		"CountColumns": callOf(impl.CountColumns),
		"ColumnWords":  callOf(impl.ColumnWords),
		"ColumnTable":  callOf(impl.ColumnTable),
		"StripSequence": callOf(func(set impl.Set, h int64) ([]int64, int64) {
			return impl.StripSequence(set, h, 3)
		}),
		"StrongParts":    callOf(impl.StrongParts),
		"PeriodOfHeight": callOf(impl.PeriodOfHeight),
		"IsMixing":       callOf(impl.IsMixing),
		"RecurrenceOf":   callOf(impl.RecurrenceOf),
	}
}

func TestErrorsOfStrips(t *testing.T) {
	heights := append([]int64{-1, 0, 1, 2, 3, 4, 5, 6}, extremes...)
	for name, call := range stripCalls() {
		for _, h := range heights {
			what := fmt.Sprintf("%s, %d", name, h)
			for _, no := range noSets() {
				got, code := call(no, h)
				wantCode(t, fmt.Sprintf("%s of %v", what, no), got, code, impl.ErrInvalid)
			}
			// ahead of ErrLimit and ErrState
			for _, text := range []string{"1:0000", "1:", "6:", "6:0000", fullTwo, fullSix} {
				got, code := call(setOf(text), h)
				if h < 1 || h > 4 {
					wantCode(t, what+" of "+text, got, code, impl.ErrRange)
				} else if code == impl.ErrRange || code == impl.ErrInvalid {
					t.Errorf("%s of %s: code %d", what, text, code)
				}
			}
		}
	}
}

func TestErrorsOfSequences(t *testing.T) {
	for _, n := range append([]int64{-1, 0, 1, 2, 29, 30, 31, 32}, extremes...) {
		for _, h := range append([]int64{0, 1, 3, 4, 5}, extremes...) {
			what := fmt.Sprintf("StripSequence, %d, %d", h, n)
			for _, no := range noSets() {
				got, code := impl.StripSequence(no, h, n)
				wantCode(t, fmt.Sprintf("%s of %v", what, no), got, code, impl.ErrInvalid)
			}
			// too many words, columns and fillings
			for _, text := range []string{"6:", "6:0000", fullTwo, fullSix, "1:0000", "1:"} {
				got, code := impl.StripSequence(setOf(text), h, n)
				if h < 1 || h > 4 || n < 1 || n > 30 {
					wantCode(t, what+" of "+text, got, code, impl.ErrRange)
				} else if code == impl.ErrRange || code == impl.ErrInvalid {
					t.Errorf("%s of %s: code %d", what, text, code)
				}
			}
		}
	}
	sequence, code := impl.StripSequence(setOf("1:"), 4, 30)
	wantList(t, "StripSequence without tiles", sequence, code, repeated(0, 30))
}

func TestStripsShareNothing(t *testing.T) {
	const text = "2:0000,0101,1010,1111"
	for name, call := range stripCalls() {
		set := marked(text)
		got, _ := call(set, 2)
		switch lists := got.(type) {
		case []int64:
			fillUp([][]int64{lists})
		case [][]int64:
			if len(lists) != 4 {
				t.Errorf("%s = %v", name, lists)
			}
			wantApart(t, name, lists)
		}
		if !kept(set, text) {
			t.Errorf("%s changes an argument, or shares memory with it", name)
		}
		again, _ := call(set, 2)
		if other, _ := call(setOf(text), 2); fmt.Sprint(again) != fmt.Sprint(other) {
			t.Errorf("%s = %v, and %v after its result was written into", name, other, again)
		}
	}
}

// what counts strips has ended when a call returns.
func TestNoStripIsCountedLater(t *testing.T) {
	before := runtime.NumGoroutine()
	for _, text := range []string{fullTwo, "2:0001", "1:", "3:0120,1201,2012"} {
		for range 20 {
			for _, call := range stripCalls() {
				call(setOf(text), 3)
			}
		}
	}
	wantNothingRunning(t, before)
}
