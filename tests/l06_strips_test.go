package tests

import (
	"fmt"
	"maps"
	"math/big"
	"slices"
	"strings"
	"testing"

	"loop.example/g01354/impl"
)

// ownGraph has the words of a height as texts of their colours, and for each two of them the number of
// the columns from one to the other.
type ownGraph map[[2]string]int64

// graphOfHeight puts columns together tile by tile.
func graphOfHeight(set impl.Set, h int) ownGraph {
	graph := ownGraph{}
	var put func(from, to string, open int64)
	put = func(from, to string, open int64) {
		if len(from) == h {
			graph[[2]string{from, to}]++
			return
		}
		for _, a := range set.Tiles {
			if from == "" || a[1] == open {
				put(from+fmt.Sprint(a[0]), to+fmt.Sprint(a[2]), a[3])
			}
		}
	}
	put("", "", 0)
	return graph
}

func (g ownGraph) columns() int64 {
	total := int64(0)
	for _, count := range g {
		total += count
	}
	return total
}

// used returns the words at the ends of edges, in order.
func (g ownGraph) used() []string {
	words := map[string]bool{}
	for edge := range g {
		words[edge[0]], words[edge[1]] = true, true
	}
	return slices.Sorted(maps.Keys(words))
}

// reached has for each word those to which ways of at least one edge lead.
func (g ownGraph) reached() map[string]map[string]bool {
	next := map[string][]string{}
	for edge := range g {
		next[edge[0]] = append(next[edge[0]], edge[1])
	}
	all := map[string]map[string]bool{}
	for _, first := range g.used() {
		seen := map[string]bool{}
		waiting := slices.Clone(next[first])
		for len(waiting) > 0 {
			word := waiting[0]
			waiting = waiting[1:]
			if !seen[word] {
				seen[word] = true
				waiting = append(waiting, next[word]...)
			}
		}
		all[first] = seen
	}
	return all
}

// lasting returns the words that stand on a way from a word that leads back to itself to such a one,
// in order: only these ways can be as long as is wanted.
func (g ownGraph) lasting() []string {
	reached := g.reached()
	comes, goes := map[string]bool{}, map[string]bool{}
	for first, words := range reached {
		for word := range words {
			if reached[first][first] {
				comes[word] = true
			}
			if reached[word][word] {
				goes[first] = true
			}
		}
	}
	var words []string
	for _, word := range g.used() {
		if comes[word] && goes[word] {
			words = append(words, word)
		}
	}
	return words
}

func (g ownGraph) table(words []string) [][]int64 {
	var table [][]int64
	for _, from := range words {
		var counts []int64
		for _, to := range words {
			counts = append(counts, g[[2]string{from, to}])
		}
		table = append(table, counts)
	}
	return table
}

// sequence returns the numbers of strips of 1, 2, .., n columns, however great they are.
func (g ownGraph) sequence(n int) []*big.Int {
	ends := map[string]*big.Int{}
	for _, word := range g.used() {
		ends[word] = big.NewInt(1)
	}
	var totals []*big.Int
	for range n {
		longer, total := map[string]*big.Int{}, new(big.Int)
		for word := range ends {
			longer[word] = new(big.Int)
		}
		for edge, count := range g {
			more := new(big.Int).Mul(ends[edge[0]], big.NewInt(count))
			longer[edge[1]].Add(longer[edge[1]], more)
			total.Add(total, more)
		}
		ends, totals = longer, append(totals, total)
	}
	return totals
}

// isGreat reports whether functions of chapter 6 have ErrLimit for all that has to do with a height.
func (g ownGraph) isGreat(set impl.Set, h int) bool {
	return power(int(set.Colours), h) > 700 || g.columns() > 5000
}

func digits(text string) []int64 {
	var word []int64
	for _, digit := range text {
		word = append(word, int64(digit)-'0')
	}
	return word
}

func digitLists(texts []string) [][]int64 {
	var words [][]int64
	for _, text := range texts {
		words = append(words, digits(text))
	}
	return words
}

func TestLimitsOfStrips(t *testing.T) {
	limits := []int64{impl.MaxStrip, impl.MaxCode, impl.MaxColumns, impl.MaxTable, impl.Modulus}
	if !slices.Equal(limits, []int64{4, 700, 5000, 40, 10007}) {
		t.Errorf("the constants are %v", limits)
	}
}

// stripTexts are texts of sets of all kinds, rings of colours among them, which go around in steps.
func stripTexts() []string {
	texts := moreTexts()
	d := draw(61)
	for range 20 {
		for _, ring := range [][2]int{{2, 2}, {3, 3}, {4, 2}, {4, 4}, {5, 5}, {6, 2}, {6, 3}, {6, 6}} {
			texts = append(texts, d.drawnRing(ring[0], ring[1], 2+d.below(13)))
		}
	}
	return texts
}

// drawnRing returns the text of a set with c colours in which each tile leads from a colour to one
// that is one greater, modulo step.
func (d *draw) drawnRing(c, step, n int) string {
	var words []string
	for range n {
		from, to := d.below(c), d.below(c/step)*step
		words = append(words, fmt.Sprintf("%d%d%d%d", from, d.below(2), to+(from+1)%step, d.below(2)))
	}
	slices.Sort(words)
	return textOf(setWith(c, slices.Compact(words)))
}

// wantColumns checks the number of columns, the words and the table of a height.
func wantColumns(t *testing.T, set impl.Set, h int, graph ownGraph) {
	t.Helper()
	what := fmt.Sprintf("of %s, %d", textOf(set), h)
	count, code := impl.CountColumns(set, int64(h))
	if graph.isGreat(set, h) {
		wantCode(t, "CountColumns "+what, count, code, impl.ErrLimit)
	} else {
		wantCount(t, "CountColumns "+what, graph.columns())(count, code)
	}
	words, code := impl.ColumnWords(set, int64(h))
	table, tabled := impl.ColumnTable(set, int64(h))
	if lasting := graph.lasting(); graph.isGreat(set, h) || len(lasting) > 40 {
		wantCode(t, "ColumnWords "+what, words, code, impl.ErrLimit)
		wantCode(t, "ColumnTable "+what, table, tabled, impl.ErrLimit)
	} else {
		wantLists(t, "ColumnWords "+what, words, code, digitLists(lasting))
		wantLists(t, "ColumnTable "+what, table, tabled, graph.table(lasting))
	}
}

func TestColumns(t *testing.T) {
	great, none, some := 0, 0, 0
	for _, text := range stripTexts() {
		set := setOf(text)
		for h := 1; h <= 4; h++ {
			graph := graphOfHeight(set, h)
			wantColumns(t, set, h, graph)
			switch lasting := len(graph.lasting()); {
			case graph.isGreat(set, h) || lasting > 40:
				great++
			case lasting == 0:
				none++
			default:
				some++
			}
		}
	}
	if great < 50 || none < 50 || some < 500 {
		t.Errorf("heights that are too great: %d, without lasting words: %d, with some: %d", great, none, some)
	}
}

// known numbers of columns: colours between tiles, and at all sides, that can be chosen freely.
func TestKnownColumns(t *testing.T) {
	for h := 1; h <= 4; h++ {
		cases := []struct {
			set            impl.Set
			columns, words int
		}{
			{setOf("1:"), 0, 0},
			{setOf("5:"), 0, 0},
			{setOf("1:0000"), 1, 1},
			{setOf("2:0011,1100"), 2, 2},
			{setOf("2:0001"), 1 / h, 1 / h},
			{setOf("2:0000,0101,1010,1111"), 2 << h, 1 << h},
			{setOf("3:0120,1201,2012"), []int{0, 3, 3, 3, 3}[h], 3},
			{upright(), power(4, h+1), 1},
		}
		if h < 4 {
			cases = append(cases, struct {
				set            impl.Set
				columns, words int
			}{setOf(fullTwo), 2 << (3 * h), 1 << h})
		}
		for _, c := range cases {
			what := fmt.Sprintf("of %s, %d", textOf(c.set), h)
			wantCount(t, "CountColumns "+what, int64(c.columns))(impl.CountColumns(c.set, int64(h)))
			words, code := impl.ColumnWords(c.set, int64(h))
			if code != impl.ErrNone || len(words) != c.words {
				t.Errorf("ColumnWords %s = %v, %d, want %d", what, words, code, c.words)
			}
		}
	}
	words, code := impl.ColumnWords(setOf("2:0000,0101,1010,1111"), 2)
	wantLists(t, "ColumnWords of wires, 2", words, code, [][]int64{{0, 0}, {0, 1}, {1, 0}, {1, 1}})
	table, code := impl.ColumnTable(setOf("2:0000,0101,1010,1111"), 2)
	wantLists(t, "ColumnTable of wires, 2", table, code, [][]int64{{2, 0, 0, 0}, {0, 2, 0, 0}, {0, 0, 2, 0}, {0, 0, 0, 2}})
	words, code = impl.ColumnWords(setOf("2:0011,1100"), 3)
	wantLists(t, "ColumnWords of chess, 3", words, code, [][]int64{{0, 1, 0}, {1, 0, 1}})
	table, code = impl.ColumnTable(setOf("2:0011,1100"), 3)
	wantLists(t, "ColumnTable of chess, 3", table, code, [][]int64{{0, 1}, {1, 0}})
}

// arrows returns a set of tiles from one colour to another one, told as two digits each, of which any
// number may stand above each other.
func arrows(text string) impl.Set {
	var words []string
	for _, pair := range strings.Fields(text) {
		words = append(words, pair[:1]+"0"+pair[1:]+"0")
	}
	return setWith(6, words)
}

// words before and behind those that go around are not lasting, and words between them are.
func TestLastingWords(t *testing.T) {
	cases := []struct {
		arrows string
		words  []string
	}{
		{"01 12 23 34 45", nil},
		{"55", []string{"5"}},
		{"01 11 12", []string{"1"}},
		{"00 01 12", []string{"0"}},
		{"01 12 22", []string{"2"}},
		{"00 01 12 23 33", []string{"0", "1", "2", "3"}},
		{"00 01 12 22 32 03", []string{"0", "1", "2", "3"}},
		{"00 01 12 22 13 42", []string{"0", "1", "2"}},
		{"01 10 12 23 32 43 25", []string{"0", "1", "2", "3"}},
		{"01 12 23 34 45 50", []string{"0", "1", "2", "3", "4", "5"}},
		{"01 12 23 34 45 52", []string{"2", "3", "4", "5"}},
	}
	for _, c := range cases {
		set := arrows(c.arrows)
		words, code := impl.ColumnWords(set, 1)
		wantLists(t, "ColumnWords of "+c.arrows, words, code, digitLists(c.words))
		for h := 1; h <= 3; h++ {
			wantColumns(t, set, h, graphOfHeight(set, h))
		}
	}
	table, code := impl.ColumnTable(setOf("3:0010,0011,0120,1000,1010,2120"), 1)
	wantLists(t, "ColumnTable with many columns", table, code, [][]int64{{0, 2, 1}, {1, 1, 0}, {0, 0, 1}})
}

// tiles that are kept by the heights of chapter 4 are as many as the edges of the table.
func TestTablesOfStacks(t *testing.T) {
	tried := 0
	for _, text := range stripTexts() {
		set := setOf(text)
		stack := set
		for h := 1; h <= 3; h++ {
			if h > 1 {
				stack = stackedOn(stack, set).set
			}
			words, code := impl.ColumnWords(set, int64(h))
			if code != impl.ErrNone || stack.Colours > 200 {
				break
			}
			tried++
			left := map[int64]bool{}
			for _, a := range ownKept(stack).Tiles {
				left[a[0]] = true
			}
			if len(left) != len(words) {
				t.Errorf("ColumnWords of %s, %d: %d words, want %d", text, h, len(words), len(left))
			}
		}
	}
	if tried < 300 {
		t.Errorf("only %d heights", tried)
	}
}

// wantSequence checks the numbers of strips of 1, 2, .., n columns.
func wantSequence(t *testing.T, set impl.Set, h, n int, totals []*big.Int) {
	t.Helper()
	what := fmt.Sprintf("StripSequence of %s, %d, %d", textOf(set), h, n)
	var want []int64
	for _, total := range totals[:n] {
		if total.Cmp(big.NewInt(1_000_000_000_000_000)) > 0 {
			got, code := impl.StripSequence(set, int64(h), int64(n))
			wantCode(t, what, got, code, impl.ErrLimit)
			return
		}
		want = append(want, total.Int64())
	}
	got, code := impl.StripSequence(set, int64(h), int64(n))
	wantList(t, what, got, code, want)
}

func TestSequences(t *testing.T) {
	for k, text := range stripTexts() {
		set := setOf(text)
		for h := 1; h <= 4; h++ {
			graph := graphOfHeight(set, h)
			if graph.isGreat(set, h) {
				for n := int64(1); n <= 30; n += 29 {
					got, code := impl.StripSequence(set, int64(h), n)
					wantCode(t, fmt.Sprintf("StripSequence of %s, %d, %d", text, h, n), got, code, impl.ErrLimit)
				}
				continue
			}
			totals := graph.sequence(30)
			for n := 1; n <= 30; n++ {
				// not each n for each set, to save time
				if n < 4 || n == 30 || (n+k)%5 == 0 {
					wantSequence(t, set, h, n, totals)
				}
			}
		}
	}
}

// the numbers are those of the fillings of chapter 3.
func TestSequencesOfFillings(t *testing.T) {
	tried := 0
	for _, text := range stripTexts() {
		set := setOf(text)
		for h := 1; h <= 4; h++ {
			sequence, code := impl.StripSequence(set, int64(h), 5)
			if code != impl.ErrNone {
				continue
			}
			columns, _ := impl.CountColumns(set, int64(h))
			if sequence[0] != columns {
				t.Errorf("%d columns, and the sequence %v", columns, sequence)
			}
			tried++
			for k, number := range sequence {
				wantCount(t, fmt.Sprintf("CountFillings of %s, %d, %d", text, h, k+1), number)(impl.CountFillings(set, freePlan(h, k+1), open()))
			}
		}
	}
	if tried < 500 {
		t.Errorf("only %d sequences", tried)
	}
}

// strips of a transposed set are strips that stand.
func TestSequencesOfTransposedSets(t *testing.T) {
	for _, text := range stripTexts() {
		set := setOf(text)
		transposed, _ := impl.TransposedSet(set)
		for h := int64(1); h <= 4; h++ {
			for w := int64(1); w <= 4; w++ {
				lying, code := impl.StripSequence(set, h, w)
				standing, other := impl.StripSequence(transposed, w, h)
				if code == impl.ErrNone && other == impl.ErrNone && lying[w-1] != standing[h-1] {
					t.Errorf("strips of %s, %d, %d: %v and %v", text, h, w, lying, standing)
				}
			}
		}
	}
}

// the numbers grow as far as to 10^15, and not beyond it.
func TestGreatestSequences(t *testing.T) {
	const most = 1_000_000_000_000_000
	ten := setWith(5, loops(0, 0, 5), loops(0, 1, 5))
	eleven := setWith(5, loops(0, 0, 5), loops(0, 1, 5), loops(1, 0, 1))
	sequence, code := impl.StripSequence(ten, 1, 15)
	if code != impl.ErrNone || len(sequence) != 15 || sequence[0] != 10 || sequence[14] != most {
		t.Errorf("a sequence to the limit: %v, %d", sequence, code)
	}
	sequence, code = impl.StripSequence(eleven, 1, 14)
	if code != impl.ErrNone || len(sequence) != 14 || sequence[0] != 11 || sequence[13] != most/10+1 {
		t.Errorf("a sequence below the limit: %v, %d", sequence, code)
	}
	sequence, code = impl.StripSequence(eleven, 1, 15)
	wantCode(t, "a sequence beyond the limit", sequence, code, impl.ErrLimit)
	for n := int64(16); n <= 30; n++ {
		sequence, code = impl.StripSequence(ten, 1, n)
		wantCode(t, fmt.Sprintf("a sequence of %d numbers beyond the limit", n), sequence, code, impl.ErrLimit)
	}
	for h := 1; h <= 3; h++ {
		// 2^(h (n + 1) + n (h + 1)) fillings
		for n := 1; n <= 30; n++ {
			sequence, code = impl.StripSequence(setOf(fullTwo), int64(h), int64(n))
			bits := h*(n+1) + n*(h+1)
			if bits >= 50 {
				wantCode(t, fmt.Sprintf("StripSequence of all tiles, %d, %d", h, n), sequence, code, impl.ErrLimit)
			} else if code != impl.ErrNone || len(sequence) != n || sequence[n-1] != 1<<bits {
				t.Errorf("StripSequence of all tiles, %d, %d = %v, %d", h, n, sequence, code)
			}
		}
	}
}

// steps returns a set in which as many tiles as are told lead from each north colour to each south
// colour, with west colours as few as can be.
func steps(counts [][]int) impl.Set {
	var words []string
	for north, row := range counts {
		for south, count := range row {
			for k := range count {
				words = append(words, fmt.Sprintf("%d%d%d%d", k/5, north, k%5, south))
			}
		}
	}
	return setWith(5, words)
}

func TestMostColumns(t *testing.T) {
	full := steps([][]int{{1, 3, 1}, {1, 7, 0}, {0, 0, 1}})
	wantCount(t, "CountColumns at the limit", 5000)(impl.CountColumns(full, 4))
	graph := graphOfHeight(full, 4)
	wantColumns(t, full, 4, graph)
	wantSequence(t, full, 4, 9, graph.sequence(9))
	if words, code := impl.ColumnWords(full, 4); code != impl.ErrNone || len(words) == 0 {
		t.Errorf("words of 5000 columns: %v, %d", words, code)
	}
	for _, set := range []impl.Set{steps([][]int{{1, 0, 5}, {0, 0, 1}, {2, 1, 5}}), setOf(fullTwo)} {
		if graphOfHeight(set, 4).columns() == 5000 {
			t.Errorf("%s has 5000 columns", textOf(set))
		}
		for name, call := range stripCalls() {
			got, code := call(set, 4)
			wantCode(t, name+" of "+textOf(set), got, code, impl.ErrLimit)
		}
	}
	if beyond := graphOfHeight(steps([][]int{{1, 0, 5}, {0, 0, 1}, {2, 1, 5}}), 4).columns(); beyond != 5001 {
		t.Errorf("%d columns", beyond)
	}
}

// there are 5^4 = 625 and 6^4 = 1296 words of four colours, also where no column has them.
func TestMostLists(t *testing.T) {
	for _, list := range []string{"", "0000", "0000,1111,5555", "0123"} {
		for name, call := range stripCalls() {
			if _, code := call(setOf("5:"+strings.TrimSuffix(list, ",5555")), 4); code == impl.ErrLimit {
				t.Errorf("%s of five colours: code %d", name, code)
			}
			if _, code := call(setOf("6:"+list), 3); code == impl.ErrLimit {
				t.Errorf("%s of six colours, 3: code %d", name, code)
			}
			got, code := call(setOf("6:"+list), 4)
			wantCode(t, name+" of six colours, 4", got, code, impl.ErrLimit)
		}
	}
}

func TestMostLastingWords(t *testing.T) {
	for _, c := range []struct {
		text  string
		h     int
		words int
	}{
		{"4:0001,0033,0110,0112,0113,0330,1101,1222,1231,2021,2203,2330,3012,3132,3331", 3, 40},
		{"4:0110,0313,0322,1023,1213,1230,2000,2212,2322,3001,3010,3031,3331", 3, 41},
		{"5:0222,0343,1121,1123,1310,1403,2202,2233,2241,2302,3234,3310,3440,4312", 4, 40},
		{"3:0002,0122,1021,1120,1210,2001,2022,2100,2202,2220,2222", 4, 41},
	} {
		set := setOf(c.text)
		graph := graphOfHeight(set, c.h)
		if len(graph.lasting()) != c.words {
			t.Errorf("%s has %d words", c.text, len(graph.lasting()))
		}
		wantColumns(t, set, c.h, graph)
		wantParts(t, set, c.h, graph)
		for _, name := range []string{"CountColumns", "StripSequence"} {
			if _, code := stripCalls()[name](set, int64(c.h)); code != impl.ErrNone {
				t.Errorf("%s of %s, %d: code %d", name, c.text, c.h, code)
			}
		}
	}
}
