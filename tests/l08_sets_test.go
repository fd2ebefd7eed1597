package tests

import (
	"fmt"
	"slices"
	"testing"

	"loop.example/g01354/impl"
)

// ownMultiplying returns the multiplying set of p, q and digits, of any size, from all tiles.
func ownMultiplying(p, q, m, n, u, v int64) impl.Set {
	set := impl.Set{Colours: max(p+q-1, n+1, v+1)}
	for _, a := range allTiles(6) {
		l, d, r, e := a[0]+1-p, a[1], a[2]+1-p, a[3]
		inRange := l <= q-1 && r <= q-1 && m <= d && d <= n && u <= e && e <= v
		if inRange && p*d+l == q*e+r {
			set.Tiles = append(set.Tiles, a)
		}
	}
	return set
}

// ownBalance returns the balance of a row.
func ownBalance(set impl.Set, row []int64, p, q int64) int64 {
	balance := set.Tiles[row[0]][0] - set.Tiles[row[len(row)-1]][2]
	for _, north := range wordAt(set, row, 1) {
		balance += p * north
	}
	for _, south := range wordAt(set, row, 3) {
		balance -= q * south
	}
	return balance
}

// ownBalanced reports whether the balance of each row of one tile is 0.
func ownBalanced(set impl.Set, p, q int64) bool {
	for i := range set.Tiles {
		if ownBalance(set, []int64{int64(i)}, p, q) != 0 {
			return false
		}
	}
	return true
}

// ownFactors returns all pairs of numbers in 1..5 without a common divisor for which a set is balanced.
func ownFactors(set impl.Set) [][]int64 {
	var factors [][]int64
	for p := range int64(5) {
		for q := range int64(5) {
			if commonDivisor(int(p+1), int(q+1)) == 1 && ownBalanced(set, p+1, q+1) {
				factors = append(factors, []int64{p + 1, q + 1})
			}
		}
	}
	return factors
}

// factorPairs returns all pairs of numbers in 1..most.
func factorPairs(most int64) [][2]int64 {
	var pairs [][2]int64
	for p := range most {
		for q := range most {
			pairs = append(pairs, [2]int64{p + 1, q + 1})
		}
	}
	return pairs
}

// digitRanges returns all pairs of digits of which the first one is not greater.
func digitRanges() [][2]int64 {
	var ranges [][2]int64
	for n := range int64(6) {
		for m := range n + 1 {
			ranges = append(ranges, [2]int64{m, n})
		}
	}
	return ranges
}

// all sets are tried. Promise 8: multiplying sets are balanced.
func TestMultiplyingSets(t *testing.T) {
	sizes := map[int]int{}
	for _, f := range factorPairs(3) {
		for _, d := range digitRanges() {
			for _, e := range digitRanges() {
				what := fmt.Sprintf("MultiplyingSet of %v, %v, %v", f, d, e)
				want := ownMultiplying(f[0], f[1], d[0], d[1], e[0], e[1])
				sizes[len(want.Tiles)]++
				got, code := impl.MultiplyingSet(f[0], f[1], d[0], d[1], e[0], e[1])
				if len(want.Tiles) > 16 {
					wantCode(t, what, got, code, impl.ErrLimit)
					continue
				}
				wantSet(t, what, got, code, textOf(want))
				balanced, code := impl.IsBalanced(got, f[0], f[1])
				if !impl.IsSet(got) || !balanced || code != impl.ErrNone {
					t.Errorf("%s: balanced %v, %d", what, balanced, code)
				}
			}
		}
	}
	if sizes[0] == 0 || sizes[16] == 0 || sizes[17] == 0 || sizes[50] == 0 {
		t.Errorf("numbers of tiles: %v", sizes)
	}
}

func TestKnownMultiplyingSets(t *testing.T) {
	cases := []struct {
		p, q, m, n, u, v int64
		want             string
	}{
		{2, 1, 0, 1, 1, 2, "3:0102,0111,1001,1112"},
		{1, 2, 1, 2, 0, 1, "3:0110,0201,1101,1211"},
		{1, 1, 0, 5, 0, 5, "6:0000,0101,0202,0303,0404,0505"},
		{1, 1, 0, 0, 0, 0, "1:0000"},
		{1, 1, 0, 2, 3, 4, "5:"},
		{3, 3, 0, 0, 0, 0, "5:0000,1010,2020,3030,4040"},
		{3, 3, 1, 1, 0, 0, "5:0130,1140"},
		{3, 1, 2, 2, 5, 5, "6:0215,1225"},
		{2, 1, 5, 5, 0, 5, "6:"},
		{1, 3, 5, 5, 0, 2, "6:0521,1502,2512"},
		{1, 1, 5, 5, 5, 5, "6:0505"},
	}
	for _, c := range cases {
		got, code := impl.MultiplyingSet(c.p, c.q, c.m, c.n, c.u, c.v)
		wantSet(t, fmt.Sprintf("MultiplyingSet of %v", c), got, code, c.want)
	}
}

func TestErrorsOfMultiplyingSets(t *testing.T) {
	// the last one has too many tiles
	for _, good := range [][6]int64{{1, 1, 0, 0, 0, 0}, {2, 3, 1, 1, 1, 2}, {3, 3, 5, 5, 5, 5}, {3, 3, 0, 5, 0, 5}} {
		if _, code := impl.MultiplyingSet(good[0], good[1], good[2], good[3], good[4], good[5]); code == impl.ErrRange {
			t.Errorf("MultiplyingSet of %v: code %d", good, code)
		}
		for at := range good {
			for _, wrong := range append(extremes, -1, 0, 4, 5, 6) {
				bad := good
				bad[at] = wrong
				factors := bad[0] >= 1 && bad[0] <= 3 && bad[1] >= 1 && bad[1] <= 3
				if factors && slices.Contains(digitRanges(), [2]int64{bad[2], bad[3]}) && slices.Contains(digitRanges(), [2]int64{bad[4], bad[5]}) {
					continue
				}
				got, code := impl.MultiplyingSet(bad[0], bad[1], bad[2], bad[3], bad[4], bad[5])
				wantCode(t, fmt.Sprintf("MultiplyingSet of %v", bad), got, code, impl.ErrRange)
			}
		}
	}
	for _, bad := range [][6]int64{{1, 1, 1, 0, 0, 0}, {1, 1, 0, 0, 1, 0}, {3, 3, 5, 0, 0, 5}, {3, 3, 0, 5, 5, 4}, {0, 0, 0, 0, 0, 0}} {
		got, code := impl.MultiplyingSet(bad[0], bad[1], bad[2], bad[3], bad[4], bad[5])
		wantCode(t, fmt.Sprintf("MultiplyingSet of %v", bad), got, code, impl.ErrRange)
	}
}

// wantNumberRow checks the set and the row of a task, and reports whether there is one.
func wantNumberRow(t *testing.T, p, q int64, k numberTask) bool {
	t.Helper()
	what := fmt.Sprintf("NumberRow of %d, %d, %v", p, q, k)
	set, row, code := impl.NumberRow(p, q, k.a, k.b, k.place, k.n)
	if k.a*p > 5*k.b*q {
		wantCode(t, what, set, code, impl.ErrRange)
		wantCode(t, what, row, code, impl.ErrRange)
		return false
	}
	norths, souths, carries := k.digits(1, 1), k.digits(p, q), k.carries(p, q)
	want := ownMultiplying(p, q, slices.Min(norths), slices.Max(norths), slices.Min(souths), slices.Max(souths))
	wantSet(t, "the set of "+what, set, code, textOf(want))
	if int64(len(row)) != k.n || !isRowOf(set, row) || !slices.Equal(wordAt(set, row, 1), norths) || !slices.Equal(wordAt(set, row, 3), souths) {
		t.Fatalf("the row of %s = %v, %d, in %s", what, row, code, textOf(set))
	}
	for i := range row {
		tile := set.Tiles[row[i]]
		if tile[0] != carries[i]+p-1 || tile[2] != carries[i+1]+p-1 {
			t.Errorf("the row of %s = %v has other carries than %v", what, row, carries)
		}
	}
	return true
}

// all fractions and factors are tried. Promise 8: rows of numbers have their digits.
func TestNumberRows(t *testing.T) {
	d := draw(83)
	found := 0
	for _, x := range allFractions() {
		for _, f := range factorPairs(3) {
			for _, k := range d.drawnPlaces(x)[1:5] {
				if wantNumberRow(t, f[0], f[1], k) {
					found++
				}
			}
		}
	}
	if found < 20000 {
		t.Errorf("only %d rows of numbers", found)
	}
}

// the functions that tell of the words, the carries and the balance of a row agree with it.
func TestRowsOfNumbersHaveTheirDigits(t *testing.T) {
	d := draw(84)
	for _, x := range allFractions() {
		k := d.drawnPlaces(x)[5]
		f := factorPairs(3)[d.below(9)]
		p, q := f[0], f[1]
		set, row, code := impl.NumberRow(p, q, k.a, k.b, k.place, k.n)
		if code != impl.ErrNone {
			continue
		}
		what := fmt.Sprintf("the row of %d, %d, %v", p, q, k)
		above, below, code := impl.WordsOfRow(set, row)
		list, second := impl.DigitsOf(k.a, k.b, k.place, k.n)
		wantList(t, what, above, code, list)
		if k.b*q <= 20 {
			product, third := impl.DigitsOf(k.a*p, k.b*q, k.place, k.n)
			wantList(t, what, below, third, product)
		}
		carries, third := impl.CarriesOf(p, q, k.a, k.b, k.place, k.n)
		wantList(t, what, append([]int64{carries[0] + p - 1}, wordAt(set, row, 2)...), third, shifted(carries, p-1))
		same, fourth := impl.MultiplyingSet(p, q, slices.Min(above), slices.Max(above), slices.Min(below), slices.Max(below))
		wantSet(t, what, set, fourth, textOf(same))
		wantCount(t, "BalanceOfRow, "+what, 0)(impl.BalanceOfRow(set, row, p, q))
		if second != impl.ErrNone {
			t.Errorf("%s: DigitsOf has the code %d", what, second)
		}
	}
}

// shifted returns the list with a number added to all its elements.
func shifted(list []int64, by int64) []int64 {
	var sums []int64
	for _, number := range list {
		sums = append(sums, number+by)
	}
	return sums
}

func TestKnownNumberRows(t *testing.T) {
	cases := []struct {
		p, q int64
		k    numberTask
		set  string
		row  []int64
	}{
		{2, 1, numberTask{2, 3, 1, 3}, "3:0102,0111,1001,1112", []int64{2, 1, 3}},
		{1, 2, numberTask{3, 1, 1, 3}, "4:0311,1302", []int64{0, 1, 0}},
		{1, 1, numberTask{0, 7, 1000, 2}, "1:0000", []int64{0, 0}},
		{1, 1, numberTask{5, 1, 1, 1}, "6:0505", []int64{0}},
		{3, 3, numberTask{1, 2, 1, 2}, "5:0000,0101,0130,1010,1111,1140,2020,2121,3001,3030,3131,4011,4040,4141", []int64{6, 7}},
		// the product is 5, which is not greater
		{3, 1, numberTask{5, 3, 1, 3}, "6:0215,1225,2105", []int64{2, 0, 1}},
		{3, 2, numberTask{10, 3, 3, 1}, "6:0425,1435", []int64{0}},
	}
	for _, c := range cases {
		set, row, code := impl.NumberRow(c.p, c.q, c.k.a, c.k.b, c.k.place, c.k.n)
		what := fmt.Sprintf("NumberRow of %d, %d, %v", c.p, c.q, c.k)
		wantSet(t, what, set, code, c.set)
		wantList(t, what, row, code, c.row)
	}
}

func TestErrorsOfFactors(t *testing.T) {
	for _, wrong := range append(extremes, -1, 0, 4, 5) {
		for _, f := range [][2]int64{{wrong, 1}, {1, wrong}, {wrong, 3}, {3, wrong}, {wrong, wrong}} {
			for _, k := range []numberTask{{0, 1, 1, 1}, {2, 3, 1, 3}, {100, 20, 1000, 20}, {1, 0, 0, 0}} {
				what := fmt.Sprintf("of %v, %v", f, k)
				carries, code := impl.CarriesOf(f[0], f[1], k.a, k.b, k.place, k.n)
				wantCode(t, "CarriesOf "+what, carries, code, impl.ErrRange)
				set, row, code := impl.NumberRow(f[0], f[1], k.a, k.b, k.place, k.n)
				wantCode(t, "the set of NumberRow "+what, set, code, impl.ErrRange)
				wantCode(t, "the row of NumberRow "+what, row, code, impl.ErrRange)
			}
		}
	}
	// the product is a little greater than 5
	for _, c := range [][4]int64{{3, 1, 26, 15}, {3, 2, 67, 20}, {2, 1, 51, 20}, {3, 1, 5, 1}} {
		set, row, code := impl.NumberRow(c[0], c[1], c[2], c[3], 1, 1)
		wantCode(t, fmt.Sprintf("the set of NumberRow of %v", c), set, code, impl.ErrRange)
		wantCode(t, fmt.Sprintf("the row of NumberRow of %v", c), row, code, impl.ErrRange)
	}
}

// balanceTexts returns texts of sets: ordinary ones, multiplying ones, and these with a tile less or
// with other colours.
func balanceTexts() []string {
	texts := moreTexts()
	d := draw(85)
	for _, f := range factorPairs(3) {
		for _, digits := range digitRanges() {
			e := digitRanges()[d.below(21)]
			set := ownMultiplying(f[0], f[1], digits[0], digits[1], e[0], e[1])
			if n := len(set.Tiles); n > 0 && n <= 16 {
				texts = append(texts, textOf(set))
				set.Tiles[d.below(n)][d.below(4)] = int64(d.below(int(set.Colours)))
				set.Tiles = slices.Compact(inOrder(set.Tiles))
				texts = append(texts, textOf(set), textOf(impl.Set{Colours: set.Colours, Tiles: set.Tiles[1:]}))
			}
		}
	}
	return texts
}

// rows of all lengths are drawn. If a set is balanced, the balance is 0 for all of them.
func TestBalances(t *testing.T) {
	d := draw(86)
	for _, text := range balanceTexts() {
		set := setOf(text)
		rows := allRows(set, 1)
		if len(set.Tiles) > 0 {
			rows = append(rows, d.drawnRow(set, 20), d.drawnRow(set, 1+d.below(20)))
		}
		for _, f := range factorPairs(5) {
			balanced, code := impl.IsBalanced(set, f[0], f[1])
			if balanced != ownBalanced(set, f[0], f[1]) || code != impl.ErrNone {
				t.Errorf("IsBalanced of %s, %v = %v, %d", text, f, balanced, code)
			}
			for _, row := range rows {
				want := ownBalance(set, row, f[0], f[1])
				wantCount(t, fmt.Sprintf("BalanceOfRow of %s, %v, %v", text, row, f), want)(impl.BalanceOfRow(set, row, f[0], f[1]))
				if balanced && want != 0 {
					t.Errorf("%s is balanced for %v, and %v is not", text, f, row)
				}
			}
		}
	}
}

// drawnRow returns a row of at most n tiles.
func (d *draw) drawnRow(set impl.Set, n int) []int64 {
	row := []int64{int64(d.below(len(set.Tiles)))}
	for len(row) < n {
		var next []int64
		for i, a := range set.Tiles {
			if a[0] == set.Tiles[row[len(row)-1]][2] {
				next = append(next, int64(i))
			}
		}
		if len(next) == 0 {
			break
		}
		row = append(row, next[d.below(len(next))])
	}
	return row
}

func TestKnownBalances(t *testing.T) {
	carry := setOf("2:0000,0011,0101,1110")
	wantCount(t, "BalanceOfRow of the tile 0", 0)(impl.BalanceOfRow(carry, []int64{0}, 5, 5))
	wantCount(t, "BalanceOfRow of the tile 1", -1-5)(impl.BalanceOfRow(carry, []int64{1}, 1, 5))
	wantCount(t, "BalanceOfRow of the tile 2", 4-3)(impl.BalanceOfRow(carry, []int64{2}, 4, 3))
	wantCount(t, "BalanceOfRow of the tile 3", 1+2-1)(impl.BalanceOfRow(carry, []int64{3}, 2, 3))
	wantCount(t, "BalanceOfRow of three tiles", 3*2-2*2-1)(impl.BalanceOfRow(carry, []int64{2, 1, 3}, 3, 2))
	greatest := setOf("6:0005,5050,5550")
	wantCount(t, "BalanceOfRow of twenty tiles", 5*5*20)(impl.BalanceOfRow(greatest, repeated(2, 20), 5, 1))
	wantCount(t, "BalanceOfRow of the least balance", -5*5*20)(impl.BalanceOfRow(greatest, repeated(0, 20), 1, 5))
}

func TestFactors(t *testing.T) {
	found := map[int]int{}
	for _, text := range balanceTexts() {
		set := setOf(text)
		want := ownFactors(set)
		found[len(want)]++
		got, code := impl.FactorsOf(set)
		wantLists(t, "FactorsOf "+text, got, code, want)
		for _, f := range got {
			balanced, code := impl.IsBalanced(set, f[0], f[1])
			if !balanced || code != impl.ErrNone {
				t.Errorf("%s is not balanced for %v: %d", text, f, code)
			}
		}
	}
	if found[0] == 0 || found[1] == 0 || found[3] == 0 || found[19] == 0 {
		t.Errorf("numbers of factors: %v", found)
	}
}

func TestKnownFactors(t *testing.T) {
	all := [][]int64{
		{1, 1}, {1, 2}, {1, 3}, {1, 4}, {1, 5}, {2, 1}, {2, 3}, {2, 5}, {3, 1}, {3, 2}, {3, 4}, {3, 5},
		{4, 1}, {4, 3}, {4, 5}, {5, 1}, {5, 2}, {5, 3}, {5, 4},
	}
	cases := []struct {
		text string
		want [][]int64
	}{
		{"1:", all},
		{"6:", all},
		{"1:0000", all},
		{"6:0000,3030,5050", all},
		{"2:0011,1100", nil},
		{"2:0101", [][]int64{{1, 1}}},
		{"3:0102,0111,1001,1112", [][]int64{{2, 1}}},
		// two p is q and 1 more
		{"3:0211", [][]int64{{1, 1}, {2, 3}, {3, 5}}},
		// four p is two q: also 2 and 4, which have a common divisor
		{"5:0402", [][]int64{{1, 2}}},
		{"6:0504", [][]int64{{4, 5}}},
		{"6:0405", [][]int64{{5, 4}}},
		{"6:0150", [][]int64{{5, 1}, {5, 2}, {5, 3}, {5, 4}}},
		{"6:0001", nil},
	}
	for _, c := range cases {
		got, code := impl.FactorsOf(setOf(c.text))
		wantLists(t, "FactorsOf "+c.text, got, code, c.want)
	}
	for _, f := range factorPairs(5) {
		balanced, code := impl.IsBalanced(setOf("5:0402"), f[0], f[1])
		if balanced != (f[1] == 2*f[0]) || code != impl.ErrNone {
			t.Errorf("IsBalanced of 5:0402, %v = %v, %d", f, balanced, code)
		}
	}
}

func TestErrorsOfBalances(t *testing.T) {
	set := setOf("2:0011,1100")
	wrongs := append(extremes, -1, 0, 6)
	for _, wrong := range wrongs {
		for _, f := range [][2]int64{{wrong, 1}, {1, wrong}, {wrong, 5}, {5, wrong}, {wrong, wrong}} {
			for _, own := range []impl.Set{set, setOf("1:"), setOf(fullSix)} {
				balanced, code := impl.IsBalanced(own, f[0], f[1])
				wantCode(t, fmt.Sprintf("IsBalanced of %s, %v", textOf(own), f), balanced, code, impl.ErrRange)
			}
			balance, code := impl.BalanceOfRow(set, []int64{1}, f[0], f[1])
			wantCode(t, fmt.Sprintf("BalanceOfRow for %v", f), balance, code, impl.ErrRange)
		}
	}
	long := make([]int64, 21)
	for i := range long {
		long[i] = int64(i % 2)
	}
	wantCount(t, "BalanceOfRow of 20 tiles", 10*5-10*3)(impl.BalanceOfRow(set, long[:20], 5, 3))
	for _, row := range [][]int64{nil, {}, {2}, {-1}, {0, 2}, {0, 0}, {1, 0, 0}, {0, -1 << 63}, {1<<63 - 1}, long} {
		for _, f := range [][2]int64{{1, 1}, {5, 5}, {0, 1}} {
			balance, code := impl.BalanceOfRow(set, row, f[0], f[1])
			wantCode(t, fmt.Sprintf("BalanceOfRow of %v, %v", row, f), balance, code, impl.ErrRange)
		}
	}
	for _, no := range noSets() {
		for _, number := range append(wrongs, 1) {
			balanced, code := impl.IsBalanced(no, number, 1)
			wantCode(t, fmt.Sprintf("IsBalanced of %v, %d", no, number), balanced, code, impl.ErrInvalid)
			for _, row := range [][]int64{nil, {0}, {number}, {0, 0}} {
				balance, code := impl.BalanceOfRow(no, row, number, 1)
				wantCode(t, fmt.Sprintf("BalanceOfRow for %v, %v, %d", no, row, number), balance, code, impl.ErrInvalid)
			}
		}
		factors, code := impl.FactorsOf(no)
		wantCode(t, fmt.Sprintf("FactorsOf %v", no), factors, code, impl.ErrInvalid)
	}
}

// what is written into results is in no later one, and arguments stay as they are.
func TestNumbersShareNothing(t *testing.T) {
	const text = "3:0102,0111,1001,1112"
	set, row := marked(text), withSpare([]int64{2, 1, 3}, 77)
	for range 2 {
		own, code := impl.MultiplyingSet(2, 1, 0, 1, 1, 2)
		wantSet(t, "MultiplyingSet again", own, code, text)
		of, found, second := impl.NumberRow(2, 1, 2, 3, 1, 3)
		wantSet(t, "NumberRow again", of, second, text)
		wantList(t, "NumberRow again", found, second, row)
		factors, third := impl.FactorsOf(setOf("3:0211"))
		wantLists(t, "FactorsOf again", factors, third, [][]int64{{1, 1}, {2, 3}, {3, 5}})
		wantApart(t, "rows and factors", append(factors, found))
		for _, list := range [][]impl.Tile{own.Tiles, of.Tiles} {
			for i := range list[:cap(list)] {
				list[:cap(list)][i] = mark
			}
		}
		impl.FactorsOf(set)
		impl.IsBalanced(set, 2, 1)
		impl.BalanceOfRow(set, row, 2, 1)
		if !kept(set, text) || !slices.Equal(row[:7], []int64{2, 1, 3, 77, 77, 77, 77}) {
			t.Fatalf("an argument is changed")
		}
	}
}
