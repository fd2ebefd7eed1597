package tests

import (
	"fmt"
	"slices"
	"strings"
	"testing"

	"loop.example/g01354/impl"
)

func TestCodes(t *testing.T) {
	codes := []int64{impl.ErrNone, impl.ErrInvalid, impl.ErrRange, impl.ErrLimit, impl.ErrNotFound, impl.ErrState, impl.ErrSyntax}
	if !slices.Equal(codes, []int64{0, 1, 2, 3, 4, 5, 6}) {
		t.Errorf("codes %v", codes)
	}
	limits := []int64{impl.MaxColours, impl.MaxTiles, impl.MaxSide}
	if !slices.Equal(limits, []int64{6, 16, 8}) {
		t.Errorf("limits %v", limits)
	}
}

func TestIsSet(t *testing.T) {
	for _, text := range sampleTexts() {
		if !impl.IsSet(setOf(text)) {
			t.Errorf("%s is a set", text)
		}
	}
	if !impl.IsSet(impl.Set{Colours: 6, Tiles: []impl.Tile{}}) {
		t.Errorf("no tiles are tiles enough")
	}
	for _, no := range noSets() {
		if impl.IsSet(no) {
			t.Errorf("%v is no set", no)
		}
	}
}

// each of the sides decides the order of the tiles.
func TestIsSetOrder(t *testing.T) {
	for side := range 4 {
		var low, high impl.Tile
		high[side] = 1
		for later := side + 1; later < 4; later++ {
			low[later] = 1
		}
		if !impl.IsSet(impl.Set{Colours: 2, Tiles: []impl.Tile{low, high}}) {
			t.Errorf("%v is less than %v", low, high)
		}
		if impl.IsSet(impl.Set{Colours: 2, Tiles: []impl.Tile{high, low}}) {
			t.Errorf("%v is not less than %v", high, low)
		}
	}
}

func TestSetOf(t *testing.T) {
	for _, text := range sampleTexts() {
		want := setOf(text)
		given := slices.Concat(want.Tiles, want.Tiles)
		slices.Reverse(given)
		got, code := impl.SetOf(want.Colours, given)
		wantSet(t, "SetOf", got, code, text)
	}
	got, code := impl.SetOf(6, nil)
	wantSet(t, "SetOf of no tiles", got, code, "6:")
	got, code = impl.SetOf(1, make([]impl.Tile, 100))
	wantSet(t, "SetOf of 100 tiles", got, code, "1:0000")
}

func TestSetOfErrors(t *testing.T) {
	tile := impl.Tile{0, 0, 0, 0}
	for _, c := range []int64{0, -1, 7, -1 << 63, 1<<63 - 1} {
		got, code := impl.SetOf(c, nil)
		wantCode(t, fmt.Sprintf("SetOf of %d colours", c), got, code, impl.ErrRange)
	}
	got, code := impl.SetOf(1, make([]impl.Tile, 101))
	wantCode(t, "SetOf of 101 tiles", got, code, impl.ErrRange)
	for side := range tile {
		for _, colour := range []int64{-1, 2, 1<<63 - 1} {
			bad := tile
			bad[side] = colour
			got, code = impl.SetOf(2, []impl.Tile{tile, bad})
			wantCode(t, fmt.Sprintf("SetOf of %v", bad), got, code, impl.ErrRange)
		}
	}
	many := append(setOf(fullTwo).Tiles, impl.Tile{2, 2, 2, 2})
	got, code = impl.SetOf(3, many)
	wantCode(t, "SetOf of 17 tiles", got, code, impl.ErrLimit)
	got, code = impl.SetOf(2, many)
	wantCode(t, "SetOf of 17 tiles, one of them out of range", got, code, impl.ErrRange)
	got, code = impl.SetOf(3, append(many, impl.Tile{0, 0, 0, 3}))
	wantCode(t, "SetOf of 18 tiles, the last one out of range", got, code, impl.ErrRange)
}

func TestPutTile(t *testing.T) {
	for _, text := range sampleTexts() {
		set := setOf(text)
		for i, tile := range set.Tiles {
			rest := impl.Set{Colours: set.Colours, Tiles: slices.Delete(slices.Clone(set.Tiles), i, i+1)}
			got, code := impl.PutTile(rest, tile)
			wantSet(t, "PutTile", got, code, text)
		}
	}
	got, code := impl.PutTile(setOf("6:"), impl.Tile{5, 5, 5, 5})
	wantSet(t, "PutTile into no tiles", got, code, "6:5555")
}

func TestPutTileErrors(t *testing.T) {
	for _, no := range noSets() {
		got, code := impl.PutTile(no, impl.Tile{9, 9, 9, 9})
		wantCode(t, fmt.Sprintf("PutTile into %v", no), got, code, impl.ErrInvalid)
	}
	for side := range 4 {
		for _, colour := range []int64{-1, 6, 1<<63 - 1} {
			var bad impl.Tile
			bad[side] = colour
			got, code := impl.PutTile(setOf(fullSix), bad)
			wantCode(t, fmt.Sprintf("PutTile of %v", bad), got, code, impl.ErrRange)
		}
	}
	for _, tile := range setOf(fullSix).Tiles {
		got, code := impl.PutTile(setOf(fullSix), tile)
		wantCode(t, "PutTile of a tile of a full set", got, code, impl.ErrState)
	}
	got, code := impl.PutTile(setOf(fullSix), impl.Tile{0, 0, 0, 1})
	wantCode(t, "PutTile into a full set", got, code, impl.ErrLimit)
	got, code = impl.PutTile(setOf("2:0001,1110"), impl.Tile{1, 1, 1, 0})
	wantCode(t, "PutTile of the last tile", got, code, impl.ErrState)
}

func TestTakeTile(t *testing.T) {
	for _, text := range sampleTexts() {
		set := setOf(text)
		for i := range set.Tiles {
			rest := impl.Set{Colours: set.Colours, Tiles: slices.Delete(slices.Clone(set.Tiles), i, i+1)}
			got, code := impl.TakeTile(set, int64(i))
			wantSet(t, fmt.Sprintf("TakeTile of %s, %d", text, i), got, code, textOf(rest))
		}
		for _, i := range []int64{-1, int64(len(set.Tiles)), -1 << 63, 1<<63 - 1} {
			got, code := impl.TakeTile(set, i)
			wantCode(t, fmt.Sprintf("TakeTile of %s, %d", text, i), got, code, impl.ErrRange)
		}
	}
	for _, no := range noSets() {
		got, code := impl.TakeTile(no, -1)
		wantCode(t, fmt.Sprintf("TakeTile of %v", no), got, code, impl.ErrInvalid)
	}
}

// movedText returns a text with the sides of each tile in another order.
func movedText(text string, order [4]int) string {
	head, list, _ := strings.Cut(text, ":")
	words := strings.FieldsFunc(list, func(r rune) bool { return r == ',' })
	for i, word := range words {
		words[i] = fmt.Sprintf("%c%c%c%c", word[order[0]], word[order[1]], word[order[2]], word[order[3]])
	}
	slices.Sort(words)
	return head + ":" + strings.Join(words, ",")
}

// moves are the functions that move the sides, with where each side comes from, and how often they
// have to be applied until the set is as it was.
var moves = []struct {
	name  string
	move  func(impl.Set) (impl.Set, int64)
	order [4]int
	times int
}{
	{"FlippedSet", impl.FlippedSet, [4]int{0, 3, 2, 1}, 2},
	{"MirroredSet", impl.MirroredSet, [4]int{2, 1, 0, 3}, 2},
	{"TurnedSet", impl.TurnedSet, [4]int{3, 0, 1, 2}, 4},
	{"TransposedSet", impl.TransposedSet, [4]int{1, 0, 3, 2}, 2},
}

func TestMovedSets(t *testing.T) {
	for _, m := range moves {
		for _, text := range sampleTexts() {
			got, code := m.move(setOf(text))
			wantSet(t, m.name+" of "+text, got, code, movedText(text, m.order))
		}
		for _, no := range noSets() {
			got, code := m.move(no)
			wantCode(t, fmt.Sprintf("%s of %v", m.name, no), got, code, impl.ErrInvalid)
		}
	}
}

// Promise 1: sets flipped twice and turned four times are the sets.
func TestSetsMovedBack(t *testing.T) {
	for _, m := range moves {
		for _, text := range sampleTexts() {
			set, code := setOf(text), int64(impl.ErrNone)
			for range m.times {
				if set, code = m.move(set); code != impl.ErrNone {
					t.Errorf("%s of %s: code %d", m.name, text, code)
				}
			}
			wantSet(t, m.name+" again and again", set, code, text)
		}
	}
}

// Turning is transposing and then mirroring, so none of the three is any other one.
func TestTurnedByTransposed(t *testing.T) {
	for _, text := range sampleTexts() {
		transposed, _ := impl.TransposedSet(setOf(text))
		want, _ := impl.MirroredSet(transposed)
		got, code := impl.TurnedSet(setOf(text))
		wantSet(t, "TurnedSet of "+text, got, code, textOf(want))
	}
}

// renamedText returns a text with its colours renamed.
func renamedText(text string, p []int64) string {
	head, list, _ := strings.Cut(text, ":")
	list = strings.Map(func(r rune) rune {
		if r == ',' {
			return r
		}
		return rune('0' + p[r-'0'])
	}, list)
	return movedText(head+":"+list, [4]int{0, 1, 2, 3})
}

func TestRenameColours(t *testing.T) {
	d := draw(11)
	for _, text := range sampleTexts() {
		set := setOf(text)
		for range 5 {
			p, back := []int64{}, make([]int64, set.Colours)
			for a := range set.Colours {
				p = slices.Insert(p, d.below(len(p)+1), a)
			}
			for a, b := range p {
				back[b] = int64(a)
			}
			got, code := impl.RenameColours(set, p)
			wantSet(t, fmt.Sprintf("RenameColours of %s, %v", text, p), got, code, renamedText(text, p))
			again, code := impl.RenameColours(got, back)
			wantSet(t, "RenameColours back", again, code, text)
		}
	}
}

func TestRenameColoursErrors(t *testing.T) {
	for _, no := range noSets() {
		got, code := impl.RenameColours(no, []int64{-1})
		wantCode(t, fmt.Sprintf("RenameColours of %v", no), got, code, impl.ErrInvalid)
	}
	bad := [][]int64{
		nil, {0}, {0, 1}, {0, 1, 2, 3}, {0, 1, 1}, {2, 2, 2}, {1, 2, 3}, {-1, 0, 1}, {0, 1, 3},
		{0, 0, 1, 2}, {0, 1, 2, 0}, {1<<63 - 1, 0, 1}, {-1 << 63, 0, 1},
	}
	for _, p := range bad {
		got, code := impl.RenameColours(setOf("3:"), p)
		wantCode(t, fmt.Sprintf("RenameColours by %v", p), got, code, impl.ErrRange)
	}
	got, code := impl.RenameColours(setOf(fullSix), []int64{0, 1, 2, 3, 4, 5, 6})
	wantCode(t, "RenameColours by seven colours", got, code, impl.ErrRange)
}

// sortedText returns the text of a set with tiles in any order.
func sortedText(c int64, tiles []impl.Tile) string {
	return movedText(textOf(impl.Set{Colours: c, Tiles: tiles}), [4]int{0, 1, 2, 3})
}

func joinedText(t, u impl.Set) string {
	c := t.Colours
	tiles := slices.Clone(t.Tiles)
	for _, b := range u.Tiles {
		tiles = append(tiles, impl.Tile{b[0] + c, b[1] + c, b[2] + c, b[3] + c})
	}
	return sortedText(c+u.Colours, tiles)
}

func productText(t, u impl.Set) string {
	d := u.Colours
	var tiles []impl.Tile
	for _, a := range t.Tiles {
		for _, b := range u.Tiles {
			tiles = append(tiles, impl.Tile{a[0]*d + b[0], a[1]*d + b[1], a[2]*d + b[2], a[3]*d + b[3]})
		}
	}
	return sortedText(t.Colours*d, tiles)
}

// each pair of samples is either within the limits or not.
func TestJoinAndProduct(t *testing.T) {
	within, beyond := 0, 0
	for _, first := range sampleTexts() {
		for _, second := range sampleTexts() {
			a, b := setOf(first), setOf(second)
			what := first + " and " + second
			got, code := impl.JoinSets(a, b)
			if a.Colours+b.Colours > 6 || len(a.Tiles)+len(b.Tiles) > 16 {
				wantCode(t, "JoinSets of "+what, got, code, impl.ErrLimit)
				beyond++
			} else {
				wantSet(t, "JoinSets of "+what, got, code, joinedText(a, b))
				within++
			}
			got, code = impl.ProductOfSets(a, b)
			if a.Colours*b.Colours > 6 || len(a.Tiles)*len(b.Tiles) > 16 {
				wantCode(t, "ProductOfSets of "+what, got, code, impl.ErrLimit)
				beyond++
			} else {
				wantSet(t, "ProductOfSets of "+what, got, code, productText(a, b))
				within++
			}
		}
	}
	if within == 0 || beyond == 0 {
		t.Errorf("%d pairs within the limits, %d beyond", within, beyond)
	}
}

func TestJoinAndProductLimits(t *testing.T) {
	fifteen := "2:" + strings.TrimPrefix(fullTwo, "2:0000,")
	four, five := "2:0000,0001,0010,0011", "2:0000,0001,0010,0011,0100"
	three := "2:0000,0001,0010"
	cases := []struct {
		first, second string
		join, product int64
	}{
		{fifteen, "4:0123", 0, impl.ErrLimit},
		{fifteen, "1:0000", 0, 0},
		{fullTwo, "1:0000", impl.ErrLimit, 0},
		{fullTwo, "1:", 0, 0},
		{"1:0000", fullTwo, impl.ErrLimit, 0},
		{fifteen, three, impl.ErrLimit, impl.ErrLimit},
		{four, four, 0, 0},
		{four, five, 0, impl.ErrLimit},
		{five, three, 0, 0},
		{"3:", "2:", 0, 0},
		{"3:", "3:", 0, impl.ErrLimit},
		{"3:", "4:", impl.ErrLimit, impl.ErrLimit},
		{"5:", "1:", 0, 0},
		{"6:", "1:", impl.ErrLimit, 0},
		{"6:", "2:", impl.ErrLimit, impl.ErrLimit},
	}
	for _, c := range cases {
		if _, code := impl.JoinSets(setOf(c.first), setOf(c.second)); code != c.join {
			t.Errorf("JoinSets of %s and %s: code %d", c.first, c.second, code)
		}
		if _, code := impl.ProductOfSets(setOf(c.first), setOf(c.second)); code != c.product {
			t.Errorf("ProductOfSets of %s and %s: code %d", c.first, c.second, code)
		}
	}
}

// the colours of the first set count more in a product, and are the lesser ones in a join.
func TestProductOrder(t *testing.T) {
	got, code := impl.ProductOfSets(setOf("3:0120"), setOf("2:0011,1100"))
	wantSet(t, "ProductOfSets", got, code, "6:0251,1340")
	got, code = impl.ProductOfSets(setOf("2:0000,0001"), setOf("2:0000,0100"))
	wantSet(t, "ProductOfSets", got, code, "4:0000,0002,0100,0102")
	got, code = impl.JoinSets(setOf("3:0120"), setOf("2:0011,1100"))
	wantSet(t, "JoinSets", got, code, "5:0120,3344,4433")
}

func TestPairsOfSetsErrors(t *testing.T) {
	pairs := []struct {
		name string
		call func(t, u impl.Set) (any, int64)
	}{
		{"JoinSets", func(t, u impl.Set) (any, int64) { s, code := impl.JoinSets(t, u); return s, code }},
		{"ProductOfSets", func(t, u impl.Set) (any, int64) { s, code := impl.ProductOfSets(t, u); return s, code }},
		{"CommonTiles", func(t, u impl.Set) (any, int64) { l, code := impl.CommonTiles(t, u); return l, code }},
	}
	for _, p := range pairs {
		for _, no := range noSets() {
			got, code := p.call(no, setOf(fullSix))
			wantCode(t, fmt.Sprintf("%s of %v and a set", p.name, no), got, code, impl.ErrInvalid)
			got, code = p.call(setOf(fullSix), no)
			wantCode(t, fmt.Sprintf("%s of a set and %v", p.name, no), got, code, impl.ErrInvalid)
		}
	}
}

func TestCommonTiles(t *testing.T) {
	for _, first := range sampleTexts() {
		for _, second := range sampleTexts() {
			a, b := setOf(first), setOf(second)
			got, code := impl.CommonTiles(a, b)
			if a.Colours != b.Colours {
				wantCode(t, "CommonTiles of "+first+" and "+second, got, code, impl.ErrRange)
				continue
			}
			var want []impl.Tile
			for _, tile := range a.Tiles {
				if slices.Contains(b.Tiles, tile) {
					want = append(want, tile)
				}
			}
			wantList(t, "CommonTiles of "+first+" and "+second, got, code, want)
		}
	}
}
