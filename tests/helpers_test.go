package tests

import (
	"fmt"
	"reflect"
	"slices"
	"strings"
	"testing"

	"loop.example/g01354/impl"
)

// names are the names of sets and their texts, as the document tells them.
var names = [][2]string{
	{"plain", "1:0000"},
	{"chess", "2:0011,1100"},
	{"wires", "2:0000,0101,1010,1111"},
	{"bends", "2:0000,0110,1001,1111"},
	{"sums", "2:0000,0111,1011,1100"},
	{"carry", "2:0000,0011,0101,1110"},
	{"wall", "2:0001"},
	{"wheel", "3:0120,1201,2012"},
}

// setOf returns the set with a text without the functions that are tested. It does not judge it.
func setOf(text string) impl.Set {
	head, list, _ := strings.Cut(text, ":")
	t := impl.Set{Colours: int64(head[0] - '0')}
	for _, word := range strings.FieldsFunc(list, func(r rune) bool { return r == ',' }) {
		var tile impl.Tile
		for side := range tile {
			tile[side] = int64(word[side]) - '0'
		}
		t.Tiles = append(t.Tiles, tile)
	}
	return t
}

// textOf returns the text of a set, also of what is none, without the functions that are tested.
func textOf(t impl.Set) string {
	var words []string
	for _, a := range t.Tiles {
		words = append(words, fmt.Sprintf("%d%d%d%d", a[0], a[1], a[2], a[3]))
	}
	return fmt.Sprintf("%d:%s", t.Colours, strings.Join(words, ","))
}

// draw is a generator of numbers that are the same in each run.
type draw uint32

func (d *draw) below(n int) int {
	*d = *d*1664525 + 1013904223
	return int(*d>>16) % n
}

// drawnText returns the text of a set with c colours and at most n tiles.
func (d *draw) drawnText(c, n int) string {
	var words []string
	for range n {
		words = append(words, fmt.Sprintf("%d%d%d%d", d.below(c), d.below(c), d.below(c), d.below(c)))
	}
	slices.Sort(words)
	return fmt.Sprintf("%d:%s", c, strings.Join(slices.Compact(words), ","))
}

// fullTwo has as many tiles as a set may have: all with two colours.
const fullTwo = "2:0000,0001,0010,0011,0100,0101,0110,0111,1000,1001,1010,1011,1100,1101,1110,1111"

// fullSix has as many colours and tiles as a set may have.
const fullSix = "6:0000,0123,0255,0555,1032,1111,1450,2000,2345,3021,3333,4105,4444,5012,5500,5555"

// sampleTexts returns texts of sets: ordinary ones, and those at the limits.
func sampleTexts() []string {
	texts := []string{"1:", "2:", "6:", "3:0102,1200", "6:0123", "6:5432,5543", "6:0000,5555", fullTwo, fullSix}
	for _, name := range names {
		texts = append(texts, name[1])
	}
	d := draw(7)
	for c := 1; c <= impl.MaxColours; c++ {
		for _, n := range []int{1, 2, 5, 9, 16} {
			texts = append(texts, d.drawnText(c, n))
		}
	}
	return texts
}

// noSets returns what is no set, a kind each.
func noSets() []impl.Set {
	tooMany := setOf("3:" + strings.TrimPrefix(fullTwo, "2:") + ",2222")
	return []impl.Set{
		{},
		{Colours: -1},
		{Colours: impl.MaxColours + 1},
		{Colours: -1 << 63},
		{Colours: 1<<63 - 1},
		{Tiles: []impl.Tile{{0, 0, 0, 0}}},
		setOf("7:0000"),
		setOf("1:1000"),
		setOf("1:0100"),
		setOf("1:0010"),
		setOf("1:0001"),
		setOf("2:0000,0002"),
		{Colours: 2, Tiles: []impl.Tile{{-1, 0, 0, 0}}},
		{Colours: 2, Tiles: []impl.Tile{{0, 0, 0, -1 << 63}, {0, 0, 0, 0}}},
		{Colours: 2, Tiles: []impl.Tile{{0, 0, 0, 0}, {0, 0, 0, 1<<63 - 1}}},
		setOf("2:0011,0011"),
		setOf("2:1100,0011"),
		setOf("2:0000,0010,0001"),
		tooMany,
	}
}

// withSpare returns a copy of a list with spare capacity that is filled with a value.
func withSpare[T any](list []T, spare T) []T {
	wide := append(slices.Clone(list), spare, spare, spare, spare)
	return wide[:len(list)]
}

// wantSet checks a result that is a set and a code.
func wantSet(t *testing.T, what string, got impl.Set, code int64, want string) {
	t.Helper()
	if code != impl.ErrNone || textOf(got) != want {
		t.Errorf("%s = %s, %d, want %s", what, textOf(got), code, want)
	}
}

// wantCode checks a result that is an error, beside which there is nothing.
func wantCode(t *testing.T, what string, got any, code, want int64) {
	t.Helper()
	empty := reflect.ValueOf(got).IsZero() || reflect.TypeOf(got).Kind() == reflect.Slice && reflect.ValueOf(got).Len() == 0
	if set, ok := got.(impl.Set); ok {
		empty = set.Colours == 0 && len(set.Tiles) == 0
	}
	if code != want || !empty {
		t.Errorf("%s = %v, %d, want nothing, %d", what, got, code, want)
	}
}

// wantList checks a result that is a list and a code.
func wantList[T comparable](t *testing.T, what string, got []T, code int64, want []T) {
	t.Helper()
	if code != impl.ErrNone || !slices.Equal(got, want) {
		t.Errorf("%s = %v, %d, want %v", what, got, code, want)
	}
}

// wantLists checks a result that is a list of lists and a code.
func wantLists[T comparable](t *testing.T, what string, got [][]T, code int64, want [][]T) {
	t.Helper()
	if code != impl.ErrNone || !slices.EqualFunc(got, want, slices.Equal[[]T]) {
		t.Errorf("%s = %v, %d, want %v", what, got, code, want)
	}
}
