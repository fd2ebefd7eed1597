package tests

import (
	"fmt"
	"slices"
	"testing"

	"loop.example/g01354/impl"
)

var mark = impl.Tile{77, 77, 77, 77}

// marked returns a set whose list of tiles has spare capacity with marks.
func marked(text string) impl.Set {
	t := setOf(text)
	t.Tiles = withSpare(t.Tiles, mark)
	return t
}

// kept reports whether a set is as marked made it, spare capacity included.
func kept(t impl.Set, text string) bool {
	spare := t.Tiles[len(t.Tiles):cap(t.Tiles)]
	return textOf(t) == text && slices.Equal(spare[:4], []impl.Tile{mark, mark, mark, mark})
}

// setCalls are the calls that return tiles, of two sets each, which have a tile in common.
func setCalls() map[string]func(t, u impl.Set) []impl.Tile {
	of := func(s impl.Set, _ int64) []impl.Tile { return s.Tiles }
	return map[string]func(t, u impl.Set) []impl.Tile{
		"SetOf":           func(t, u impl.Set) []impl.Tile { return of(impl.SetOf(2, t.Tiles)) },
		"PutTile":         func(t, u impl.Set) []impl.Tile { return of(impl.PutTile(t, impl.Tile{1, 1, 1, 1})) },
		"PutTile ahead":   func(t, u impl.Set) []impl.Tile { return of(impl.PutTile(t, impl.Tile{0, 0, 0, 0})) },
		"TakeTile first":  func(t, u impl.Set) []impl.Tile { return of(impl.TakeTile(t, 0)) },
		"TakeTile middle": func(t, u impl.Set) []impl.Tile { return of(impl.TakeTile(t, 1)) },
		"TakeTile last":   func(t, u impl.Set) []impl.Tile { return of(impl.TakeTile(t, 2)) },
		"FlippedSet":      func(t, u impl.Set) []impl.Tile { return of(impl.FlippedSet(t)) },
		"MirroredSet":     func(t, u impl.Set) []impl.Tile { return of(impl.MirroredSet(t)) },
		"TurnedSet":       func(t, u impl.Set) []impl.Tile { return of(impl.TurnedSet(t)) },
		"TransposedSet":   func(t, u impl.Set) []impl.Tile { return of(impl.TransposedSet(t)) },
		"RenameColours":   func(t, u impl.Set) []impl.Tile { return of(impl.RenameColours(t, []int64{1, 0})) },
		"same colours":    func(t, u impl.Set) []impl.Tile { return of(impl.RenameColours(t, []int64{0, 1})) },
		"JoinSets":        func(t, u impl.Set) []impl.Tile { return of(impl.JoinSets(t, u)) },
		"JoinSets of one": func(t, u impl.Set) []impl.Tile { return of(impl.JoinSets(t, impl.Set{Colours: 1})) },
		"ProductOfSets":   func(t, u impl.Set) []impl.Tile { return of(impl.ProductOfSets(t, u)) },
		"CommonTiles": func(t, u impl.Set) []impl.Tile {
			tiles, _ := impl.CommonTiles(t, u)
			return tiles
		},
	}
}

// wantArgumentsKept checks that calls with two sets return tiles, and neither change these sets nor
// share memory with them.
func wantArgumentsKept(t *testing.T, calls map[string]func(t, u impl.Set) []impl.Tile, first, second string) {
	t.Helper()
	for name, call := range calls {
		a, b := marked(first), marked(second)
		tiles := call(a, b)
		if len(tiles) == 0 {
			t.Errorf("%s returns nothing", name)
		}
		// what is written into a result must not reach an argument
		tiles = tiles[:cap(tiles)]
		for i := range tiles {
			tiles[i] = impl.Tile{99, 99, 99, 99}
		}
		if !kept(a, first) || !kept(b, second) {
			t.Errorf("%s changes an argument, or shares memory with it", name)
		}
	}
}

func TestArgumentsAreKept(t *testing.T) {
	wantArgumentsKept(t, setCalls(), "2:0011,0110,1100", "2:0010,1100")
	unsorted := []impl.Tile{{1, 0, 0, 0}, {0, 0, 0, 0}, {1, 0, 0, 0}}
	impl.SetOf(2, unsorted)
	if !slices.Equal(unsorted, []impl.Tile{{1, 0, 0, 0}, {0, 0, 0, 0}, {1, 0, 0, 0}}) {
		t.Errorf("SetOf changes its argument")
	}
	p := []int64{1, 2, 0}
	impl.RenameColours(setOf("3:0120"), p)
	if !slices.Equal(p, []int64{1, 2, 0}) {
		t.Errorf("RenameColours changes its list")
	}
}

// two results of the same call share no memory either, as no state is kept.
func TestResultsAreNew(t *testing.T) {
	for _, name := range names {
		first, _ := impl.NamedSet(name[0])
		first.Tiles[0] = mark
		second, code := impl.NamedSet(name[0])
		wantSet(t, "NamedSet again", second, code, name[1])
		first, _ = impl.ParseSet(name[1])
		first.Tiles[0] = mark
		second, code = impl.ParseSet(name[1])
		wantSet(t, "ParseSet again", second, code, name[1])
	}
}

func TestBordersShareNothing(t *testing.T) {
	set, rows := marked("2:0011,1100"), chessRows(3, 4)
	for _, row := range rows {
		if len(row) != 4 {
			t.Fatalf("%v", rows)
		}
	}
	want := wordsAround(set, rows)
	for i := range want {
		words, _ := impl.BordersOf(set, rows)
		// writing and appending to one of the words must leave the other ones as they are
		wide := words[i][:cap(words[i])]
		for j := range wide {
			wide[j] = 99
		}
		for k := range want {
			if k != i && !slices.Equal(words[k], want[k]) {
				t.Errorf("the border words %d and %d share memory", i, k)
			}
		}
	}
	if fmt.Sprint(rows) != fmt.Sprint(chessRows(3, 4)) || !kept(set, "2:0011,1100") {
		t.Errorf("BordersOf changes an argument")
	}
}

func TestNeighboursAreNew(t *testing.T) {
	set := marked("2:0000,0101,1010,1111")
	for _, f := range []func(impl.Set, int64) ([]int64, int64){impl.RightOf, impl.BelowOf} {
		list, _ := f(set, 0)
		want := slices.Clone(list)
		list[0] = 99
		again, code := f(set, 0)
		wantList(t, "neighbours again", again, code, want)
	}
	if !kept(set, "2:0000,0101,1010,1111") {
		t.Errorf("neighbours change the set")
	}
}
