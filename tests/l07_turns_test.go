package tests

import (
	"fmt"
	"slices"
	"testing"

	"loop.example/g01354/impl"
)

// ownTurned returns a tile turned k times: its sides move on to the north, to the east, and so on.
func ownTurned(a impl.Tile, k int64) impl.Tile {
	var turned impl.Tile
	for side, colour := range a {
		turned[(side+int(k))%4] = colour
	}
	return turned
}

// ownTurns returns the four turns of a tile.
func ownTurns(a impl.Tile) []impl.Tile {
	return []impl.Tile{ownTurned(a, 0), ownTurned(a, 1), ownTurned(a, 2), ownTurned(a, 3)}
}

// allTiles returns all tiles with c colours, ascending.
func allTiles(c int) []impl.Tile {
	var tiles []impl.Tile
	for number := range power(c, 4) {
		var a impl.Tile
		for side := range slices.Backward(a[:]) {
			a[side] = int64(number % c)
			number /= c
		}
		tiles = append(tiles, a)
	}
	return tiles
}

// drawnTile returns a tile with c colours.
func (d *draw) drawnTile(c int) impl.Tile {
	var a impl.Tile
	for side := range a {
		a[side] = int64(d.below(c))
	}
	return a
}

// badTiles are tiles with a colour that no tile may have, at each side.
func badTiles() []impl.Tile {
	var tiles []impl.Tile
	for side := range 4 {
		for _, colour := range append(extremes, -1, 6, 7) {
			bad := impl.Tile{0, 1, 2, 3}
			bad[side] = colour
			tiles = append(tiles, bad)
		}
	}
	return tiles
}

func TestLimitsOfTurning(t *testing.T) {
	if impl.MaxBoard != 6 || impl.MaxListed != 70 {
		t.Errorf("limits %d, %d", impl.MaxBoard, impl.MaxListed)
	}
}

// wantTile checks a result that is a tile and a code.
func wantTile(t *testing.T, what string, want impl.Tile) func(got impl.Tile, code int64) {
	t.Helper()
	return func(got impl.Tile, code int64) {
		t.Helper()
		if got != want || code != impl.ErrNone {
			t.Errorf("%s = %v, %d, want %v", what, got, code, want)
		}
	}
}

// all tiles are tried. Promise 7: the classes of turns are equal.
func TestTurns(t *testing.T) {
	found := map[int64]int{}
	for _, a := range allTiles(6) {
		turns := ownTurns(a)
		got, code := impl.TurnsOf(a)
		wantList(t, fmt.Sprintf("TurnsOf %v", a), got, code, turns)
		least := inOrder(turns)[0]
		number := int64(len(slices.Compact(inOrder(turns))))
		found[number]++
		for _, turn := range got {
			wantTile(t, fmt.Sprintf("ClassOf %v", turn), least)(impl.ClassOf(turn))
			wantCount(t, fmt.Sprintf("TurnNumber of %v", turn), number)(impl.TurnNumber(turn))
		}
	}
	if found[1] != 6 || found[2] != 30 || found[4] != 1260 || len(found) != 3 {
		t.Errorf("turn numbers: %v", found)
	}
}

func TestKnownTurns(t *testing.T) {
	cases := []struct {
		a      impl.Tile
		turns  []impl.Tile
		least  int
		number int64
	}{
		{impl.Tile{0, 1, 2, 3}, []impl.Tile{{0, 1, 2, 3}, {3, 0, 1, 2}, {2, 3, 0, 1}, {1, 2, 3, 0}}, 0, 4},
		{impl.Tile{5, 4, 3, 2}, []impl.Tile{{5, 4, 3, 2}, {2, 5, 4, 3}, {3, 2, 5, 4}, {4, 3, 2, 5}}, 1, 4},
		{impl.Tile{1, 0, 0, 1}, []impl.Tile{{1, 0, 0, 1}, {1, 1, 0, 0}, {0, 1, 1, 0}, {0, 0, 1, 1}}, 3, 4},
		{impl.Tile{0, 5, 0, 1}, []impl.Tile{{0, 5, 0, 1}, {1, 0, 5, 0}, {0, 1, 0, 5}, {5, 0, 1, 0}}, 2, 4},
		{impl.Tile{4, 2, 4, 2}, []impl.Tile{{4, 2, 4, 2}, {2, 4, 2, 4}, {4, 2, 4, 2}, {2, 4, 2, 4}}, 1, 2},
		{impl.Tile{5, 5, 5, 5}, []impl.Tile{{5, 5, 5, 5}, {5, 5, 5, 5}, {5, 5, 5, 5}, {5, 5, 5, 5}}, 0, 1},
	}
	for _, c := range cases {
		turns, code := impl.TurnsOf(c.a)
		wantList(t, fmt.Sprintf("TurnsOf %v", c.a), turns, code, c.turns)
		wantTile(t, fmt.Sprintf("ClassOf %v", c.a), c.turns[c.least])(impl.ClassOf(c.a))
		wantCount(t, fmt.Sprintf("TurnNumber of %v", c.a), c.number)(impl.TurnNumber(c.a))
	}
}

// promise 15: turns of tiles are those of sets of one tile.
func TestTurnsOfSets(t *testing.T) {
	for _, a := range allTiles(6) {
		turns, _ := impl.TurnsOf(a)
		set, _ := impl.SetOf(6, []impl.Tile{a})
		for k, turn := range turns {
			if !slices.Equal(set.Tiles, []impl.Tile{turn}) {
				t.Errorf("%v turned %d times = %v, and the set is %s", a, k, turn, textOf(set))
			}
			set, _ = impl.TurnedSet(set)
		}
	}
}

// wantAlike checks what is told of two tiles, in both orders.
func wantAlike(t *testing.T, a, b impl.Tile, alike, mirror bool) {
	t.Helper()
	for _, pair := range [][2]impl.Tile{{a, b}, {b, a}} {
		gotAlike, gotMirror, code := impl.AreAlike(pair[0], pair[1])
		if gotAlike != alike || gotMirror != mirror || code != impl.ErrNone {
			t.Errorf("AreAlike of %v = %v, %v, %d, want %v, %v", pair, gotAlike, gotMirror, code, alike, mirror)
		}
	}
}

// wantOwnAlike checks two tiles by the turns of one of them, and returns what they are.
func wantOwnAlike(t *testing.T, a, b impl.Tile) [2]bool {
	t.Helper()
	alike := slices.Contains(ownTurns(a), b)
	mirror := slices.Contains(ownTurns(a), impl.Tile{b[2], b[1], b[0], b[3]})
	wantAlike(t, a, b, alike, mirror)
	return [2]bool{alike, mirror}
}

// all pairs of tiles with three colours are tried, and some with six.
func TestAlike(t *testing.T) {
	found := map[[2]bool]int{}
	for _, a := range allTiles(3) {
		for _, b := range allTiles(3) {
			found[wantOwnAlike(t, a, b)]++
		}
	}
	d := draw(71)
	for range 300 {
		a, b := d.drawnTile(6), d.drawnTile(6)
		k := int64(d.below(4))
		turned := ownTurned(a, k)
		for _, other := range []impl.Tile{b, turned, {turned[2], turned[1], turned[0], turned[3]}} {
			found[wantOwnAlike(t, a, other)]++
		}
	}
	for _, kind := range [][2]bool{{false, false}, {false, true}, {true, false}, {true, true}} {
		if found[kind] < 30 {
			t.Errorf("pairs: %v", found)
		}
	}
	wantAlike(t, impl.Tile{0, 1, 2, 3}, impl.Tile{0, 1, 2, 3}, true, false)
	wantAlike(t, impl.Tile{0, 1, 2, 3}, impl.Tile{0, 3, 2, 1}, false, true)
	wantAlike(t, impl.Tile{0, 1, 2, 3}, impl.Tile{0, 2, 1, 3}, false, false)
	wantAlike(t, impl.Tile{0, 0, 1, 1}, impl.Tile{1, 0, 0, 1}, true, true)
}

// the guarantee: turn numbers of all classes add up to all tiles.
func TestClasses(t *testing.T) {
	for c := 1; c <= 6; c++ {
		var classes []impl.Tile
		for _, a := range allTiles(c) {
			if a == inOrder(ownTurns(a))[0] {
				classes = append(classes, a)
			}
		}
		wantCount(t, fmt.Sprintf("CountClasses of %d", c), int64(len(classes)))(impl.CountClasses(int64(c)))
		// by Burnside's lemma
		wantCount(t, fmt.Sprintf("CountClasses of %d", c), int64(power(c, 4)+power(c, 2)+2*c)/4)(impl.CountClasses(int64(c)))
		got, code := impl.ClassesOf(int64(c))
		if c > 4 {
			wantCode(t, fmt.Sprintf("ClassesOf %d", c), got, code, impl.ErrRange)
			continue
		}
		wantList(t, fmt.Sprintf("ClassesOf %d", c), got, code, classes)
		all := int64(0)
		for _, a := range got {
			number, _ := impl.TurnNumber(a)
			all += number
		}
		if all != int64(power(c, 4)) {
			t.Errorf("the classes of %d colours have %d tiles", c, all)
		}
	}
	two, code := impl.ClassesOf(2)
	wantList(t, "ClassesOf 2", two, code, setOf("2:0000,0001,0011,0101,0111,1111").Tiles)
	one, code := impl.ClassesOf(1)
	wantList(t, "ClassesOf 1", one, code, []impl.Tile{{}})
}

// drawnTiles returns n tiles with c colours.
func (d *draw) drawnTiles(c, n int) []impl.Tile {
	var tiles []impl.Tile
	for range n {
		tiles = append(tiles, d.drawnTile(c))
	}
	return tiles
}

func TestSidesByColour(t *testing.T) {
	d := draw(72)
	for n := range 71 {
		tiles := d.drawnTiles(1+n%6, n)
		want := make([]int64, 6)
		for _, a := range tiles {
			want[a[0]]++
			want[a[1]]++
			want[a[2]]++
			want[a[3]]++
		}
		got, code := impl.SidesByColour(tiles)
		wantList(t, fmt.Sprintf("SidesByColour of %v", tiles), got, code, want)
	}
	none, code := impl.SidesByColour(nil)
	wantList(t, "SidesByColour of no tiles", none, code, make([]int64, 6))
	most, code := impl.SidesByColour(slices.Repeat([]impl.Tile{{5, 5, 0, 5}}, 70))
	wantList(t, "SidesByColour of 70 tiles", most, code, []int64{70, 0, 0, 0, 0, 210})
	some, code := impl.SidesByColour([]impl.Tile{{0, 1, 2, 3}, {1, 1, 5, 5}, {0, 0, 0, 5}})
	wantList(t, "SidesByColour of three tiles", some, code, []int64{4, 3, 1, 1, 0, 3})
}

func TestErrorsOfTurns(t *testing.T) {
	good := impl.Tile{0, 1, 2, 3}
	for _, bad := range badTiles() {
		what := fmt.Sprintf("of %v", bad)
		turns, code := impl.TurnsOf(bad)
		wantCode(t, "TurnsOf "+what, turns, code, impl.ErrRange)
		class, code := impl.ClassOf(bad)
		wantCode(t, "ClassOf "+what, class, code, impl.ErrRange)
		number, code := impl.TurnNumber(bad)
		wantCode(t, "TurnNumber "+what, number, code, impl.ErrRange)
		for _, pair := range [][2]impl.Tile{{bad, good}, {good, bad}, {bad, bad}} {
			alike, mirror, code := impl.AreAlike(pair[0], pair[1])
			if alike || mirror || code != impl.ErrRange {
				t.Errorf("AreAlike of %v = %v, %v, %d", pair, alike, mirror, code)
			}
		}
		for at := range 70 {
			tiles := slices.Repeat([]impl.Tile{good}, 70)
			tiles[at] = bad
			sides, code := impl.SidesByColour(tiles)
			wantCode(t, fmt.Sprintf("SidesByColour %s at %d", what, at), sides, code, impl.ErrRange)
		}
	}
	sides, code := impl.SidesByColour(make([]impl.Tile, 71))
	wantCode(t, "SidesByColour of 71 tiles", sides, code, impl.ErrRange)
	for _, c := range append(extremes, -1, 0, 7) {
		count, code := impl.CountClasses(c)
		wantCode(t, fmt.Sprintf("CountClasses of %d", c), count, code, impl.ErrRange)
		classes, code := impl.ClassesOf(c)
		wantCode(t, fmt.Sprintf("ClassesOf %d", c), classes, code, impl.ErrRange)
	}
}

// what is written into results is in no later one, and arguments stay as they are.
func TestTurnsShareNothing(t *testing.T) {
	for range 2 {
		turns, code := impl.TurnsOf(impl.Tile{1, 0, 2, 0})
		wantList(t, "TurnsOf again", turns, code, ownTurns(impl.Tile{1, 0, 2, 0}))
		classes, code := impl.ClassesOf(2)
		wantList(t, "ClassesOf again", classes, code, setOf("2:0000,0001,0011,0101,0111,1111").Tiles)
		for _, list := range [][]impl.Tile{turns[:cap(turns)], classes[:cap(classes)]} {
			for i := range list {
				list[i] = mark
			}
		}
		set := marked("2:0011,1100")
		sides, code := impl.SidesByColour(set.Tiles)
		wantList(t, "SidesByColour again", sides, code, []int64{4, 4, 0, 0, 0, 0})
		fillUp([][]int64{sides})
		if !kept(set, "2:0011,1100") {
			t.Errorf("SidesByColour changes its argument")
		}
	}
}
