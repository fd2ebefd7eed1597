package impl

import (
	"maps"
	"slices"
	"strconv"
	"strings"
)

const (
	ErrNone = iota
	ErrInvalid
	ErrRange
	ErrLimit
	ErrNotFound
	ErrState
	ErrSyntax
)
const (
	MaxColours = 6
	MaxTiles   = 16
	MaxSide    = 8
)

// maxGiven is how many tiles SetOf takes, repeated ones included.
const maxGiven = 100

// The places of the sides in a Tile, and in the list of border words.
const (
	west = iota
	north
	east
	south
	sides
)

type Tile [4]int64

type Set struct {
	Colours int64
	Tiles   []Tile
}

// IsSet reports whether t is a set.
func IsSet(t Set) bool {
	if !isColourNumber(t.Colours) || len(t.Tiles) > MaxTiles {
		return false
	}
	for i, tile := range t.Tiles {
		if !hasColours(tile, t.Colours) || i > 0 && compareTiles(t.Tiles[i-1], tile) >= 0 {
			return false
		}
	}
	return true
}

func isColourNumber(c int64) bool {
	return c >= 1 && c <= MaxColours
}

func hasColours(tile Tile, c int64) bool {
	return areColours(tile[:], c)
}

func haveColours(tiles []Tile, c int64) bool {
	for _, tile := range tiles {
		if !hasColours(tile, c) {
			return false
		}
	}
	return true
}

// areColours reports whether all elements of a list are colours of sets that have c of them.
func areColours(list []int64, c int64) bool {
	for _, colour := range list {
		if colour < 0 || colour >= c {
			return false
		}
	}
	return true
}

func compareTiles(a, b Tile) int {
	return slices.Compare(a[:], b[:])
}

// SetOf returns the set of c Colours, in 1..MaxColours, with tiles in any order, at most 100 of
// them, and ErrNone. (Tiles that stand more than once are there once.) Errors: ErrLimit if it would
// have more than MaxTiles tiles.
func SetOf(c int64, tiles []Tile) (Set, int64) {
	if !isColourNumber(c) || len(tiles) > maxGiven || !haveColours(tiles, c) {
		return Set{}, ErrRange
	}
	different := differentTiles(tiles)
	if len(different) > MaxTiles {
		return Set{}, ErrLimit
	}
	return sortedSet(c, slices.Collect(maps.Keys(different))), ErrNone
}

func differentTiles(tiles []Tile) map[Tile]bool {
	different := map[Tile]bool{}
	for _, tile := range tiles {
		different[tile] = true
	}
	return different
}

// sortedSet keeps the list of tiles, so it must be one that no caller holds.
func sortedSet(c int64, tiles []Tile) Set {
	slices.SortFunc(tiles, compareTiles)
	return Set{Colours: c, Tiles: tiles}
}

// PutTile returns t with a tile more, and ErrNone. Errors: ErrState if it has it; ErrLimit if it
// has MaxTiles tiles (and not this one).
func PutTile(t Set, tile Tile) (Set, int64) {
	if !IsSet(t) {
		return Set{}, ErrInvalid
	}
	if !hasColours(tile, t.Colours) {
		return Set{}, ErrRange
	}
	if hasTile(t, tile) {
		return Set{}, ErrState
	}
	if len(t.Tiles) == MaxTiles {
		return Set{}, ErrLimit
	}
	return sortedSet(t.Colours, append(slices.Clone(t.Tiles), tile)), ErrNone
}

func hasTile(t Set, tile Tile) bool {
	for _, own := range t.Tiles {
		if own == tile {
			return true
		}
	}
	return false
}

// TakeTile returns t without the tile i, and ErrNone.
func TakeTile(t Set, i int64) (Set, int64) {
	if !IsSet(t) {
		return Set{}, ErrInvalid
	}
	if !isTileNumber(t, i) {
		return Set{}, ErrRange
	}
	return Set{Colours: t.Colours, Tiles: slices.Concat(t.Tiles[:i], t.Tiles[i+1:])}, ErrNone
}

func isTileNumber(t Set, i int64) bool {
	return i >= 0 && i < int64(len(t.Tiles))
}

func (a Tile) flipped() Tile {
	return Tile{a[west], a[south], a[east], a[north]}
}

func (a Tile) mirrored() Tile {
	return Tile{a[east], a[north], a[west], a[south]}
}

func (a Tile) turned() Tile {
	return Tile{a[south], a[west], a[north], a[east]}
}

func (a Tile) transposed() Tile {
	return Tile{a[north], a[west], a[south], a[east]}
}

// FlippedSet returns t flipped, and ErrNone.
func FlippedSet(t Set) (Set, int64) {
	return changedSet(t, Tile.flipped)
}

// MirroredSet returns t mirrored, and ErrNone.
func MirroredSet(t Set) (Set, int64) {
	return changedSet(t, Tile.mirrored)
}

// TurnedSet returns t turned, and ErrNone.
func TurnedSet(t Set) (Set, int64) {
	return changedSet(t, Tile.turned)
}

// TransposedSet returns t transposed, and ErrNone.
func TransposedSet(t Set) (Set, int64) {
	return changedSet(t, Tile.transposed)
}

// changedSet needs a change that makes different tiles of different ones, with the same colours,
// so that the result is a set.
func changedSet(t Set, change func(Tile) Tile) (Set, int64) {
	if !IsSet(t) {
		return Set{}, ErrInvalid
	}
	var tiles []Tile
	for _, tile := range t.Tiles {
		tiles = append(tiles, change(tile))
	}
	return sortedSet(t.Colours, tiles), ErrNone
}

// RenameColours returns t with its colours renamed by p, and ErrNone.
func RenameColours(t Set, p []int64) (Set, int64) {
	if !IsSet(t) {
		return Set{}, ErrInvalid
	}
	if !isRenaming(p, t.Colours) {
		return Set{}, ErrRange
	}
	return changedSet(t, func(tile Tile) Tile {
		var renamed Tile
		for side, colour := range tile {
			renamed[side] = p[colour]
		}
		return renamed
	})
}

// isRenaming reports whether p has each of the numbers 0 to c - 1 once.
func isRenaming(p []int64, c int64) bool {
	if int64(len(p)) != c {
		return false
	}
	var seen [MaxColours]bool
	for _, colour := range p {
		if colour < 0 || colour >= c || seen[colour] {
			return false
		}
		seen[colour] = true
	}
	return true
}

// JoinSets returns the join, and ErrNone. Errors: ErrLimit if it would have more than MaxColours
// Colours, or more than MaxTiles tiles.
func JoinSets(t Set, u Set) (Set, int64) {
	if !IsSet(t) || !IsSet(u) {
		return Set{}, ErrInvalid
	}
	if t.Colours+u.Colours > MaxColours || len(t.Tiles)+len(u.Tiles) > MaxTiles {
		return Set{}, ErrLimit
	}
	tiles := slices.Clone(t.Tiles)
	for _, tile := range u.Tiles {
		for side := range tile {
			tile[side] += t.Colours
		}
		tiles = append(tiles, tile)
	}
	return sortedSet(t.Colours+u.Colours, tiles), ErrNone
}

// ProductOfSets returns the product, and ErrNone. Errors: ErrLimit if it would have more than
// MaxColours Colours, or more than MaxTiles tiles.
func ProductOfSets(t Set, u Set) (Set, int64) {
	if !IsSet(t) || !IsSet(u) {
		return Set{}, ErrInvalid
	}
	if t.Colours*u.Colours > MaxColours || len(t.Tiles)*len(u.Tiles) > MaxTiles {
		return Set{}, ErrLimit
	}
	var tiles []Tile
	for _, first := range t.Tiles {
		for _, second := range u.Tiles {
			tiles = append(tiles, pairedTile(first, second, u.Colours))
		}
	}
	return sortedSet(t.Colours*u.Colours, tiles), ErrNone
}

func pairedTile(first, second Tile, d int64) Tile {
	var pair Tile
	for side := range pair {
		pair[side] = first[side]*d + second[side]
	}
	return pair
}

// fits reports whether the tile k may stand at a side of the tile i.
func fits(t Set, i int64, side int, k int64) bool {
	opposite := (side + 2) % sides
	return t.Tiles[k][opposite] == t.Tiles[i][side]
}

func neighbours(t Set, i int64, side int) func(yield func(int64) bool) {
	return func(yield func(int64) bool) {
		for k := range int64(len(t.Tiles)) {
			if fits(t, i, side, k) && !yield(k) {
				return
			}
		}
	}
}

func neighbourList(t Set, i int64, side int) ([]int64, int64) {
	if !IsSet(t) {
		return nil, ErrInvalid
	}
	if !isTileNumber(t, i) {
		return nil, ErrRange
	}
	var list []int64
	for k := range neighbours(t, i, side) {
		list = append(list, k)
	}
	return list, ErrNone
}

// RightOf returns the tiles that fit right of the tile i, ascending, and ErrNone.
func RightOf(t Set, i int64) ([]int64, int64) {
	return neighbourList(t, i, east)
}

// BelowOf returns the tiles that fit below the tile i, ascending, and ErrNone.
func BelowOf(t Set, i int64) ([]int64, int64) {
	return neighbourList(t, i, south)
}

// IsFilling reports whether rows of numbers of tiles are a filling, and returns ErrNone. Errors:
// ErrRange if there are not 1..MaxSide rows, all of the same length in 1..MaxSide, of numbers of
// tiles.
func IsFilling(t Set, rows [][]int64) (bool, int64) {
	if !IsSet(t) {
		return false, ErrInvalid
	}
	if !areRows(t, rows) {
		return false, ErrRange
	}
	for y, row := range rows {
		for x, k := range row {
			if x > 0 && !fits(t, row[x-1], east, k) || y > 0 && !fits(t, rows[y-1][x], south, k) {
				return false, ErrNone
			}
		}
	}
	return true, ErrNone
}

func areRows(t Set, rows [][]int64) bool {
	if !isSideLength(len(rows)) || !isSideLength(len(rows[0])) {
		return false
	}
	for _, row := range rows {
		if len(row) != len(rows[0]) || !areTileNumbers(t, row) {
			return false
		}
	}
	return true
}

func isSideLength(n int) bool {
	return n >= 1 && n <= MaxSide
}

func areTileNumbers(t Set, list []int64) bool {
	for _, i := range list {
		if !isTileNumber(t, i) {
			return false
		}
	}
	return true
}

// BordersOf returns the border words of a filling, those of west, north, east and south in this
// order, and ErrNone. Errors: ErrRange as for IsFilling; ErrState if the rows are no filling.
func BordersOf(t Set, rows [][]int64) ([][]int64, int64) {
	filling, code := IsFilling(t, rows)
	if code != ErrNone {
		return nil, code
	}
	if !filling {
		return nil, ErrState
	}
	borders := make([][]int64, sides)
	for _, row := range rows {
		borders[west] = append(borders[west], t.Tiles[row[0]][west])
		borders[east] = append(borders[east], t.Tiles[row[len(row)-1]][east])
	}
	top, bottom := rows[0], rows[len(rows)-1]
	for x := range top {
		borders[north] = append(borders[north], t.Tiles[top[x]][north])
		borders[south] = append(borders[south], t.Tiles[bottom[x]][south])
	}
	return borders, ErrNone
}

// CommonTiles returns the tiles that are in both sets, ascending, and ErrNone. Errors: ErrRange if
// they have not as many Colours.
func CommonTiles(t Set, u Set) ([]Tile, int64) {
	if !IsSet(t) || !IsSet(u) {
		return nil, ErrInvalid
	}
	if t.Colours != u.Colours {
		return nil, ErrRange
	}
	others := differentTiles(u.Tiles)
	var common []Tile
	for _, tile := range t.Tiles {
		if others[tile] {
			common = append(common, tile)
		}
	}
	return common, ErrNone
}

// NamedSet returns the set with a name, and ErrNone. Errors: ErrNotFound if there is none.
func NamedSet(name string) (Set, int64) {
	t, code := ParseSet(textOfName(name))
	if code != ErrNone {
		return Set{}, ErrNotFound
	}
	return t, ErrNone
}

// textOfName returns the empty text, which is that of no set, for what is no name.
func textOfName(name string) string {
	switch name {
	case "plain":
		return "1:0000"
	case "chess":
		return "2:0011,1100"
	case "wires":
		return "2:0000,0101,1010,1111"
	case "bends":
		return "2:0000,0110,1001,1111"
	case "sums":
		return "2:0000,0111,1011,1100"
	case "carry":
		return "2:0000,0011,0101,1110"
	case "wall":
		return "2:0001"
	case "wheel":
		return "3:0120,1201,2012"
	}
	return ""
}

// SetText returns the text of t, and ErrNone.
func SetText(t Set) (string, int64) {
	if !IsSet(t) {
		return "", ErrInvalid
	}
	var words []string
	for _, tile := range t.Tiles {
		words = append(words, tileText(tile))
	}
	return strconv.FormatInt(t.Colours, 10) + ":" + strings.Join(words, ","), ErrNone
}

// tileText needs colours of one digit, as all sets have.
func tileText(tile Tile) string {
	var text strings.Builder
	for _, colour := range tile {
		text.WriteByte('0' + byte(colour))
	}
	return text.String()
}

// ParseSet returns the set with a text, and ErrNone. Errors: ErrSyntax if there is none. (No other
// errors are returned.)
func ParseSet(text string) (Set, int64) {
	head, list, found := strings.Cut(text, ":")
	if !found || len(head) != 1 {
		return Set{}, ErrSyntax
	}
	tiles, readable := readTiles(list)
	t := Set{Colours: readDigit(head[0]), Tiles: tiles}
	if !readable || !IsSet(t) {
		return Set{}, ErrSyntax
	}
	return t, ErrNone
}

func readTiles(list string) ([]Tile, bool) {
	if list == "" {
		return nil, true
	}
	var tiles []Tile
	for _, word := range strings.Split(list, ",") {
		if len(word) != sides {
			return nil, false
		}
		tiles = append(tiles, readTile(word))
	}
	return tiles, true
}

// readTile needs a word of four bytes.
func readTile(word string) Tile {
	var colours []int64
	for i := range len(word) {
		colours = append(colours, readDigit(word[i]))
	}
	return Tile(colours)
}

// readDigit returns for a byte that is no digit a number outside 0..9, which no set has as a colour
// or a number of them.
func readDigit(digit byte) int64 {
	return int64(digit) - '0'
}
