package tests

import (
	"fmt"
	"slices"
	"testing"

	"loop.example/g01354/impl"
)

// ownShift returns a torus shifted by a and b, place by place.
func ownShift(torus [][]int64, a, b int) [][]int64 {
	h, w := len(torus), len(torus[0])
	shifted := make([][]int64, h)
	for y := range h {
		for x := range w {
			shifted[y] = append(shifted[y], torus[(y+a)%h][(x+b)%w])
		}
	}
	return shifted
}

// ownLeast returns the least form of a torus.
func ownLeast(torus [][]int64) [][]int64 {
	var forms [][][]int64
	for a := range torus {
		for b := range torus[0] {
			forms = append(forms, ownShift(torus, a, b))
		}
	}
	return slices.MinFunc(forms, func(x, y [][]int64) int {
		return slices.Compare(slices.Concat(x...), slices.Concat(y...))
	})
}

// wantShifts checks all that is told of a torus and its shifts, and returns how many of these keep it.
func wantShifts(t *testing.T, set impl.Set, torus [][]int64) int {
	t.Helper()
	h, w := len(torus), len(torus[0])
	what := fmt.Sprintf("of %s, %v", textOf(set), torus)
	different := map[string]bool{}
	var keep [][]int64
	for a := range h {
		for b := range w {
			shifted := ownShift(torus, a, b)
			got, code := impl.ShiftTorus(set, torus, int64(a), int64(b))
			wantLists(t, fmt.Sprintf("ShiftTorus %s, %d, %d", what, a, b), got, code, shifted)
			different[fmt.Sprint(shifted)] = true
			if equalRows(shifted, torus) {
				keep = append(keep, []int64{int64(a), int64(b)})
			}
		}
	}
	least, code := impl.LeastForm(set, torus)
	wantLists(t, "LeastForm "+what, least, code, ownLeast(torus))
	kept, code := impl.ShiftsKept(set, torus)
	wantLists(t, "ShiftsKept "+what, kept, code, keep)
	number, code := impl.ShiftNumber(set, torus)
	wantCount(t, "ShiftNumber "+what, int64(len(different)))(number, code)
	if int(number)*len(kept) != h*w {
		t.Errorf("ShiftNumber %s = %d, and %d shifts keep", what, number, len(kept))
	}
	return len(keep)
}

// promise 5, for all tori of samples that are not too many.
func TestShiftsOfTori(t *testing.T) {
	found := map[int]int{}
	for _, text := range moreTexts() {
		set := setOf(text)
		for _, size := range toriSizes {
			tori, _ := allTori(set, size[0], size[1], 40)
			for _, torus := range tori {
				found[wantShifts(t, set, torus)]++
			}
		}
	}
	for _, n := range []int{1, 2, 3, 4, 6, 9} {
		if found[n] < 10 {
			t.Errorf("shifts that keep: %v", found)
		}
	}
}

// drawTorus returns a torus of fullTwo. The colours of its sides are the same at all places that have
// the same kind, in 0..h w - 1.
func (d *draw) drawTorus(h, w int, kind func(y, x int) int) [][]int64 {
	var right, down []int
	for range h * w {
		right, down = append(right, d.below(2)), append(down, d.below(2))
	}
	rows := make([][]int64, h)
	for y := range h {
		for x := range w {
			own, above, before := kind(y, x), kind((y+h-1)%h, x), kind(y, (x+w-1)%w)
			rows[y] = append(rows[y], int64(8*right[before]+4*down[above]+2*right[own]+down[own]))
		}
	}
	return rows
}

func commonDivisor(a, b int) int {
	for b > 0 {
		a, b = b, a%b
	}
	return a
}

// tori of all sizes that rows may have, with shifts that keep them in all directions.
func TestShiftsOfGreatTori(t *testing.T) {
	d := draw(13)
	set := setOf(fullTwo)
	all, some, none := 0, 0, 0
	for h := 1; h <= impl.MaxSide; h++ {
		for w := 1; w <= impl.MaxSide; w++ {
			kinds := []func(y, x int) int{
				func(y, x int) int { return y*w + x },
				func(y, x int) int { return y },
				func(y, x int) int { return x },
				func(y, x int) int { return 0 },
			}
			for range 4 {
				// a h and b w are multiples of m
				m := d.below(h*w) + 1
				a, b := m/commonDivisor(m, h)*d.below(h), m/commonDivisor(m, w)*d.below(w)
				kinds = append(kinds, func(y, x int) int { return (a*y + b*x) % m })
			}
			for _, kind := range kinds {
				torus := d.drawTorus(h, w, kind)
				wantAround(t, set, torus, true, true)
				switch wantShifts(t, set, torus) {
				case 1:
					none++
				case h * w:
					all++
				default:
					some++
				}
			}
		}
	}
	if min(all, some, none) < 50 {
		t.Errorf("tori that are kept by all shifts: %d, by some: %d, by one: %d", all, some, none)
	}
}

func TestKnownShifts(t *testing.T) {
	cases := []struct {
		text        string
		torus       [][]int64
		least, kept [][]int64
	}{
		{"2:0011,1100", [][]int64{{1, 0}, {0, 1}}, [][]int64{{0, 1}, {1, 0}}, [][]int64{{0, 0}, {1, 1}}},
		{"1:0000", [][]int64{{0}}, [][]int64{{0}}, [][]int64{{0, 0}}},
		{"1:0000", [][]int64{{0, 0}, {0, 0}}, [][]int64{{0, 0}, {0, 0}}, [][]int64{{0, 0}, {0, 1}, {1, 0}, {1, 1}}},
		// of rows that are shifted, the first one decides, and then the second one
		{"2:0000,0101,1010,1111", [][]int64{{2, 3, 2}, {0, 1, 0}}, [][]int64{{0, 0, 1}, {2, 2, 3}}, [][]int64{{0, 0}}},
		{"4:0000,0101,0202,0303", [][]int64{{0, 1, 0, 3, 0, 1, 0, 2}}, [][]int64{{0, 1, 0, 2, 0, 1, 0, 3}}, [][]int64{{0, 0}}},
		{"2:0000,0010,1000,1010", [][]int64{{0, 1, 2, 0}, {0, 0, 1, 2}, {0, 1, 2, 0}, {0, 0, 1, 2}}, [][]int64{{0, 0, 1, 2}, {0, 1, 2, 0}, {0, 0, 1, 2}, {0, 1, 2, 0}}, [][]int64{{0, 0}, {2, 0}}},
		{"3:0000,1010,2020", [][]int64{{0, 0}, {2, 2}, {0, 0}, {1, 1}}, [][]int64{{0, 0}, {1, 1}, {0, 0}, {2, 2}}, [][]int64{{0, 0}, {0, 1}}},
	}
	for _, c := range cases {
		set := setOf(c.text)
		if !meets(set, c.torus, true) {
			t.Errorf("%s: %v is no torus", c.text, c.torus)
		}
		what := fmt.Sprintf("of %s, %v", c.text, c.torus)
		least, code := impl.LeastForm(set, c.torus)
		wantLists(t, "LeastForm "+what, least, code, c.least)
		kept, code := impl.ShiftsKept(set, c.torus)
		wantLists(t, "ShiftsKept "+what, kept, code, c.kept)
		wantShifts(t, set, c.torus)
	}
}

// sets that were found by search: 4000 tori are taken, and not one more.
func TestMostForms(t *testing.T) {
	texts := []string{
		"4:0101,0103,0121,0303,2113,2121,2123,2131,2321,2323,2331,2332,3020,3101,3221,3321",
		"3:0002,0012,0100,0112,0120,0202,0212,1010,1020,1112,1200,1202,1211,1212,2001,2020",
		"3:0000,0021,0101,0110,0200,1010,1022,1110,1120,2000,2020,2021,2120,2121,2122,2220",
		"3:0000,0022,0122,1022,1210,1212,2020,2120,2121,2122,2201,2202,2220,2221,2222",
	}
	for i, text := range texts {
		set := setOf(text)
		tori, ok := allTori(set, 3, 3, 5000)
		if want := 4000 + i/2; !ok || len(tori) != want {
			t.Errorf("%s has %d tori", text, len(tori))
		}
		wantTori(t, set, 3, 3, tori)
	}
	// 16^3 tori, and 4^9
	for _, size := range [][2]int64{{2, 3}, {3, 2}, {3, 3}} {
		count, code := impl.CountForms(setOf(fullTwo), size[0], size[1])
		wantCode(t, fmt.Sprintf("CountForms %v of many", size), count, code, impl.ErrLimit)
		count, code = impl.CountForms(upright(), size[0], size[1])
		wantCode(t, fmt.Sprintf("CountForms %v of upright ones", size), count, code, impl.ErrLimit)
	}
}

// tori of wires have a colour for each row and each column, so that their forms are pairs of
// necklaces of two colours. Those of all tiles are counted by Burnside's lemma.
func TestKnownForms(t *testing.T) {
	wires := setOf("2:0000,0101,1010,1111")
	necklaces := []int64{0, 2, 3, 4}
	for h := int64(1); h <= 3; h++ {
		for w := int64(1); w <= 3; w++ {
			wantCount(t, fmt.Sprintf("CountForms of wires, %d, %d", h, w), necklaces[h]*necklaces[w])(impl.CountForms(wires, h, w))
			wantCount(t, "CountForms of plain", 1)(impl.CountForms(setOf("1:0000"), h, w))
			wantCount(t, "CountForms of wall", 0)(impl.CountForms(setOf("2:0001"), h, w))
		}
	}
	wantCount(t, "CountForms of all tiles, 2, 2", (256+16+16+16)/4)(impl.CountForms(setOf(fullTwo), 2, 2))
	wantCount(t, "CountForms of all tiles, 1, 3", (64+4+4)/3)(impl.CountForms(setOf(fullTwo), 1, 3))
}

// torusCalls are the functions of a torus.
func torusCalls() map[string]func(set impl.Set, rows [][]int64) (any, int64) {
	return map[string]func(set impl.Set, rows [][]int64) (any, int64){
		"ShiftTorus": func(set impl.Set, rows [][]int64) (any, int64) {
			shifted, code := impl.ShiftTorus(set, rows, 0, 0)
			return shifted, code
		},
		"LeastForm": func(set impl.Set, rows [][]int64) (any, int64) {
			least, code := impl.LeastForm(set, rows)
			return least, code
		},
		"ShiftsKept": func(set impl.Set, rows [][]int64) (any, int64) {
			kept, code := impl.ShiftsKept(set, rows)
			return kept, code
		},
		"ShiftNumber": func(set impl.Set, rows [][]int64) (any, int64) {
			number, code := impl.ShiftNumber(set, rows)
			return number, code
		},
	}
}

func TestErrorsOfTori(t *testing.T) {
	calls := torusCalls()
	asks := torusCalls()
	asks["IsTorus"] = func(set impl.Set, rows [][]int64) (any, int64) {
		yes, code := impl.IsTorus(set, rows)
		return yes, code
	}
	asks["IsCylinder"] = func(set impl.Set, rows [][]int64) (any, int64) {
		yes, code := impl.IsCylinder(set, rows)
		return yes, code
	}
	chess := setOf("2:0011,1100")
	for name, call := range asks {
		for _, rows := range badRows() {
			got, code := call(chess, rows)
			wantCode(t, fmt.Sprintf("%s of %v", name, rows), got, code, impl.ErrRange)
		}
		for _, no := range noSets() {
			for _, rows := range [][][]int64{nil, {{0}}, {{0, 0}}, {{0, 1}, {1, 0}}} {
				got, code := call(no, rows)
				wantCode(t, fmt.Sprintf("%s for %v", name, no), got, code, impl.ErrInvalid)
			}
		}
		got, code := call(setOf("2:"), [][]int64{{0}})
		wantCode(t, name+" without tiles", got, code, impl.ErrRange)
	}
	for name, call := range calls {
		// no filling, no cylinder, and a cylinder that is no torus
		for _, rows := range [][][]int64{{{0, 0}}, {{0}}, {{0, 1, 0}, {1, 0, 1}}, {{0, 1}}, {{0, 1}, {1, 0}, {0, 1}}} {
			got, code := call(chess, rows)
			wantCode(t, fmt.Sprintf("%s of %v", name, rows), got, code, impl.ErrState)
		}
	}
}

func TestErrorsOfShifts(t *testing.T) {
	wires := setOf("2:0000,0101,1010,1111")
	torus := [][]int64{{0, 1, 0}, {2, 3, 2}}
	none := [][]int64{{0, 1, 0}, {1, 3, 2}}
	numbers := append([]int64{-1, 0, 1, 2, 3, 8}, extremes...)
	for _, a := range numbers {
		for _, b := range numbers {
			what := fmt.Sprintf("ShiftTorus by %d, %d", a, b)
			shifted, code := impl.ShiftTorus(wires, torus, a, b)
			other, second := impl.ShiftTorus(wires, none, a, b)
			if a < 0 || a > 1 || b < 0 || b > 2 {
				wantCode(t, what, shifted, code, impl.ErrRange)
				wantCode(t, what+" of no torus", other, second, impl.ErrRange)
			} else {
				wantLists(t, what, shifted, code, ownShift(torus, int(a), int(b)))
				wantCode(t, what+" of no torus", other, second, impl.ErrState)
			}
			for _, rows := range badRows() {
				shifted, code = impl.ShiftTorus(setOf("2:0011,1100"), rows, a, b)
				wantCode(t, fmt.Sprintf("%s of %v", what, rows), shifted, code, impl.ErrRange)
			}
			for _, no := range noSets() {
				shifted, code = impl.ShiftTorus(no, torus, a, b)
				wantCode(t, fmt.Sprintf("%s for %v", what, no), shifted, code, impl.ErrInvalid)
			}
		}
	}
}

func TestShiftsShareNothing(t *testing.T) {
	const text = "2:0000,0101,1010,1111"
	torus := [][]int64{{0, 1, 0}, {2, 3, 2}, {0, 1, 0}}
	set, rows := marked(text), spread(torus)
	results := map[string][][]int64{}
	for a := range int64(3) {
		for b := range int64(3) {
			results[fmt.Sprint("ShiftTorus ", a, b)], _ = impl.ShiftTorus(set, rows, a, b)
		}
	}
	results["LeastForm"], _ = impl.LeastForm(set, rows)
	results["ShiftsKept"], _ = impl.ShiftsKept(set, spread([][]int64{{0, 0}, {2, 2}}))
	// one that is its own least form
	least := [][]int64{{0, 0}, {1, 1}}
	own := spread(least)
	results["LeastForm of itself"], _ = impl.LeastForm(setOf("2:0000,1010"), own)
	for _, call := range torusCalls() {
		call(set, rows)
	}
	for name, lists := range results {
		if len(lists) < 2 {
			t.Errorf("%s = %v", name, lists)
		}
		wantApart(t, name, lists)
		for y := range lists[:cap(lists)] {
			lists[:cap(lists)][y] = nil
		}
	}
	if !kept(set, text) || !untouched(rows, torus) || !untouched(own, least) {
		t.Errorf("an argument is changed, or shares memory with a result")
	}
}
