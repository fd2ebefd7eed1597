package tests

import (
	"fmt"
	"slices"
	"testing"

	"loop.example/g01354/impl"
)

// numberTask asks for n places of a fraction, from a place on.
type numberTask struct {
	a, b, place, n int64
}

// allFractions returns all fractions, each at one place.
func allFractions() []numberTask {
	var all []numberTask
	for b := int64(1); b <= 20; b++ {
		for a := int64(0); a <= 5*b; a++ {
			all = append(all, numberTask{a, b, 1, 1})
		}
	}
	return all
}

// drawnPlaces returns tasks for a fraction: the least and the greatest ones, and some between them.
func (d *draw) drawnPlaces(k numberTask) []numberTask {
	return []numberTask{
		{k.a, k.b, 1, 1}, {k.a, k.b, 1, 20}, {k.a, k.b, 1000, 1}, {k.a, k.b, 1000, 20},
		{k.a, k.b, int64(1 + d.below(40)), int64(1 + d.below(20))},
		{k.a, k.b, int64(1 + d.below(1000)), int64(1 + d.below(20))},
	}
}

// ownDigits returns the first n digits of the fraction a by b: a is added for each place, and what is
// whole is taken away.
func ownDigits(a, b, n int64) []int64 {
	var digits []int64
	rest := int64(0)
	for range n {
		digit := int64(0)
		for rest += a; rest >= b; rest -= b {
			digit++
		}
		digits = append(digits, digit)
	}
	return digits
}

// digits returns the digits at the places of a task, of the fraction times p by q.
func (k numberTask) digits(p, q int64) []int64 {
	return ownDigits(k.a*p, k.b*q, k.place+k.n-1)[k.place-1:]
}

// carries returns the carries for a task: they make p times the digit and the carry before it the same
// as q times the digit of the product and the carry behind it.
func (k numberTask) carries(p, q int64) []int64 {
	end := k.place + k.n - 1
	below := ownDigits(k.a*p, k.b*q, end)
	carries := []int64{0}
	for i, digit := range ownDigits(k.a, k.b, end) {
		carries = append(carries, p*digit+carries[i]-q*below[i])
	}
	return carries[k.place-1:]
}

func TestLimitsOfNumbers(t *testing.T) {
	if impl.MaxFactor != 3 || impl.MaxDivisor != 20 || impl.MaxPlace != 1000 {
		t.Errorf("limits %d, %d, %d", impl.MaxFactor, impl.MaxDivisor, impl.MaxPlace)
	}
}

// all fractions are tried.
func TestDigits(t *testing.T) {
	d := draw(81)
	for _, x := range allFractions() {
		for _, k := range d.drawnPlaces(x) {
			got, code := impl.DigitsOf(k.a, k.b, k.place, k.n)
			wantList(t, fmt.Sprintf("DigitsOf %v", k), got, code, k.digits(1, 1))
		}
	}
}

// each place, and each number of places, is asked.
func TestAllPlaces(t *testing.T) {
	for _, x := range []numberTask{{a: 3, b: 7}, {a: 99, b: 20}, {a: 19, b: 19}} {
		all := ownDigits(x.a, x.b, 1019)
		for place := int64(1); place <= 1000; place++ {
			for n := int64(1); n <= 20; n++ {
				got, code := impl.DigitsOf(x.a, x.b, place, n)
				wantList(t, fmt.Sprintf("DigitsOf %v at %d, %d", x, place, n), got, code, all[place-1:place-1+n])
			}
		}
	}
}

func TestKnownDigits(t *testing.T) {
	cases := []struct {
		k    numberTask
		want string
	}{
		{numberTask{3, 2, 1, 6}, "121212"},
		{numberTask{3, 2, 2, 5}, "21212"},
		{numberTask{6, 4, 1, 4}, "1212"},
		{numberTask{0, 1, 1, 3}, "000"},
		{numberTask{0, 20, 1000, 20}, "00000000000000000000"},
		{numberTask{1, 1, 1, 2}, "11"},
		{numberTask{5, 1, 1000, 20}, "55555555555555555555"},
		{numberTask{100, 20, 1, 20}, "55555555555555555555"},
		{numberTask{1, 3, 1, 7}, "0010010"},
		{numberTask{1, 20, 1, 20}, "00000000000000000001"},
		{numberTask{1, 20, 1000, 2}, "10"},
		{numberTask{99, 20, 1, 20}, "45555555555555555555"},
		{numberTask{8, 5, 3, 5}, "12212"},
	}
	for _, c := range cases {
		got, code := impl.DigitsOf(c.k.a, c.k.b, c.k.place, c.k.n)
		wantList(t, fmt.Sprintf("DigitsOf %v", c.k), got, code, digits(c.want))
	}
}

// all fractions and factors are tried. The guarantee: carries are in their range.
func TestCarries(t *testing.T) {
	d := draw(82)
	found := map[[3]int64]bool{}
	for _, x := range allFractions() {
		for p := int64(1); p <= 3; p++ {
			for q := int64(1); q <= 3; q++ {
				for _, k := range d.drawnPlaces(x) {
					what := fmt.Sprintf("CarriesOf %d, %d, %v", p, q, k)
					got, code := impl.CarriesOf(p, q, k.a, k.b, k.place, k.n)
					wantList(t, what, got, code, k.carries(p, q))
					if k.place == 1 && got[0] != 0 {
						t.Errorf("%s begins with %d", what, got[0])
					}
					for _, carry := range got {
						found[[3]int64{p, q, carry}] = true
						if carry < 1-p || carry > q-1 {
							t.Errorf("%s has %d", what, carry)
						}
					}
				}
			}
		}
	}
	// for the same p and q all carries are 0, and otherwise all in the range are there
	if len(found) != 3+2*(2+3+4) {
		t.Errorf("%d carries were found", len(found))
	}
}

func TestKnownCarries(t *testing.T) {
	cases := []struct {
		p, q int64
		k    numberTask
		want []int64
	}{
		{2, 1, numberTask{2, 3, 1, 3}, []int64{0, -1, 0, 0}},
		{2, 1, numberTask{2, 3, 2, 3}, []int64{-1, 0, 0, -1}},
		{1, 2, numberTask{3, 1, 1, 4}, []int64{0, 1, 0, 1, 0}},
		{3, 1, numberTask{3, 4, 1, 4}, []int64{0, -2, -1, 0, 0}},
		{1, 3, numberTask{5, 1, 1, 3}, []int64{0, 2, 1, 0}},
		{3, 3, numberTask{99, 20, 998, 2}, []int64{0, 0, 0}},
		{3, 2, numberTask{1, 2, 1, 4}, []int64{0, 0, 1, -1, 0}},
		// the product may be greater than 5
		{3, 1, numberTask{5, 1, 1, 2}, []int64{0, 0, 0}},
		{3, 1, numberTask{99, 20, 1, 1}, []int64{0, -2}},
	}
	for _, c := range cases {
		got, code := impl.CarriesOf(c.p, c.q, c.k.a, c.k.b, c.k.place, c.k.n)
		wantList(t, fmt.Sprintf("CarriesOf %d, %d, %v", c.p, c.q, c.k), got, code, c.want)
	}
}

// ends are the low and the high end of an interval.
type ends [2][2]int64

// ownIntervals returns the intervals of all lists of n digits that a number less than 6 has. The digits
// change at the fractions by 1 to n, and nowhere else.
func ownIntervals(n int64) map[string]ends {
	var marks [][2]int64
	for b := int64(1); b <= n; b++ {
		for a := int64(0); a <= 6*b; a++ {
			if commonDivisor(int(a), int(b)) == 1 {
				marks = append(marks, [2]int64{a, b})
			}
		}
	}
	slices.SortFunc(marks, func(x, y [2]int64) int { return int(x[0]*y[1] - y[0]*x[1]) })
	intervals := map[string]ends{}
	for k, low := range marks[:len(marks)-1] {
		intervals[fmt.Sprint(ownDigits(low[0], low[1], n))] = ends{low, marks[k+1]}
	}
	return intervals
}

// wantInterval checks the interval of a list of digits in 0..5, and reports whether it has one.
func wantInterval(t *testing.T, list []int64, intervals map[string]ends) bool {
	t.Helper()
	what := fmt.Sprintf("IntervalOf %v", list)
	low, high, code := impl.IntervalOf(list)
	want, found := intervals[fmt.Sprint(list)]
	if !found {
		wantCode(t, what, low, code, impl.ErrNotFound)
		wantCode(t, what, high, code, impl.ErrNotFound)
		return false
	}
	wantList(t, what, low, code, want[0][:])
	wantList(t, what, high, code, want[1][:])
	return true
}

// all short lists of digits are tried.
func TestIntervals(t *testing.T) {
	for n := 1; n <= 5; n++ {
		intervals := ownIntervals(int64(n))
		found := 0
		for _, list := range allWords(6, n) {
			if wantInterval(t, list, intervals) {
				found++
			}
		}
		if found < 6 || n > 1 && found == power(6, n) {
			t.Errorf("%d lists of %d digits have intervals", found, n)
		}
	}
}

// all long lists that numbers have are tried, and those with one digit changed.
func TestLongIntervals(t *testing.T) {
	for n := int64(6); n <= 20; n++ {
		intervals := ownIntervals(n)
		for _, own := range intervals {
			list := ownDigits(own[0][0], own[0][1], n)
			if slices.Max(list) > 5 {
				continue
			}
			wantInterval(t, list, intervals)
			for k := range list {
				changed := slices.Clone(list)
				changed[k] = (changed[k] + 1) % 6
				wantInterval(t, changed, intervals)
				changed[k] = (changed[k] + 4) % 6
				wantInterval(t, changed, intervals)
			}
		}
	}
}

// the guarantee: intervals have the fractions whose digits they are. They have no fraction with other
// digits, so the low end has these, and the high end has others.
func TestIntervalsOfFractions(t *testing.T) {
	for _, x := range allFractions() {
		for n := int64(1); n <= 20; n++ {
			list, _ := impl.DigitsOf(x.a, x.b, 1, n)
			low, high, code := impl.IntervalOf(list)
			what := fmt.Sprintf("IntervalOf %v = %v, %v, %d", list, low, high, code)
			if code != impl.ErrNone || low[0]*x.b > x.a*low[1] || x.a*high[1] >= high[0]*x.b {
				t.Fatalf("%s, without %v", what, x)
			}
			first, code := impl.DigitsOf(low[0], low[1], 1, n)
			wantList(t, what+": digits of the low end", first, code, list)
			if behind, code := impl.DigitsOf(high[0], high[1], 1, n); code == impl.ErrNone && slices.Equal(behind, list) {
				t.Errorf("%s: the high end has the digits, too", what)
			}
		}
	}
}

func TestKnownIntervals(t *testing.T) {
	cases := []struct {
		digits string
		want   ends
	}{
		{"0", ends{{0, 1}, {1, 1}}},
		{"5", ends{{5, 1}, {6, 1}}},
		{"12", ends{{3, 2}, {2, 1}}},
		{"1212", ends{{3, 2}, {5, 3}}},
		{"01", ends{{1, 2}, {1, 1}}},
		{"00000000000000000000", ends{{0, 1}, {1, 20}}},
		{"55555555555555555555", ends{{5, 1}, {101, 20}}},
		{"45555555555555555555", ends{{99, 20}, {5, 1}}},
		{"2222", ends{{2, 1}, {9, 4}}},
		{"0010", ends{{1, 3}, {1, 2}}},
	}
	for _, c := range cases {
		low, high, code := impl.IntervalOf(digits(c.digits))
		wantList(t, "IntervalOf "+c.digits, low, code, c.want[0][:])
		wantList(t, "IntervalOf "+c.digits, high, code, c.want[1][:])
	}
	// the ends of the last four would be equal
	for _, none := range []string{"02", "20", "0123", "5050", "0100", "0011", "1211", "111110"} {
		low, high, code := impl.IntervalOf(digits(none))
		wantCode(t, "IntervalOf "+none, low, code, impl.ErrNotFound)
		wantCode(t, "IntervalOf "+none, high, code, impl.ErrNotFound)
	}
}

func TestErrorsOfIntervals(t *testing.T) {
	for n := range 25 {
		for at := range n {
			for _, bad := range append(extremes, -1, 6) {
				// ahead of the error that no number has these digits
				for _, other := range []int64{0, 3} {
					list := repeated(other, n)
					list[0] = 5
					list[at] = bad
					low, high, code := impl.IntervalOf(list)
					wantCode(t, fmt.Sprintf("IntervalOf %v", list), low, code, impl.ErrRange)
					wantCode(t, fmt.Sprintf("IntervalOf %v", list), high, code, impl.ErrRange)
				}
			}
		}
		low, high, code := impl.IntervalOf(repeated(3, n))
		if n >= 1 && n <= 20 {
			wantList(t, fmt.Sprintf("IntervalOf %d digits", n), low, code, []int64{3, 1})
			continue
		}
		wantCode(t, fmt.Sprintf("IntervalOf %d digits", n), low, code, impl.ErrRange)
		wantCode(t, fmt.Sprintf("IntervalOf %d digits", n), high, code, impl.ErrRange)
	}
}

// placeCalls are the functions of a fraction at places, each with two factors or without any.
func placeCalls() map[string]func(k numberTask) (any, int64) {
	calls := map[string]func(k numberTask) (any, int64){
		"DigitsOf": func(k numberTask) (any, int64) {
			list, code := impl.DigitsOf(k.a, k.b, k.place, k.n)
			return list, code
		},
	}
	for _, f := range [][2]int64{{1, 1}, {1, 3}} {
		calls[fmt.Sprintf("CarriesOf %v,", f)] = func(k numberTask) (any, int64) {
			list, code := impl.CarriesOf(f[0], f[1], k.a, k.b, k.place, k.n)
			return list, code
		}
		calls[fmt.Sprintf("the set of NumberRow %v,", f)] = func(k numberTask) (any, int64) {
			set, _, code := impl.NumberRow(f[0], f[1], k.a, k.b, k.place, k.n)
			return set, code
		}
		calls[fmt.Sprintf("the row of NumberRow %v,", f)] = func(k numberTask) (any, int64) {
			_, row, code := impl.NumberRow(f[0], f[1], k.a, k.b, k.place, k.n)
			return row, code
		}
	}
	return calls
}

func TestErrorsOfPlaces(t *testing.T) {
	good := []numberTask{{0, 1, 1, 1}, {5, 1, 1000, 20}, {100, 20, 1, 1}, {100, 20, 1000, 20}, {0, 20, 7, 3}}
	var bad []numberTask
	for _, k := range good {
		for _, wrong := range append(extremes, -1) {
			bad = append(bad, numberTask{wrong, k.b, k.place, k.n}, numberTask{k.a, wrong, k.place, k.n})
			bad = append(bad, numberTask{k.a, k.b, wrong, k.n}, numberTask{k.a, k.b, k.place, wrong})
			bad = append(bad, numberTask{wrong, wrong, wrong, wrong})
		}
		bad = append(bad, numberTask{5*k.b + 1, k.b, k.place, k.n}, numberTask{k.a, 0, k.place, k.n}, numberTask{k.a, 21, k.place, k.n})
		bad = append(bad, numberTask{k.a, k.b, 0, k.n}, numberTask{k.a, k.b, 1001, k.n})
		bad = append(bad, numberTask{k.a, k.b, k.place, 0}, numberTask{k.a, k.b, k.place, 21})
		// five times these divisors is little, or nothing, if it overflows
		for _, b := range []int64{-1, 1 << 62, 3689348814741910324, -3689348814741910323} {
			bad = append(bad, numberTask{0, b, k.place, k.n}, numberTask{1, b, k.place, k.n}, numberTask{-1, b, k.place, k.n})
		}
	}
	for name, call := range placeCalls() {
		for _, k := range good {
			if got, code := call(k); code != impl.ErrNone {
				t.Errorf("%s %v = %v, %d", name, k, got, code)
			}
		}
		for _, k := range bad {
			got, code := call(k)
			wantCode(t, fmt.Sprintf("%s %v", name, k), got, code, impl.ErrRange)
		}
	}
}

// what is written into results is in no later one, and arguments stay as they are.
func TestDigitsShareNothing(t *testing.T) {
	list := withSpare(digits("1212"), 77)
	for range 2 {
		found, a := impl.DigitsOf(3, 2, 1, 4)
		wantList(t, "DigitsOf again", found, a, list)
		carries, b := impl.CarriesOf(2, 1, 2, 3, 1, 3)
		wantList(t, "CarriesOf again", carries, b, []int64{0, -1, 0, 0})
		low, high, c := impl.IntervalOf(list)
		wantList(t, "IntervalOf again", high, c, []int64{5, 3})
		wantList(t, "IntervalOf again", low, c, []int64{3, 2})
		wantApart(t, "digits and intervals", [][]int64{found, carries, low, high})
		if !slices.Equal(list, digits("1212")) || !slices.Equal(list[:8][4:], repeated(77, 4)) {
			t.Fatalf("IntervalOf changes its argument")
		}
	}
}
