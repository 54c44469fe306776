package tests

import (
	"math"
	"math/big"
	"slices"
	"strconv"
	"strings"
	"testing"

	"loop.example/g00902/impl"
)

const partLimit = 1000000000000000000

var allModes = []int{impl.RoundDown, impl.RoundUp, impl.RoundHalfUp, impl.RoundHalfEven}

var notAmounts = []int{
	impl.MaxMoney + 1, -impl.MaxMoney - 1, impl.MaxMoney * 2, 1 << 32, -1 << 32, 1 << 62, -1 << 62,
	math.MaxInt, math.MinInt, math.MinInt + 1,
}

// invalidFractions are not reduced, have a denominator that is not positive, or exceed a limit.
var invalidFractions = []impl.Fraction{
	{}, {Num: 1}, {Num: -1}, {Num: 0, Den: 2}, {Num: 0, Den: -1}, {Num: 0, Den: impl.MaxMoney},
	{Num: 2, Den: 4}, {Num: -2, Den: 4}, {Num: 3, Den: 3}, {Num: -6, Den: 9}, {Num: impl.MaxMoney, Den: impl.MaxMoney},
	{Num: 1, Den: -2}, {Num: -1, Den: -2}, {Num: 2, Den: -1}, {Num: impl.MaxMoney, Den: 2},
	{Num: impl.MaxMoney + 1, Den: 1}, {Num: -impl.MaxMoney - 1, Den: 1}, {Num: 1, Den: impl.MaxMoney + 1}, {Num: 0, Den: impl.MaxMoney + 1},
	{Num: math.MinInt, Den: 1}, {Num: math.MaxInt, Den: 1}, {Num: 1, Den: math.MaxInt}, {Num: 1, Den: math.MinInt},
	{Num: math.MinInt, Den: math.MinInt}, {Num: math.MaxInt, Den: math.MaxInt}, {Num: math.MinInt, Den: -1}, {Num: partLimit, Den: partLimit},
	{Num: 1 << 32, Den: 1}, {Num: 1, Den: 1<<32 + 1}, {Num: partLimit, Den: 999999999}, {Num: 1, Den: partLimit},
}

// limitFractions are valid and lie at the limits.
var limitFractions = []impl.Fraction{
	{Num: impl.MaxMoney, Den: 1}, {Num: -impl.MaxMoney, Den: 1}, {Num: 1, Den: impl.MaxMoney}, {Num: -1, Den: impl.MaxMoney},
	{Num: 999999999, Den: impl.MaxMoney}, {Num: -999999999, Den: impl.MaxMoney}, {Num: impl.MaxMoney, Den: 999999999},
	{Num: -impl.MaxMoney, Den: 999999999}, {Num: 999999999, Den: 999999998}, {Num: 1, Den: 999999999}, {Num: 999999999, Den: 1},
	{Num: 536870912, Den: 387420489}, {Num: 387420489, Den: 536870912}, {Num: 1, Den: 536870912}, {Num: 500000000, Den: 1}, {Num: 1, Den: 500000000},
}

// smallFractions returns the valid fractions with a numerator in -size..size and a denominator in
// 1..size.
func smallFractions(size int) []impl.Fraction {
	all := []impl.Fraction{}
	for den := 1; den <= size; den++ {
		for num := -size; num <= size; num++ {
			if modelDivisor(num, den) == 1 {
				all = append(all, impl.Fraction{Num: num, Den: den})
			}
		}
	}
	return all
}

// modelDivisor finds a greatest common divisor by trying all of them.
func modelDivisor(num int, den int) int {
	for d := den; ; d-- {
		if num%d == 0 && den%d == 0 {
			return d
		}
	}
}

// rational is the value of f.
func rational(f impl.Fraction) *big.Rat { return big.NewRat(int64(f.Num), int64(f.Den)) }

// modelFraction returns the valid fraction of a value, and whether there is one.
func modelFraction(value *big.Rat) (impl.Fraction, bool) {
	limit := big.NewInt(impl.MaxMoney)
	if value.Num().CmpAbs(limit) > 0 || value.Denom().Cmp(limit) > 0 {
		return impl.Fraction{}, false
	}
	return impl.Fraction{Num: int(value.Num().Int64()), Den: int(value.Denom().Int64())}, true
}

// modelRound looks for the rounded value among the integers on both sides of the value.
func modelRound(value *big.Rat, mode int) *big.Int {
	inner := new(big.Int).Quo(value.Num(), value.Denom())
	if value.IsInt() {
		return inner
	}
	outer := new(big.Int).Add(inner, big.NewInt(int64(value.Sign())))
	distance := func(n *big.Int) *big.Rat {
		gap := new(big.Rat).Sub(value, new(big.Rat).SetInt(n))
		return gap.Abs(gap)
	}
	nearer := distance(inner).Cmp(distance(outer))
	switch {
	case mode == impl.RoundDown, mode != impl.RoundUp && nearer < 0:
		return inner
	case mode == impl.RoundHalfEven && nearer == 0 && outer.Bit(0) == 1:
		return inner
	}
	return outer
}

// modelShares gives the units that are left one by one to the share with the largest remainder.
func modelShares(total int, weights []int) []int {
	sum := 0
	for _, w := range weights {
		sum += w
	}
	shares, rests, left := []int{}, []int{}, total
	for _, w := range weights {
		shares = append(shares, total*w/sum)
		rests = append(rests, total*w%sum)
		left -= total * w / sum
	}
	for ; left > 0; left-- {
		largest := slices.Index(rests, slices.Max(rests))
		shares[largest]++
		rests[largest] = -1
	}
	return shares
}

// weightLists returns all lists of 1..length weights in 0..largest.
func weightLists(length int, largest int) [][]int {
	lists := [][]int{{}}
	for first := 0; len(lists[first]) < length; first++ {
		for w := 0; w <= largest; w++ {
			lists = append(lists, append(slices.Clone(lists[first]), w))
		}
	}
	return lists[1:]
}

func TestAddAmounts(t *testing.T) {
	twenty := slices.Repeat([]int{impl.MaxMoney / impl.MaxShares}, impl.MaxShares)
	for _, c := range []struct {
		list []int
		want int
	}{
		{nil, 0}, {[]int{}, 0}, {[]int{0}, 0}, {[]int{7}, 7}, {[]int{-7}, -7}, {[]int{1, 2, 3}, 6}, {[]int{5, -8, 1}, -2},
		{[]int{impl.MaxMoney}, impl.MaxMoney}, {[]int{-impl.MaxMoney}, -impl.MaxMoney},
		{[]int{impl.MaxMoney - 1, 1}, impl.MaxMoney}, {[]int{-impl.MaxMoney + 1, -1}, -impl.MaxMoney},
		{[]int{impl.MaxMoney, impl.MaxMoney, -impl.MaxMoney}, impl.MaxMoney},
		{[]int{-impl.MaxMoney, -impl.MaxMoney, impl.MaxMoney, impl.MaxMoney}, 0},
		{twenty, impl.MaxMoney}, {make([]int, impl.MaxShares), 0},
	} {
		if got, ok := impl.AddAmounts(c.list); !ok || got != c.want {
			t.Errorf("AddAmounts(%v) = %d, %v", c.list, got, ok)
		}
	}
}

func TestAddAmountsRejects(t *testing.T) {
	lists := [][]int{
		make([]int, impl.MaxShares+1), make([]int, 1000), slices.Repeat([]int{1}, impl.MaxShares+1),
		{impl.MaxMoney, 1}, {-impl.MaxMoney, -1}, {impl.MaxMoney, impl.MaxMoney}, {1, impl.MaxMoney, 5, -5},
		slices.Repeat([]int{impl.MaxMoney}, impl.MaxShares), slices.Repeat([]int{-impl.MaxMoney}, impl.MaxShares),
		{math.MaxInt, math.MaxInt, 2}, {math.MinInt, math.MinInt}, {math.MinInt, math.MaxInt, 1},
		{impl.MaxMoney + 1, -1}, {-1, impl.MaxMoney + 1}, {-impl.MaxMoney - 1, 1},
	}
	for _, x := range notAmounts {
		lists = append(lists, []int{x}, []int{0, x}, []int{x, -x})
	}
	for _, list := range lists {
		if got, ok := impl.AddAmounts(list); ok || got != 0 {
			t.Errorf("AddAmounts(%v) = %d, %v", list, got, ok)
		}
	}
}

func TestShareAmount(t *testing.T) {
	for _, c := range []struct {
		total         int
		weights, want []int
	}{
		{10, []int{1, 1, 1}, []int{4, 3, 3}},
		{7, []int{0, 2, 1}, []int{0, 5, 2}},
		{0, []int{1, 2}, []int{0, 0}},
		{5, []int{3}, []int{5}},
		{5, []int{0, 1}, []int{0, 5}},
		{6, []int{1, 2, 3}, []int{1, 2, 3}},
		{1, []int{1, 2, 3}, []int{0, 0, 1}},
		{100, []int{50, 30, 20}, []int{50, 30, 20}},
		{impl.MaxMoney, []int{1}, []int{impl.MaxMoney}},
		{impl.MaxMoney, []int{impl.MaxShareWeight}, []int{impl.MaxMoney}},
		{impl.MaxMoney, []int{1, 1, 1}, []int{333333334, 333333333, 333333333}},
		{impl.MaxMoney, []int{impl.MaxShareWeight, 1}, []int{999999000, 1000}},
		{impl.MaxMoney, []int{1, impl.MaxShareWeight, 0}, []int{1000, 999999000, 0}},
		{999, []int{1, impl.MaxShareWeight}, []int{0, 999}},
	} {
		if got, ok := impl.ShareAmount(c.total, c.weights); !ok || !slices.Equal(got, c.want) {
			t.Errorf("ShareAmount(%d, %v) = %v, %v", c.total, c.weights, got, ok)
		}
	}
}

func TestShareAmountGivesEqualRemaindersInOrder(t *testing.T) {
	for _, c := range []struct {
		total         int
		weights, want []int
	}{
		{1, []int{1, 1}, []int{1, 0}},
		{2, []int{1, 1, 1}, []int{1, 1, 0}},
		{1, []int{0, 5, 5}, []int{0, 1, 0}},
		{7, []int{1, 3, 1}, []int{2, 4, 1}},
		{3, []int{1, 3, 1, 3}, []int{1, 1, 0, 1}},
		{5, []int{3, 1, 3, 1}, []int{2, 1, 2, 0}},
		{2, []int{1, 2, 1, 2}, []int{0, 1, 0, 1}},
		{3, []int{1, 0, 1, 0, 1, 1}, []int{1, 0, 1, 0, 1, 0}},
	} {
		if got, ok := impl.ShareAmount(c.total, c.weights); !ok || !slices.Equal(got, c.want) {
			t.Errorf("ShareAmount(%d, %v) = %v, %v", c.total, c.weights, got, ok)
		}
	}
	for total := range 3 * impl.MaxShares {
		for length := 1; length <= impl.MaxShares; length++ {
			weights := slices.Repeat([]int{7}, length)
			got, ok := impl.ShareAmount(total, weights)
			for i, share := range got {
				if want := (total + length - 1 - i) / length; share != want {
					t.Fatalf("share %d of %d among %d is %d, not %d", i, total, length, share, want)
				}
			}
			if !ok || len(got) != length {
				t.Fatalf("ShareAmount(%d, %v) = %v, %v", total, weights, got, ok)
			}
		}
	}
}

// checkShares checks the guarantee of the chapter and the order in which units are given.
func checkShares(t *testing.T, total int, weights []int) {
	t.Helper()
	before := slices.Clone(weights)
	got, ok := impl.ShareAmount(total, weights)
	if !ok || !slices.Equal(got, modelShares(total, weights)) {
		t.Fatalf("ShareAmount(%d, %v) = %v, %v", total, weights, got, ok)
	}
	if !slices.Equal(weights, before) {
		t.Fatalf("ShareAmount(%d, %v) changed its weights to %v", total, before, weights)
	}
	sum, given := 0, 0
	for _, w := range weights {
		sum += w
	}
	for i, w := range weights {
		given += got[i]
		if gap := got[i]*sum - total*w; gap <= -sum || gap >= sum {
			t.Fatalf("share %d of ShareAmount(%d, %v) is %d", i, total, weights, got[i])
		}
	}
	if given != total {
		t.Fatalf("the shares of %d by %v add up to %d", total, weights, given)
	}
}

func TestSharesAddUpToTheAmount(t *testing.T) {
	for _, weights := range weightLists(4, 4) {
		if slices.Max(weights) == 0 {
			continue
		}
		for total := range 25 {
			checkShares(t, total, weights)
		}
		checkShares(t, impl.MaxMoney, weights)
		checkShares(t, impl.MaxMoney-1, weights)
	}
	state := 1
	for range 3000 {
		weights := []int{1}
		for range state % impl.MaxShares {
			state = state * 1103515245 % 2147483647
			weights = append(weights, state%(impl.MaxShareWeight+1)/(1+state%7*1000))
		}
		state = state * 1103515245 % 2147483647
		checkShares(t, state%(impl.MaxMoney+1), weights)
		checkShares(t, state%100, weights)
	}
	checkShares(t, impl.MaxMoney, slices.Repeat([]int{impl.MaxShareWeight}, impl.MaxShares))
	checkShares(t, impl.MaxMoney-1, slices.Repeat([]int{impl.MaxShareWeight, 0}, impl.MaxShares/2))
	checkShares(t, impl.MaxMoney-1, slices.Repeat([]int{0, impl.MaxShareWeight - 1}, impl.MaxShares/2))
}

func TestShareAmountRejects(t *testing.T) {
	for _, c := range []struct {
		total   int
		weights []int
	}{
		{-1, []int{1}}, {-impl.MaxMoney, []int{1}}, {5, nil}, {5, []int{}}, {0, nil}, {5, []int{0}}, {5, []int{0, 0}}, {0, []int{0, 0, 0}},
		{5, make([]int, impl.MaxShares)}, {5, slices.Repeat([]int{1}, impl.MaxShares+1)}, {0, slices.Repeat([]int{1}, 1000)},
		{5, []int{-1}}, {5, []int{2, -1}}, {5, []int{-1, 2}}, {5, []int{1, -1}}, {0, []int{3, -1}}, {5, []int{math.MinInt, 1}},
		{5, []int{impl.MaxShareWeight + 1}}, {5, []int{1, impl.MaxShareWeight + 1}}, {0, []int{impl.MaxShareWeight + 1, 0}},
		{5, []int{math.MaxInt}}, {5, []int{math.MaxInt, math.MaxInt, 3}}, {5, []int{math.MinInt, math.MinInt, 1}}, {5, []int{1 << 32}},
	} {
		if got, ok := impl.ShareAmount(c.total, c.weights); ok || len(got) != 0 {
			t.Errorf("ShareAmount(%d, %v) = %v, %v", c.total, c.weights, got, ok)
		}
	}
	for _, total := range notAmounts {
		if got, ok := impl.ShareAmount(total, []int{1, 2}); ok || len(got) != 0 {
			t.Errorf("ShareAmount(%d) = %v, %v", total, got, ok)
		}
	}
}

func TestListsAreReadOnlyUpToTheirLength(t *testing.T) {
	store := []int{1, 2, math.MaxInt, -5}
	if got, ok := impl.AddAmounts(store[:2]); !ok || got != 3 {
		t.Error("AddAmounts", got, ok)
	}
	got, ok := impl.ShareAmount(4, store[:2])
	if !ok || !slices.Equal(got, []int{1, 3}) {
		t.Error("ShareAmount", got, ok)
	}
	got = append(got, 8)
	got[0], got[1] = 9, 9
	if !slices.Equal(store, []int{1, 2, math.MaxInt, -5}) {
		t.Error("the argument was changed", store)
	}
}

func TestScaleAmountModes(t *testing.T) {
	for _, c := range []struct {
		x, num, den int
		want        [4]int
	}{
		{5, 1, 2, [4]int{2, 3, 3, 2}}, {7, 1, 2, [4]int{3, 4, 4, 4}}, {1, 1, 2, [4]int{0, 1, 1, 0}}, {3, 1, 2, [4]int{1, 2, 2, 2}},
		{-5, 1, 2, [4]int{-2, -3, -3, -2}}, {-7, 1, 2, [4]int{-3, -4, -4, -4}}, {-1, 1, 2, [4]int{0, -1, -1, 0}}, {-3, 1, 2, [4]int{-1, -2, -2, -2}},
		{5, -1, 2, [4]int{-2, -3, -3, -2}}, {-5, -1, 2, [4]int{2, 3, 3, 2}}, {-7, -1, 2, [4]int{3, 4, 4, 4}},
		{1, 1, 3, [4]int{0, 1, 0, 0}}, {2, 1, 3, [4]int{0, 1, 1, 1}}, {4, 1, 3, [4]int{1, 2, 1, 1}}, {5, 1, 3, [4]int{1, 2, 2, 2}},
		{-1, 1, 3, [4]int{0, -1, 0, 0}}, {-2, 1, 3, [4]int{0, -1, -1, -1}}, {-4, 1, 3, [4]int{-1, -2, -1, -1}}, {-5, 1, 3, [4]int{-1, -2, -2, -2}},
		{6, 1, 2, [4]int{3, 3, 3, 3}}, {-6, 1, 2, [4]int{-3, -3, -3, -3}}, {6, -1, 3, [4]int{-2, -2, -2, -2}}, {9, 2, 3, [4]int{6, 6, 6, 6}},
		{0, 1, 2, [4]int{}}, {5, 0, 1, [4]int{}}, {0, 0, 1, [4]int{}}, {8, 1, 1, [4]int{8, 8, 8, 8}}, {8, -1, 1, [4]int{-8, -8, -8, -8}},
		{3, 3, 4, [4]int{2, 3, 2, 2}}, {5, 3, 4, [4]int{3, 4, 4, 4}}, {2, 3, 4, [4]int{1, 2, 2, 2}}, {10, 1, 4, [4]int{2, 3, 3, 2}},
		{impl.MaxMoney, 1, impl.MaxMoney, [4]int{1, 1, 1, 1}}, {-1, 1, impl.MaxMoney, [4]int{0, -1, 0, 0}},
		{impl.MaxMoney / 2, 1, impl.MaxMoney, [4]int{0, 1, 1, 0}}, {impl.MaxMoney/2 + 1, 1, impl.MaxMoney, [4]int{0, 1, 1, 1}},
		{impl.MaxMoney, 1, 1, [4]int{impl.MaxMoney, impl.MaxMoney, impl.MaxMoney, impl.MaxMoney}},
		{-1, impl.MaxMoney, 1, [4]int{-impl.MaxMoney, -impl.MaxMoney, -impl.MaxMoney, -impl.MaxMoney}},
		{999999999, impl.MaxMoney, 999999999, [4]int{impl.MaxMoney, impl.MaxMoney, impl.MaxMoney, impl.MaxMoney}},
		{impl.MaxMoney, 999999999, impl.MaxMoney, [4]int{999999999, 999999999, 999999999, 999999999}},
	} {
		f := impl.Fraction{Num: c.num, Den: c.den}
		for i, mode := range allModes {
			if got, ok := impl.ScaleAmount(c.x, f, mode); !ok || got != c.want[i] {
				t.Errorf("ScaleAmount(%d, %v, %d) = %d, %v", c.x, f, mode, got, ok)
			}
		}
	}
}

// checkScaled compares with the model and checks that rounding stays within one unit.
func checkScaled(t *testing.T, x int, f impl.Fraction, mode int) {
	t.Helper()
	exact := new(big.Rat).Mul(big.NewRat(int64(x), 1), rational(f))
	want := modelRound(exact, mode)
	valid := want.CmpAbs(big.NewInt(impl.MaxMoney)) <= 0
	got, ok := impl.ScaleAmount(x, f, mode)
	if ok != valid || valid && int64(got) != want.Int64() || !valid && got != 0 {
		t.Fatalf("ScaleAmount(%d, %v, %d) = %d, %v, not %v", x, f, mode, got, ok, want)
	}
	if !valid {
		return
	}
	gap := new(big.Rat).Sub(exact, big.NewRat(int64(got), 1))
	if gap.Abs(gap).Cmp(big.NewRat(1, 1)) >= 0 {
		t.Fatalf("ScaleAmount(%d, %v, %d) = %d is a unit away", x, f, mode, got)
	}
}

func TestScaleAmountRoundsWithinOneUnit(t *testing.T) {
	amounts := []int{impl.MaxMoney, -impl.MaxMoney, 999999999, -999999999, 500000000, 500000001, -500000001, 123456789, 31622776, 31622777}
	for x := -20; x <= 20; x++ {
		amounts = append(amounts, x)
	}
	for _, f := range append(smallFractions(12), limitFractions...) {
		for _, x := range amounts {
			for _, mode := range allModes {
				checkScaled(t, x, f, mode)
			}
		}
	}
}

func TestScaleAmountAtTheLimit(t *testing.T) {
	half := impl.Fraction{Num: 666666667, Den: 2} // three times it is MaxMoney and a half
	for _, c := range []struct {
		x, mode, want int
		ok            bool
	}{
		{3, impl.RoundDown, impl.MaxMoney, true}, {3, impl.RoundUp, 0, false}, {3, impl.RoundHalfUp, 0, false}, {3, impl.RoundHalfEven, impl.MaxMoney, true},
		{-3, impl.RoundDown, -impl.MaxMoney, true}, {-3, impl.RoundUp, 0, false}, {-3, impl.RoundHalfUp, 0, false}, {-3, impl.RoundHalfEven, -impl.MaxMoney, true},
	} {
		if got, ok := impl.ScaleAmount(c.x, half, c.mode); ok != c.ok || got != c.want {
			t.Errorf("ScaleAmount(%d, %v, %d) = %d, %v", c.x, half, c.mode, got, ok)
		}
	}
}

func TestScaleAmountRejects(t *testing.T) {
	whole := impl.Fraction{Num: 1, Den: 1}
	for _, mode := range []int{0, 5, -1, 6, 100, math.MaxInt, math.MinInt, 1<<32 + 1} {
		for _, f := range []impl.Fraction{whole, {Num: 0, Den: 1}, {Num: 1, Den: 2}} {
			for _, x := range []int{0, 4, 5, -5} {
				if got, ok := impl.ScaleAmount(x, f, mode); ok || got != 0 {
					t.Errorf("ScaleAmount(%d, %v, %d) = %d, %v", x, f, mode, got, ok)
				}
			}
		}
	}
	for _, mode := range allModes {
		for _, f := range invalidFractions {
			for _, x := range []int{0, 1, -4, impl.MaxMoney} {
				if got, ok := impl.ScaleAmount(x, f, mode); ok || got != 0 {
					t.Errorf("ScaleAmount(%d, %v, %d) = %d, %v", x, f, mode, got, ok)
				}
			}
		}
		for _, x := range notAmounts {
			for _, f := range []impl.Fraction{whole, {Num: 0, Den: 1}, {Num: 1, Den: impl.MaxMoney}} {
				if got, ok := impl.ScaleAmount(x, f, mode); ok || got != 0 {
					t.Errorf("ScaleAmount(%d, %v, %d) = %d, %v", x, f, mode, got, ok)
				}
			}
		}
	}
}

// modelAmountText writes an amount digit by digit.
func modelAmountText(x int) string {
	digits, sign := strconv.Itoa(x), ""
	if x < 0 {
		digits, sign = digits[1:], "-"
	}
	for len(digits) < 3 {
		digits = "0" + digits
	}
	return sign + digits[:len(digits)-2] + "." + digits[len(digits)-2:]
}

func TestFormatAmountAndParseAmountRoundTrip(t *testing.T) {
	amounts := []int{impl.MaxMoney, -impl.MaxMoney, impl.MaxMoney - 1, 999999900, -999999900, 123456789, -987654321}
	for x := -20200; x <= 20200; x++ {
		amounts = append(amounts, x)
	}
	for power := 1; power <= impl.MaxMoney; power *= 10 {
		amounts = append(amounts, power, -power, power-1, 1-power, min(power+1, impl.MaxMoney))
	}
	for _, x := range amounts {
		s, ok := impl.FormatAmount(x)
		if !ok || s != modelAmountText(x) {
			t.Fatalf("FormatAmount(%d) = %q, %v", x, s, ok)
		}
		if back, ok := impl.ParseAmount(s); !ok || back != x {
			t.Fatalf("ParseAmount(%q) = %d, %v", s, back, ok)
		}
	}
}

func TestFormatAmount(t *testing.T) {
	for x, want := range map[int]string{
		0: "0.00", 5: "0.05", -5: "-0.05", 10: "0.10", 99: "0.99", 100: "1.00", -100: "-1.00", 101: "1.01", 12345: "123.45", -12345: "-123.45",
		impl.MaxMoney: "10000000.00", -impl.MaxMoney: "-10000000.00", -1: "-0.01", 110: "1.10", 1009: "10.09",
	} {
		if got, ok := impl.FormatAmount(x); !ok || got != want {
			t.Errorf("FormatAmount(%d) = %q, %v", x, got, ok)
		}
		if got, ok := impl.ParseAmount(want); !ok || got != x {
			t.Errorf("ParseAmount(%q) = %d, %v", want, got, ok)
		}
	}
	for _, x := range notAmounts {
		if got, ok := impl.FormatAmount(x); ok || got != "" {
			t.Errorf("FormatAmount(%d) = %q, %v", x, got, ok)
		}
	}
}

func TestParseAmountRejects(t *testing.T) {
	for _, s := range []string{
		"", ".", "-", "+", "-.", "1", "0", "-1", "100", "1.", "1.0", ".00", ".05", "-.05", "1.000", "1.001", "0.5", "0.050", "0.00.", "..00",
		"01.00", "00.00", "00.05", "-01.00", "-00.05", "-0.00", "+1.00", "+0.00", "+0.05", "-+1.00", "--1.00", "1.-5", "1.+5", "-1.-5", "0.-1",
		"1..00", "1.0.0", "1.0.00", "1,00", "1:00", " 1.00", "1.00 ", "1. 00", "1.00\n", "\t1.00", "1.00\x00", "\x001.00", "1 .00", "1_000.00", "1.0_0",
		"1,000.00", "1e2.00", "0x1.00", "1.0x", "1.x0", "x.00", "a.bc", "NaN", "Inf", "\u0661.00", "\uff11.00", "\u22121.00", "1\u202400", "\xff.00",
		"10000000.01", "-10000000.01", "10000001.00", "99999999.99", "-99999999.99", "100000000.00", "-100000000.00", "9223372036854775807.00",
		"92233720368547758.07", "-92233720368547758.08", "184467440737095516.17", "184467440737095517.16", strings.Repeat("9", 5000) + ".00",
		strings.Repeat("0", 5000) + ".00", "1.00" + strings.Repeat("0", 5000), "000000000001.00",
	} {
		if got, ok := impl.ParseAmount(s); ok || got != 0 {
			t.Errorf("ParseAmount(%.40q) = %d, %v", s, got, ok)
		}
	}
}

func TestParseAmountAcceptsOnlyWhatFormatAmountGives(t *testing.T) {
	texts := map[string]int{}
	for x := -9999; x <= 99999; x++ {
		texts[modelAmountText(x)] = x
	}
	for _, s := range stringsOver("-+.0179", 6) {
		want, is := texts[s]
		if got, ok := impl.ParseAmount(s); ok != is || got != want {
			t.Fatalf("ParseAmount(%q) = %d, %v", s, got, ok)
		}
	}
}

func TestMakeFraction(t *testing.T) {
	for _, c := range []struct{ num, den, wantNum, wantDen int }{
		{2, -4, -1, 2}, {2, 4, 1, 2}, {-2, 4, -1, 2}, {-2, -4, 1, 2}, {0, 5, 0, 1}, {0, -5, 0, 1}, {0, 1, 0, 1}, {6, 3, 2, 1}, {-6, -3, 2, 1},
		{1, 1, 1, 1}, {7, -1, -7, 1}, {12, 18, 2, 3}, {impl.MaxMoney, 1, impl.MaxMoney, 1}, {1, -impl.MaxMoney, -1, impl.MaxMoney},
		{partLimit, partLimit, 1, 1}, {partLimit, -partLimit, -1, 1}, {-partLimit, -partLimit, 1, 1}, {0, partLimit, 0, 1}, {0, -partLimit, 0, 1},
		{partLimit, impl.MaxMoney, impl.MaxMoney, 1}, {-partLimit, impl.MaxMoney, -impl.MaxMoney, 1}, {impl.MaxMoney, partLimit, 1, impl.MaxMoney},
		{partLimit - 1, 1 - partLimit, -1, 1}, {999999999 * 999999937, 999999937 * 1000000000, 999999999, 1000000000}, {1 << 59, 1 << 58, 2, 1},
	} {
		got, ok := impl.MakeFraction(c.num, c.den)
		if !ok || got != (impl.Fraction{Num: c.wantNum, Den: c.wantDen}) {
			t.Errorf("MakeFraction(%d, %d) = %v, %v", c.num, c.den, got, ok)
		}
	}
}

func TestMakeFractionRejects(t *testing.T) {
	for _, c := range [][2]int{
		{0, 0}, {1, 0}, {-1, 0}, {partLimit, 0}, {math.MinInt, 0},
		{partLimit + 1, partLimit + 1}, {-partLimit - 1, 1}, {partLimit + 1, 1}, {2 * partLimit, 2 * impl.MaxMoney}, {0, partLimit + 1}, {0, -partLimit - 1},
		{partLimit + 1, -partLimit - 1}, {1, partLimit + 1}, {1, -partLimit - 1}, {partLimit + impl.MaxMoney, impl.MaxMoney * 2},
		{math.MinInt, 1}, {1, math.MinInt}, {math.MinInt, math.MinInt}, {math.MaxInt, math.MaxInt}, {math.MinInt, -1}, {0, math.MinInt}, {0, math.MaxInt},
		{impl.MaxMoney + 1, 1}, {-impl.MaxMoney - 1, 1}, {impl.MaxMoney + 1, -1}, {1, impl.MaxMoney + 1}, {-1, -impl.MaxMoney - 1},
		{partLimit, 1}, {partLimit, 3}, {1, partLimit}, {partLimit, 999999999}, {999999999, partLimit}, {partLimit - 1, partLimit}, {partLimit, 1 - partLimit},
	} {
		if got, ok := impl.MakeFraction(c[0], c[1]); ok || got != (impl.Fraction{}) {
			t.Errorf("MakeFraction(%d, %d) = %v, %v", c[0], c[1], got, ok)
		}
	}
}

func TestMakeFractionIsTheReducedValue(t *testing.T) {
	parts := []int{impl.MaxMoney, impl.MaxMoney + 1, impl.MaxMoney - 1, 2 * impl.MaxMoney, 3 * impl.MaxMoney, partLimit, partLimit - 1, 1 << 59, 1 << 30, 1 << 29, 387420489, 3 * 387420489}
	for n := range 70 {
		parts = append(parts, n)
	}
	for _, num := range parts {
		for _, den := range parts {
			if den == 0 {
				continue
			}
			for _, signs := range [][2]int{{1, 1}, {1, -1}, {-1, 1}, {-1, -1}} {
				n, d := num*signs[0], den*signs[1]
				want, valid := modelFraction(big.NewRat(int64(n), int64(d)))
				if got, ok := impl.MakeFraction(n, d); ok != valid || got != want {
					t.Fatalf("MakeFraction(%d, %d) = %v, %v", n, d, got, ok)
				}
			}
		}
	}
}

func TestFractionsOfTheDocument(t *testing.T) {
	half, third := impl.Fraction{Num: 1, Den: 2}, impl.Fraction{Num: 1, Den: 3}
	if got, ok := impl.AddFractions(half, third); !ok || got != (impl.Fraction{Num: 5, Den: 6}) {
		t.Error("sum", got, ok)
	}
	if got, ok := impl.MultiplyFractions(half, third); !ok || got != (impl.Fraction{Num: 1, Den: 6}) {
		t.Error("product", got, ok)
	}
	if got, ok := impl.CompareFractions(third, half); !ok || got != -1 {
		t.Error("less", got, ok)
	}
	if got, ok := impl.CompareFractions(half, third); !ok || got != 1 {
		t.Error("greater", got, ok)
	}
	if got, ok := impl.CompareFractions(half, half); !ok || got != 0 {
		t.Error("equal", got, ok)
	}
}

func TestFractionsAreExact(t *testing.T) {
	all := append(smallFractions(9), limitFractions...)
	for _, a := range all {
		for _, b := range all {
			sum, isSum := modelFraction(new(big.Rat).Add(rational(a), rational(b)))
			if got, ok := impl.AddFractions(a, b); ok != isSum || got != sum {
				t.Fatalf("AddFractions(%v, %v) = %v, %v", a, b, got, ok)
			}
			product, isProduct := modelFraction(new(big.Rat).Mul(rational(a), rational(b)))
			if got, ok := impl.MultiplyFractions(a, b); ok != isProduct || got != product {
				t.Fatalf("MultiplyFractions(%v, %v) = %v, %v", a, b, got, ok)
			}
			if got, ok := impl.CompareFractions(a, b); !ok || got != rational(a).Cmp(rational(b)) {
				t.Fatalf("CompareFractions(%v, %v) = %d, %v", a, b, got, ok)
			}
		}
	}
}

func TestSumsAndProductsAtTheLimits(t *testing.T) {
	near := impl.Fraction{Num: 999999999, Den: impl.MaxMoney}
	if got, ok := impl.AddFractions(near, near); !ok || got != (impl.Fraction{Num: 999999999, Den: 500000000}) {
		t.Error("a sum whose terms exceed 10^18 before it is reduced", got, ok)
	}
	near.Num = -near.Num
	if got, ok := impl.AddFractions(near, near); !ok || got != (impl.Fraction{Num: -999999999, Den: 500000000}) {
		t.Error("a negative sum whose terms exceed 10^18 before it is reduced", got, ok)
	}
	most, least := impl.Fraction{Num: impl.MaxMoney, Den: 1}, impl.Fraction{Num: 1, Den: impl.MaxMoney}
	if got, ok := impl.MultiplyFractions(most, least); !ok || got != (impl.Fraction{Num: 1, Den: 1}) {
		t.Error("product", got, ok)
	}
	if got, ok := impl.MultiplyFractions(least, impl.Fraction{Num: 0, Den: 1}); !ok || got != (impl.Fraction{Num: 0, Den: 1}) {
		t.Error("product with zero", got, ok)
	}
	for _, pair := range [][2]impl.Fraction{{most, most}, {least, least}, {most, {Num: 2, Den: 1}}, {least, {Num: 1, Den: 2}}} {
		if got, ok := impl.MultiplyFractions(pair[0], pair[1]); ok || got != (impl.Fraction{}) {
			t.Error("product", pair, got, ok)
		}
	}
	for _, pair := range [][2]impl.Fraction{{most, most}, {most, least}, {most, {Num: 1, Den: 1}}, {least, {Num: 1, Den: 999999999}}} {
		if got, ok := impl.AddFractions(pair[0], pair[1]); ok || got != (impl.Fraction{}) {
			t.Error("sum", pair, got, ok)
		}
	}
}

func TestFractionsObeyTheFieldLaws(t *testing.T) {
	must := func(f impl.Fraction, ok bool) impl.Fraction {
		t.Helper()
		if !ok {
			t.Fatal("no fraction")
		}
		return f
	}
	add := func(a, b impl.Fraction) impl.Fraction { return must(impl.AddFractions(a, b)) }
	multiply := func(a, b impl.Fraction) impl.Fraction { return must(impl.MultiplyFractions(a, b)) }
	zero, one := impl.Fraction{Num: 0, Den: 1}, impl.Fraction{Num: 1, Den: 1}
	all := smallFractions(5)
	for _, a := range append(limitFractions, all...) {
		if add(a, zero) != a || multiply(a, one) != a || multiply(a, zero) != zero {
			t.Fatal("neutral elements", a)
		}
		if add(a, must(impl.MakeFraction(-a.Num, a.Den))) != zero {
			t.Fatal("negative", a)
		}
		if a.Num != 0 && multiply(a, must(impl.MakeFraction(a.Den, a.Num))) != one {
			t.Fatal("inverse", a)
		}
	}
	for _, a := range all {
		for _, b := range all {
			if add(a, b) != add(b, a) || multiply(a, b) != multiply(b, a) {
				t.Fatal("order", a, b)
			}
			for _, c := range all {
				if add(add(a, b), c) != add(a, add(b, c)) || multiply(multiply(a, b), c) != multiply(a, multiply(b, c)) {
					t.Fatal("grouping", a, b, c)
				}
				if multiply(a, add(b, c)) != add(multiply(a, b), multiply(a, c)) {
					t.Fatal("distribution", a, b, c)
				}
			}
		}
	}
}

func TestInvalidFractionsAreRejected(t *testing.T) {
	for _, f := range invalidFractions {
		for _, g := range append(append(smallFractions(2), limitFractions...), invalidFractions...) {
			for _, pair := range [][2]impl.Fraction{{f, g}, {g, f}} {
				if got, ok := impl.AddFractions(pair[0], pair[1]); ok || got != (impl.Fraction{}) {
					t.Errorf("AddFractions(%v) = %v, %v", pair, got, ok)
				}
				if got, ok := impl.MultiplyFractions(pair[0], pair[1]); ok || got != (impl.Fraction{}) {
					t.Errorf("MultiplyFractions(%v) = %v, %v", pair, got, ok)
				}
				if got, ok := impl.CompareFractions(pair[0], pair[1]); ok || got != 0 {
					t.Errorf("CompareFractions(%v) = %d, %v", pair, got, ok)
				}
			}
		}
	}
}
