package tests

import (
	"go/ast"
	"go/parser"
	"go/token"
	"math"
	"math/big"
	"math/rand"
	"reflect"
	"slices"
	"strings"
	"testing"

	"loop.example/g00063/impl"
)

func steps6(pairs ...int) []impl.Step6 {
	var curve []impl.Step6
	for i := 0; i < len(pairs); i += 2 {
		curve = append(curve, impl.Step6{Range: pairs[i], Cycles: pairs[i+1]})
	}
	return curve
}

// swingsUsing is a curve and a history of swings of which each uses one of the Cycles told, in their order.
func swingsUsing(cycles ...int) ([]impl.Step6, []int) {
	falling := slices.Clone(cycles)
	slices.Sort(falling)
	slices.Reverse(falling)
	falling = slices.Compact(falling)
	var curve []impl.Step6
	for i, c := range falling {
		curve = append(curve, impl.Step6{Range: i + 1, Cycles: c})
	}
	var ranges []int
	for _, c := range cycles {
		ranges = append(ranges, slices.Index(falling, c)+1)
	}
	return curve, ranges
}

// longCurve has that many steps, a range of 10 apart.
func longCurve(many int) []impl.Step6 {
	var curve []impl.Step6
	for i := range many {
		curve = append(curve, impl.Step6{Range: 10 * (i + 1), Cycles: 1000 - i})
	}
	return curve
}

func crack(now, limit, grows int) impl.Crack {
	return impl.Crack{Now: now, Limit: limit, Grows: grows}
}

func life(part string, hours, cycles, days int) impl.Life {
	return impl.Life{Part: part, Hours: hours, Cycles: cycles, Days: days}
}

func stay(part string, hours, cycles, days int) impl.Stay {
	return impl.Stay{Part: part, Hours: hours, Cycles: cycles, Days: days}
}

func isName(text string) bool {
	return len(text) >= 1 && len(text) <= 20 && strings.Trim(text, "abcdefghijklmnopqrstuvwxyzABCDEFGHIJKLMNOPQRSTUVWXYZ0123456789-") == ""
}

var rightNames = []string{"a", "z", "A", "Z", "0", "9", "-", "fan", "Fan-2", "--", "abcdefghijklmnopqrst", "ABCDEFGHIJ0123456789"}

// What stands just beside the bytes of a name, names too long, and such with a wrong byte at an end or within.
var wrongNames = []string{
	"", " ", "`", "{", "@", "[", "/", ":", ",", ".", "_", "a b", "fan ", " fan", "fan\n", "\x00", "fa\x00n", "f\xffn", "ä", "é-1", "\u2010",
	"abcdefghijklmnopqrstu", strings.Repeat("a", 300), "abcdefghijklmnopqrs_",
}

func crossingsByWords(loads []int, level int) (int, bool) {
	for _, load := range loads {
		if load < -1000000 || load > 1000000 {
			return 0, false
		}
	}
	if len(loads) > 300 {
		return 0, false
	}
	above := func(load int) string {
		if load >= level {
			return "u"
		}
		return "d"
	}
	told := ""
	for _, load := range loads {
		told += above(load)
	}
	return strings.Count(told, "du"), true
}

func curveIsSo(curve []impl.Step6) bool {
	for i, step := range curve {
		if step.Range < 1 || step.Range > 1000000 || step.Cycles < 1 || step.Cycles > 1000000 {
			return false
		}
		for _, ahead := range curve[:i] {
			if ahead.Range >= step.Range || ahead.Cycles <= step.Cycles {
				return false
			}
		}
	}
	return len(curve) >= 1 && len(curve) <= 20
}

// usedByWords sums over one common denominator and divides each sum by what both its terms have in common.
func usedByWords(curve []impl.Step6, ranges []int) (impl.Frac, bool) {
	if !curveIsSo(curve) || len(ranges) > 40 {
		return impl.Frac{}, false
	}
	for _, swing := range ranges {
		if swing < 0 || swing > 2000000 {
			return impl.Frac{}, false
		}
	}
	most := big.NewInt(1000000000000000)
	num, den := big.NewInt(0), big.NewInt(1)
	for _, swing := range ranges {
		for i := len(curve) - 1; i >= 0; i-- {
			if swing < curve[i].Range {
				continue
			}
			cycles := big.NewInt(int64(curve[i].Cycles))
			num.Add(new(big.Int).Mul(num, cycles), den)
			den.Mul(den, cycles)
			common := new(big.Int).GCD(nil, nil, num, den)
			num.Quo(num, common)
			den.Quo(den, common)
			break
		}
		if num.Cmp(most) > 0 || den.Cmp(most) > 0 {
			return impl.Frac{}, false
		}
	}
	return frac(int(num.Int64()), int(den.Int64())), true
}

func crackIsSo(c impl.Crack) bool {
	return 0 <= c.Now && c.Now <= c.Limit && c.Limit <= 1000000 && 1 <= c.Grows && c.Grows <= 100
}

// behindFlights is how long the crack is after that many flights.
func behindFlights(c impl.Crack, many int) int {
	now := c.Now
	for range many {
		grown := now * c.Grows / 1000
		if now*c.Grows%1000 != 0 {
			grown++
		}
		now += grown
	}
	return now
}

func flightsByWords(c impl.Crack) (int, bool) {
	if !crackIsSo(c) {
		return 0, false
	}
	now := c.Now
	for n := 1; n <= 5000; n++ {
		now = behindFlights(impl.Crack{Now: now, Grows: c.Grows}, 1)
		if now > c.Limit {
			return n, true
		}
	}
	return 0, false
}

func inspectByWords(c impl.Crack, least, part int) (int, bool) {
	if !crackIsSo(c) || least < 1 || least > c.Limit || part < 1 || part > 20 {
		return 0, false
	}
	n, ok := flightsByWords(crack(least, c.Limit, c.Grows))
	// As many looks as are wanted, all of them while it is not yet above.
	every := 0
	for ok && (every+1)*part <= n-1 {
		every++
	}
	return every, every != 0
}

func numbersOfLife(l impl.Life) []int { return []int{l.Hours, l.Cycles, l.Days} }

func numbersOfStay(s impl.Stay) []int { return []int{s.Hours, s.Cycles, s.Days} }

func allIn(list []int, low, high int) bool {
	for _, n := range list {
		if n < low || n > high {
			return false
		}
	}
	return true
}

func lifeIsSo(l impl.Life) bool { return isName(l.Part) && allIn(numbersOfLife(l), 0, 1000000) }

func stayIsSo(s impl.Stay) bool { return isName(s.Part) && allIn(numbersOfStay(s), 0, 10000000) }

func left6ByWords(l impl.Life, s impl.Stay) (int, int, bool) {
	if !lifeIsSo(l) || !stayIsSo(s) || l.Part != s.Part {
		return -1, 0, false
	}
	bounds, stayed := numbersOfLife(l), numbersOfStay(s)
	greatest := big.NewRat(-1, 1)
	at, left := -1, 0
	for i := range bounds {
		if bounds[i] == 0 {
			continue
		}
		if part := big.NewRat(int64(stayed[i]), int64(bounds[i])); part.Cmp(greatest) > 0 {
			greatest, at, left = part, i, bounds[i]-stayed[i]
		}
	}
	return at, left, at != -1
}

func due6ByWords(lives []impl.Life, stays []impl.Stay) ([]string, bool) {
	if len(lives) > 30 || len(stays) > 30 {
		return []string{}, false
	}
	for i, l := range lives {
		twice := slices.ContainsFunc(lives[:i], func(other impl.Life) bool { return other.Part == l.Part })
		if twice || !lifeIsSo(l) {
			return []string{}, false
		}
	}
	for i, s := range stays {
		twice := slices.ContainsFunc(stays[:i], func(other impl.Stay) bool { return other.Part == s.Part })
		if twice || !stayIsSo(s) {
			return []string{}, false
		}
	}
	due := []string{}
	for _, s := range stays {
		at := slices.IndexFunc(lives, func(l impl.Life) bool { return l.Part == s.Part })
		if at < 0 {
			due = append(due, s.Part)
			continue
		}
		bounds, stayed := numbersOfLife(lives[at]), numbersOfStay(s)
		for i := range bounds {
			if bounds[i] > 0 && stayed[i] >= bounds[i] {
				due = append(due, s.Part)
				break
			}
		}
	}
	slices.Sort(due)
	return due, true
}

func TestLimitsOfStructure(t *testing.T) {
	if impl.MaxLoads != 300 || impl.MaxParts6 != 30 {
		t.Error("limits", impl.MaxLoads, impl.MaxParts6)
	}
}

func TestCrossingsByHand(t *testing.T) {
	turns := slices.Repeat([]int{-1000000, 1000000}, 150)
	for _, c := range []struct {
		name  string
		loads []int
		level int
		want  int
		ok    bool
	}{
		{"nil", nil, 0, 0, true},
		{"none", []int{}, 0, 0, true},
		{"one below", []int{-1}, 0, 0, true},
		{"one above", []int{1}, 0, 0, true},
		{"just the level", []int{4, 5}, 5, 1, true},
		{"one short of it", []int{4, 5}, 6, 0, true},
		{"just the level ahead", []int{5, 6}, 5, 0, true},
		{"first above", []int{9, 9, 3}, 5, 0, true},
		{"first above, then up again", []int{9, 3, 9}, 5, 1, true},
		{"stays above", []int{1, 6, 7, 5, 6}, 5, 1, true},
		{"stays below", []int{1, 4, 2, 4}, 5, 0, true},
		{"comes down alone", []int{9, 8, 1}, 5, 0, true},
		{"ordinary", []int{0, 5, 3, 9, 9, 1, 6}, 5, 3, true},
		{"below 0", []int{-9, -5, -6, -4}, -5, 2, true},
		{"widest", []int{-1000000, 1000000}, 1000000, 1, true},
		{"widest, the least level", []int{-1000000, 1000000}, -999999, 1, true},
		{"never below the level", []int{-1000000, 1000000}, -1000000, 0, true},
		{"higher than all", []int{-1000000, 1000000}, 1000001, 0, true},
		{"greatest level", turns, math.MaxInt, 0, true},
		{"least level", turns, math.MinInt, 0, true},
		{"most", turns, 0, 150, true},
		{"most, none up", slices.Repeat([]int{7}, 300), 7, 0, true},
		{"one too many", slices.Repeat([]int{7}, 301), 7, 0, false},
		{"turns, one too many", append(slices.Clone(turns), 0), 0, 0, false},
		{"too low", []int{0, 5, -1000001}, 5, 0, false},
		{"too high", []int{0, 1000001}, 5, 0, false},
		{"too high first", []int{1000001, 0, 5}, 5, 0, false},
	} {
		if got, ok := impl.Crossings(c.loads, c.level); got != c.want || ok != c.ok {
			t.Errorf("%s: %d %v", c.name, got, ok)
		}
	}
}

func TestCrossingsAreAsTheWordsSay(t *testing.T) {
	r := rand.New(rand.NewSource(60))
	for range 3000 {
		far := []int{2, 5, 1000000, 1000001}[r.Intn(4)]
		loads := listOf(r, r.Intn(302), -far, far)
		if r.Intn(2) == 0 {
			loads = listOf(r, r.Intn(12), -far, far)
		}
		level := r.Intn(2*far+3) - far - 1
		want, wantOk := crossingsByWords(loads, level)
		if got, ok := impl.Crossings(loads, level); got != want || ok != wantOk {
			t.Fatalf("Crossings of %v, %d: %d %v, not %d %v", loads, level, got, ok, want, wantOk)
		}
	}
}

func TestALevelHigherThanAllIsNeverCrossed(t *testing.T) {
	r := rand.New(rand.NewSource(61))
	for range 300 {
		loads := listOf(r, 1+r.Intn(300), -20, 20)
		for level := slices.Max(loads) + 1; level < 24; level++ {
			if n, ok := impl.Crossings(loads, level); n != 0 || !ok {
				t.Fatalf("Crossings of %v, %d: %d %v", loads, level, n, ok)
			}
		}
	}
}

var curveEdges = []struct {
	name  string
	curve []impl.Step6
	ok    bool
}{
	{"nil", nil, false},
	{"none", []impl.Step6{}, false},
	{"one", steps6(5, 6), true},
	{"most", longCurve(20), true},
	{"one too many", longCurve(21), false},
	{"least and greatest", steps6(1, 1000000, 1000000, 1), true},
	{"range of 0", steps6(0, 9, 5, 6), false},
	{"range below 0", steps6(-1, 9), false},
	{"range too great", steps6(5, 9, 1000001, 6), false},
	{"cycles of 0", steps6(5, 6, 9, 0), false},
	{"cycles below 0", steps6(5, -6), false},
	{"cycles too great", steps6(5, 1000001, 9, 6), false},
	{"ranges alike", steps6(5, 6, 5, 4), false},
	{"ranges fall", steps6(5, 6, 4, 3), false},
	{"cycles alike", steps6(5, 6, 9, 6), false},
	{"cycles rise", steps6(5, 6, 9, 7), false},
	{"last range alike", steps6(5, 6, 9, 4, 9, 3), false},
	{"last cycles alike", steps6(5, 6, 9, 4, 10, 4), false},
	{"by one", steps6(5, 6, 6, 5, 7, 4), true},
	{"far", steps6(math.MinInt, math.MaxInt, math.MaxInt, math.MinInt), false},
}

func TestCurvesOfFatigueAtTheirEdges(t *testing.T) {
	for _, c := range curveEdges {
		got, ok := impl.Used(c.curve, nil)
		if ok != c.ok || ok && got != frac(0, 1) || !ok && got != frac(0, 0) {
			t.Errorf("%s: %v %v", c.name, got, ok)
		}
		if got, ok := impl.Used(c.curve, []int{7}); ok != c.ok || !ok && got != frac(0, 0) {
			t.Errorf("%s, a swing: %v %v", c.name, got, ok)
		}
	}
}

func TestUsedByHand(t *testing.T) {
	curve := steps6(5, 6, 9, 4, 1000000, 3)
	for _, c := range []struct {
		name   string
		ranges []int
		want   impl.Frac
		ok     bool
	}{
		{"nil", nil, frac(0, 1), true},
		{"none", []int{}, frac(0, 1), true},
		{"no swing at all", []int{0}, frac(0, 1), true},
		{"below the first", []int{4, 1, 0}, frac(0, 1), true},
		{"just at the first", []int{5}, frac(1, 6), true},
		{"below the next", []int{8}, frac(1, 6), true},
		{"just at the next", []int{9}, frac(1, 4), true},
		{"just below the last", []int{999999}, frac(1, 4), true},
		{"just at the last", []int{1000000}, frac(1, 3), true},
		{"greatest", []int{2000000}, frac(1, 3), true},
		{"ordinary", []int{4, 5, 9}, frac(5, 12), true},
		{"lowest terms", []int{5, 5, 5}, frac(1, 2), true},
		{"one", []int{9, 9, 9, 9}, frac(1, 1), true},
		{"above one", []int{9, 9, 9, 9, 5, 5}, frac(4, 3), true},
		{"most", slices.Repeat([]int{1000000}, 40), frac(40, 3), true},
		{"most of nothing", slices.Repeat([]int{0}, 40), frac(0, 1), true},
		{"one too many", slices.Repeat([]int{9}, 41), frac(0, 0), false},
		{"one too many of nothing", slices.Repeat([]int{0}, 41), frac(0, 0), false},
		{"below 0", []int{5, -1}, frac(0, 0), false},
		{"too great", []int{2000001, 5}, frac(0, 0), false},
		{"far", []int{math.MaxInt}, frac(0, 0), false},
		{"far below", []int{math.MinInt}, frac(0, 0), false},
	} {
		if got, ok := impl.Used(curve, c.ranges); got != c.want || ok != c.ok {
			t.Errorf("%s: %v %v", c.name, got, ok)
		}
	}
}

func TestUsedOfTheLongestCurve(t *testing.T) {
	curve := longCurve(20)
	for i, step := range curve {
		for _, swing := range []int{step.Range, step.Range + 9} {
			if got, ok := impl.Used(curve, []int{swing}); !ok || got != frac(1, 1000-i) {
				t.Errorf("a swing of %d: %v %v", swing, got, ok)
			}
		}
	}
}

// The terms of a sum may be 10^15 and no more. A denominator is never just that, as no Cycles have 5^15 in them: 3 less is the greatest that there is.
func TestUsedAtTheGreatestTerms(t *testing.T) {
	const most = 1000000000000000
	toMost := []int{133837, 85683, 85683, 40817, 28561, 28561, 28561, 2401, 2197, 833, 529, 529, 529, 529, 529, 529, 507,
		343, 253, 253, 253, 253, 169, 39, 13, 13, 13, 11, 11, 11, 11, 7, 3, 1}
	past := []int{253125, 190969, 10125, 8303, 8303, 5625, 1156, 578, 529, 529, 529, 529, 437, 375, 361, 68, 27,
		19, 19, 19, 16, 15, 5, 4, 3, 3, 1, 1, 1}
	for _, c := range []struct {
		name   string
		cycles []int
		want   impl.Frac
		ok     bool
	}{
		{"numerator of 10^15", toMost, frac(most, 468071219823207), true},
		{"numerator of one more", past, frac(0, 0), false},
		{"numerator of one more, less its last swing", past[:len(past)-1], frac(most+1-223519666050000, 223519666050000), true},
		{"denominator just below", []int{209861, 3733, 2131, 599}, frac(2411358458076, 999999999999997), true},
		{"denominator of one more", []int{211211, 520801, 9091}, frac(0, 0), false},
		{"denominator of one more, less its last swing", []int{211211, 520801}, frac(732012, 211211*520801), true},
		{"far above", []int{999983, 999979, 999961, 999959}, frac(0, 0), false},
		{"far above a word of 64 bits", []int{999983, 999979, 999961, 999959, 999953, 999931}, frac(0, 0), false},
	} {
		curve, ranges := swingsUsing(c.cycles...)
		if got, ok := impl.Used(curve, ranges); got != c.want || ok != c.ok {
			t.Errorf("%s: %v %v", c.name, got, ok)
		}
	}
}

func TestUsedLooksAtTheSumsOnTheWay(t *testing.T) {
	const den = 599 * 999979 * 999983
	curve, ranges := swingsUsing(2, 2, 599, 999979, 999983)
	want := frac(den+999979*999983+599*999983+599*999979, den)
	if got, ok := impl.Used(curve, ranges); got != want || !ok {
		t.Errorf("halves first: %v %v, not %v", got, ok, want)
	}
	// Between the halves the denominator is twice as great.
	curve, ranges = swingsUsing(599, 999979, 999983, 2, 2)
	if got, ok := impl.Used(curve, ranges); got != frac(0, 0) || ok {
		t.Errorf("halves last: %v %v", got, ok)
	}
	// Both denominators are even and neither by more than a 2, so the sum's is odd: halved, it is not above 10^15.
	curve, ranges = swingsUsing(2998, 999979, 999958)
	want = frac(251483203002, 1499*999979*499979)
	if got, ok := impl.Used(curve, ranges); got != want || !ok {
		t.Errorf("halved: %v %v, not %v", got, ok, want)
	}
	// Multiplied out undivided, the terms of this one are above a word of 64 bits.
	curve, ranges = swingsUsing(599, 999979, 999983, 999983, 999979)
	want = frac(999979*999983+2*599*999983+2*599*999979, den)
	if got, ok := impl.Used(curve, ranges); got != want || !ok {
		t.Errorf("multiplied out: %v %v, not %v", got, ok, want)
	}
}

// fatigueOf makes a curve of small Cycles or of such that soon have no common divisors, and some wrong ones.
func fatigueOf(r *rand.Rand) []impl.Step6 {
	many := 1 + r.Intn(20)
	far := []int{40, 300, 1000000}[r.Intn(3)]
	cycles := ascendingList(r, many, 1, far)
	slices.Reverse(cycles)
	var curve []impl.Step6
	for i, at := range ascendingList(r, many, 1, far) {
		curve = append(curve, impl.Step6{Range: at, Cycles: cycles[i]})
	}
	if r.Intn(10) == 0 {
		at := r.Intn(many)
		curve[at].Range += r.Intn(5) - 2
		curve[at].Cycles += r.Intn(5) - 2
	}
	return curve
}

func TestUsedIsAsTheWordsSay(t *testing.T) {
	r := rand.New(rand.NewSource(62))
	told, refused := 0, 0
	for range 6000 {
		curve := fatigueOf(r)
		ranges := listOf(r, r.Intn(42), 0, curve[len(curve)-1].Range+2)
		if r.Intn(2) == 0 {
			ranges = listOf(r, r.Intn(5), -1, curve[len(curve)-1].Range+2)
		}
		want, wantOk := usedByWords(curve, ranges)
		if got, ok := impl.Used(curve, ranges); got != want || ok != wantOk {
			t.Fatalf("Used of %v, %v: %v %v, not %v %v", curve, ranges, got, ok, want, wantOk)
		}
		if wantOk {
			told++
		} else {
			refused++
		}
	}
	if told < 1000 || refused < 1000 {
		t.Error("the histories are too much alike", told, refused)
	}
}

func TestSwingsOfTwoHistoriesUseWhatBothUseTogether(t *testing.T) {
	r := rand.New(rand.NewSource(63))
	for range 2000 {
		many := 1 + r.Intn(6)
		cycles := ascendingList(r, many, 1, 30)
		slices.Reverse(cycles)
		var curve []impl.Step6
		for i, at := range ascendingList(r, many, 1, 50) {
			curve = append(curve, impl.Step6{Range: at, Cycles: cycles[i]})
		}
		one, other := listOf(r, r.Intn(21), 0, 55), listOf(r, r.Intn(21), 0, 55)
		usedOne, okOne := impl.Used(curve, one)
		usedOther, okOther := impl.Used(curve, other)
		together, ok := impl.Used(curve, slices.Concat(one, other))
		turned, okTurned := impl.Used(curve, slices.Concat(other, one))
		if !okOne || !okOther || !ok || !okTurned || together != turned {
			t.Fatalf("Used of %v, %v and %v: %v, %v, %v %v, %v %v", curve, one, other, okOne, okOther, together, ok, turned, okTurned)
		}
		if sum := new(big.Rat).Add(ratOf(usedOne), ratOf(usedOther)); fracFrom(sum) != together {
			t.Fatalf("Used of %v, %v and %v: %v and %v, together %v", curve, one, other, usedOne, usedOther, together)
		}
	}
}

var crackEdges = []struct {
	name string
	c    impl.Crack
	ok   bool
}{
	{"ordinary", crack(100, 120, 100), true},
	{"now is the limit", crack(120, 120, 100), true},
	{"now is above", crack(121, 120, 100), false},
	{"now below 0", crack(-1, 120, 100), false},
	{"limit below 0", crack(0, -1, 100), false},
	{"both below 0", crack(-2, -1, 100), false},
	{"greatest limit", crack(900000, 1000000, 100), true},
	{"limit too great", crack(900000, 1000001, 100), false},
	{"grows least", crack(100, 120, 1), true},
	{"grows nothing", crack(100, 120, 0), false},
	{"grows below 0", crack(100, 120, -1), false},
	{"grows too much", crack(100, 120, 101), false},
	{"far", crack(math.MinInt, math.MaxInt, 100), false},
	{"far grown", crack(100, 120, math.MaxInt), false},
	{"far limit", crack(100, math.MaxInt, 100), false},
}

func TestCracksAtTheirEdges(t *testing.T) {
	for _, c := range crackEdges {
		if n, ok := impl.Flights(c.c); ok != c.ok || ok != (n > 0) {
			t.Errorf("Flights, %s: %d %v", c.name, n, ok)
		}
		if n, ok := impl.Inspect(c.c, 1, 1); ok != c.ok || ok != (n > 0) {
			t.Errorf("Inspect, %s: %d %v", c.name, n, ok)
		}
	}
}

func TestFlightsByHand(t *testing.T) {
	for _, c := range []struct {
		name string
		c    impl.Crack
		want int
		ok   bool
	}{
		{"ordinary", crack(100, 120, 100), 2, true},
		{"just the limit is not above", crack(100, 110, 100), 2, true},
		{"one less than grown", crack(100, 109, 100), 1, true},
		{"now is the limit", crack(100, 100, 1), 1, true},
		{"one of one", crack(1, 1, 1), 1, true},
		{"greatest", crack(1000000, 1000000, 100), 1, true},
		{"grows by whole thousandths", crack(1000, 1001, 1), 2, true},
		{"grown by just one", crack(1000, 1000, 1), 1, true},
		{"rounded up to two", crack(1001, 1002, 1), 1, true},
		{"rounded up to one", crack(1, 3, 100), 3, true},
		{"eleven by a tenth is two", crack(11, 12, 100), 1, true},
		{"ten by a tenth is one", crack(10, 11, 100), 2, true},
		{"nothing grows nothing", crack(0, 1000000, 100), 0, false},
		{"nothing at no limit", crack(0, 0, 1), 0, false},
		{"a limit of 0 is passed by nothing", crack(0, 0, 100), 0, false},
		{"too slow", crack(1, 1000000, 1), 0, false},
	} {
		if got, ok := impl.Flights(c.c); got != c.want || ok != c.ok {
			t.Errorf("%s: %d %v", c.name, got, ok)
		}
	}
}

func TestFlightsAreAtMost5000(t *testing.T) {
	// After 1000 flights it is at 1001, and so on, a little faster for each thousand.
	grown := behindFlights(crack(1, 0, 1), 5000)
	if grown <= behindFlights(crack(1, 0, 1), 4999) || grown > 1000000 {
		t.Fatal("no crack for this", grown)
	}
	if n, ok := impl.Flights(crack(1, grown-1, 1)); n != 5000 || !ok {
		t.Errorf("after just 5000: %d %v", n, ok)
	}
	if n, ok := impl.Flights(crack(1, grown, 1)); n != 0 || ok {
		t.Errorf("after one more: %d %v", n, ok)
	}
	if n, ok := impl.Flights(crack(2, grown, 1)); n != 5000 || !ok {
		t.Errorf("a flight on: %d %v", n, ok)
	}
}

func crackOf(r *rand.Rand) impl.Crack {
	limit := r.Intn([]int{30, 2000, 1000001}[r.Intn(3)])
	c := crack(r.Intn(limit+1), limit, 1+r.Intn(100))
	if r.Intn(3) == 0 {
		c.Grows = 1 + r.Intn(3)
	}
	if r.Intn(3) == 0 {
		c.Now = min(c.Now, r.Intn(4))
	}
	return c
}

func TestACrackIsAboveItsLimitAfterAsManyFlightsAsTold(t *testing.T) {
	r := rand.New(rand.NewSource(64))
	for range 1500 {
		c := crackOf(r)
		want, wantOk := flightsByWords(c)
		n, ok := impl.Flights(c)
		if n != want || ok != wantOk {
			t.Fatalf("Flights of %v: %d %v, not %d %v", c, n, ok, want, wantOk)
		}
		if ok && (behindFlights(c, n) <= c.Limit || behindFlights(c, n-1) > c.Limit) {
			t.Fatalf("Flights of %v: %d, behind them %d, ahead of the last %d", c, n, behindFlights(c, n), behindFlights(c, n-1))
		}
	}
}

func TestInspectByHand(t *testing.T) {
	// A crack of 1 with a tenth grows by one a flight as long as it is at most 10.
	small := crack(0, 10, 100)
	grown := behindFlights(crack(1, 0, 1), 5000)
	for _, c := range []struct {
		name        string
		c           impl.Crack
		least, part int
		want        int
		ok          bool
	}{
		{"ten flights, one look", small, 1, 1, 9, true},
		{"ten flights, two looks, down", small, 1, 2, 4, true},
		{"ten flights, three looks", small, 1, 3, 3, true},
		{"ten flights, four looks, down", small, 1, 4, 2, true},
		{"ten flights, nine looks", small, 1, 9, 1, true},
		{"ten flights, ten looks", small, 1, 10, 0, false},
		{"ten flights, twenty looks", small, 1, 20, 0, false},
		{"two flights", small, 9, 1, 1, true},
		{"least is the limit", small, 10, 1, 0, false},
		{"least above the limit", small, 11, 1, 0, false},
		{"least of 0", small, 0, 1, 0, false},
		{"least below 0", small, -1, 1, 0, false},
		{"no look", small, 1, 0, 0, false},
		{"looks below 0", small, 1, -1, 0, false},
		{"looks too many", crack(0, 100000, 1), 1000, 21, 0, false},
		{"now is not asked for", crack(10, 10, 100), 1, 1, 9, true},
		{"now must be so", crack(11, 10, 100), 1, 1, 0, false},
		{"now below 0", crack(-1, 10, 100), 1, 1, 0, false},
		{"no limit", crack(0, 0, 100), 0, 1, 0, false},
		{"no limit, least of 1", crack(0, 0, 100), 1, 1, 0, false},
		{"just 5000 flights", crack(0, grown-1, 1), 1, 20, 249, true},
		{"just 5000 flights, one look", crack(0, grown-1, 1), 1, 1, 4999, true},
		{"one flight more", crack(0, grown, 1), 1, 20, 0, false},
		{"too slow", crack(1000000, 1000000, 1), 1, 1, 0, false},
		{"least of the greatest limit", crack(0, 1000000, 100), 1000000, 1, 0, false},
		{"far least", small, math.MaxInt, 1, 0, false},
		{"far looks", small, 1, math.MinInt, 0, false},
	} {
		if got, ok := impl.Inspect(c.c, c.least, c.part); got != c.want || ok != c.ok {
			t.Errorf("%s: %d %v", c.name, got, ok)
		}
	}
}

func TestInspectLeavesAsManyLooksAsAsked(t *testing.T) {
	r := rand.New(rand.NewSource(65))
	for range 1500 {
		c := crackOf(r)
		least, part := r.Intn(c.Limit+2), r.Intn(22)
		want, wantOk := inspectByWords(c, least, part)
		every, ok := impl.Inspect(c, least, part)
		if every != want || ok != wantOk {
			t.Fatalf("Inspect of %v, %d, %d: %d %v, not %d %v", c, least, part, every, ok, want, wantOk)
		}
		if ok && behindFlights(crack(least, c.Limit, c.Grows), every*part) > c.Limit {
			t.Fatalf("Inspect of %v, %d, %d: %d, which is too late", c, least, part, every)
		}
	}
}

func TestLeft6ByHand(t *testing.T) {
	for _, c := range []struct {
		name     string
		l        impl.Life
		s        impl.Stay
		at, left int
		ok       bool
	}{
		{"ordinary", life("fan", 10, 0, 5), stay("fan", 7, 0, 4), 2, 1, true},
		{"hours alone", life("fan", 10, 0, 0), stay("fan", 3, 9, 9), 0, 7, true},
		{"cycles alone", life("fan", 0, 10, 0), stay("fan", 9, 3, 9), 1, 7, true},
		{"days alone", life("fan", 0, 0, 10), stay("fan", 9, 9, 3), 2, 7, true},
		{"nothing used", life("fan", 10, 20, 30), stay("fan", 0, 0, 0), 0, 10, true},
		{"nothing used, no hours", life("fan", 0, 20, 30), stay("fan", 5, 0, 0), 1, 20, true},
		{"the same part thrice", life("fan", 10, 20, 30), stay("fan", 5, 10, 15), 0, 5, true},
		{"the same part twice", life("fan", 10, 20, 30), stay("fan", 4, 10, 15), 1, 10, true},
		{"a little more", life("fan", 10, 20, 30), stay("fan", 5, 10, 16), 2, 14, true},
		{"just met", life("fan", 10, 20, 0), stay("fan", 10, 19, 0), 0, 0, true},
		{"passed", life("fan", 10, 20, 0), stay("fan", 10, 21, 0), 1, -1, true},
		{"less is left, less is used", life("fan", 2, 100, 0), stay("fan", 1, 90, 0), 1, 10, true},
		{"widest", life("fan", 1, 1000000, 0), stay("fan", 10000000, 10000000, 0), 0, -9999999, true},
		{"widest apart by one", life("fan", 1000000, 999999, 0), stay("fan", 10000000, 10000000, 0), 1, -9000001, true},
		{"greatest", life("fan", 1000000, 1000000, 1000000), stay("fan", 10000000, 10000000, 10000000), 0, -9000000, true},
		{"no bound", life("fan", 0, 0, 0), stay("fan", 1, 1, 1), -1, 0, false},
		{"names not one", life("fan", 10, 0, 0), stay("pump", 1, 1, 1), -1, 0, false},
		{"names of other letters", life("fan", 10, 0, 0), stay("Fan", 1, 1, 1), -1, 0, false},
		{"a beginning", life("fan", 10, 0, 0), stay("fan-", 1, 1, 1), -1, 0, false},
		{"no names", life("", 10, 0, 0), stay("", 1, 1, 1), -1, 0, false},
		{"no name of a life", life("", 10, 0, 0), stay("fan", 1, 1, 1), -1, 0, false},
		{"no name of a stay", life("fan", 10, 0, 0), stay("", 1, 1, 1), -1, 0, false},
		{"life's hours below 0", life("fan", -1, 10, 0), stay("fan", 1, 1, 1), -1, 0, false},
		{"life's cycles below 0", life("fan", 10, -1, 0), stay("fan", 1, 1, 1), -1, 0, false},
		{"life's days below 0", life("fan", 10, 0, -1), stay("fan", 1, 1, 1), -1, 0, false},
		{"life's hours too great", life("fan", 1000001, 10, 0), stay("fan", 1, 1, 1), -1, 0, false},
		{"life's cycles too great", life("fan", 10, 1000001, 0), stay("fan", 1, 1, 1), -1, 0, false},
		{"life's days too great", life("fan", 10, 0, 1000001), stay("fan", 1, 1, 1), -1, 0, false},
		{"stay's hours below 0", life("fan", 0, 10, 0), stay("fan", -1, 1, 1), -1, 0, false},
		{"stay's cycles below 0", life("fan", 10, 0, 0), stay("fan", 1, -1, 1), -1, 0, false},
		{"stay's days below 0", life("fan", 10, 0, 0), stay("fan", 1, 1, -1), -1, 0, false},
		{"stay's hours too great", life("fan", 0, 10, 0), stay("fan", 10000001, 1, 1), -1, 0, false},
		{"stay's cycles too great", life("fan", 10, 0, 0), stay("fan", 1, 10000001, 1), -1, 0, false},
		{"stay's days too great", life("fan", 10, 0, 0), stay("fan", 1, 1, 10000001), -1, 0, false},
		{"far", life("fan", math.MaxInt, math.MinInt, 1), stay("fan", math.MinInt, math.MaxInt, 1), -1, 0, false},
	} {
		if at, left, ok := impl.Left6(c.l, c.s); at != c.at || left != c.left || ok != c.ok {
			t.Errorf("%s: %d %d %v", c.name, at, left, ok)
		}
	}
}

func TestNamesOfParts(t *testing.T) {
	for _, name := range rightNames {
		if at, left, ok := impl.Left6(life(name, 10, 0, 0), stay(name, 3, 0, 0)); at != 0 || left != 7 || !ok {
			t.Errorf("Left6 of %q: %d %d %v", name, at, left, ok)
		}
		if due, ok := impl.Due6([]impl.Life{life(name, 10, 0, 0)}, []impl.Stay{stay(name, 10, 0, 0)}); !ok || !slices.Equal(due, []string{name}) {
			t.Errorf("Due6 of %q: %q %v", name, due, ok)
		}
	}
	for _, name := range wrongNames {
		if at, left, ok := impl.Left6(life(name, 10, 0, 0), stay(name, 3, 0, 0)); at != -1 || left != 0 || ok {
			t.Errorf("Left6 of %q: %d %d %v", name, at, left, ok)
		}
		if due, ok := impl.Due6([]impl.Life{life(name, 10, 0, 0)}, nil); len(due) != 0 || ok {
			t.Errorf("Due6 of a life %q: %q %v", name, due, ok)
		}
		if due, ok := impl.Due6(nil, []impl.Stay{stay("fan", 10, 0, 0), stay(name, 10, 0, 0)}); len(due) != 0 || ok {
			t.Errorf("Due6 of a stay %q: %q %v", name, due, ok)
		}
	}
	for b := range 256 {
		name := string([]byte{'a', byte(b)})
		if _, _, ok := impl.Left6(life(name, 10, 0, 0), stay(name, 3, 0, 0)); ok != isName(name) {
			t.Errorf("Left6 of %q: %v", name, ok)
		}
	}
}

func partOf(r *rand.Rand, names int) string { return rightNames[r.Intn(names)] }

func countsOf(r *rand.Rand, most int) [3]int {
	var many [3]int
	for i := range many {
		if r.Intn(3) > 0 {
			many[i] = r.Intn(most + 1)
		}
	}
	return many
}

func TestLeft6IsAsTheWordsSay(t *testing.T) {
	r := rand.New(rand.NewSource(66))
	for range 6000 {
		far := []int{4, 50, 1000001}[r.Intn(3)]
		bounds, stayed := countsOf(r, far), countsOf(r, far)
		l := life(partOf(r, 4), bounds[0], bounds[1], bounds[2])
		s := stay(l.Part, stayed[0], stayed[1], stayed[2])
		if r.Intn(10) == 0 {
			s.Part = partOf(r, 4)
		}
		at, left, ok := left6ByWords(l, s)
		if gotAt, gotLeft, gotOk := impl.Left6(l, s); gotAt != at || gotLeft != left || gotOk != ok {
			t.Fatalf("Left6 of %v, %v: %d %d %v, not %d %d %v", l, s, gotAt, gotLeft, gotOk, at, left, ok)
		}
	}
}

// manyLives and manyStays have names of their own, ascending as they stand.
func manyLives(many int) []impl.Life {
	var lives []impl.Life
	for i := range many {
		lives = append(lives, life("part-"+string([]byte{byte('A' + i/10), byte('0' + i%10)}), 10, 0, 0))
	}
	return lives
}

func manyStays(many, hours int) []impl.Stay {
	var stays []impl.Stay
	for _, l := range manyLives(many) {
		stays = append(stays, stay(l.Part, hours, 0, 0))
	}
	return stays
}

func TestDue6ByHand(t *testing.T) {
	fan := []impl.Life{life("fan", 10, 20, 30)}
	all := make([]string, 0, 30)
	for _, l := range manyLives(30) {
		all = append(all, l.Part)
	}
	turned := manyStays(30, 10)
	slices.Reverse(turned)
	for _, c := range []struct {
		name  string
		lives []impl.Life
		stays []impl.Stay
		want  []string
		ok    bool
	}{
		{"nil", nil, nil, nil, true},
		{"none", []impl.Life{}, []impl.Stay{}, nil, true},
		{"a life without a stay", fan, nil, nil, true},
		{"a stay without a life", nil, []impl.Stay{stay("fan", 0, 0, 0)}, []string{"fan"}, true},
		{"ordinary", []impl.Life{life("fan", 10, 0, 0)}, []impl.Stay{stay("pump", 0, 0, 0), stay("fan", 10, 0, 0)}, []string{"fan", "pump"}, true},
		{"one less of each", fan, []impl.Stay{stay("fan", 9, 19, 29)}, nil, true},
		{"hours just met", fan, []impl.Stay{stay("fan", 10, 0, 0)}, []string{"fan"}, true},
		{"cycles just met", fan, []impl.Stay{stay("fan", 0, 20, 0)}, []string{"fan"}, true},
		{"days just met", fan, []impl.Stay{stay("fan", 0, 0, 30)}, []string{"fan"}, true},
		{"hours passed", fan, []impl.Stay{stay("fan", 11, 0, 0)}, []string{"fan"}, true},
		{"all passed, told once", fan, []impl.Stay{stay("fan", 11, 21, 10000000)}, []string{"fan"}, true},
		{"no bounds are never met", []impl.Life{life("fan", 0, 0, 0)}, []impl.Stay{stay("fan", 10000000, 0, 0)}, nil, true},
		{"a bound of 0 beside another", []impl.Life{life("fan", 0, 5, 0)}, []impl.Stay{stay("fan", 9, 4, 9)}, nil, true},
		{"ascending by bytes", nil, []impl.Stay{stay("b", 0, 0, 0), stay("a", 0, 0, 0), stay("ab", 0, 0, 0), stay("B", 0, 0, 0), stay("9", 0, 0, 0), stay("-", 0, 0, 0)},
			[]string{"-", "9", "B", "a", "ab", "b"}, true},
		{"greatest", []impl.Life{life("fan", 1000000, 1000000, 1000000)}, []impl.Stay{stay("fan", 999999, 999999, 1000000)}, []string{"fan"}, true},
		{"most, all due", manyLives(30), turned, all, true},
		{"most, none due", manyLives(30), manyStays(30, 9), nil, true},
		{"most lives", manyLives(30), nil, nil, true},
		{"most stays", nil, turned, all, true},
		{"one life too many", manyLives(31), nil, nil, false},
		{"one stay too many", nil, manyStays(31, 10), nil, false},
		{"a life twice", append(manyLives(3), life("part-A1", 3, 0, 0)), manyStays(3, 10), nil, false},
		{"a life twice alike", append(manyLives(3), manyLives(1)...), nil, nil, false},
		{"a stay twice", manyLives(3), append(manyStays(3, 10), stay("part-A1", 3, 0, 0)), nil, false},
		{"a stay twice alike", nil, append(manyStays(3, 10), manyStays(1, 10)...), nil, false},
		{"a life too great", []impl.Life{life("fan", 1000001, 0, 0)}, nil, nil, false},
		{"a life below 0", []impl.Life{life("fan", 1, 0, -1)}, nil, nil, false},
		{"a stay too great", nil, []impl.Stay{stay("pump", 0, 0, 0), stay("fan", 0, 10000001, 0)}, nil, false},
		{"a stay below 0", nil, []impl.Stay{stay("pump", 0, 0, 0), stay("fan", 0, -1, 0)}, nil, false},
		{"far", []impl.Life{life("fan", math.MaxInt, math.MinInt, 0)}, []impl.Stay{stay("fan", math.MinInt, math.MaxInt, 0)}, nil, false},
	} {
		if got, ok := impl.Due6(c.lives, c.stays); !slices.Equal(got, c.want) || ok != c.ok {
			t.Errorf("%s: %q %v", c.name, got, ok)
		}
	}
}

func TestDue6IsAsTheWordsSay(t *testing.T) {
	r := rand.New(rand.NewSource(67))
	for range 4000 {
		var lives []impl.Life
		var stays []impl.Stay
		for _, at := range r.Perm(len(rightNames))[:r.Intn(len(rightNames)+1)] {
			many := countsOf(r, 4)
			lives = append(lives, life(rightNames[at], many[0], many[1], many[2]))
		}
		for _, at := range r.Perm(len(rightNames))[:r.Intn(len(rightNames)+1)] {
			many := countsOf(r, 4)
			stays = append(stays, stay(rightNames[at], many[0], many[1], many[2]))
		}
		if r.Intn(10) == 0 {
			lives = append(lives, life(partOf(r, len(rightNames)), 1, 1, 1))
		}
		if r.Intn(10) == 0 {
			stays = append(stays, stay(partOf(r, len(rightNames)), 1, 1, 1))
		}
		want, wantOk := due6ByWords(lives, stays)
		if got, ok := impl.Due6(lives, stays); !slices.Equal(got, want) || ok != wantOk {
			t.Fatalf("Due6 of %v, %v: %q %v, not %q %v", lives, stays, got, ok, want, wantOk)
		}
	}
}

func TestAPartAtItsBoundIsDue(t *testing.T) {
	for kind := range 3 {
		for _, bound := range []int{1, 2, 7, 999999, 1000000} {
			for _, has := range []int{0, bound - 1, bound, bound + 1, 10000000} {
				var bounds, stayed [3]int
				bounds[kind], stayed[kind] = bound, has
				l := life("fan", bounds[0], bounds[1], bounds[2])
				s := stay("fan", stayed[0], stayed[1], stayed[2])
				at, left, ok := impl.Left6(l, s)
				if at != kind || left != bound-has || !ok {
					t.Errorf("Left6 of %v, %v: %d %d %v", l, s, at, left, ok)
				}
				due, ok := impl.Due6([]impl.Life{l}, []impl.Stay{s})
				if !ok || (len(due) == 1) != (left <= 0) {
					t.Errorf("Due6 of %v, %v: %q %v, with %d left", l, s, due, ok, left)
				}
			}
		}
	}
}

func TestStructureWritesIntoNoArgument(t *testing.T) {
	loads := roomy([]int{0, 5, 3, 9, 9, 1, 6})
	ranges := roomy([]int{9, 4, 5})
	curve := append(make([]impl.Step6, 0, 9), steps6(5, 6, 9, 4)...)
	lives := append(make([]impl.Life, 0, 9), life("pump", 1, 0, 0), life("fan", 10, 0, 0))
	stays := append(make([]impl.Stay, 0, 9), stay("pump", 2, 0, 0), stay("fan", 11, 0, 0), stay("arm", 0, 0, 0))
	mark := impl.Step6{Range: 77, Cycles: 77}
	curve[:9][2] = mark
	lives[:9][2] = life("mark", 7, 7, 7)
	stays[:9][3] = stay("mark", 7, 7, 7)
	copies := []any{slices.Clone(loads[:cap(loads)]), slices.Clone(ranges[:cap(ranges)]), slices.Clone(curve[:9]), slices.Clone(lives[:9]), slices.Clone(stays[:9])}
	for range 2 {
		if n, ok := impl.Crossings(loads, 5); n != 3 || !ok {
			t.Error("Crossings", n, ok)
		}
		if u, ok := impl.Used(curve, ranges); u != frac(5, 12) || !ok {
			t.Error("Used", u, ok)
		}
		due, ok := impl.Due6(lives, stays)
		if !ok || !slices.Equal(due, []string{"arm", "fan", "pump"}) {
			t.Error("Due6", due, ok)
		}
		clear(due)
	}
	now := []any{loads[:cap(loads)], ranges[:cap(ranges)], curve[:9], lives[:9], stays[:9]}
	if !reflect.DeepEqual(now, copies) {
		t.Errorf("written into: %v, not %v", now, copies)
	}
}

func TestStructureAnswersAtFarNumbers(t *testing.T) {
	for _, far := range farNumbers {
		if n, ok := impl.Flights(crack(far, far, 5)); ok && far != 100001 {
			t.Error("Flights", far, n, ok)
		}
		if n, ok := impl.Flights(crack(1, 1, far)); n != 0 || ok {
			t.Error("Flights that grow", far, n, ok)
		}
		if n, ok := impl.Inspect(crack(0, 10, 100), far, far); n != 0 || ok {
			t.Error("Inspect", far, n, ok)
		}
		if n, ok := impl.Crossings([]int{-5, 5}, far); n != 0 || !ok {
			t.Error("Crossings", far, n, ok)
		}
		if u, ok := impl.Used(steps6(1, far), []int{1}); ok && far != 100001 {
			t.Error("Used", far, u, ok)
		}
	}
}

// The document's 'Ways': lives in a map keyed by name, swings from a function that takes a yield.
func TestStructureIsBuiltItsWay(t *testing.T) {
	file, err := parser.ParseFile(token.NewFileSet(), "../impl/l06_struct.go", nil, 0)
	if err != nil {
		t.Fatal(err)
	}
	found := map[string]bool{}
	ast.Inspect(file, func(n ast.Node) bool {
		switch x := n.(type) {
		case *ast.MapType:
			if key, ok := x.Key.(*ast.Ident); ok && key.Name == "string" {
				found["map by name"] = true
			}
		case *ast.FuncLit:
			for _, p := range x.Type.Params.List {
				if _, ok := p.Type.(*ast.FuncType); ok && len(p.Names) == 1 && p.Names[0].Name == "yield" {
					found["yield"] = true
				}
			}
		case *ast.RangeStmt:
			if _, ok := x.X.(*ast.CallExpr); ok {
				found["range over a call"] = true
			}
		}
		return true
	})
	for _, way := range []string{"map by name", "yield", "range over a call"} {
		if !found[way] {
			t.Error("no", way)
		}
	}
}
