package tests

import (
	"go/ast"
	"go/parser"
	"go/token"
	"math"
	"math/big"
	"math/rand"
	"runtime"
	"slices"
	"sync"
	"testing"
	"time"

	"loop.example/g00063/impl"
)

func fix(x, y, far int) impl.Fix { return impl.Fix{X: x, Y: y, Far: far} }

func place(x, y int) impl.Place { return impl.Place{X: x, Y: y} }

func drift(x, y, vx, vy int) impl.Drift { return impl.Drift{X: x, Y: y, VX: vx, VY: vy} }

func push(ax, ay int) impl.Push { return impl.Push{AX: ax, AY: ay} }

func fixIsSo(f impl.Fix) bool {
	return allIn([]int{f.X, f.Y}, -1000, 1000) && allIn([]int{f.Far}, 0, 10000000)
}

func fixesAreSo(fixes []impl.Fix, fewest int) bool {
	return len(fixes) >= fewest && len(fixes) <= 12 && !slices.ContainsFunc(fixes, func(f impl.Fix) bool { return !fixIsSo(f) })
}

func placeIsSo(p impl.Place) bool { return allIn([]int{p.X, p.Y}, -2000, 2000) }

func numbersOfDrift(d impl.Drift) []int { return []int{d.X, d.Y, d.VX, d.VY} }

func driftIsSo(d impl.Drift) bool { return allIn(numbersOfDrift(d), -1000000, 1000000) }

// misfitByWords multiplies the squares out.
func misfitByWords(p impl.Place, f impl.Fix) int {
	if !placeIsSo(p) || !fixIsSo(f) {
		return 0
	}
	return p.X*p.X - 2*p.X*f.X + f.X*f.X + p.Y*p.Y - 2*p.Y*f.Y + f.Y*f.Y - f.Far
}

func sumAt(fixes []impl.Fix, p impl.Place) int {
	sum := 0
	for _, f := range fixes {
		sum += sizeByWords(misfitByWords(p, f))
	}
	return sum
}

// bestPlaces has all places at which the sum is least, in their order.
func bestPlaces(fixes []impl.Fix) ([]impl.Place, int) {
	var best []impl.Place
	least := math.MaxInt
	for x := -60; x <= 60; x++ {
		for y := -60; y <= 60; y++ {
			sum := sumAt(fixes, place(x, y))
			if sum < least {
				best, least = nil, sum
			}
			if sum == least {
				best = append(best, place(x, y))
			}
		}
	}
	return best, least
}

func locateByWords(fixes []impl.Fix, least int) (impl.Place, int, bool) {
	if !fixesAreSo(fixes, 3) {
		return impl.Place{}, 0, false
	}
	best, sum := bestPlaces(fixes)
	if sum > least {
		return impl.Place{}, 0, false
	}
	return best[0], sum, true
}

func leftOut(fixes []impl.Fix, at int) []impl.Fix {
	var others []impl.Fix
	for i, f := range fixes {
		if i != at {
			others = append(others, f)
		}
	}
	return others
}

func leaveOutByWords(fixes []impl.Fix, least int) (int, bool) {
	if !fixesAreSo(fixes, 4) {
		return -2, false
	}
	for at := -1; at < len(fixes); at++ {
		if _, _, ok := locateByWords(leftOut(fixes, at), least); ok {
			return at, true
		}
	}
	return -2, false
}

// reckonedByWords works each number out of all pushes ahead of it: a push counts once
// for the speed, and once for the place at each push from it on.
func reckonedByWords(at, speed int, pushes []int) (int, int) {
	at += len(pushes) * speed
	for i, push := range pushes {
		at += (len(pushes) - i) * push
		speed += push
	}
	return at, speed
}

func inertialByWords(d impl.Drift, pushes []impl.Push) (impl.Drift, bool) {
	var ax, ay []int
	for _, p := range pushes {
		ax, ay = append(ax, p.AX), append(ay, p.AY)
	}
	if !driftIsSo(d) || len(pushes) > 300 || !allIn(ax, -1000, 1000) || !allIn(ay, -1000, 1000) {
		return impl.Drift{}, false
	}
	last := d
	for many := range len(pushes) + 1 {
		last.X, last.VX = reckonedByWords(d.X, d.VX, ax[:many])
		last.Y, last.VY = reckonedByWords(d.Y, d.VY, ay[:many])
		if !driftIsSo(last) {
			return impl.Drift{}, false
		}
	}
	return last, true
}

func blendByWords(d impl.Drift, p impl.Place, part int) (impl.Drift, bool) {
	if !driftIsSo(d) || !placeIsSo(p) || part < 0 || part > 100 {
		return impl.Drift{}, false
	}
	d.X += hundredthTowardNought((p.X - d.X) * part)
	d.Y += hundredthTowardNought((p.Y - d.Y) * part)
	return d, true
}

func besideByWords(a, b, p impl.Place) (int, bool) {
	if !placeIsSo(a) || !placeIsSo(b) || !placeIsSo(p) || a == b {
		return 0, false
	}
	c := int64(b.X-a.X)*int64(p.Y-a.Y) - int64(b.Y-a.Y)*int64(p.X-a.X)
	d := int64(b.X-a.X)*int64(b.X-a.X) + int64(b.Y-a.Y)*int64(b.Y-a.Y)
	q := new(big.Int).Mul(big.NewInt(c), big.NewInt(c))
	q.Div(q, big.NewInt(d))
	if c > 0 {
		q.Neg(q)
	}
	return int(q.Int64()), true
}

// heardAt has the fixes of stations that are heard rightly at a place.
func heardAt(p impl.Place, stations ...impl.Place) []impl.Fix {
	var fixes []impl.Fix
	for _, s := range stations {
		fixes = append(fixes, fix(s.X, s.Y, misfitByWords(p, fix(s.X, s.Y, 0))))
	}
	return fixes
}

// threeAround are not in one line.
var threeAround = []impl.Place{{X: 0, Y: 0}, {X: 10, Y: 0}, {X: 0, Y: 10}}

// twelveAround are the most that there may be, the farthest among them.
var twelveAround = []impl.Place{
	{X: -1000, Y: -1000}, {X: 1000, Y: 1000}, {X: -1000, Y: 1000}, {X: 1000, Y: -1000}, {X: 7, Y: 3}, {X: -90, Y: 41},
	{X: 0, Y: 0}, {X: 500, Y: -2}, {X: -60, Y: -60}, {X: 60, Y: 60}, {X: 1, Y: 999}, {X: 33, Y: -77},
}

func TestLimitOfFixes(t *testing.T) {
	if impl.MaxFixes != 12 {
		t.Error("MaxFixes", impl.MaxFixes)
	}
}

var rightFixes = []struct {
	name string
	fix  impl.Fix
}{
	{"the zero value", impl.Fix{}},
	{"an X of -1000", fix(-1000, 0, 0)},
	{"an X of 1000", fix(1000, 0, 0)},
	{"a Y of -1000", fix(0, -1000, 0)},
	{"a Y of 1000", fix(0, 1000, 0)},
	{"a Far of 10^7", fix(0, 0, 10000000)},
	{"all as great as may be", fix(1000, 1000, 10000000)},
	{"all as little as may be", fix(-1000, -1000, 0)},
}

var wrongFixes = []struct {
	name string
	fix  impl.Fix
}{
	{"an X of -1001", fix(-1001, 0, 0)},
	{"an X of 1001", fix(1001, 0, 0)},
	{"a Y of -1001", fix(0, -1001, 0)},
	{"a Y of 1001", fix(0, 1001, 0)},
	{"a Far of -1", fix(0, 0, -1)},
	{"a Far of 10^7 + 1", fix(0, 0, 10000001)},
	{"a far X", fix(math.MinInt, 0, 0)},
	{"a far Y", fix(0, math.MaxInt, 0)},
	{"a far Far", fix(0, 0, math.MinInt)},
	{"another far Far", fix(0, 0, math.MaxInt)},
}

var rightPlaces = []impl.Place{place(0, 0), place(-2000, 0), place(2000, 0), place(0, -2000), place(0, 2000), place(2000, 2000), place(-2000, -2000), place(2000, -2000)}

var wrongPlaces = []impl.Place{
	place(-2001, 0), place(2001, 0), place(0, -2001), place(0, 2001), place(2001, 2001), place(-2001, -2001),
	place(math.MinInt, 0), place(math.MaxInt, 0), place(0, math.MinInt), place(0, math.MaxInt),
}

func TestMisfitByHand(t *testing.T) {
	cases := []struct {
		name  string
		place impl.Place
		fix   impl.Fix
		want  int
	}{
		{"heard rightly", place(3, 0), fix(10, 0, 49), 0},
		{"heard too far", place(3, 0), fix(10, 0, 50), -1},
		{"heard too near", place(3, 0), fix(10, 0, 48), 1},
		{"along Y", place(0, -2), fix(0, 4, 35), 1},
		{"slanting", place(1, 2), fix(4, 6, 0), 25},
		{"at the station", place(-7, 8), fix(-7, 8, 0), 0},
		{"at the station, heard as far as may be", place(0, 0), fix(0, 0, 10000000), -10000000},
		{"a station at -1000", place(0, 0), fix(-1000, -1000, 0), 2000000},
		{"a station at 1000", place(0, 0), fix(1000, 1000, 0), 2000000},
		{"a place at 2000", place(2000, 2000), fix(-1000, -1000, 0), 18000000},
		{"a place at -2000", place(-2000, -2000), fix(1000, 1000, 10000000), 8000000},
		{"a place at both", place(-2000, 2000), fix(0, 0, 7999999), 1},
	}
	for _, c := range cases {
		if got := impl.Misfit(c.place, c.fix); got != c.want {
			t.Errorf("%s: %d, not %d", c.name, got, c.want)
		}
	}
}

func TestMisfitAtItsEdges(t *testing.T) {
	for _, p := range rightPlaces {
		for _, c := range rightFixes {
			if got, want := impl.Misfit(p, c.fix), misfitByWords(p, c.fix); got != want {
				t.Errorf("%s from %v: %d, not %d", c.name, p, got, want)
			}
		}
		for _, c := range wrongFixes {
			if got := impl.Misfit(p, c.fix); got != 0 {
				t.Errorf("%s from %v: %d", c.name, p, got)
			}
		}
	}
	for _, p := range wrongPlaces {
		for _, c := range append(slices.Clone(rightFixes), wrongFixes...) {
			if got := impl.Misfit(p, c.fix); got != 0 {
				t.Errorf("%s from %v: %d", c.name, p, got)
			}
		}
	}
}

func TestMisfitIsAsTheWordsSay(t *testing.T) {
	r := rand.New(rand.NewSource(110))
	for range 20000 {
		p := place(r.Intn(4011)-2005, r.Intn(4011)-2005)
		f := fix(r.Intn(2011)-1005, r.Intn(2011)-1005, r.Intn(10000100)-50)
		if got, want := impl.Misfit(p, f), misfitByWords(p, f); got != want {
			t.Fatalf("%+v from %+v: %d, not %d", f, p, got, want)
		}
	}
}

func wantsPlace(t *testing.T, name string, fixes []impl.Fix, least int, at impl.Place, sum int) {
	t.Helper()
	if p, s, ok := impl.Locate(fixes, least); p != at || s != sum || !ok {
		t.Errorf("Locate: %s: %v %d %v, not %v %d", name, p, s, ok, at, sum)
	}
}

func refusesPlace(t *testing.T, name string, fixes []impl.Fix, least int) {
	t.Helper()
	if p, s, ok := impl.Locate(fixes, least); p != (impl.Place{}) || s != 0 || ok {
		t.Errorf("Locate: %s: %v %d %v", name, p, s, ok)
	}
}

func TestLocateByHand(t *testing.T) {
	sameStation := func(far int) []impl.Fix { return slices.Repeat([]impl.Fix{fix(0, 0, far)}, 3) }
	cases := []struct {
		name  string
		fixes []impl.Fix
		at    impl.Place
		sum   int
	}{
		{"three that agree", []impl.Fix{fix(10, 0, 49), fix(0, 4, 25), fix(3, 5, 25)}, place(3, 0), 0},
		{"at the station itself", heardAt(place(10, 0), threeAround...), place(10, 0), 0},
		{"as many as may be", heardAt(place(-17, 44), twelveAround...), place(-17, 44), 0},
		{"in one line along X, the least Y", heardAt(place(3, 7), place(0, 0), place(10, 0), place(-5, 0)), place(3, -7), 0},
		{"in one line along Y, the least X", heardAt(place(3, 7), place(0, 0), place(0, 10), place(0, -5)), place(-3, 7), 0},
		{"in a slanting line, the least X", heardAt(place(7, 3), place(0, 0), place(5, 5), place(-9, -9)), place(3, 7), 0},
		{"on the line itself, one place alone", heardAt(place(3, 0), place(0, 0), place(10, 0), place(-5, 0)), place(3, 0), 0},
		{"one station, twelve places, the least X", sameStation(25), place(-5, 0), 0},
		{"one station, the least X, then the least Y", sameStation(50), place(-7, -1), 0},
		{"none fits, places on both sides of the ring", sameStation(3), place(-2, 0), 3},
		{"none fits, the sum is one of sizes", []impl.Fix{fix(0, 0, 1), fix(0, 0, 1), fix(0, 0, 5)}, place(-1, 0), 4},
		{"heard too far for any place", slices.Repeat([]impl.Fix{fix(0, 0, 10000000)}, 12), place(-60, -60), 12 * 9992800},
		{"heard from beyond the columns", heardAt(place(61, 0), place(200, 0), place(200, 0), place(200, 0)), place(60, 0), 3 * (140*140 - 139*139)},
		{"heard from beyond the columns, and as well from another place", slices.Repeat([]impl.Fix{fix(0, 0, 61*61)}, 3), place(-60, -11), 0},
		{"a station far away at the corner", slices.Repeat([]impl.Fix{fix(1000, 1000, 0)}, 3), place(60, 60), 3 * 2 * 940 * 940},
		{"a station far away at the other corner", slices.Repeat([]impl.Fix{fix(-1000, -1000, 0)}, 3), place(-60, -60), 3 * 2 * 940 * 940},
	}
	for _, c := range cases {
		wantsPlace(t, c.name, c.fixes, c.sum, c.at, c.sum)
		wantsPlace(t, c.name+", 1 above", c.fixes, c.sum+1, c.at, c.sum)
		wantsPlace(t, c.name+", any sum", c.fixes, math.MaxInt, c.at, c.sum)
		refusesPlace(t, c.name+", 1 below", c.fixes, c.sum-1)
		refusesPlace(t, c.name+", no sum", c.fixes, -1)
		refusesPlace(t, c.name+", far below", c.fixes, math.MinInt)
	}
}

// Promise 11: a place heard rightly is found, at the corners and the middles of the sides too.
func TestLocateAtTheCorners(t *testing.T) {
	for _, x := range []int{-60, -59, 0, 59, 60} {
		for _, y := range []int{-60, -59, 0, 59, 60} {
			wantsPlace(t, "three", heardAt(place(x, y), threeAround...), 0, place(x, y), 0)
			wantsPlace(t, "twelve", heardAt(place(x, y), twelveAround...), 0, place(x, y), 0)
		}
	}
	for _, p := range []impl.Place{place(61, 0), place(-61, 5), place(7, 61), place(0, -61), place(61, 61)} {
		refusesPlace(t, "just beyond", heardAt(p, threeAround...), 0)
		refusesPlace(t, "just beyond", heardAt(p, twelveAround...), 0)
	}
}

func TestLocateAtItsEdges(t *testing.T) {
	for _, many := range []int{0, 1, 2, 13, 14, 100} {
		refusesPlace(t, "another number of fixes", slices.Repeat([]impl.Fix{fix(0, 0, 25)}, many), math.MaxInt)
	}
	refusesPlace(t, "nil", nil, math.MaxInt)
	for many := 3; many <= 12; many++ {
		fixes := slices.Repeat([]impl.Fix{fix(0, 0, 25)}, many)
		wantsPlace(t, "a right number of fixes", fixes, 0, place(-5, 0), 0)
		for _, c := range rightFixes {
			for at := range fixes {
				mixed := slices.Clone(fixes)
				mixed[at] = c.fix
				want, sum, _ := locateByWords(mixed, math.MaxInt)
				wantsPlace(t, c.name, mixed, sum, want, sum)
				if many > 3 {
					break
				}
			}
		}
		for _, c := range wrongFixes {
			for at := range fixes {
				mixed := slices.Clone(fixes)
				mixed[at] = c.fix
				refusesPlace(t, c.name, mixed, math.MaxInt)
			}
		}
	}
}

// spread tells how far from each other the stations of a list of fixes lie.
var spread = []int{0, 1, 3, 12, 60, 200, 1000}

// stationsOf are often in one line, so that several places are as good.
func stationsOf(r *rand.Rand, many int) []impl.Place {
	wide := spread[r.Intn(len(spread))]
	xs, ys := listOf(r, many, -wide, wide), listOf(r, many, -wide, wide)
	switch r.Intn(5) {
	case 0:
		xs = slices.Repeat(xs[:1], many)
	case 1:
		ys = slices.Repeat(ys[:1], many)
	case 2:
		ys = xs
	}
	var stations []impl.Place
	for i := range many {
		stations = append(stations, place(xs[i], ys[i]))
	}
	return stations
}

func fixesFrom(r *rand.Rand, many, far int) []impl.Fix {
	fixes := heardAt(place(r.Intn(141)-70, r.Intn(141)-70), stationsOf(r, many)...)
	for i := range fixes {
		if r.Intn(3) == 0 {
			fixes[i].Far = max(fixes[i].Far+r.Intn(2*far+1)-far, 0)
		}
	}
	return fixes
}

func spoilFix(r *rand.Rand, f *impl.Fix) {
	switch r.Intn(3) {
	case 0:
		f.X = 1001 - 2002*r.Intn(2)
	case 1:
		f.Y = 1001 - 2002*r.Intn(2)
	case 2:
		f.Far = -1 + 10000002*r.Intn(2)
	}
}

func TestLocateIsAsTheWordsSay(t *testing.T) {
	r := rand.New(rand.NewSource(111))
	alike, missed, refused := 0, 0, 0
	for range 500 {
		fixes := fixesFrom(r, 3+r.Intn(10), spread[r.Intn(len(spread))])
		best, sum := bestPlaces(fixes)
		if len(best) > 1 {
			alike++
		}
		if sum > 0 {
			missed++
		}
		least := sum + r.Intn(4) - 1
		if r.Intn(20) == 0 {
			spoilFix(r, &fixes[r.Intn(len(fixes))])
		}
		p, s, ok := impl.Locate(fixes, least)
		if p2, s2, ok2 := locateByWords(fixes, least); p != p2 || s != s2 || ok != ok2 {
			t.Fatalf("%v with %d: %v %d %v, not %v %d %v", fixes, least, p, s, ok, p2, s2, ok2)
		}
		if !ok {
			refused++
		}
	}
	if alike < 50 || missed < 200 || refused < 50 {
		t.Error("too few of a kind were tried:", alike, missed, refused)
	}
}

// Promise 11: a place heard rightly is found, where three stations are not in one line.
func TestAPlaceHeardRightlyIsFound(t *testing.T) {
	r := rand.New(rand.NewSource(112))
	found := 0
	for range 1500 {
		stations := stationsOf(r, 3+r.Intn(10))
		p := place(r.Intn(121)-60, r.Intn(121)-60)
		fixes := heardAt(p, stations...)
		at, sum, ok := impl.Locate(fixes, 0)
		if sum != 0 || !ok || sumAt(fixes, at) != 0 {
			t.Fatalf("%v of %v: %v %d %v", p, fixes, at, sum, ok)
		}
		if at.X > p.X || at.X == p.X && at.Y > p.Y {
			t.Fatalf("%v of %v: %v is not the least", p, fixes, at)
		}
		if inOneLine(stations) {
			continue
		}
		if at != p {
			t.Fatalf("%v of %v: %v", p, fixes, at)
		}
		found++
	}
	if found < 300 {
		t.Error("too few were tried:", found)
	}
}

func inOneLine(list []impl.Place) bool {
	for _, a := range list {
		for _, b := range list {
			if (a.X-list[0].X)*(b.Y-list[0].Y) != (a.Y-list[0].Y)*(b.X-list[0].X) {
				return false
			}
		}
	}
	return true
}

func TestTheOrderOfFixesDoesNotMatter(t *testing.T) {
	r := rand.New(rand.NewSource(113))
	for range 200 {
		fixes := fixesFrom(r, 3+r.Intn(10), 20)
		p, sum, _ := impl.Locate(fixes, math.MaxInt)
		turned := slices.Clone(fixes)
		r.Shuffle(len(turned), func(i, j int) { turned[i], turned[j] = turned[j], turned[i] })
		wantsPlace(t, "turned about", turned, sum, p, sum)
	}
}

func leavesOut(t *testing.T, name string, fixes []impl.Fix, least, want int) {
	t.Helper()
	if at, ok := impl.LeaveOut(fixes, least); at != want || ok != (want != -2) {
		t.Errorf("LeaveOut: %s: %d %v, not %d", name, at, ok, want)
	}
}

// withLie has a fix among the others that is heard by so much too far.
func withLie(fixes []impl.Fix, at, by int) []impl.Fix {
	fixes = slices.Clone(fixes)
	fixes[at].Far += by
	return fixes
}

func TestLeaveOutByHand(t *testing.T) {
	// Two stations are heard at two places, and of the other two each is heard at one.
	first, second := heardAt(place(3, 4), place(0, 0), place(10, 0)), heardAt(place(3, -4), place(0, 0), place(10, 0))
	if !slices.Equal(first, second) {
		t.Fatal("not two places", first, second)
	}
	above, below := heardAt(place(3, 4), place(0, 10))[0], heardAt(place(3, -4), place(0, 10))[0]
	four := heardAt(place(10, -20), place(0, 0), place(30, 1), place(-7, 40), place(9, 9))
	five := append(slices.Clone(four), heardAt(place(10, -20), place(-100, 3))...)
	twelve := heardAt(place(-17, 44), twelveAround...)
	same := slices.Repeat([]impl.Fix{fix(0, 0, 25)}, 4)
	cases := []struct {
		name        string
		fixes       []impl.Fix
		least, want int
	}{
		{"four, all true", four, 0, -1},
		{"twelve, all true", twelve, 0, -1},
		{"all as good as least", withLie(same, 3, 2), 2, -1},
		{"all but one, with 1 less", withLie(same, 3, 2), 1, 3},
		{"all true, but with a least below 0", twelve, -1, -2},
		{"all true, but with a least far below 0", four, math.MinInt, -2},
		{"any sum will do", withLie(twelve, 5, 9999), math.MaxInt, -1},
		{"five, the first one lies", withLie(five, 0, 9), 0, 0},
		{"five, the second one lies", withLie(five, 1, 8), 0, 1},
		{"five, the middle one lies", withLie(five, 2, 7), 0, 2},
		{"five, the last one lies", withLie(five, 4, -11), 0, 4},
		{"twelve, the first one lies", withLie(twelve, 0, 1), 0, 0},
		{"twelve, one in the middle lies", withLie(twelve, 6, -1), 0, 6},
		{"twelve, the last one lies", withLie(twelve, 11, 1), 0, 11},
		{"four, the last one lies", withLie(same, 3, 1), 0, 3},
		{"the second and the fourth could be", []impl.Fix{first[0], above, first[1], below}, 0, 1},
		{"the same ones, the other way about", []impl.Fix{first[0], below, first[1], above}, 0, 1},
		{"the third and the fourth could be", []impl.Fix{first[0], first[1], above, below}, 0, 2},
		{"the first and the second could be", []impl.Fix{above, below, first[0], first[1]}, 0, 0},
		{"each of them could be", []impl.Fix{fix(0, 0, 24), fix(0, 0, 25), fix(0, 0, 26), fix(0, 0, 27)}, 3, 0},
		{"two lie", withLie(withLie(twelve, 2, 1), 9, 1), 0, -2},
		{"two lie, and one of them little enough", withLie(withLie(twelve, 2, 1), 9, 4), 1, 9},
		{"two lie, and both of them little enough", withLie(withLie(twelve, 2, 1), 9, 1), 2, -1},
		{"no two alike", []impl.Fix{fix(0, 0, 0), fix(0, 0, 100), fix(0, 0, 400), fix(0, 0, 900)}, 0, -2},
		{"three, all true", heardAt(place(5, 5), threeAround...), 0, -2},
		{"three, any sum", heardAt(place(5, 5), threeAround...), math.MaxInt, -2},
		{"thirteen, all true", slices.Repeat([]impl.Fix{fix(0, 0, 25)}, 13), 0, -2},
		{"none", nil, math.MaxInt, -2},
	}
	for _, c := range cases {
		leavesOut(t, c.name, c.fixes, c.least, c.want)
		if at, ok := leaveOutByWords(c.fixes, c.least); at != c.want || ok != (c.want != -2) {
			t.Errorf("the words say of %s: %d %v", c.name, at, ok)
		}
	}
}

func TestLeaveOutAtItsEdges(t *testing.T) {
	for many := range 15 {
		want := -1
		if many < 4 || many > 12 {
			want = -2
		}
		leavesOut(t, "a number of fixes", slices.Repeat([]impl.Fix{fix(0, 0, 25)}, many), 0, want)
	}
	for _, many := range []int{4, 5, 12} {
		fixes := slices.Repeat([]impl.Fix{fix(0, 0, 25)}, many)
		for _, c := range wrongFixes {
			for at := range fixes {
				mixed := slices.Clone(fixes)
				mixed[at] = c.fix
				leavesOut(t, c.name, mixed, 0, -2)
				leavesOut(t, c.name, mixed, math.MaxInt, -2)
			}
		}
	}
}

func TestLeaveOutIsAsTheWordsSay(t *testing.T) {
	r := rand.New(rand.NewSource(114))
	answers := map[int]int{}
	for range 250 {
		fixes := fixesFrom(r, 4+r.Intn(6), 0)
		for range r.Intn(3) {
			at := r.Intn(len(fixes))
			fixes[at].Far = max(0, fixes[at].Far+r.Intn(41)-20)
		}
		least := r.Intn(25) - 1
		if r.Intn(20) == 0 {
			spoilFix(r, &fixes[r.Intn(len(fixes))])
		}
		at, ok := impl.LeaveOut(fixes, least)
		if at2, ok2 := leaveOutByWords(fixes, least); at != at2 || ok != ok2 {
			t.Fatalf("%v with %d: %d %v, not %d %v", fixes, least, at, ok, at2, ok2)
		}
		answers[min(at, 0)]++
	}
	if answers[-2] < 20 || answers[-1] < 20 || answers[0] < 20 {
		t.Error("too few of a kind were tried:", answers)
	}
}

// What follows in the document: with one fix that lies it is left out.
func TestOneThatLiesIsLeftOut(t *testing.T) {
	r := rand.New(rand.NewSource(115))
	for range 150 {
		stations := slices.Clone(twelveAround[:5+r.Intn(8)])
		r.Shuffle(len(stations), func(i, j int) { stations[i], stations[j] = stations[j], stations[i] })
		p := place(r.Intn(121)-60, r.Intn(121)-60)
		fixes := heardAt(p, stations...)
		at := r.Intn(len(fixes))
		lies := withLie(fixes, at, 1+r.Intn(300))
		leavesOut(t, "all true", fixes, 0, -1)
		leavesOut(t, "one lies", lies, 0, at)
		wantsPlace(t, "without it", leftOut(lies, at), 0, p, 0)
	}
}

var wrongDrifts = []struct {
	name  string
	drift impl.Drift
}{
	{"an X of 10^6 + 1", drift(1000001, 0, 0, 0)},
	{"an X of -10^6 - 1", drift(-1000001, 0, 0, 0)},
	{"a Y of 10^6 + 1", drift(0, 1000001, 0, 0)},
	{"a Y of -10^6 - 1", drift(0, -1000001, 0, 0)},
	{"a VX of 10^6 + 1", drift(0, 0, 1000001, 0)},
	{"a VX of -10^6 - 1", drift(0, 0, -1000001, 0)},
	{"a VY of 10^6 + 1", drift(0, 0, 0, 1000001)},
	{"a VY of -10^6 - 1", drift(0, 0, 0, -1000001)},
	{"an X that would come back", drift(1000001, 0, -5, 0)},
	{"a VY that would come back", drift(0, 0, 0, -1000001)},
	{"a far X", drift(math.MinInt, 0, 0, 0)},
	{"a far Y", drift(0, math.MaxInt, 0, 0)},
	{"a far VX", drift(0, 0, math.MaxInt, 0)},
	{"a far VY", drift(0, 0, 0, math.MinInt)},
}

var rightDrifts = []impl.Drift{
	{}, drift(1000000, 0, 0, 0), drift(-1000000, 0, 0, 0), drift(0, 1000000, 0, 0), drift(0, -1000000, 0, 0),
	drift(0, 0, 1000000, 0), drift(0, 0, -1000000, 0), drift(0, 0, 0, 1000000), drift(0, 0, 0, -1000000),
	drift(1000000, 1000000, 1000000, 1000000), drift(-1000000, -1000000, -1000000, -1000000),
}

func reckons11(t *testing.T, name string, d impl.Drift, pushes []impl.Push, want impl.Drift) {
	t.Helper()
	if got, ok := impl.Inertial(d, pushes); got != want || !ok {
		t.Errorf("Inertial: %s: %+v %v, not %+v", name, got, ok, want)
	}
}

func refusesPushes(t *testing.T, name string, d impl.Drift, pushes []impl.Push) {
	t.Helper()
	if got, ok := impl.Inertial(d, pushes); got != (impl.Drift{}) || ok {
		t.Errorf("Inertial: %s: %+v %v", name, got, ok)
	}
}

func TestInertialByHand(t *testing.T) {
	none := make([]impl.Push, 300)
	cases := []struct {
		name   string
		drift  impl.Drift
		pushes []impl.Push
		want   impl.Drift
	}{
		{"at rest", impl.Drift{}, none, impl.Drift{}},
		{"the new speed counts", drift(1, 0, 2, 0), []impl.Push{push(3, 0), push(0, -1)}, drift(11, -1, 5, -1)},
		{"on without a push", drift(0, 0, 7, -3), none[:4], drift(28, -12, 7, -3)},
		{"the most pushes", impl.Drift{}, slices.Repeat([]impl.Push{push(1, -1)}, 300), drift(45150, -45150, 300, -300)},
		{"the greatest push", impl.Drift{}, []impl.Push{push(1000, -1000)}, drift(1000, -1000, 1000, -1000)},
		{"an X just to 10^6", drift(999995, 0, 0, 0), []impl.Push{push(5, 0)}, drift(1000000, 0, 5, 0)},
		{"an X just to -10^6", drift(-999995, 0, 0, 0), []impl.Push{push(-5, 0)}, drift(-1000000, 0, -5, 0)},
		{"a Y just to 10^6", drift(0, 999995, 0, 0), []impl.Push{push(0, 5)}, drift(0, 1000000, 0, 5)},
		{"a Y just to -10^6", drift(0, -999995, 0, 0), []impl.Push{push(0, -5)}, drift(0, -1000000, 0, -5)},
		{"a VX just to 10^6", drift(0, 0, 999999, 0), []impl.Push{push(1, 0)}, drift(1000000, 0, 1000000, 0)},
		{"a VX just to -10^6", drift(0, 0, -999999, 0), []impl.Push{push(-1, 0)}, drift(-1000000, 0, -1000000, 0)},
		{"a VY just to 10^6", drift(0, 0, 0, 999999), []impl.Push{push(0, 1)}, drift(0, 1000000, 0, 1000000)},
		{"a VY just to -10^6", drift(0, 0, 0, -999999), []impl.Push{push(0, -1)}, drift(0, -1000000, 0, -1000000)},
		{"from one end to the other one", drift(-1000000, 1000000, 1000000, -1000000), none[:2], drift(1000000, -1000000, 1000000, -1000000)},
		{"just there in the middle, and back", drift(999998, 0, 0, 0), []impl.Push{push(2, 0), push(-4, 0), push(2, 0)}, drift(999998, 0, 0, 0)},
		{"forth and back", impl.Drift{}, []impl.Push{push(9, -4), push(-9, 4), push(-9, 4), push(9, -4)}, impl.Drift{}},
		{"forth, and it stands there", drift(3, 3, 0, 0), []impl.Push{push(9, -4), push(-9, 4), {}, {}}, drift(12, -1, 0, 0)},
	}
	for _, c := range cases {
		reckons11(t, c.name, c.drift, c.pushes, c.want)
	}
	for _, d := range rightDrifts {
		reckons11(t, "no push", d, nil, d)
		reckons11(t, "no push", d, []impl.Push{}, d)
	}
}

func TestInertialRefusesWhatLeaves(t *testing.T) {
	cases := []struct {
		name   string
		drift  impl.Drift
		pushes []impl.Push
	}{
		{"an X of 10^6 + 1", drift(999995, 0, 0, 0), []impl.Push{push(6, 0)}},
		{"an X of -10^6 - 1", drift(-999995, 0, 0, 0), []impl.Push{push(-6, 0)}},
		{"a Y of 10^6 + 1", drift(0, 999995, 0, 0), []impl.Push{push(0, 6)}},
		{"a Y of -10^6 - 1", drift(0, -999995, 0, 0), []impl.Push{push(0, -6)}},
		{"a VX of 10^6 + 1", drift(-5, 0, 1000000, 0), []impl.Push{push(1, 0)}},
		{"a VX of -10^6 - 1", drift(5, 0, -1000000, 0), []impl.Push{push(-1, 0)}},
		{"a VY of 10^6 + 1", drift(0, -5, 0, 1000000), []impl.Push{push(0, 1)}},
		{"a VY of -10^6 - 1", drift(0, 5, 0, -1000000), []impl.Push{push(0, -1)}},
		{"an X that comes back", drift(999999, 0, 0, 0), []impl.Push{push(2, 0), push(-4, 0), push(2, 0)}},
		{"an X below that comes back", drift(-999999, 0, 0, 0), []impl.Push{push(-2, 0), push(4, 0), push(-2, 0)}},
		{"a Y that comes back", drift(0, 999999, 0, 0), []impl.Push{{}, push(0, 2), push(0, -4), push(0, 2)}},
		{"a Y below that comes back", drift(0, -999999, 0, 0), []impl.Push{{}, push(0, -2), push(0, 4), push(0, -2)}},
		{"a VX that comes back", drift(-1000000, 0, 1000000, 0), []impl.Push{push(1, 0), push(-1, 0)}},
		{"a VY that comes back", drift(0, 1000000, 0, -1000000), []impl.Push{push(0, -1), push(0, 1)}},
		{"by the last of the most pushes", drift(1000000-299*7, 0, 7, 0), make([]impl.Push, 300)},
	}
	for _, c := range cases {
		refusesPushes(t, c.name, c.drift, c.pushes)
	}
}

func TestInertialRefusesWhatIsNotSo(t *testing.T) {
	for _, c := range wrongDrifts {
		for _, pushes := range [][]impl.Push{nil, {}, {push(0, 0)}, {push(1, 1)}, {push(-1, -1)}, {push(1000, 1000), push(1, 1)}} {
			refusesPushes(t, c.name, c.drift, pushes)
		}
	}
	for _, wrong := range []impl.Push{push(1001, 0), push(-1001, 0), push(0, 1001), push(0, -1001), push(math.MinInt, 0), push(0, math.MaxInt), push(math.MaxInt, math.MinInt)} {
		for _, many := range []int{1, 2, 3, 300} {
			for _, at := range []int{0, many / 2, many - 1} {
				pushes := make([]impl.Push, many)
				pushes[at] = wrong
				refusesPushes(t, "a wrong push", impl.Drift{}, pushes)
			}
		}
	}
	for _, many := range []int{301, 302, 1000} {
		refusesPushes(t, "too many", impl.Drift{}, make([]impl.Push, many))
	}
	if _, ok := impl.Inertial(impl.Drift{}, make([]impl.Push, 300)); !ok {
		t.Error("300 pushes are refused")
	}
}

func pushesFrom(r *rand.Rand, many, far int) []impl.Push {
	ax, ay := listOf(r, many, -far, far), listOf(r, many, -far, far)
	pushes := make([]impl.Push, many)
	for i := range pushes {
		pushes[i] = push(ax[i], ay[i])
	}
	return pushes
}

func driftFrom(r *rand.Rand, far, fast int) impl.Drift {
	at, speed := listOf(r, 2, -far, far), listOf(r, 2, -fast, fast)
	return drift(at[0], at[1], speed[0], speed[1])
}

func TestInertialIsAsTheWordsSay(t *testing.T) {
	r := rand.New(rand.NewSource(116))
	answered, refused := 0, 0
	for range 3000 {
		d := driftFrom(r, []int{10, 990000, 1000002}[r.Intn(3)], []int{0, 10, 2000, 1000002}[r.Intn(4)])
		pushes := pushesFrom(r, r.Intn(60), []int{1, 30, 1000, 1001}[r.Intn(4)])
		if r.Intn(20) == 0 {
			pushes = pushesFrom(r, 298+r.Intn(5), 5)
		}
		got, ok := impl.Inertial(d, pushes)
		if want, ok2 := inertialByWords(d, pushes); got != want || ok != ok2 {
			t.Fatalf("%+v by %v: %+v %v, not %+v %v", d, pushes, got, ok, want, ok2)
		}
		if !ok {
			refused++
			continue
		}
		answered++
		cut := len(pushes) / 2
		half, _ := impl.Inertial(d, pushes[:cut])
		reckons11(t, "on from the middle", half, pushes[cut:], got)
	}
	if answered < 500 || refused < 500 {
		t.Error("too few of a kind were tried:", answered, refused)
	}
}

// Promise 11: what is pushed forth and back stands, where the pushes brought it, however long.
func TestWhatIsPushedForthAndBackStands(t *testing.T) {
	r := rand.New(rand.NewSource(117))
	for range 500 {
		d := driftFrom(r, 100000, 0)
		forth := pushesFrom(r, 1+r.Intn(40), 100)
		back := turnedPushes(forth)
		r.Shuffle(len(back), func(i, j int) { back[i], back[j] = back[j], back[i] })
		stood, ok := impl.Inertial(d, slices.Concat(forth, back))
		if !ok || stood.VX != 0 || stood.VY != 0 {
			t.Fatalf("%+v by %v and %v: %+v %v", d, forth, back, stood, ok)
		}
		reckons11(t, "stands", stood, make([]impl.Push, 1+r.Intn(300)), stood)
		// The same once more, the other way about, brings it back to where it was.
		reckons11(t, "and back", stood, slices.Concat(turnedPushes(forth), turnedPushes(back)), d)
	}
}

func turnedPushes(pushes []impl.Push) []impl.Push {
	var turned []impl.Push
	for _, p := range pushes {
		turned = append(turned, push(-p.AX, -p.AY))
	}
	return turned
}

func blends(t *testing.T, name string, d impl.Drift, p impl.Place, part int, want impl.Drift) {
	t.Helper()
	if got, ok := impl.Blend(d, p, part); got != want || !ok {
		t.Errorf("Blend: %s: %+v %v, not %+v", name, got, ok, want)
	}
}

func refusesBlend(t *testing.T, name string, d impl.Drift, p impl.Place, part int) {
	t.Helper()
	if got, ok := impl.Blend(d, p, part); got != (impl.Drift{}) || ok {
		t.Errorf("Blend: %s: %+v %v", name, got, ok)
	}
}

func TestBlendByHand(t *testing.T) {
	cases := []struct {
		name  string
		drift impl.Drift
		place impl.Place
		part  int
		want  impl.Drift
	}{
		{"toward 0 on both sides", drift(10, 0, 0, 0), place(5, 1), 50, drift(8, 0, 0, 0)},
		{"speeds stay", drift(0, 0, 1000000, -1000000), place(10, 20), 50, drift(5, 10, 1000000, -1000000)},
		{"a part of 0", drift(7, -7, 3, 4), place(2000, -2000), 0, drift(7, -7, 3, 4)},
		{"a part of 100", drift(7, -7, 3, 4), place(2000, -2000), 100, drift(2000, -2000, 3, 4)},
		{"a part of 100 from far away", drift(1000000, -1000000, 0, 0), place(-2000, 2000), 100, drift(-2000, 2000, 0, 0)},
		{"a part of 1", drift(0, 0, 0, 0), place(200, -200), 1, drift(2, -2, 0, 0)},
		{"a part of 1, less than a whole", drift(0, 0, 0, 0), place(99, -99), 1, drift(0, 0, 0, 0)},
		{"a part of 1, just a whole", drift(0, 0, 0, 0), place(100, -100), 1, drift(1, -1, 0, 0)},
		{"a part of 1, nearly two", drift(0, 0, 0, 0), place(199, -199), 1, drift(1, -1, 0, 0)},
		{"a part of 1 from far away", drift(1000000, -1000000, 0, 0), place(2000, 2000), 1, drift(990020, -989980, 0, 0)},
		{"a part of 50, a half above", drift(-3, 3, 0, 0), place(0, 0), 50, drift(-2, 2, 0, 0)},
		{"a part of 50, halves from below 0", drift(-10, -10, 0, 0), place(-5, -15), 50, drift(-8, -12, 0, 0)},
		{"a part of 99", drift(0, 0, 0, 0), place(1, -1), 99, drift(0, 0, 0, 0)},
		{"a place at both ends", drift(0, 0, 1, 2), place(-2000, 2000), 50, drift(-1000, 1000, 1, 2)},
		{"there already", drift(12, 13, 5, 6), place(12, 13), 77, drift(12, 13, 5, 6)},
		{"X alone", drift(12, 13, 5, 6), place(22, 13), 50, drift(17, 13, 5, 6)},
	}
	for _, c := range cases {
		blends(t, c.name, c.drift, c.place, c.part, c.want)
	}
}

func TestBlendAtItsEdges(t *testing.T) {
	for _, d := range rightDrifts {
		for _, p := range rightPlaces {
			for _, part := range []int{0, 1, 50, 99, 100} {
				want, _ := blendByWords(d, p, part)
				blends(t, "at an edge", d, p, part, want)
			}
			for _, part := range []int{-1, 101, -100, 1000, math.MinInt, math.MaxInt} {
				refusesBlend(t, "a wrong part", d, p, part)
			}
		}
		for _, p := range wrongPlaces {
			for _, part := range []int{0, 1, 100, -1} {
				refusesBlend(t, "a wrong place", d, p, part)
			}
		}
	}
	for _, c := range wrongDrifts {
		for _, p := range append(slices.Clone(rightPlaces), wrongPlaces...) {
			for _, part := range []int{0, 50, 100, 101} {
				refusesBlend(t, c.name, c.drift, p, part)
			}
		}
	}
}

func TestBlendIsAsTheWordsSay(t *testing.T) {
	r := rand.New(rand.NewSource(118))
	for range 20000 {
		d := driftFrom(r, []int{30, 3000, 1000003}[r.Intn(3)], 1000003)
		p := place(r.Intn(4011)-2005, r.Intn(4011)-2005)
		part := r.Intn(104) - 2
		got, ok := impl.Blend(d, p, part)
		if want, ok2 := blendByWords(d, p, part); got != want || ok != ok2 {
			t.Fatalf("%+v and %v by %d: %+v %v, not %+v %v", d, p, part, got, ok, want, ok2)
		}
		if !ok {
			continue
		}
		if got.X < min(d.X, p.X) || got.X > max(d.X, p.X) || got.Y < min(d.Y, p.Y) || got.Y > max(d.Y, p.Y) {
			t.Fatalf("%+v and %v by %d: %+v is not between", d, p, part, got)
		}
	}
}

func liesBeside(t *testing.T, name string, a, b, p impl.Place, want int) {
	t.Helper()
	if got, ok := impl.Beside(a, b, p); got != want || !ok {
		t.Errorf("Beside: %s: %d %v, not %d", name, got, ok, want)
	}
}

func refusesBeside(t *testing.T, name string, a, b, p impl.Place) {
	t.Helper()
	if got, ok := impl.Beside(a, b, p); got != 0 || ok {
		t.Errorf("Beside: %s: %d %v", name, got, ok)
	}
}

func TestBesideByHand(t *testing.T) {
	cases := []struct {
		name    string
		a, b, p impl.Place
		want    int
	}{
		{"on the left", place(0, 0), place(0, 9), place(-4, 2), -16},
		{"on the right", place(0, 0), place(0, 9), place(4, 2), 16},
		{"on the line", place(0, 0), place(0, 9), place(0, 2), 0},
		{"on the line, behind b", place(0, 0), place(3, 3), place(70, 70), 0},
		{"on the line, ahead of a", place(0, 0), place(3, 3), place(-8, -8), 0},
		{"at a", place(5, 6), place(7, 8), place(5, 6), 0},
		{"at b", place(5, 6), place(7, 8), place(7, 8), 0},
		{"the other way about", place(0, 9), place(0, 0), place(-4, 2), 16},
		{"to the east, on the left", place(0, 0), place(7, 0), place(3, 5), -25},
		{"to the east, on the right", place(0, 0), place(7, 0), place(3, -5), 25},
		{"a half is down on the right", place(0, 0), place(1, 1), place(3, 0), 4},
		{"a half is down on the left", place(0, 0), place(1, 1), place(0, 3), -4},
		{"less than a whole on the right", place(0, 0), place(1, 1), place(1, 0), 0},
		{"less than a whole on the left", place(0, 0), place(1, 1), place(0, 1), 0},
		{"nearly a whole more on the right", place(0, 0), place(2, 1), place(1, -1), 1},
		{"nearly a whole more on the left", place(0, 0), place(2, 1), place(-1, 1), -1},
		{"a and b beside each other, right", place(0, 0), place(0, 1), place(2000, -2000), 4000000},
		{"a and b beside each other, left", place(0, 0), place(0, 1), place(-2000, 2000), -4000000},
		{"a and b beside each other, slanting", place(10, 10), place(11, 9), place(10, 11), 0},
		{"numbers at both ends, right", place(-2000, -2000), place(2000, 2000), place(2000, -2000), 8000000},
		{"numbers at both ends, left", place(-2000, -2000), place(2000, 2000), place(-2000, 2000), -8000000},
		{"as far as may be, right", place(-2000, -2000), place(-2000, -1999), place(2000, 2000), 16000000},
		{"as far as may be, left", place(2000, -2000), place(2000, -1999), place(-2000, 2000), -16000000},
		{"slanting, and as far as may be", place(-2000, 2000), place(-1999, 1999), place(2000, 2000), -8000000},
	}
	for _, c := range cases {
		liesBeside(t, c.name, c.a, c.b, c.p, c.want)
	}
}

func TestBesideAtItsEdges(t *testing.T) {
	for _, a := range rightPlaces {
		for _, p := range rightPlaces {
			refusesBeside(t, "a and b are one", a, a, p)
			for _, b := range rightPlaces {
				if a == b {
					continue
				}
				want, _ := besideByWords(a, b, p)
				liesBeside(t, "at an edge", a, b, p, want)
			}
			for _, wrong := range wrongPlaces {
				refusesBeside(t, "a wrong a", wrong, a, p)
				refusesBeside(t, "a wrong b", a, wrong, p)
				refusesBeside(t, "a wrong a and b", wrong, wrong, p)
			}
		}
		for _, wrong := range wrongPlaces {
			refusesBeside(t, "a wrong p", a, place(3, 4), wrong)
			refusesBeside(t, "a wrong p, and a and b are one", a, a, wrong)
		}
	}
}

func TestBesideIsAsTheWordsSay(t *testing.T) {
	r := rand.New(rand.NewSource(119))
	sides := map[int]int{}
	for range 30000 {
		far := []int{1, 3, 30, 2003}[r.Intn(4)]
		n := listOf(r, 6, -far, far)
		a, b, p := place(n[0], n[1]), place(n[2], n[3]), place(n[4], n[5])
		got, ok := impl.Beside(a, b, p)
		if want, ok2 := besideByWords(a, b, p); got != want || ok != ok2 {
			t.Fatalf("%v of %v and %v: %d %v, not %d %v", p, a, b, got, ok, want, ok2)
		}
		if !ok {
			continue
		}
		sides[max(min(got, 1), -1)]++
		liesBeside(t, "the line the other way about", b, a, p, -got)
		liesBeside(t, "all mirrored", place(-a.X, a.Y), place(-b.X, b.Y), place(-p.X, p.Y), -got)
	}
	if sides[-1] < 1000 || sides[0] < 1000 || sides[1] < 1000 {
		t.Error("too few of a kind were tried:", sides)
	}
}

func TestNavigationWritesIntoNoArgument(t *testing.T) {
	r := rand.New(rand.NewSource(120))
	lie, wild := fix(0, 0, 77), push(7777, 7777)
	for range 40 {
		fixes := fixesFrom(r, 3+r.Intn(10), 20)
		room := append(slices.Clone(fixes), lie, lie, lie)
		whole := slices.Clone(room)
		p, sum, _ := impl.Locate(fixes, math.MaxInt)
		wantsPlace(t, "with room behind", room[:len(fixes)], sum, p, sum)
		at, ok := impl.LeaveOut(fixes, sum/2)
		if at2, ok2 := impl.LeaveOut(room[:len(fixes)], sum/2); at != at2 || ok != ok2 {
			t.Fatal("what lies behind the fixes is read:", at, at2)
		}
		if !slices.Equal(room, whole) {
			t.Fatal("written into the fixes")
		}
		pushes := pushesFrom(r, r.Intn(302), 9)
		wide := append(slices.Clone(pushes), wild, wild)
		all := slices.Clone(wide)
		d := driftFrom(r, 1000, 10)
		got, ok := impl.Inertial(d, pushes)
		if got2, ok2 := impl.Inertial(d, wide[:len(pushes)]); got != got2 || ok != ok2 {
			t.Fatal("what lies behind the pushes is read:", got, got2)
		}
		if !slices.Equal(wide, all) {
			t.Fatal("written into the pushes")
		}
	}
}

// The outcome is one, however the columns' goroutines run, and whoever else calls.
func TestTheOutcomeOfTheColumnsIsOne(t *testing.T) {
	defer runtime.GOMAXPROCS(runtime.GOMAXPROCS(0))
	lists := [][]impl.Fix{
		slices.Repeat([]impl.Fix{fix(0, 0, 25)}, 3),
		slices.Repeat([]impl.Fix{fix(0, 0, 3)}, 5),
		heardAt(place(3, 7), place(0, 0), place(10, 0), place(-5, 0)),
		heardAt(place(-17, 44), twelveAround...),
	}
	wants := []impl.Place{place(-5, 0), place(-2, 0), place(3, -7), place(-17, 44)}
	sums := []int{0, 5, 0, 0}
	for _, workers := range []int{1, 2, 8, 64} {
		runtime.GOMAXPROCS(workers)
		var callers sync.WaitGroup
		for range 8 {
			for i, fixes := range lists {
				callers.Go(func() {
					for range 5 {
						wantsPlace(t, "among others", fixes, sums[i], wants[i], sums[i])
					}
				})
			}
		}
		callers.Wait()
	}
}

// Of those that a call starts none goes on for good.
func TestLocateLeavesNoGoroutineBehind(t *testing.T) {
	before := runtime.NumGoroutine()
	for range 20 {
		impl.Locate(heardAt(place(1, 2), threeAround...), 0)
		impl.LeaveOut(slices.Repeat([]impl.Fix{fix(0, 0, 25)}, 4), -1)
		impl.Locate(nil, 0)
		impl.Locate([]impl.Fix{fix(0, 0, 1), fix(0, 0, 1), fix(0, 0, -1)}, 0)
	}
	// One that is joined may still be about to end.
	for tries := 0; runtime.NumGoroutine() > before && tries < 1000; tries++ {
		time.Sleep(time.Millisecond)
	}
	if after := runtime.NumGoroutine(); after > before {
		t.Error("goroutines:", before, "and then", after)
	}
}

// The document's 'Ways': each column is looked through by a goroutine of its own, which
// tell their best over a channel and are joined by a WaitGroup.
func TestNavigationIsBuiltItsWay(t *testing.T) {
	file, err := parser.ParseFile(token.NewFileSet(), "../impl/l11_nav.go", nil, 0)
	if err != nil {
		t.Fatal(err)
	}
	found := map[string]bool{}
	ast.Inspect(file, func(n ast.Node) bool {
		switch x := n.(type) {
		case *ast.RangeStmt:
			startsInLoop(x.Body, found)
		case *ast.ForStmt:
			startsInLoop(x.Body, found)
		case *ast.SelectorExpr:
			if isNamed(x.X, "sync") && x.Sel.Name == "WaitGroup" {
				found["a WaitGroup"] = true
			}
			if x.Sel.Name == "Wait" {
				found["a wait for all"] = true
			}
		case *ast.ChanType:
			found["a channel"] = true
		}
		return true
	})
	for _, way := range []string{"a goroutine of each column", "a best that is told", "a WaitGroup", "a wait for all", "a channel"} {
		if !found[way] {
			t.Error("not there:", way)
		}
	}
}

func startsInLoop(body *ast.BlockStmt, found map[string]bool) {
	ast.Inspect(body, func(n ast.Node) bool {
		if start, ok := n.(*ast.GoStmt); ok {
			found["a goroutine of each column"] = true
			ast.Inspect(start, func(n ast.Node) bool {
				if _, ok := n.(*ast.SendStmt); ok {
					found["a best that is told"] = true
				}
				return true
			})
		}
		return true
	})
}
