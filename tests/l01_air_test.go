package tests

import (
	"math"
	"math/big"
	"math/rand"
	"reflect"
	"slices"
	"testing"

	"loop.example/g00063/impl"
)

// farNumbers are arguments at which a careless sum or product would wrap round.
var farNumbers = []int{math.MinInt, math.MinInt + 1, -1 << 32, -100001, 100001, 1 << 32, math.MaxInt - 1, math.MaxInt}

func frac(num, den int) impl.Frac { return impl.Frac{Num: num, Den: den} }

func ratOf(f impl.Frac) *big.Rat { return big.NewRat(int64(f.Num), int64(f.Den)) }

// fracFrom: big.Rat keeps lowest terms with a denominator above 0, as a Frac must.
func fracFrom(r *big.Rat) impl.Frac { return frac(int(r.Num().Int64()), int(r.Denom().Int64())) }

// onLine is the document's formula, in numbers that can't round or wrap.
func onLine(x, x0, x1 int, y0, y1 *big.Rat) *big.Rat {
	part := big.NewRat(int64(x-x0), int64(x1-x0))
	part.Mul(part, new(big.Rat).Sub(y1, y0))
	return part.Add(part, y0)
}

// alongList tells the value at x of numbers over places, by the document's words: the last place for itself.
func alongList(places []int, values []*big.Rat, x int) (*big.Rat, bool) {
	for i := range places {
		if x == places[i] {
			return values[i], true
		}
		if i+1 < len(places) && places[i] < x && x < places[i+1] {
			return onLine(x, places[i], places[i+1], values[i], values[i+1]), true
		}
	}
	return nil, false
}

func rats(list []int) []*big.Rat {
	var out []*big.Rat
	for _, n := range list {
		out = append(out, big.NewRat(int64(n), 1))
	}
	return out
}

func ascendingList(r *rand.Rand, many, low, high int) []int {
	var out []int
	for len(out) < many {
		n := low + r.Intn(high-low+1)
		if !slices.Contains(out, n) {
			out = append(out, n)
		}
	}
	slices.Sort(out)
	return out
}

func listOf(r *rand.Rand, many, low, high int) []int {
	out := make([]int, many)
	for i := range out {
		out[i] = low + r.Intn(high-low+1)
	}
	return out
}

func curveOf(r *rand.Rand, far int) impl.Curve {
	many := 2 + r.Intn(impl.MaxRows-1)
	return impl.Curve{X: ascendingList(r, many, -far, far), Y: listOf(r, many, -far, far)}
}

func gridOf(r *rand.Rand, far int) impl.Grid {
	wide, high := 2+r.Intn(impl.MaxRows-1), 2+r.Intn(impl.MaxRows-1)
	g := impl.Grid{X: ascendingList(r, wide, -far, far), Y: ascendingList(r, high, -far, far)}
	for range high {
		g.Z = append(g.Z, listOf(r, wide, -1000, 1000))
	}
	return g
}

func airOf(r *rand.Rand, top, slope int) impl.Air {
	many := 1 + r.Intn(6)
	return impl.Air{Base: r.Intn(201) - 100, Slopes: listOf(r, many, -slope, slope), Tops: ascendingList(r, many, 1, top)}
}

// straight is a right curve of that many rows: Y is 10 X.
func straight(rows int) impl.Curve {
	var c impl.Curve
	for i := range rows {
		c.X = append(c.X, i)
		c.Y = append(c.Y, 10*i)
	}
	return c
}

func flatGrid(wide, high int) impl.Grid {
	g := impl.Grid{X: straight(wide).X, Y: straight(high).X}
	for range high {
		g.Z = append(g.Z, make([]int, wide))
	}
	return g
}

func TestLimitsOfAir(t *testing.T) {
	if impl.MaxTick != 100000000 || impl.MaxRows != 20 {
		t.Error("limits", impl.MaxTick, impl.MaxRows)
	}
}

func TestCurveOkAtItsEdges(t *testing.T) {
	for _, c := range []struct {
		name  string
		curve impl.Curve
		want  bool
	}{
		{"nothing", impl.Curve{}, false},
		{"one row", straight(1), false},
		{"two rows", straight(2), true},
		{"as many rows as may be", straight(impl.MaxRows), true},
		{"one row too many", straight(impl.MaxRows + 1), false},
		{"a Y too few", impl.Curve{X: []int{0, 1, 2}, Y: []int{0, 1}}, false},
		{"a Y too many", impl.Curve{X: []int{0, 1}, Y: []int{0, 1, 2}}, false},
		{"no Y", impl.Curve{X: []int{0, 1}}, false},
		{"no X", impl.Curve{Y: []int{0, 1}}, false},
		{"two X alike", impl.Curve{X: []int{0, 1, 1}, Y: []int{0, 1, 2}}, false},
		{"two first X alike", impl.Curve{X: []int{1, 1, 2}, Y: []int{0, 1, 2}}, false},
		{"X falling", impl.Curve{X: []int{0, 2, 1}, Y: []int{0, 1, 2}}, false},
		{"Y falling", impl.Curve{X: []int{0, 1, 2}, Y: []int{2, 1, 1}}, true},
		{"all bounds met", impl.Curve{X: []int{-100000, 100000}, Y: []int{100000, -100000}}, true},
		{"X too low", impl.Curve{X: []int{-100001, 0}, Y: []int{0, 0}}, false},
		{"X too high", impl.Curve{X: []int{0, 100001}, Y: []int{0, 0}}, false},
		{"Y too low", impl.Curve{X: []int{0, 1}, Y: []int{0, -100001}}, false},
		{"Y too high", impl.Curve{X: []int{0, 1}, Y: []int{100001, 0}}, false},
		{"X far", impl.Curve{X: []int{math.MinInt, math.MaxInt}, Y: []int{0, 0}}, false},
		{"Y far", impl.Curve{X: []int{0, 1}, Y: []int{math.MinInt, math.MaxInt}}, false},
	} {
		if got := impl.CurveOk(c.curve); got != c.want {
			t.Errorf("%s: CurveOk is %v", c.name, got)
		}
		_, at := impl.At(c.curve, 0)
		_, held := impl.Held(c.curve, 0)
		_, found := impl.Find(c.curve, -100000)
		if at != c.want || held != c.want || found != c.want {
			t.Errorf("%s: At, Held, Find tell %v, %v, %v", c.name, at, held, found)
		}
	}
}

func TestWrongCurveGivesZeroValues(t *testing.T) {
	wrong := impl.Curve{X: []int{5, 5}, Y: []int{7, 7}}
	for _, n := range append([]int{4, 5, 6, 7}, farNumbers...) {
		if v, ok := impl.At(wrong, n); ok || v != (impl.Frac{}) {
			t.Error("At", n, v, ok)
		}
		if v, ok := impl.Held(wrong, n); ok || v != (impl.Frac{}) {
			t.Error("Held", n, v, ok)
		}
		if x, ok := impl.Find(wrong, n); ok || x != 0 {
			t.Error("Find", n, x, ok)
		}
	}
}

func TestAtAndHeldByHand(t *testing.T) {
	c := impl.Curve{X: []int{-4, 2, 5}, Y: []int{-3, 1, -6}}
	for _, w := range []struct {
		x      int
		at     impl.Frac
		inside bool
		held   impl.Frac
	}{
		{math.MinInt, frac(0, 0), false, frac(-3, 1)},
		{-5, frac(0, 0), false, frac(-3, 1)},
		{-4, frac(-3, 1), true, frac(-3, 1)},
		{-3, frac(-7, 3), true, frac(-7, 3)},
		{-1, frac(-1, 1), true, frac(-1, 1)},
		{0, frac(-1, 3), true, frac(-1, 3)},
		{2, frac(1, 1), true, frac(1, 1)},
		{3, frac(-4, 3), true, frac(-4, 3)},
		{5, frac(-6, 1), true, frac(-6, 1)},
		{6, frac(0, 0), false, frac(-6, 1)},
		{math.MaxInt, frac(0, 0), false, frac(-6, 1)},
	} {
		if v, ok := impl.At(c, w.x); v != w.at || ok != w.inside {
			t.Errorf("At %d: %v %v", w.x, v, ok)
		}
		if v, ok := impl.Held(c, w.x); v != w.held || !ok {
			t.Errorf("Held %d: %v %v", w.x, v, ok)
		}
	}
}

func TestNoughtIsNoughtByOne(t *testing.T) {
	c := impl.Curve{X: []int{0, 4, 9}, Y: []int{0, 0, 0}}
	for x := -1; x <= 10; x++ {
		if v, ok := impl.Held(c, x); !ok || v != frac(0, 1) {
			t.Errorf("Held %d: %v %v", x, v, ok)
		}
	}
	if v, ok := impl.At(impl.Curve{X: []int{-6, 6}, Y: []int{-5, 5}}, 0); !ok || v != frac(0, 1) {
		t.Errorf("At of a line through nought: %v %v", v, ok)
	}
}

func TestAtOfTheWidestTable(t *testing.T) {
	c := impl.Curve{X: []int{-100000, 100000}, Y: []int{100000, -100000}}
	for _, x := range []int{-100000, -99999, -1, 0, 1, 99999, 100000} {
		if v, ok := impl.At(c, x); !ok || v != frac(-x, 1) {
			t.Errorf("At %d: %v %v", x, v, ok)
		}
	}
	c = impl.Curve{X: []int{-100000, 99999}, Y: []int{-100000, 100000}}
	if v, ok := impl.At(c, 99998); !ok || v != frac(19999700000, 199999) {
		t.Errorf("At ahead of the last: %v %v", v, ok)
	}
}

func TestAtIsExactEverywhere(t *testing.T) {
	r := rand.New(rand.NewSource(1))
	for round := range 600 {
		far := []int{20, 300, 100000}[round%3]
		c := curveOf(r, far)
		last := len(c.X) - 1
		asked := append([]int{c.X[0] - 1, c.X[last] + 1}, farNumbers...)
		for _, x := range c.X {
			asked = append(asked, x-1, x, x+1)
		}
		asked = append(asked, listOf(r, 20, -far, far)...)
		for _, x := range asked {
			v, ok := impl.At(c, x)
			want, inside := alongList(c.X, rats(c.Y), x)
			if ok != inside || !inside && v != (impl.Frac{}) || inside && v != fracFrom(want) {
				t.Fatalf("At of %v at %d: %v %v, not %v", c, x, v, ok, want)
			}
			held := v
			if x < c.X[0] {
				held = frac(c.Y[0], 1)
			} else if x > c.X[last] {
				held = frac(c.Y[last], 1)
			}
			if h, ok := impl.Held(c, x); !ok || h != held {
				t.Fatalf("Held of %v at %d: %v %v, not %v", c, x, h, ok, held)
			}
		}
	}
}

func TestAtTellsYAtXAndBetweenTwoLiesBetween(t *testing.T) {
	r := rand.New(rand.NewSource(2))
	for range 300 {
		c := curveOf(r, 60)
		for i, x := range c.X {
			if v, ok := impl.At(c, x); !ok || v != frac(c.Y[i], 1) {
				t.Fatalf("At of %v at its place %d: %v %v", c, i, v, ok)
			}
			if i == len(c.X)-1 {
				continue
			}
			low := big.NewRat(int64(min(c.Y[i], c.Y[i+1])), 1)
			high := big.NewRat(int64(max(c.Y[i], c.Y[i+1])), 1)
			for between := x + 1; between < c.X[i+1]; between++ {
				v, ok := impl.At(c, between)
				if !ok || v.Den < 1 || ratOf(v).Cmp(low) < 0 || ratOf(v).Cmp(high) > 0 {
					t.Fatalf("At of %v at %d: %v %v", c, between, v, ok)
				}
			}
		}
	}
}

func TestFindByHand(t *testing.T) {
	c := impl.Curve{X: []int{-3, 0, 4, 9}, Y: []int{-2, -7, 5, 6}}
	for _, w := range []struct {
		y, x  int
		found bool
	}{
		{math.MinInt, -3, true}, {-8, -3, true}, {-2, -3, true}, {-1, 2, true},
		{0, 3, true}, {5, 4, true}, {6, 9, true}, {7, 0, false}, {math.MaxInt, 0, false},
	} {
		if x, ok := impl.Find(c, w.y); x != w.x || ok != w.found {
			t.Errorf("Find %d: %d %v", w.y, x, ok)
		}
	}
	wide := impl.Curve{X: []int{-100000, 100000}, Y: []int{-100000, 100000}}
	for _, y := range []int{-100000, -99999, 0, 1, 99999, 100000} {
		if x, ok := impl.Find(wide, y); !ok || x != y {
			t.Errorf("Find %d in the widest: %d %v", y, x, ok)
		}
	}
	falling := impl.Curve{X: []int{1, 2, 3}, Y: []int{9, 8, 7}}
	if x, ok := impl.Find(falling, 9); !ok || x != 1 {
		t.Errorf("Find at the first of a falling one: %d %v", x, ok)
	}
	if x, ok := impl.Find(falling, 10); ok || x != 0 {
		t.Errorf("Find above a falling one: %d %v", x, ok)
	}
}

func TestFindIsTheLeast(t *testing.T) {
	r := rand.New(rand.NewSource(3))
	for range 300 {
		c := curveOf(r, 40)
		for y := -42; y <= 42; y++ {
			x, ok := impl.Find(c, y)
			wantX, wantOk := 0, false
			for at := c.X[0]; at <= c.X[len(c.X)-1] && !wantOk; at++ {
				v, _ := alongList(c.X, rats(c.Y), at)
				if v.Cmp(big.NewRat(int64(y), 1)) >= 0 {
					wantX, wantOk = at, true
				}
			}
			if x != wantX || ok != wantOk {
				t.Fatalf("Find of %v and %d: %d %v, not %d %v", c, y, x, ok, wantX, wantOk)
			}
		}
	}
}

func TestGridOkAtItsEdges(t *testing.T) {
	changed := func(change func(*impl.Grid)) impl.Grid {
		g := flatGrid(3, 3)
		change(&g)
		return g
	}
	for _, c := range []struct {
		name string
		grid impl.Grid
		want bool
	}{
		{"nothing", impl.Grid{}, false},
		{"two by two", flatGrid(2, 2), true},
		{"as great as may be", flatGrid(impl.MaxRows, impl.MaxRows), true},
		{"one column", flatGrid(1, 2), false},
		{"one row", flatGrid(2, 1), false},
		{"a column too many", flatGrid(impl.MaxRows+1, 2), false},
		{"a row too many", flatGrid(2, impl.MaxRows+1), false},
		{"a list of Z too few", changed(func(g *impl.Grid) { g.Z = g.Z[:2] }), false},
		{"a list of Z too many", changed(func(g *impl.Grid) { g.Z = append(g.Z, []int{0, 0, 0}) }), false},
		{"no Z", changed(func(g *impl.Grid) { g.Z = nil }), false},
		{"a list of Z too short", changed(func(g *impl.Grid) { g.Z[2] = g.Z[2][:2] }), false},
		{"a list of Z too long", changed(func(g *impl.Grid) { g.Z[0] = []int{0, 0, 0, 0} }), false},
		{"a list of Z empty", changed(func(g *impl.Grid) { g.Z[1] = nil }), false},
		{"two X alike", changed(func(g *impl.Grid) { g.X[2] = g.X[1] }), false},
		{"two Y alike", changed(func(g *impl.Grid) { g.Y[1] = g.Y[0] }), false},
		{"the bounds met", changed(func(g *impl.Grid) {
			g.X[0], g.X[2], g.Y[0], g.Y[2] = -1000, 1000, -1000, 1000
			g.Z[0][0], g.Z[2][2] = -1000, 1000
		}), true},
		{"X too low", changed(func(g *impl.Grid) { g.X[0] = -1001 }), false},
		{"X too high", changed(func(g *impl.Grid) { g.X[2] = 1001 }), false},
		{"Y too low", changed(func(g *impl.Grid) { g.Y[0] = -1001 }), false},
		{"Y too high", changed(func(g *impl.Grid) { g.Y[2] = 1001 }), false},
		{"Z too low", changed(func(g *impl.Grid) { g.Z[2][2] = -1001 }), false},
		{"Z too high", changed(func(g *impl.Grid) { g.Z[0][0] = 1001 }), false},
		{"far", changed(func(g *impl.Grid) { g.Y[0], g.Y[2] = math.MinInt, math.MaxInt }), false},
	} {
		if got := impl.GridOk(c.grid); got != c.want {
			t.Errorf("%s: GridOk is %v", c.name, got)
		}
		if v, ok := impl.AtGrid(c.grid, 1, 1); ok != c.want || !ok && v != (impl.Frac{}) {
			t.Errorf("%s: AtGrid tells %v %v", c.name, v, ok)
		}
	}
}

func TestAtGridByHand(t *testing.T) {
	g := impl.Grid{X: []int{0, 3, 4}, Y: []int{-2, 3}, Z: [][]int{{0, 3, -5}, {10, -2, 7}}}
	for _, w := range []struct {
		x, y int
		want impl.Frac
		ok   bool
	}{
		{0, -2, frac(0, 1), true}, {3, -2, frac(3, 1), true}, {4, -2, frac(-5, 1), true},
		{0, 3, frac(10, 1), true}, {3, 3, frac(-2, 1), true}, {4, 3, frac(7, 1), true},
		{1, -2, frac(1, 1), true}, {1, 3, frac(6, 1), true}, {1, 0, frac(3, 1), true},
		{0, -1, frac(2, 1), true}, {2, 0, frac(2, 1), true}, {4, -1, frac(-13, 5), true},
		{-1, 0, frac(0, 0), false}, {5, 0, frac(0, 0), false},
		{0, -3, frac(0, 0), false}, {0, 4, frac(0, 0), false}, {-1, -3, frac(0, 0), false},
		{math.MinInt, 0, frac(0, 0), false}, {0, math.MaxInt, frac(0, 0), false},
	} {
		if v, ok := impl.AtGrid(g, w.x, w.y); v != w.want || ok != w.ok {
			t.Errorf("AtGrid %d %d: %v %v", w.x, w.y, v, ok)
		}
	}
}

func TestAtGridIsExactEverywhere(t *testing.T) {
	r := rand.New(rand.NewSource(4))
	for round := range 150 {
		far := []int{15, 1000}[round%2]
		g := gridOf(r, far)
		xs := append(listOf(r, 8, -far, far), g.X...)
		ys := append(listOf(r, 8, -far, far), g.Y...)
		xs = append(xs, g.X[0]-1, g.X[len(g.X)-1]+1, math.MinInt, math.MaxInt)
		ys = append(ys, g.Y[0]-1, g.Y[len(g.Y)-1]+1, math.MinInt, math.MaxInt)
		for _, x := range xs {
			var along []*big.Rat
			insideX := true
			for _, row := range g.Z {
				v, ok := alongList(g.X, rats(row), x)
				along, insideX = append(along, v), ok
			}
			for _, y := range ys {
				want, inside := (*big.Rat)(nil), false
				if insideX {
					want, inside = alongList(g.Y, along, y)
				}
				v, ok := impl.AtGrid(g, x, y)
				if ok != inside || !inside && v != (impl.Frac{}) || inside && v != fracFrom(want) {
					t.Fatalf("AtGrid of %v at %d, %d: %v %v, not %v", g, x, y, v, ok, want)
				}
			}
		}
	}
}

func TestAtGridTellsZAtItsPlaces(t *testing.T) {
	r := rand.New(rand.NewSource(5))
	for range 50 {
		g := gridOf(r, 1000)
		for i, y := range g.Y {
			for k, x := range g.X {
				if v, ok := impl.AtGrid(g, x, y); !ok || v != frac(g.Z[i][k], 1) {
					t.Fatalf("AtGrid of %v at its place %d, %d: %v %v", g, k, i, v, ok)
				}
			}
		}
	}
}

func TestAirOkAtItsEdges(t *testing.T) {
	for _, c := range []struct {
		name string
		air  impl.Air
		want bool
	}{
		{"nothing", impl.Air{}, false},
		{"one piece", impl.Air{Slopes: []int{0}, Tops: []int{1}}, true},
		{"six pieces", impl.Air{Slopes: make([]int, 6), Tops: []int{1, 2, 3, 4, 5, 6}}, true},
		{"seven pieces", impl.Air{Slopes: make([]int, 7), Tops: []int{1, 2, 3, 4, 5, 6, 7}}, false},
		{"a slope too few", impl.Air{Slopes: []int{0}, Tops: []int{1, 2}}, false},
		{"a slope too many", impl.Air{Slopes: []int{0, 0}, Tops: []int{1}}, false},
		{"no slope", impl.Air{Tops: []int{1}}, false},
		{"no top", impl.Air{Slopes: []int{0}}, false},
		{"all low bounds met", impl.Air{Base: -100, Slopes: []int{-20, 20}, Tops: []int{1, 1000}}, true},
		{"all high bounds met", impl.Air{Base: 100, Slopes: []int{20, -20}, Tops: []int{999, 1000}}, true},
		{"base too low", impl.Air{Base: -101, Slopes: []int{0}, Tops: []int{1}}, false},
		{"base too high", impl.Air{Base: 101, Slopes: []int{0}, Tops: []int{1}}, false},
		{"slope too low", impl.Air{Slopes: []int{-21}, Tops: []int{1}}, false},
		{"slope too high", impl.Air{Slopes: []int{0, 21}, Tops: []int{1, 2}}, false},
		{"top too low", impl.Air{Slopes: []int{0}, Tops: []int{0}}, false},
		{"top too high", impl.Air{Slopes: []int{0}, Tops: []int{1001}}, false},
		{"two tops alike", impl.Air{Slopes: []int{0, 0}, Tops: []int{5, 5}}, false},
		{"tops falling", impl.Air{Slopes: []int{0, 0}, Tops: []int{5, 4}}, false},
		{"far", impl.Air{Base: math.MinInt, Slopes: []int{math.MaxInt}, Tops: []int{math.MinInt}}, false},
	} {
		if got := impl.AirOk(c.air); got != c.want {
			t.Errorf("%s: AirOk is %v", c.name, got)
		}
		if w, ok := impl.Warm(c.air, 0); ok != c.want || !ok && w != 0 {
			t.Errorf("%s: Warm tells %d %v", c.name, w, ok)
		}
		if h, w, ok := impl.Coldest(c.air); ok != c.want || !ok && (h != 0 || w != 0) {
			t.Errorf("%s: Coldest tells %d %d %v", c.name, h, w, ok)
		}
	}
}

func TestWarmByHand(t *testing.T) {
	a := impl.Air{Base: 15, Slopes: []int{-6, 0, 3}, Tops: []int{11, 20, 32}}
	for _, w := range []struct {
		height, warm int
		ok           bool
	}{
		{math.MinInt, 0, false}, {-1, 0, false}, {0, 15, true}, {1, 9, true}, {10, -45, true},
		{11, -51, true}, {12, -51, true}, {20, -51, true}, {21, -48, true}, {31, -18, true},
		{32, -15, true}, {33, 0, false}, {math.MaxInt, 0, false},
	} {
		if got, ok := impl.Warm(a, w.height); got != w.warm || ok != w.ok {
			t.Errorf("Warm %d: %d %v", w.height, got, ok)
		}
	}
	if h, w, ok := impl.Coldest(a); h != 11 || w != -51 || !ok {
		t.Errorf("Coldest: %d %d %v", h, w, ok)
	}
}

func TestColdestByHand(t *testing.T) {
	for _, c := range []struct {
		air          impl.Air
		height, warm int
	}{
		{impl.Air{Base: 7, Slopes: []int{0, 0}, Tops: []int{3, 9}}, 0, 7},
		{impl.Air{Base: 7, Slopes: []int{2}, Tops: []int{3}}, 0, 7},
		{impl.Air{Base: 7, Slopes: []int{-2}, Tops: []int{3}}, 3, 1},
		{impl.Air{Base: 0, Slopes: []int{-1, 1, -1}, Tops: []int{4, 8, 12}}, 4, -4},
		{impl.Air{Base: 0, Slopes: []int{-1, 1, -1}, Tops: []int{4, 8, 13}}, 13, -5},
		{impl.Air{Base: 0, Slopes: []int{1, -1}, Tops: []int{4, 8}}, 0, 0},
		{impl.Air{Base: -100, Slopes: []int{-20}, Tops: []int{1000}}, 1000, -20100},
	} {
		if h, w, ok := impl.Coldest(c.air); h != c.height || w != c.warm || !ok {
			t.Errorf("Coldest of %v: %d %d %v", c.air, h, w, ok)
		}
	}
}

// warmByUnits climbs one unit at a time, each by the slope of the piece that it lies in.
func warmByUnits(a impl.Air, height int) int {
	warm, piece := a.Base, 0
	for unit := range height {
		if unit == a.Tops[piece] {
			piece++
		}
		warm += a.Slopes[piece]
	}
	return warm
}

func TestColdestIsNowhereUndercut(t *testing.T) {
	r := rand.New(rand.NewSource(6))
	for round := range 300 {
		a := airOf(r, []int{12, 80, 1000}[round%3], []int{1, 3, 20}[round/3%3])
		last := a.Tops[len(a.Tops)-1]
		coldAt, cold := 0, a.Base
		for height := 0; height <= last; height++ {
			want := warmByUnits(a, height)
			if w, ok := impl.Warm(a, height); !ok || w != want {
				t.Fatalf("Warm of %v at %d: %d %v, not %d", a, height, w, ok, want)
			}
			if want < cold {
				coldAt, cold = height, want
			}
		}
		if h, w, ok := impl.Coldest(a); !ok || h != coldAt || w != cold {
			t.Fatalf("Coldest of %v: %d %d %v, not %d %d", a, h, w, ok, coldAt, cold)
		}
		for _, height := range append([]int{-1, last + 1}, farNumbers...) {
			if w, ok := impl.Warm(a, height); ok || w != 0 {
				t.Fatalf("Warm of %v at %d: %d %v", a, height, w, ok)
			}
		}
	}
}

// roomy is the list with spare room behind it, in which a mark stands.
func roomy(list []int) []int {
	out := append(slices.Clone(list), 77, 77, 77, 77)
	return out[:len(list)]
}

func TestAirWritesIntoNoArgument(t *testing.T) {
	r := rand.New(rand.NewSource(7))
	for range 50 {
		c, g, a := curveOf(r, 30), gridOf(r, 30), airOf(r, 30, 20)
		c2 := impl.Curve{X: roomy(c.X), Y: roomy(c.Y)}
		g2 := impl.Grid{X: roomy(g.X), Y: roomy(g.Y)}
		for _, row := range g.Z {
			g2.Z = append(g2.Z, roomy(row))
		}
		a2 := impl.Air{Base: a.Base, Slopes: roomy(a.Slopes), Tops: roomy(a.Tops)}
		for n := -31; n <= 31; n++ {
			impl.At(c2, n)
			impl.Held(c2, n)
			impl.Find(c2, n)
			impl.AtGrid(g2, n, -n)
			impl.Warm(a2, n)
		}
		impl.Coldest(a2)
		if !reflect.DeepEqual(c, c2) || !reflect.DeepEqual(g, g2) || !reflect.DeepEqual(a, a2) {
			t.Fatalf("an argument was changed: %v %v %v", c2, g2, a2)
		}
		for _, list := range append([][]int{c2.X, c2.Y, g2.X, g2.Y, a2.Slopes, a2.Tops}, g2.Z...) {
			if !slices.Equal(list[len(list):len(list)+4], []int{77, 77, 77, 77}) {
				t.Fatalf("the room behind a list was changed: %v", list[:len(list)+4])
			}
		}
	}
}
