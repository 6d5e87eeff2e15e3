package impl

import "cmp"

const (
	MaxTick = 100000000
	MaxRows = 20
)

const (
	leastRows  = 2
	curveBound = 100000
	gridBound  = 1000
	baseBound  = 100
	slopeBound = 20
	maxPieces  = 6
	leastTop   = 1
	maxTop     = 1000
)

type Frac struct {
	Num int
	Den int
}

type Curve struct {
	X []int
	Y []int
}

type Grid struct {
	X []int
	Y []int
	Z [][]int
}

type Air struct {
	Base   int
	Slopes []int
	Tops   []int
}

type number interface {
	~int | ~int64
}

func within[N number](n N, low N, high N) bool {
	return low <= n && n <= high
}

func allWithin[N number](list []N, low N, high N) bool {
	for _, n := range list {
		if !within(n, low, high) {
			return false
		}
	}
	return true
}

func ascending[T cmp.Ordered](list []T) bool {
	for i := 1; i < len(list); i++ {
		if list[i] <= list[i-1] {
			return false
		}
	}
	return true
}

// axisOk tells whether a list may stand along a side of a table.
func axisOk[N number](list []N, bound N) bool {
	return within(len(list), leastRows, MaxRows) && ascending(list) && allWithin(list, -bound, bound)
}

// lowerPlace tells where the lesser of the two neighbours of x stands. At the
// last place that is the one ahead of it, so that there are always two: the
// straight line between them meets the last one itself.
func lowerPlace[N number](list []N, x N) (int, bool) {
	last := len(list) - 1
	if !within(x, list[0], list[last]) {
		return 0, false
	}
	at := 0
	for at+1 < last && list[at+1] <= x {
		at++
	}
	return at, true
}

// neighbours leaves no spare room behind the two, so that nothing put behind
// them could be written into the table.
func neighbours[T any](list []T, at int) []T {
	return list[at : at+2 : at+2]
}

// scaledBetween is the value at x on the straight line between two neighbours,
// times the width between them: left undivided, it is exact.
func scaledBetween[N number](xs []N, ys []N, x N) N {
	return ys[0]*(xs[1]-xs[0]) + (ys[1]-ys[0])*(x-xs[0])
}

func commonDivisor(a int, b int) int {
	for b != 0 {
		a, b = b, a%b
	}
	return max(a, -a)
}

// fracOf wants a den above 0.
func fracOf(num int, den int) Frac {
	d := commonDivisor(num, den)
	return Frac{Num: num / d, Den: den / d}
}

func CurveOk(c Curve) bool {
	return len(c.X) == len(c.Y) && axisOk(c.X, curveBound) && allWithin(c.Y, -curveBound, curveBound)
}

func At(c Curve, x int) (Frac, bool) {
	if !CurveOk(c) {
		return Frac{}, false
	}
	at, ok := lowerPlace(c.X, x)
	if !ok {
		return Frac{}, false
	}
	xs := neighbours(c.X, at)
	ys := neighbours(c.Y, at)
	return fracOf(scaledBetween(xs, ys, x), xs[1]-xs[0]), true
}

func Held(c Curve, x int) (Frac, bool) {
	if !CurveOk(c) {
		return Frac{}, false
	}
	first, last := c.X[0], c.X[len(c.X)-1]
	return At(c, min(max(x, first), last))
}

func Find(c Curve, y int) (int, bool) {
	if !CurveOk(c) {
		return 0, false
	}
	if c.Y[0] >= y {
		return c.X[0], true
	}
	// All that lies ahead is below y, so a piece comes up to y only where its
	// end does, and it rises then.
	for at := range len(c.X) - 1 {
		if c.Y[at+1] >= y {
			return firstReached(neighbours(c.X, at), neighbours(c.Y, at), y), true
		}
	}
	return 0, false
}

// firstReached wants a piece that begins below y and ends at or above it.
func firstReached(xs []int, ys []int, y int) int {
	rise := ys[1] - ys[0]
	way := (y - ys[0]) * (xs[1] - xs[0])
	return xs[0] + (way+rise-1)/rise
}

func GridOk(g Grid) bool {
	if !axisOk(g.X, gridBound) || !axisOk(g.Y, gridBound) || len(g.Z) != len(g.Y) {
		return false
	}
	for _, row := range g.Z {
		if len(row) != len(g.X) || !allWithin(row, -gridBound, gridBound) {
			return false
		}
	}
	return true
}

func AtGrid(g Grid, x int, y int) (Frac, bool) {
	if !GridOk(g) {
		return Frac{}, false
	}
	column, okX := lowerPlace(g.X, x)
	row, okY := lowerPlace(g.Y, y)
	if !okX || !okY {
		return Frac{}, false
	}
	xs := neighbours(g.X, column)
	ys := neighbours(g.Y, row)
	rows := neighbours(g.Z, row)
	// Both ends stay times the width along X, so that one division is enough.
	ends := []int{
		scaledBetween(xs, neighbours(rows[0], column), x),
		scaledBetween(xs, neighbours(rows[1], column), x),
	}
	return fracOf(scaledBetween(ys, ends, y), (xs[1]-xs[0])*(ys[1]-ys[0])), true
}

func AirOk(a Air) bool {
	return within(a.Base, -baseBound, baseBound) &&
		within(len(a.Tops), 1, maxPieces) && len(a.Slopes) == len(a.Tops) &&
		allWithin(a.Slopes, -slopeBound, slopeBound) &&
		ascending(a.Tops) && allWithin(a.Tops, leastTop, maxTop)
}

func Warm(a Air, height int) (int, bool) {
	if !AirOk(a) || !within(height, 0, a.Tops[len(a.Tops)-1]) {
		return 0, false
	}
	warm, bottom := a.Base, 0
	for i, top := range a.Tops {
		if height <= bottom {
			break
		}
		warm += a.Slopes[i] * (min(top, height) - bottom)
		bottom = top
	}
	return warm, true
}

func Coldest(a Air) (int, int, bool) {
	if !AirOk(a) {
		return 0, 0, false
	}
	// Within a piece it goes straight, so the least lies at the ground or at a
	// top; a later one must be colder to be taken.
	height, least := 0, a.Base
	warm, bottom := a.Base, 0
	for i, top := range a.Tops {
		warm += a.Slopes[i] * (top - bottom)
		bottom = top
		if warm < least {
			height, least = top, warm
		}
	}
	return height, least, true
}
