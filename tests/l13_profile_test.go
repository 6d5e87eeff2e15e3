package tests

import (
	"go/ast"
	"go/parser"
	"go/token"
	"math"
	"math/rand"
	"slices"
	"testing"

	"loop.example/g00063/impl"
)

func point(far, low, high int) impl.Point { return impl.Point{Far: far, Low: low, High: high} }

// points has a point for each three numbers.
func points(numbers ...int) []impl.Point {
	var list []impl.Point
	for three := range slices.Chunk(numbers, 3) {
		list = append(list, point(three[0], three[1], three[2]))
	}
	return list
}

// alikePoints stand each far units behind the other, the first one at the begin.
func alikePoints(many, far, low, high int) []impl.Point {
	var list []impl.Point
	for i := range many {
		list = append(list, point(i*far, low, high))
	}
	return list
}

func pointsAreSo(list []impl.Point) bool {
	for i, p := range list {
		if !allIn([]int{p.Far, p.Low, p.High}, 0, 100000) || p.Low > p.High || i > 0 && p.Far-list[i-1].Far < 1 {
			return false
		}
	}
	return len(list) > 0 && len(list) < 31
}

func slopesAreSo(up, down int) bool { return allIn([]int{up, down}, 0, 1000) }

// mayFollow holds a change of height against the slopes.
func mayFollow(a, b impl.Point, from, to, up, down int) bool {
	units := b.Far - a.Far
	return to <= from+units*up && to >= from-units*down
}

// heightsIn has each height between a point's bounds.
func heightsIn(p impl.Point) []int {
	var heights []int
	for h := p.Low; h <= p.High; h++ {
		heights = append(heights, h)
	}
	return heights
}

// hadByWords has for each point the heights that can be had there, found one by one.
func hadByWords(list []impl.Point, up, down int) [][]int {
	had := [][]int{heightsIn(list[0])}
	for i := 1; i < len(list); i++ {
		var here []int
		for _, h := range heightsIn(list[i]) {
			if slices.ContainsFunc(had[i-1], func(ahead int) bool { return mayFollow(list[i-1], list[i], ahead, h, up, down) }) {
				here = append(here, h)
			}
		}
		had = append(had, here)
	}
	return had
}

// leadingByWords has for each point the heights from which a way through all that follow is possible.
func leadingByWords(list []impl.Point, up, down int) [][]int {
	leading := make([][]int, len(list))
	last := len(list) - 1
	leading[last] = heightsIn(list[last])
	for i := last - 1; i >= 0; i-- {
		for _, h := range heightsIn(list[i]) {
			if slices.ContainsFunc(leading[i+1], func(next int) bool { return mayFollow(list[i], list[i+1], h, next, up, down) }) {
				leading[i] = append(leading[i], h)
			}
		}
	}
	return leading
}

func reachByWords(list []impl.Point, up, down int) ([]impl.Point, int, bool) {
	if !pointsAreSo(list) || !slopesAreSo(up, down) {
		return nil, -1, false
	}
	var told []impl.Point
	for i, heights := range hadByWords(list, up, down) {
		if len(heights) == 0 {
			return told, i, true
		}
		told = append(told, point(list[i].Far, slices.Min(heights), slices.Max(heights)))
	}
	return told, -1, true
}

func profileByWords(list []impl.Point, up, down, first int) ([]int, bool) {
	if !pointsAreSo(list) || !slopesAreSo(up, down) {
		return nil, false
	}
	leading := leadingByWords(list, up, down)
	if !slices.Contains(leading[0], first) {
		return nil, false
	}
	way := []int{first}
	for i := 1; i < len(list); i++ {
		best, found := 0, false
		for _, h := range leading[i] {
			if mayFollow(list[i-1], list[i], way[i-1], h, up, down) && (!found || sizeByWords(h-way[i-1]) < sizeByWords(best-way[i-1])) {
				best, found = h, true
			}
		}
		way = append(way, best)
	}
	return way, true
}

func changesByWords(way []int) int {
	sum := 0
	for i := 1; i < len(way); i++ {
		sum += sizeByWords(way[i] - way[i-1])
	}
	return sum
}

func bestByWords(list []impl.Point, up, down int) (int, bool) {
	if !pointsAreSo(list) || list[0].High > 300 {
		return 0, false
	}
	best, least, found := 0, 0, false
	for first := 0; first <= list[0].High; first++ {
		way, ok := profileByWords(list, up, down, first)
		if ok && (!found || changesByWords(way) < least) {
			best, least, found = first, changesByWords(way), true
		}
	}
	return best, found
}

func descentByWords(height, slope, far int) (int, bool) {
	if !allIn([]int{height, far}, 0, 100000) || !allIn([]int{slope}, 1, 1000) {
		return 0, false
	}
	for begin := far; begin >= 0; begin-- {
		if height <= slope*(far-begin) {
			return begin, true
		}
	}
	return 0, false
}

// wideReachByWords holds each point against all ahead of it at once, so that great numbers may be asked.
func wideReachByWords(list []impl.Point, up, down int) ([]impl.Point, int) {
	var told []impl.Point
	for i, p := range list {
		for _, ahead := range list[:i] {
			p.Low = max(p.Low, ahead.Low-down*(p.Far-ahead.Far))
			p.High = min(p.High, ahead.High+up*(p.Far-ahead.Far))
		}
		if p.Low > p.High {
			return told, i
		}
		told = append(told, p)
	}
	return told, -1
}

// wideLeadingByWords does so with all points behind.
func wideLeadingByWords(list []impl.Point, up, down int) []impl.Point {
	var leading []impl.Point
	for i, p := range list {
		for _, behind := range list[i+1:] {
			p.Low = max(p.Low, behind.Low-up*(behind.Far-p.Far))
			p.High = min(p.High, behind.High+down*(behind.Far-p.Far))
		}
		leading = append(leading, p)
	}
	return leading
}

func reaches(t *testing.T, name string, list []impl.Point, up, down int, want []impl.Point, missed int) {
	t.Helper()
	if got, at, ok := impl.Reach(list, up, down); !slices.Equal(got, want) || at != missed || !ok {
		t.Errorf("Reach: %s: %v by %d and %d: %v %d %v, not %v %d", name, list, up, down, got, at, ok, want, missed)
	}
}

func goesThrough(t *testing.T, name string, list []impl.Point, up, down, first int, want ...int) {
	t.Helper()
	if got, ok := impl.Profile(list, up, down, first); !slices.Equal(got, want) || !ok {
		t.Errorf("Profile: %s: %v by %d and %d from %d: %v %v, not %v", name, list, up, down, first, got, ok, want)
	}
}

func refusesProfile(t *testing.T, name string, list []impl.Point, up, down, first int) {
	t.Helper()
	if got, ok := impl.Profile(list, up, down, first); len(got) != 0 || ok {
		t.Errorf("Profile: %s: %v by %d and %d from %d: %v %v", name, list, up, down, first, got, ok)
	}
}

func isBest(t *testing.T, name string, list []impl.Point, up, down, want int) {
	t.Helper()
	if got, ok := impl.Best(list, up, down); got != want || !ok {
		t.Errorf("Best: %s: %v by %d and %d: %d %v, not %d", name, list, up, down, got, ok, want)
	}
}

func refusesBest(t *testing.T, name string, list []impl.Point, up, down int) {
	t.Helper()
	if got, ok := impl.Best(list, up, down); got != 0 || ok {
		t.Errorf("Best: %s: %v by %d and %d: %d %v", name, list, up, down, got, ok)
	}
}

// refusesAll asks everything that takes points and slopes.
func refusesAll(t *testing.T, name string, list []impl.Point, up, down int) {
	t.Helper()
	if got, at, ok := impl.Reach(list, up, down); len(got) != 0 || at != -1 || ok {
		t.Errorf("Reach: %s: %v by %d and %d: %v %d %v", name, list, up, down, got, at, ok)
	}
	for _, first := range []int{0, 5, math.MinInt, math.MaxInt} {
		refusesProfile(t, name, list, up, down, first)
	}
	for _, p := range list[:min(len(list), 1)] {
		refusesProfile(t, name, list, up, down, p.Low)
		refusesProfile(t, name, list, up, down, p.High)
	}
	refusesBest(t, name, list, up, down)
}

func TestLimitOfPoints(t *testing.T) {
	if impl.MaxPoints != 30 {
		t.Error("MaxPoints", impl.MaxPoints)
	}
}

var rightPoints = []struct {
	name string
	list []impl.Point
}{
	{"1 point", points(0, 0, 0)},
	{"1 point at 10^5", points(100000, 100000, 100000)},
	{"a Far of 10^5", points(100000, 3, 4)},
	{"a Far of 0 and one of 10^5", points(0, 1, 2, 100000, 3, 4)},
	{"two Fars one apart", points(7, 1, 2, 8, 3, 4)},
	{"two Fars one apart at the ends", points(0, 1, 2, 1, 3, 4, 99999, 5, 6, 100000, 7, 8)},
	{"Low and High at 0", points(0, 0, 0, 5, 0, 0)},
	{"Low at 0, High at 10^5", points(0, 0, 100000, 5, 0, 100000)},
	{"Low and High at 10^5", points(0, 100000, 100000, 5, 100000, 100000)},
	{"Low and High alike", points(0, 77, 77, 1, 5, 5, 2, 99999, 99999)},
	{"Low and High one apart", points(0, 77, 78)},
	{"29 points", alikePoints(29, 1, 3, 9)},
	{"30 points", alikePoints(30, 1, 3, 9)},
	{"30 points as far as may be", append(alikePoints(29, 3571, 3, 9), point(100000, 3, 9))},
}

func TestPointsOkAtItsEdges(t *testing.T) {
	for _, c := range rightPoints {
		if !impl.PointsOk(c.list) {
			t.Errorf("%s: %v is not so", c.name, c.list)
		}
	}
}

var wrongPoints = []struct {
	name string
	list []impl.Point
}{
	{"nil", nil},
	{"no point", []impl.Point{}},
	{"31 points", alikePoints(31, 1, 3, 9)},
	{"31 points all over", alikePoints(31, 3000, 3, 9)},
	{"300 points", alikePoints(300, 1, 3, 9)},
	{"two Fars alike", points(5, 0, 9, 5, 0, 9)},
	{"two Fars alike at 0", points(0, 0, 9, 0, 0, 9)},
	{"two Fars alike at the last", points(0, 0, 9, 5, 0, 9, 7, 0, 9, 7, 0, 9)},
	{"Fars that fall by one", points(5, 0, 9, 4, 0, 9)},
	{"Fars that fall", points(0, 0, 9, 50, 0, 9, 20, 0, 9)},
	{"Fars that fall, and all stand behind the first", points(0, 0, 9, 3, 0, 9, 2, 0, 9, 4, 0, 9)},
}

// wrongNumbers are those of a point whose numbers are not so.
var wrongNumbers = []struct {
	name  string
	point impl.Point
}{
	{"a Far of -1", point(-1, 0, 9)},
	{"a Far of 10^5 + 1", point(100001, 0, 9)},
	{"the least Far", point(math.MinInt, 0, 9)},
	{"the greatest Far", point(math.MaxInt, 0, 9)},
	{"a Low of -1", point(2, -1, 9)},
	{"a Low and High of -1", point(2, -1, -1)},
	{"the least Low", point(2, math.MinInt, 9)},
	{"the least Low and High", point(2, math.MinInt, math.MinInt)},
	{"a High of 10^5 + 1", point(2, 0, 100001)},
	{"a Low and High of 10^5 + 1", point(2, 100001, 100001)},
	{"the greatest High", point(2, 0, math.MaxInt)},
	{"the greatest Low and High", point(2, math.MaxInt, math.MaxInt)},
	{"the greatest Low", point(2, math.MaxInt, 9)},
	{"the least High", point(2, 0, math.MinInt)},
	{"the least and the greatest", point(2, math.MinInt, math.MaxInt)},
	{"Low one above High", point(2, 6, 5)},
	{"Low one above a High of 0", point(2, 1, 0)},
	{"Low above High", point(2, 100000, 0)},
}

// withWrongPoints has lists of each wrong point alone, at the first, a middle and the last place.
func withWrongPoints() map[string][]impl.Point {
	lists := map[string][]impl.Point{}
	for _, c := range wrongPoints {
		lists[c.name] = c.list
	}
	for _, c := range wrongNumbers {
		lists[c.name+", alone"] = []impl.Point{c.point}
		lists[c.name+", at the first"] = []impl.Point{c.point, point(3, 0, 9), point(4, 0, 9)}
		lists[c.name+", in the middle"] = []impl.Point{point(1, 0, 9), c.point, point(4, 0, 9)}
		lists[c.name+", at the last"] = []impl.Point{point(0, 0, 9), point(1, 0, 9), c.point}
		lists[c.name+", behind one that can't be"] = []impl.Point{point(0, 0, 0), point(1, 99999, 99999), c.point}
	}
	return lists
}

func TestWrongPointsAreRefused(t *testing.T) {
	for name, list := range withWrongPoints() {
		if impl.PointsOk(list) {
			t.Errorf("%s: %v is so", name, list)
		}
		for _, slope := range []int{0, 9, 1000, -1, 1001} {
			refusesAll(t, name, list, slope, 5)
			refusesAll(t, name, list, 5, slope)
		}
	}
}

func TestWrongSlopesAreRefused(t *testing.T) {
	lists := [][]impl.Point{points(0, 5, 5), points(0, 0, 10, 2, 0, 10), points(0, 0, 0, 1, 9999, 9999), alikePoints(30, 1, 0, 10)}
	for _, list := range lists {
		for _, wrong := range []int{-1, 1001, -1000, 1 << 32, math.MinInt, math.MinInt + 1, math.MaxInt - 1, math.MaxInt} {
			refusesAll(t, "a wrong up", list, wrong, 5)
			refusesAll(t, "a wrong down", list, 5, wrong)
			refusesAll(t, "both wrong", list, wrong, wrong)
		}
	}
}

func TestReachByHand(t *testing.T) {
	three := points(0, 0, 10, 2, 8, 20, 3, 0, 9)
	reaches(t, "of the first all, of the second what can be come to", three, 2, 3, points(0, 0, 10, 2, 8, 14, 3, 5, 9), -1)
	reaches(t, "flat", three, 0, 0, points(0, 0, 10, 2, 8, 10, 3, 8, 9), -1)
	reaches(t, "up alone", three, 2, 0, points(0, 0, 10, 2, 8, 14, 3, 8, 9), -1)
	reaches(t, "down alone", three, 0, 3, points(0, 0, 10, 2, 8, 10, 3, 5, 9), -1)
	reaches(t, "all bounds are come to", three, 1000, 1000, three, -1)
	reaches(t, "one point", points(9, 5, 7), 0, 0, points(9, 5, 7), -1)
	reaches(t, "one point of one height", points(9, 5, 5), 1000, 1000, points(9, 5, 5), -1)
	reaches(t, "the first far from the begin", points(50, 5, 7, 51, 0, 20), 2, 1, points(50, 5, 7, 51, 4, 9), -1)
	reaches(t, "not below 0", points(0, 5, 5, 10, 0, 100), 1, 1, points(0, 5, 5, 10, 0, 15), -1)
	reaches(t, "not above 10^5", points(0, 99995, 99995, 10, 0, 100000), 1, 1, points(0, 99995, 99995, 10, 99985, 100000), -1)
	reaches(t, "narrowed by a point in the middle", points(0, 0, 100, 1, 50, 50, 2, 0, 100), 3, 4, points(0, 0, 100, 1, 50, 50, 2, 46, 53), -1)
	reaches(t, "narrowed, and come to by a height that can be had alone", points(0, 10, 10, 1, 0, 100, 2, 0, 100), 3, 4, points(0, 10, 10, 1, 6, 13, 2, 2, 16), -1)
	reaches(t, "the units of each pair alone", points(100, 10, 10, 101, 0, 100, 111, 0, 100), 1, 0, points(100, 10, 10, 101, 10, 11, 111, 10, 21), -1)
}

func TestReachBySteepestSlopes(t *testing.T) {
	reaches(t, "flat, from one height", points(0, 7, 7, 100000, 0, 100000), 0, 0, points(0, 7, 7, 100000, 7, 7), -1)
	reaches(t, "up to just 10^5", points(0, 0, 0, 100, 0, 100000), 1000, 0, points(0, 0, 0, 100, 0, 100000), -1)
	reaches(t, "up to 1000 less", points(0, 0, 0, 99, 0, 100000), 1000, 0, points(0, 0, 0, 99, 0, 99000), -1)
	reaches(t, "down to just 0", points(0, 100000, 100000, 100, 0, 100000), 0, 1000, points(0, 100000, 100000, 100, 0, 100000), -1)
	reaches(t, "down to 1000", points(0, 100000, 100000, 99, 0, 100000), 0, 1000, points(0, 100000, 100000, 99, 1000, 100000), -1)
	reaches(t, "as far and as steep as may be", points(0, 0, 100000, 100000, 0, 100000), 1000, 1000, points(0, 0, 100000, 100000, 0, 100000), -1)
	reaches(t, "1000 up by one unit", points(0, 0, 0, 1, 1000, 1000), 1000, 0, points(0, 0, 0, 1, 1000, 1000), -1)
	reaches(t, "1001 up by one unit", points(0, 0, 0, 1, 1001, 1001), 1000, 0, points(0, 0, 0), 1)
	reaches(t, "1000 down by one unit", points(0, 1000, 1000, 1, 0, 0), 0, 1000, points(0, 1000, 1000, 1, 0, 0), -1)
	reaches(t, "1001 down by one unit", points(0, 1001, 1001, 1, 0, 0), 0, 1000, points(0, 1001, 1001), 1)
	reaches(t, "1 up without a slope", points(0, 5, 5, 100000, 6, 6), 0, 1000, points(0, 5, 5), 1)
	reaches(t, "1 down without a slope", points(0, 5, 5, 100000, 4, 4), 1000, 0, points(0, 5, 5), 1)
}

// askedAt is a list of points between 10 and 20 each 4 units behind the other, with other
// bounds at one place; behind that all heights are free.
func askedAt(many, at, low, high int) []impl.Point {
	list := alikePoints(many, 4, 10, 20)
	list[at].Low, list[at].High = low, high
	for i := at + 1; i < many; i++ {
		list[i].Low, list[i].High = 0, 100000
	}
	return list
}

// Promise 13: where there is no profile, the first point is told that cannot be.
func TestPointsThatAreJustMetAndJustMissed(t *testing.T) {
	for _, c := range []struct{ many, at int }{{2, 1}, {3, 1}, {3, 2}, {30, 1}, {30, 2}, {30, 15}, {30, 28}, {30, 29}} {
		for _, met := range [][4]int{{32, 40, 32, 32}, {32, 32, 32, 32}, {31, 40, 31, 32}, {0, 2, 2, 2}, {2, 2, 2, 2}, {0, 3, 2, 3}, {0, 100000, 2, 32}} {
			list := askedAt(c.many, c.at, met[0], met[1])
			got, missed, ok := impl.Reach(list, 3, 2)
			if !ok || missed != -1 || len(got) != c.many || got[c.at] != point(4*c.at, met[2], met[3]) {
				t.Errorf("%v: %v %d %v", list, got, missed, ok)
				continue
			}
			if !slices.Equal(got[:c.at], list[:c.at]) {
				t.Errorf("%v: %v ahead", list, got[:c.at])
			}
			for i := c.at + 1; i < c.many; i++ {
				if want := point(4*i, max(got[i-1].Low-8, 0), got[i-1].High+12); got[i] != want {
					t.Errorf("%v: %v at %d, not %v", list, got[i], i, want)
				}
			}
		}
		for _, missed := range [][2]int{{33, 40}, {33, 33}, {0, 1}, {1, 1}, {0, 0}, {100000, 100000}} {
			list := askedAt(c.many, c.at, missed[0], missed[1])
			reaches(t, "missed", list, 3, 2, list[:c.at], c.at)
			for first := 9; first <= 21; first++ {
				refusesProfile(t, "missed", list, 3, 2, first)
			}
			refusesBest(t, "missed", list, 3, 2)
		}
	}
}

func TestTheFirstPointThatCannotBeIsTold(t *testing.T) {
	list := points(0, 0, 10, 1, 0, 10, 2, 50, 60, 3, 0, 10, 4, 50, 60)
	reaches(t, "several", list, 3, 3, list[:2], 2)
	reaches(t, "one behind it could be had again", list, 60, 3, points(0, 0, 10, 1, 0, 10, 2, 50, 60), 3)
	reaches(t, "what was narrowed ahead is told so", points(0, 5, 5, 1, 0, 100, 2, 90, 100), 3, 2, points(0, 5, 5, 1, 3, 8), 2)
	reaches(t, "heights that are within the bounds, but can't be had, lead to it", points(0, 5, 5, 1, 0, 100, 2, 20, 30), 3, 2, points(0, 5, 5, 1, 3, 8), 2)
	reaches(t, "the second, though the first could do with other bounds", points(0, 1, 9, 1, 0, 0), 9, 0, points(0, 1, 9), 1)
}

// Heights that can be had at a point are told by Reach, be it that they lead on or not.
func TestHeightsThatDoNotLeadOn(t *testing.T) {
	list := points(0, 0, 100, 1, 0, 100, 2, 50, 52)
	reaches(t, "those that do not lead on are told", list, 2, 3, list, -1)
	goesThrough(t, "the least that leads on", list, 2, 3, 46, 46, 48, 50)
	goesThrough(t, "the greatest that leads on", list, 2, 3, 58, 58, 55, 52)
	refusesProfile(t, "one below", list, 2, 3, 45)
	refusesProfile(t, "one above", list, 2, 3, 59)
	isBest(t, "the least of those that stay", list, 2, 3, 50)
}

func TestProfilesByHand(t *testing.T) {
	list := points(0, 0, 10, 2, 8, 20, 3, 0, 9)
	goesThrough(t, "the least", list, 2, 3, 4, 4, 8, 8)
	goesThrough(t, "it may stay", list, 2, 3, 8, 8, 8, 8)
	goesThrough(t, "it may stay, at the next height", list, 2, 3, 9, 9, 9, 9)
	goesThrough(t, "the greatest", list, 2, 3, 10, 10, 10, 9)
	refusesProfile(t, "one below", list, 2, 3, 3)
	refusesProfile(t, "one above", list, 2, 3, 11)
	goesThrough(t, "one point", points(5, 3, 7), 0, 0, 3, 3)
	goesThrough(t, "one point, its greatest", points(5, 3, 7), 0, 0, 7, 7)
	refusesProfile(t, "one point, one below", points(5, 3, 7), 1000, 1000, 2)
	refusesProfile(t, "one point, one above", points(5, 3, 7), 1000, 1000, 8)
	goesThrough(t, "0", points(0, 0, 0, 1, 0, 0), 0, 0, 0, 0, 0)
	goesThrough(t, "10^5", points(0, 100000, 100000, 1, 100000, 100000), 0, 0, 100000, 100000, 100000)
	goesThrough(t, "from 0 to 10^5", points(0, 0, 0, 100, 100000, 100000), 1000, 0, 0, 0, 100000)
	refusesProfile(t, "from 0 to 10^5 in 99", points(0, 0, 0, 99, 100000, 100000), 1000, 0, 0)
	goesThrough(t, "from 10^5 to 0", points(0, 100000, 100000, 100, 0, 0), 0, 1000, 100000, 100000, 0)
	refusesProfile(t, "from 10^5 to 0 in 99", points(0, 100000, 100000, 99, 0, 0), 0, 1000, 100000)
	for _, first := range []int{-1, 100001, math.MinInt, math.MinInt + 1, math.MaxInt - 1, math.MaxInt} {
		refusesProfile(t, "a first height out of all bounds", list, 2, 3, first)
		refusesProfile(t, "a first height out of all bounds, where all is free", points(0, 0, 100000, 1, 0, 100000), 1000, 1000, first)
		refusesProfile(t, "a first height out of all bounds, one point", points(0, 0, 100000), 1000, 1000, first)
	}
}

func TestProfilesBeginAheadOfThePointThatAsks(t *testing.T) {
	rise := points(0, 0, 100, 10, 0, 100, 11, 0, 100, 13, 50, 60)
	goesThrough(t, "it rises as late as may be", rise, 1, 1, 45, 45, 47, 48, 50)
	goesThrough(t, "it rises at the last", rise, 1, 1, 48, 48, 48, 48, 50)
	goesThrough(t, "it rises from the last but one on", rise, 1, 1, 47, 47, 47, 48, 50)
	goesThrough(t, "it stays", rise, 1, 1, 50, 50, 50, 50, 50)
	goesThrough(t, "it stays at the top", rise, 1, 1, 60, 60, 60, 60, 60)
	goesThrough(t, "it falls at the last", rise, 1, 1, 62, 62, 62, 62, 60)
	goesThrough(t, "the least", rise, 1, 1, 37, 37, 47, 48, 50)
	goesThrough(t, "the greatest", rise, 1, 1, 73, 73, 63, 62, 60)
	refusesProfile(t, "one below the least", rise, 1, 1, 36)
	refusesProfile(t, "one above the greatest", rise, 1, 1, 74)
	fall := points(0, 0, 100, 10, 0, 100, 11, 0, 100, 13, 40, 50)
	goesThrough(t, "it falls as late as may be", fall, 1, 1, 55, 55, 53, 52, 50)
	goesThrough(t, "it falls at the last", fall, 1, 1, 52, 52, 52, 52, 50)
	goesThrough(t, "it falls by other slopes than it rises", fall, 9, 2, 60, 60, 56, 54, 50)
	both := points(0, 0, 30, 5, 20, 30, 10, 0, 30, 15, 0, 5, 20, 0, 30, 25, 25, 25)
	goesThrough(t, "up, down and up again", both, 4, 3, 10, 10, 20, 20, 5, 5, 25)
	goesThrough(t, "from below", both, 4, 3, 0, 0, 20, 20, 5, 5, 25)
	goesThrough(t, "from above", both, 4, 3, 30, 30, 30, 20, 5, 5, 25)
	goesThrough(t, "down ahead of its time", both, 4, 2, 30, 30, 25, 15, 5, 5, 25)
}

func TestBestByHand(t *testing.T) {
	isBest(t, "several stay", points(0, 0, 10, 2, 8, 20, 3, 0, 9), 2, 3, 8)
	isBest(t, "several stay, within", points(0, 0, 10, 1, 3, 9, 2, 2, 7), 9, 9, 3)
	isBest(t, "all stay", points(0, 4, 10, 1, 0, 20), 9, 9, 4)
	isBest(t, "one point", points(0, 4, 10), 0, 0, 4)
	isBest(t, "one point of one height", points(3, 10, 10), 0, 0, 10)
	isBest(t, "the greatest, as all must rise", points(0, 0, 10, 1, 20, 30), 30, 0, 10)
	isBest(t, "the least, as all must fall", points(0, 5, 10, 1, 0, 2), 0, 30, 5)
	isBest(t, "one height alone leads through, from below", points(0, 0, 10, 1, 13, 13), 3, 0, 10)
	isBest(t, "one height alone leads through, from above", points(0, 5, 10, 1, 2, 2), 0, 3, 5)
	isBest(t, "one height alone leads through, in the middle", points(0, 0, 10, 1, 0, 10, 2, 6, 6), 0, 0, 6)
	isBest(t, "one height alone, and it must rise and fall", points(0, 0, 10, 1, 13, 20, 2, 0, 8), 3, 5, 10)
	isBest(t, "it falls less than it rises", points(0, 0, 40, 1, 10, 12, 2, 30, 30), 30, 30, 12)
	isBest(t, "the height 0", points(0, 0, 40, 1, 0, 0), 30, 30, 0)
	refusesBest(t, "none leads through", points(0, 0, 10, 1, 14, 14), 3, 0)
	refusesBest(t, "none leads through all", points(0, 0, 10, 1, 0, 10, 2, 13, 20, 3, 0, 8), 3, 4)
}

func TestBestOfAHighOf300(t *testing.T) {
	isBest(t, "300", points(0, 0, 300), 0, 0, 0)
	isBest(t, "300 alone", points(0, 300, 300), 0, 0, 300)
	isBest(t, "300 alone leads on", points(0, 0, 300, 1, 1300, 100000), 1000, 0, 300)
	refusesBest(t, "301", points(0, 0, 301), 0, 0)
	refusesBest(t, "301 alone", points(0, 301, 301), 0, 0)
	refusesBest(t, "301, though a lesser height is best", points(0, 0, 301, 1, 5, 5), 1000, 1000)
	refusesBest(t, "301, though it does not lead on", points(0, 0, 301, 1, 5, 5), 1, 1)
	refusesBest(t, "10^5", points(0, 0, 100000, 1, 5, 5), 1000, 1000)
	isBest(t, "301 at the second", points(0, 0, 300, 1, 301, 301), 1000, 0, 300)
	isBest(t, "10^5 at the second", points(0, 0, 300, 100, 100000, 100000), 1000, 0, 300)
	goesThrough(t, "the bound is that of Best alone", points(0, 301, 301), 0, 0, 301, 301)
}

func TestDescentByHand(t *testing.T) {
	for _, c := range []struct{ height, slope, far, want int }{
		{31, 4, 20, 12}, {32, 4, 20, 12}, {33, 4, 20, 11}, {4, 4, 20, 19}, {5, 4, 20, 18}, {3, 4, 20, 19}, {1, 4, 20, 19},
		{0, 4, 20, 20}, {0, 1, 0, 0}, {0, 1000, 100000, 100000}, {1, 1000, 1, 0}, {1000, 1000, 1, 0}, {1001, 1000, 2, 0},
		{80, 4, 20, 0}, {77, 4, 20, 0}, {76, 4, 20, 1}, {20, 1, 20, 0}, {19, 1, 20, 1},
		{100000, 1, 100000, 0}, {99999, 1, 100000, 1}, {100000, 1000, 100, 0}, {100000, 1000, 100000, 99900},
		{99001, 1000, 100, 0}, {99000, 1000, 100, 1}, {100000, 999, 101, 0}, {99900, 999, 101, 1},
	} {
		if got, ok := impl.Descent(c.height, c.slope, c.far); got != c.want || !ok {
			t.Errorf("%+v: %d %v", c, got, ok)
		}
	}
	for _, c := range [][3]int{
		{81, 4, 20}, {84, 4, 20}, {85, 4, 20}, {1, 1, 0}, {1, 1000, 0}, {1001, 1000, 1}, {100000, 1, 99999}, {100000, 1, 0}, {100000, 1000, 99}, {21, 1, 20},
		{-1, 4, 20}, {100001, 4, 100000}, {math.MinInt, 4, 20}, {math.MaxInt, 4, 20}, {math.MaxInt, 1000, 100000},
		{0, 0, 20}, {10, 0, 20}, {10, -1, 20}, {0, -1, 20}, {10, 1001, 20}, {0, 1001, 20}, {10, math.MinInt, 20}, {10, math.MaxInt, 20},
		{0, 4, -1}, {10, 4, -1}, {10, 4, 100001}, {0, 4, 100001}, {10, 4, math.MinInt}, {10, 4, math.MaxInt},
		{math.MinInt, math.MinInt, math.MinInt}, {math.MaxInt, math.MaxInt, math.MaxInt}, {-1, 0, -1}, {math.MinInt, -1, 0},
	} {
		if got, ok := impl.Descent(c[0], c[1], c[2]); got != 0 || ok {
			t.Errorf("%v: %d %v", c, got, ok)
		}
	}
}

func TestDescentIsAsTheWordsSay(t *testing.T) {
	asks := func(height, slope, far int) {
		got, ok := impl.Descent(height, slope, far)
		if want, wantOk := descentByWords(height, slope, far); got != want || ok != wantOk {
			t.Fatalf("%d by %d in %d: %d %v, not %d %v", height, slope, far, got, ok, want, wantOk)
		}
	}
	for height := -1; height <= 60; height++ {
		for slope := -1; slope <= 20; slope++ {
			for far := -1; far <= 20; far++ {
				asks(height, slope, far)
			}
		}
	}
	r := rand.New(rand.NewSource(130))
	for range 3000 {
		asks(r.Intn(100010)-4, 1+r.Intn(1+r.Intn(1001)), r.Intn(100010)-4)
	}
}

// pointsFrom has low points, so that their heights can be gone through, that often leave
// few heights.
func pointsFrom(r *rand.Rand, many, high int) []impl.Point {
	var list []impl.Point
	far := r.Intn(3)
	for range many {
		low := r.Intn(high + 1)
		wide := r.Intn(1 + r.Intn(high+1))
		list = append(list, point(far, low, min(low+wide, high)))
		far += 1 + r.Intn(1+r.Intn(4))
	}
	return list
}

func slopesFrom(r *rand.Rand) (int, int) { return r.Intn(1 + r.Intn(8)), r.Intn(1 + r.Intn(8)) }

func TestProfilesAreAsTheWordsSay(t *testing.T) {
	r := rand.New(rand.NewSource(131))
	missed, led, unled := map[int]int{}, 0, 0
	for range 20000 {
		list := pointsFrom(r, 1+r.Intn(1+r.Intn(9)), 1+r.Intn(25))
		up, down := slopesFrom(r)
		want, at, _ := reachByWords(list, up, down)
		reaches(t, "by chance", list, up, down, want, at)
		missed[at]++
		for first := -1; first <= list[0].High+1; first++ {
			way, ok := profileByWords(list, up, down, first)
			if ok {
				goesThrough(t, "by chance", list, up, down, first, way...)
				led++
			} else {
				refusesProfile(t, "by chance", list, up, down, first)
				unled++
			}
		}
		if best, ok := bestByWords(list, up, down); ok {
			isBest(t, "by chance", list, up, down, best)
		} else {
			refusesBest(t, "by chance", list, up, down)
		}
		if t.Failed() {
			return
		}
	}
	if missed[-1] < 2000 || missed[1] < 2000 || missed[2] < 500 || missed[3] < 200 || missed[4] < 100 || led < 10000 || unled < 10000 {
		t.Error("too few of a kind:", missed, led, unled)
	}
}

// Every list of three points of small heights.
func TestEverySmallProfileIsAsTheWordsSay(t *testing.T) {
	var bounds [][2]int
	for low := range 4 {
		for high := low; high < 4; high++ {
			bounds = append(bounds, [2]int{low, high})
		}
	}
	for _, a := range bounds {
		for _, b := range bounds {
			for _, c := range bounds {
				list := points(0, a[0], a[1], 1, b[0], b[1], 3, c[0], c[1])
				for slopes := range 9 {
					up, down := slopes/3, slopes%3
					want, at, _ := reachByWords(list, up, down)
					reaches(t, "small", list, up, down, want, at)
					for first := range 4 {
						way, ok := profileByWords(list, up, down, first)
						if got, told := impl.Profile(list, up, down, first); !slices.Equal(got, way) || told != ok {
							t.Fatalf("%v by %d and %d from %d: %v %v, not %v %v", list, up, down, first, got, told, way, ok)
						}
					}
					best, ok := bestByWords(list, up, down)
					if got, told := impl.Best(list, up, down); got != best || told != ok {
						t.Fatalf("%v by %d and %d: %d %v, not %d %v", list, up, down, got, told, best, ok)
					}
				}
			}
		}
	}
}

// widePointsFrom has points all over their bounds, near a way that can be gone.
func widePointsFrom(r *rand.Rand, up, down int) []impl.Point {
	many := 1 + r.Intn(30)
	var list []impl.Point
	far, height := r.Intn(100), r.Intn(100001)
	for range many {
		low, high := max(height-r.Intn(3000), 0), min(height+r.Intn(3000), 100000)
		list = append(list, point(far, low, high))
		units := 1 + r.Intn(1+r.Intn(3000))
		far += units
		height = max(min(height+r.Intn(units*(up+down)+1)-units*down+(r.Intn(41)-20)*(r.Intn(3)/2)*1000, 100000), 0)
	}
	return list
}

// Promise 13: a profile keeps all bounds and slopes.
func TestProfilesKeepAllBoundsAndSlopes(t *testing.T) {
	r := rand.New(rand.NewSource(132))
	through, blocked := 0, 0
	for range 20000 {
		up, down := r.Intn(1+r.Intn(1001)), r.Intn(1+r.Intn(1001))
		list := widePointsFrom(r, up, down)
		want, at := wideReachByWords(list, up, down)
		reaches(t, "wide", list, up, down, want, at)
		if at != -1 {
			blocked++
			refusesProfile(t, "blocked", list, up, down, list[0].Low)
			refusesProfile(t, "blocked", list, up, down, list[0].High)
			continue
		}
		through++
		leading := wideLeadingByWords(list, up, down)
		refusesProfile(t, "one below", list, up, down, leading[0].Low-1)
		refusesProfile(t, "one above", list, up, down, leading[0].High+1)
		for _, first := range []int{leading[0].Low, leading[0].High, (leading[0].Low + leading[0].High) / 2} {
			way, ok := impl.Profile(list, up, down, first)
			if !ok || len(way) != len(list) || way[0] != first {
				t.Fatalf("%v by %d and %d from %d: %v %v", list, up, down, first, way, ok)
			}
			for i, h := range way {
				if h < list[i].Low || h > list[i].High || i > 0 && !mayFollow(list[i-1], list[i], way[i-1], h, up, down) {
					t.Fatalf("%v by %d and %d: %v at %d", list, up, down, way, i)
				}
				if i > 0 && h != way[i-1] && h != leading[i].Low && h != leading[i].High {
					t.Fatalf("%v by %d and %d: %v changes without need at %d", list, up, down, way, i)
				}
			}
		}
		if t.Failed() {
			return
		}
	}
	if through < 3000 || blocked < 3000 {
		t.Error("too few of a kind:", through, blocked)
	}
}

func TestAProfileGoesOnFromItsMiddle(t *testing.T) {
	r := rand.New(rand.NewSource(133))
	gone := 0
	for range 5000 {
		up, down := 1+r.Intn(1000), 1+r.Intn(1000)
		list := widePointsFrom(r, up, down)
		leading := wideLeadingByWords(list, up, down)
		way, ok := impl.Profile(list, up, down, leading[0].Low)
		if !ok {
			continue
		}
		gone++
		cut := r.Intn(len(list))
		goesThrough(t, "from the middle", list[cut:], up, down, way[cut], way[cut:]...)
	}
	if gone < 500 {
		t.Error("too few gone:", gone)
	}
}

// Where heights are turned upside down, up is down.
func TestReachUpsideDown(t *testing.T) {
	r := rand.New(rand.NewSource(134))
	for range 3000 {
		list := pointsFrom(r, 1+r.Intn(9), 60)
		up, down := slopesFrom(r)
		over := func(list []impl.Point) []impl.Point {
			var turned []impl.Point
			for _, p := range list {
				turned = append(turned, point(p.Far, 100-p.High, 100-p.Low))
			}
			return turned
		}
		had, at, _ := impl.Reach(list, up, down)
		reaches(t, "upside down", over(list), down, up, over(had), at)
	}
}

// With greater slopes no less can be had.
func TestGreaterSlopesLeaveNoLess(t *testing.T) {
	r := rand.New(rand.NewSource(135))
	for range 5000 {
		list := pointsFrom(r, 1+r.Intn(9), 60)
		up, down := slopesFrom(r)
		less, lessAt, _ := impl.Reach(list, up, down)
		more, moreAt, _ := impl.Reach(list, up+r.Intn(3), down+r.Intn(3))
		if len(more) < len(less) || moreAt != -1 && (lessAt == -1 || moreAt < lessAt) {
			t.Fatalf("%v: %v %d, then %v %d", list, less, lessAt, more, moreAt)
		}
		for i, p := range less {
			if more[i].Low > p.Low || more[i].High < p.High {
				t.Fatalf("%v: %v, then %v", list, less, more)
			}
		}
	}
}

func TestProfilesWriteIntoNoArgument(t *testing.T) {
	wild := point(math.MaxInt, math.MaxInt, math.MinInt)
	r := rand.New(rand.NewSource(136))
	for range 2000 {
		list := pointsFrom(r, 1+r.Intn(9), 40)
		wide := append(slices.Clone(list), wild, wild)
		whole := slices.Clone(wide)
		up, down := slopesFrom(r)
		want, at, _ := reachByWords(list, up, down)
		reaches(t, "with room behind", wide[:len(list)], up, down, want, at)
		best, ok := impl.Best(list, up, down)
		if best2, ok2 := impl.Best(wide[:len(list)], up, down); best != best2 || ok != ok2 || !impl.PointsOk(wide[:len(list)]) {
			t.Fatal("what lies behind the points is read:", best, best2)
		}
		had, _, _ := impl.Reach(wide[:len(list)], up, down)
		way, _ := impl.Profile(wide[:len(list)], up, down, best)
		kept := slices.Clone(way)
		for i := range had {
			had[i] = wild
		}
		for i := range way {
			way[i] = -1
		}
		_, _ = append(had, wild), append(way, -1)
		if !slices.Equal(wide, whole) {
			t.Fatal("written into the points, or an answer shares memory with them")
		}
		reaches(t, "behind an answer that was written over", list, up, down, want, at)
		if again, _ := impl.Profile(list, up, down, best); !slices.Equal(again, kept) {
			t.Fatal("heights of one answer are those of another:", again, kept)
		}
	}
}

// The document's 'Ways': heights that can be had are told by a function with a deferred
// step back.
func TestProfilesAreBuiltTheirWay(t *testing.T) {
	file, err := parser.ParseFile(token.NewFileSet(), "../impl/l13_profile.go", nil, 0)
	if err != nil {
		t.Fatal(err)
	}
	bodies := map[string]*ast.BlockStmt{}
	for _, d := range file.Decls {
		if f, ok := d.(*ast.FuncDecl); ok {
			bodies[f.Name.Name] = f.Body
		}
	}
	for _, name := range []string{"Reach", "Profile", "Best"} {
		if !defersWithin(bodies, name, map[string]bool{}) {
			t.Error(name, "has no deferred step")
		}
	}
}

// defersWithin follows calls by their names.
func defersWithin(bodies map[string]*ast.BlockStmt, name string, seen map[string]bool) bool {
	if seen[name] || bodies[name] == nil {
		return false
	}
	seen[name] = true
	found := false
	ast.Inspect(bodies[name], func(n ast.Node) bool {
		switch x := n.(type) {
		case *ast.DeferStmt:
			found = true
		case *ast.CallExpr:
			switch f := x.Fun.(type) {
			case *ast.Ident:
				found = found || defersWithin(bodies, f.Name, seen)
			case *ast.SelectorExpr:
				found = found || defersWithin(bodies, f.Sel.Name, seen)
			}
		}
		return true
	})
	return found
}
