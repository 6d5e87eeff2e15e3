package tests

import (
	"go/ast"
	"go/parser"
	"go/token"
	"math"
	"math/rand"
	"slices"
	"testing"

	"loop.example/g00063/impl"
)

const (
	none15 = impl.SenseNone
	up15   = impl.SenseUp
	down15 = impl.SenseDown
)

// bounded is a number of an aircraft, or of what is asked of it, with the
// bounds that the document gives it.
type bounded struct {
	name string
	low  int
	high int
}

// beyond has the numbers one beyond the bounds, and those at which a careless
// sum or product would wrap round.
func (b bounded) beyond() []int {
	return []int{b.low - 1, b.high + 1, math.MinInt, math.MinInt + 1, -1 << 32, 1 << 32, math.MaxInt - 1, math.MaxInt}
}

func (b bounded) edges() []int { return []int{b.low, b.low + 1, b.high - 1, b.high} }

var (
	idBounds     = bounded{"Id", 1, 1000000}
	heightBounds = bounded{"Height", 0, 60000}
	climbBounds  = bounded{"Climb", -200, 200}
	senseBounds  = bounded{"Sense", 0, 2}
	rangeBounds  = bounded{"Range", 0, 1000000}
	closeBounds  = bounded{"Close", -1000, 1000}
	nearBounds   = bounded{"near", 0, 10000}
	withinBounds = bounded{"within", 1, 300}
)

func (b bounded) has(n int) bool { return n >= b.low && n <= b.high }

// numberOfTrack is where a track's number of that name stands.
func numberOfTrack(t *impl.Track, name string) *int {
	return map[string]*int{"Id": &t.Id, "Height": &t.Height, "Climb": &t.Climb,
		"Range": &t.Range, "Close": &t.Close, "Sense": &t.Sense}[name]
}

func numberOfOwn(o *impl.Own, name string) *int {
	return map[string]*int{"Id": &o.Id, "Height": &o.Height, "Climb": &o.Climb, "Sense": &o.Sense}[name]
}

var ofOwn = []bounded{idBounds, heightBounds, climbBounds, senseBounds}

var ofTrack = append(slices.Clone(ofOwn), rangeBounds, closeBounds)

func trackIsSo(t impl.Track) bool {
	for _, b := range ofTrack {
		if !b.has(*numberOfTrack(&t, b.name)) {
			return false
		}
	}
	return true
}

func ownIsSo(o impl.Own) bool {
	for _, b := range ofOwn {
		if !b.has(*numberOfOwn(&o, b.name)) {
			return false
		}
	}
	return true
}

// ticksByWords lets the range fall tick by tick.
func ticksByWords(t impl.Track) (int, bool) {
	if !trackIsSo(t) || t.Close < 1 {
		return 0, false
	}
	ticks := 0
	for left := t.Range; left > 0; left -= t.Close {
		ticks++
	}
	return ticks, true
}

// flownFor climbs tick by tick.
func flownFor(height, climb, ticks int) int {
	for range ticks {
		height += climb
	}
	return height
}

func threatByWords(o impl.Own, t impl.Track, near, within int) bool {
	if !ownIsSo(o) || !trackIsSo(t) || o.Id == t.Id || !nearBounds.has(near) || !withinBounds.has(within) {
		return false
	}
	ticks, comes := ticksByWords(t)
	if !comes || ticks > within {
		return false
	}
	mine, its := flownFor(o.Height, o.Climb, ticks), flownFor(t.Height, t.Climb, ticks)
	return max(mine, its)-min(mine, its) < near
}

func adviseByWords(o impl.Own, t impl.Track, near, within int) int {
	if !threatByWords(o, t, near, within) {
		return none15
	}
	if o.Sense != none15 {
		return o.Sense
	}
	if t.Sense != none15 {
		return map[int]int{up15: down15, down15: up15}[t.Sense]
	}
	ticks, _ := ticksByWords(t)
	its := flownFor(t.Height, t.Climb, ticks)
	apart := func(push int) int {
		mine := flownFor(o.Height, o.Climb, ticks) + ticks*push
		return max(mine, its) - min(mine, its)
	}
	switch up, down := apart(100), apart(-100); {
	case up > down:
		return up15
	case down > up:
		return down15
	case o.Height > t.Height || o.Height == t.Height && o.Id > t.Id:
		return up15
	}
	return down15
}

func trackOf15(o impl.Own, far, close int) impl.Track {
	return impl.Track{Id: o.Id, Height: o.Height, Climb: o.Climb, Range: far, Close: close, Sense: o.Sense}
}

func pairByWords(a, b impl.Own, far, close, near, within int) (int, int, bool) {
	numbers := rangeBounds.has(far) && closeBounds.has(close) && nearBounds.has(near) && withinBounds.has(within)
	if !ownIsSo(a) || !ownIsSo(b) || a.Id == b.Id || !numbers {
		return 0, 0, false
	}
	if a.Id > b.Id {
		forB, forA, ok := pairByWords(b, a, far, close, near, within)
		return forA, forB, ok
	}
	forA := adviseByWords(a, trackOf15(b, far, close), near, within)
	now := a
	if forA != none15 {
		now.Sense = forA
	}
	return forA, adviseByWords(b, trackOf15(now, far, close), near, within), true
}

func nearestByWords(o impl.Own, list []impl.Track, near, within int) (int, bool) {
	if len(list) > 20 {
		return -1, false
	}
	var threats []int
	for i, t := range list {
		if threatByWords(o, t, near, within) {
			threats = append(threats, i)
		}
	}
	if len(threats) == 0 {
		return -1, false
	}
	slices.SortStableFunc(threats, func(i, j int) int {
		ticksOfI, _ := ticksByWords(list[i])
		ticksOfJ, _ := ticksByWords(list[j])
		return ticksOfI - ticksOfJ
	})
	return threats[0], true
}

func alertByWords(ground []int, height, climb, margin int) (int, bool) {
	so := len(ground) < 201 && height >= -1000 && height <= 60000 && climb >= -200 && climb <= 200 && margin >= 0 && margin <= 5000
	if !so || slices.ContainsFunc(ground, func(g int) bool { return g < -1000 || g > 60000 }) {
		return -1, false
	}
	for tick := range ground {
		if flownFor(height, climb, tick)-ground[tick] < margin {
			return tick, true
		}
	}
	return -1, false
}

func plainOwn() impl.Own { return impl.Own{Id: 5, Height: 1000, Climb: 3} }

func plainTrack() impl.Track {
	return impl.Track{Id: 7, Height: 1020, Climb: -2, Range: 100, Close: 30}
}

func TestSensesAreTheirNumbers(t *testing.T) {
	if none15 != 0 || up15 != 1 || down15 != 2 || impl.MaxTracks != 20 {
		t.Error(none15, up15, down15, impl.MaxTracks)
	}
}

func TestTrackOkAtBounds(t *testing.T) {
	if !impl.TrackOk(plainTrack()) || impl.TrackOk(impl.Track{}) || !impl.TrackOk(impl.Track{Id: 1}) {
		t.Error("a plain one, the zero value, and one with an Id")
	}
	for _, b := range ofTrack {
		for _, n := range b.edges() {
			tr := plainTrack()
			*numberOfTrack(&tr, b.name) = n
			if !impl.TrackOk(tr) {
				t.Errorf("%s %d is refused", b.name, n)
			}
		}
		for _, n := range b.beyond() {
			tr := plainTrack()
			*numberOfTrack(&tr, b.name) = n
			if impl.TrackOk(tr) {
				t.Errorf("%s %d is taken", b.name, n)
			}
		}
	}
}

func TestOwnOkAtBounds(t *testing.T) {
	if !impl.OwnOk(plainOwn()) || impl.OwnOk(impl.Own{}) || !impl.OwnOk(impl.Own{Id: 1}) {
		t.Error("a plain one, the zero value, and one with an Id")
	}
	for _, b := range ofOwn {
		for _, n := range b.edges() {
			o := plainOwn()
			*numberOfOwn(&o, b.name) = n
			if !impl.OwnOk(o) {
				t.Errorf("%s %d is refused", b.name, n)
			}
		}
		for _, n := range b.beyond() {
			o := plainOwn()
			*numberOfOwn(&o, b.name) = n
			if impl.OwnOk(o) {
				t.Errorf("%s %d is taken", b.name, n)
			}
		}
	}
}

func TestTicksToByHand(t *testing.T) {
	cases := []struct{ far, close, want int }{
		{0, 1, 0}, {0, 1000, 0}, {1, 1, 1}, {1, 1000, 1}, {999, 1000, 1}, {1000, 1000, 1}, {1001, 1000, 2},
		{1000000, 1, 1000000}, {1000000, 1000, 1000}, {999001, 1000, 1000}, {999000, 1000, 999},
		{95, 10, 10}, {90, 10, 9}, {91, 10, 10}, {99, 10, 10}, {100, 10, 10}, {101, 10, 11}, {7, 3, 3}, {6, 3, 2},
	}
	for _, c := range cases {
		tr := plainTrack()
		tr.Range, tr.Close = c.far, c.close
		if n, ok := impl.TicksTo(tr); n != c.want || !ok {
			t.Errorf("%d by %d: %d %v, not %d", c.far, c.close, n, ok, c.want)
		}
	}
}

func TestTicksToRefuses(t *testing.T) {
	refuses := func(tr impl.Track) {
		t.Helper()
		if n, ok := impl.TicksTo(tr); n != 0 || ok {
			t.Errorf("%v: %d %v", tr, n, ok)
		}
	}
	for _, close := range []int{0, -1, -999, -1000} {
		for _, far := range []int{0, 1, 50, 1000000} {
			tr := plainTrack()
			tr.Range, tr.Close = far, close
			refuses(tr)
		}
	}
	for _, b := range ofTrack {
		for _, n := range b.beyond() {
			tr := plainTrack()
			*numberOfTrack(&tr, b.name) = n
			refuses(tr)
		}
	}
}

func TestThreatByHand(t *testing.T) {
	// In 4 ticks: 1012 and 1012, so their heights then are 0 apart.
	o, tr := plainOwn(), plainTrack()
	higher := func(by int) impl.Own { return impl.Own{Id: 5, Height: 1000 + by, Climb: 3} }
	there := tr
	there.Range = 0
	cases := []struct {
		name         string
		own          impl.Own
		track        impl.Track
		near, within int
		want         bool
	}{
		{"ticks just within", o, tr, 1, 4, true},
		{"one tick too many", o, tr, 1, 3, false},
		{"near of 0", o, tr, 0, 300, false},
		{"near of 1", o, tr, 1, 300, true},
		{"above by near", higher(50), tr, 50, 300, false},
		{"above by one less", higher(49), tr, 50, 300, true},
		{"above by one more", higher(51), tr, 50, 300, false},
		{"below by near", higher(-50), tr, 50, 300, false},
		{"below by one less", higher(-49), tr, 50, 300, true},
		{"below by one more", higher(-51), tr, 50, 300, false},
		{"greatest near", higher(9999), tr, 10000, 300, true},
		{"by the greatest near", higher(10000), tr, 10000, 300, false},
		{"within of 1, at the range of 0", o, there, 21, 1, true},
		{"heights of now at the range of 0", o, there, 20, 1, false},
		{"within of 1, in one tick", impl.Own{Id: 1}, impl.Track{Id: 2, Range: 30, Close: 30}, 1, 1, true},
		{"within of 1, in two ticks", impl.Own{Id: 1}, impl.Track{Id: 2, Range: 31, Close: 30}, 1, 1, false},
		{"within of 300, in 300", impl.Own{Id: 1}, impl.Track{Id: 2, Range: 300, Close: 1}, 1, 300, true},
		{"within of 300, in 301", impl.Own{Id: 1}, impl.Track{Id: 2, Range: 301, Close: 1}, 1, 300, false},
		{"Ids alike", impl.Own{Id: 7, Height: 1000, Climb: 3}, tr, 500, 300, false},
		{"far above the highest then", impl.Own{Id: 1, Height: 60000, Climb: 200}, impl.Track{Id: 2, Height: 60000, Climb: 200, Range: 300, Close: 1}, 1, 300, true},
		{"apart with the fastest climbs", impl.Own{Id: 1, Height: 60000, Climb: 200}, impl.Track{Id: 2, Height: 0, Climb: -200, Range: 300, Close: 1}, 10000, 300, false},
		{"across with the fastest climbs", impl.Own{Id: 1, Height: 0, Climb: 200}, impl.Track{Id: 2, Height: 60000, Climb: -200, Range: 150, Close: 1}, 1, 300, true},
		{"not any more", o, impl.Track{Id: 7, Height: 1020, Climb: -2, Range: 100}, 10000, 300, false},
		{"gone by", o, impl.Track{Id: 7, Height: 1020, Climb: -2, Range: 0, Close: -30}, 10000, 300, false},
	}
	for _, c := range cases {
		if got := impl.Threat(c.own, c.track, c.near, c.within); got != c.want {
			t.Errorf("%s: %v", c.name, got)
		}
	}
	for _, sense := range []int{none15, up15, down15} {
		o.Sense, tr.Sense = sense, down15-sense
		if !impl.Threat(o, tr, 1, 4) {
			t.Errorf("a threat goes away with the senses %d, %d", o.Sense, tr.Sense)
		}
	}
}

// spoiltMeetings hands on a meeting that is a threat with one number of it
// that is not so.
func spoiltMeetings(use func(o impl.Own, tr impl.Track, near, within int)) {
	for _, b := range ofOwn {
		for _, n := range b.beyond() {
			o := plainOwn()
			*numberOfOwn(&o, b.name) = n
			use(o, plainTrack(), 500, 20)
		}
	}
	for _, b := range ofTrack {
		for _, n := range b.beyond() {
			tr := plainTrack()
			*numberOfTrack(&tr, b.name) = n
			use(plainOwn(), tr, 500, 20)
		}
	}
	for _, near := range nearBounds.beyond() {
		use(plainOwn(), plainTrack(), near, 20)
	}
	for _, within := range withinBounds.beyond() {
		use(plainOwn(), plainTrack(), 500, within)
	}
	o := plainOwn()
	o.Id = plainTrack().Id
	use(o, plainTrack(), 500, 20)
}

func TestWrongMeetingsAreNoThreat(t *testing.T) {
	if !impl.Threat(plainOwn(), plainTrack(), 500, 20) || impl.Advise(plainOwn(), plainTrack(), 500, 20) == none15 {
		t.Fatal("the plain meeting is no threat")
	}
	spoiltMeetings(func(o impl.Own, tr impl.Track, near, within int) {
		if impl.Threat(o, tr, near, within) {
			t.Errorf("a threat: %v %v %d %d", o, tr, near, within)
		}
		for _, sense := range []int{none15, up15, down15} {
			told := tr
			if tr.Sense == none15 {
				told.Sense = sense
			}
			if s := impl.Advise(o, told, near, within); s != none15 {
				t.Errorf("advised %d: %v %v %d %d", s, o, told, near, within)
			}
		}
		if i, ok := impl.Nearest(o, []impl.Track{tr}, near, within); i != -1 || ok {
			t.Errorf("nearest %d %v: %v %v %d %d", i, ok, o, tr, near, within)
		}
	})
}

func TestAdviseByHand(t *testing.T) {
	own := func(id, height, climb, sense int) impl.Own {
		return impl.Own{Id: id, Height: height, Climb: climb, Sense: sense}
	}
	// The other one has Id 50 and stands at 1000; with Close 10 it is there in far by 10 ticks.
	other := func(climb, far, sense int) impl.Track {
		return impl.Track{Id: 50, Height: 1000, Climb: climb, Range: far, Close: 10, Sense: sense}
	}
	cases := []struct {
		name  string
		own   impl.Own
		track impl.Track
		want  int
	}{
		{"o keeps up", own(1, 900, 0, up15), other(0, 40, none15), up15},
		{"o keeps down", own(1, 1100, 0, down15), other(0, 40, none15), down15},
		{"o keeps up against up", own(1, 1100, 0, up15), other(0, 40, up15), up15},
		{"o keeps down against down", own(1, 1100, 0, down15), other(0, 40, down15), down15},
		{"t goes up", own(1, 1100, 0, none15), other(0, 40, up15), down15},
		{"t goes down", own(1, 900, 0, none15), other(0, 40, down15), up15},
		{"above then", own(1, 1001, 0, none15), other(0, 40, none15), up15},
		{"below then", own(99, 999, 0, none15), other(0, 40, none15), down15},
		{"above now, below then", own(99, 1010, -3, none15), other(0, 40, none15), down15},
		{"below now, above then", own(1, 990, 3, none15), other(0, 40, none15), up15},
		{"t climbs past", own(99, 1010, 0, none15), other(3, 40, none15), down15},
		{"alike then, above now", own(1, 1012, -3, none15), other(0, 40, none15), up15},
		{"alike then, below now", own(99, 988, 3, none15), other(0, 40, none15), down15},
		{"alike then and now, the greater Id", own(51, 1000, 0, none15), other(0, 40, none15), up15},
		{"alike then and now, the lesser Id", own(49, 1000, 0, none15), other(0, 40, none15), down15},
		{"there, above", own(1, 1001, -200, none15), other(200, 0, none15), up15},
		{"there, below", own(99, 999, 200, none15), other(-200, 0, none15), down15},
		{"there, as high, the greater Id", own(51, 1000, -200, none15), other(200, 0, none15), up15},
		{"there, as high, the lesser Id", own(49, 1000, 200, none15), other(-200, 0, none15), down15},
		{"there, t goes up", own(51, 1000, 0, none15), other(0, 0, up15), down15},
		{"there, o keeps down", own(51, 1000, 0, down15), other(0, 0, none15), down15},
		{"more apart than the senses give", own(1, 1450, 0, none15), other(0, 40, none15), up15},
		{"no threat, t told", own(1, 1500, 0, none15), other(0, 40, up15), none15},
		{"no threat, o told", own(1, 1500, 0, up15), other(0, 40, none15), none15},
		{"too late, o told", own(1, 1000, 0, down15), other(0, 201, none15), none15},
		{"the own Id, o told", own(50, 1000, 0, down15), other(0, 40, none15), none15},
	}
	for _, c := range cases {
		if got := impl.Advise(c.own, c.track, 500, 20); got != c.want {
			t.Errorf("%s: %d, not %d", c.name, got, c.want)
		}
	}
}

func TestPairByHand(t *testing.T) {
	own := func(id, height, sense int) impl.Own { return impl.Own{Id: id, Height: height, Sense: sense} }
	cases := []struct {
		name         string
		a, b         impl.Own
		wantA, wantB int
	}{
		{"the first one below", own(1, 1000, none15), own(2, 1100, none15), down15, up15},
		{"the first one above", own(1, 1100, none15), own(2, 1000, none15), up15, down15},
		{"as high: the lesser Id goes down", own(1, 1000, none15), own(2, 1000, none15), down15, up15},
		{"the first one has told up, below", own(1, 1000, up15), own(2, 1100, none15), up15, down15},
		{"the first one has told down, above", own(1, 1100, down15), own(2, 1000, none15), down15, up15},
		{"the second one has told up, below", own(1, 1100, none15), own(2, 1000, up15), down15, up15},
		{"the second one has told down, above", own(1, 1000, none15), own(2, 1100, down15), up15, down15},
		{"both have told", own(1, 1000, up15), own(2, 1100, down15), up15, down15},
		{"both have told the same", own(1, 1000, up15), own(2, 1100, up15), up15, up15},
		{"both have told down", own(1, 1000, down15), own(2, 1100, down15), down15, down15},
		{"no threat", own(1, 1000, none15), own(2, 1300, none15), none15, none15},
		{"no threat, both have told", own(1, 1000, up15), own(2, 1300, down15), none15, none15},
		{"no threat, the first one has told", own(1, 1000, up15), own(2, 1300, none15), none15, none15},
		{"no threat, the second one has told", own(1, 1000, none15), own(2, 1300, up15), none15, none15},
	}
	for _, c := range cases {
		if x, y, ok := impl.Pair(c.a, c.b, 95, 10, 300, 20); x != c.wantA || y != c.wantB || !ok {
			t.Errorf("%s: %d %d %v, not %d %d", c.name, x, y, ok, c.wantA, c.wantB)
		}
		if y, x, ok := impl.Pair(c.b, c.a, 95, 10, 300, 20); x != c.wantA || y != c.wantB || !ok {
			t.Errorf("%s, turned: %d %d %v, not %d %d", c.name, y, x, ok, c.wantB, c.wantA)
		}
	}
	for _, close := range []int{0, -1, -1000} {
		if x, y, ok := impl.Pair(own(1, 9, up15), own(2, 9, none15), 0, close, 300, 20); x != none15 || y != none15 || !ok {
			t.Errorf("closing by %d: %d %d %v", close, x, y, ok)
		}
	}
}

func refusesPair(t *testing.T, a, b impl.Own, far, close, near, within int) {
	t.Helper()
	if x, y, ok := impl.Pair(a, b, far, close, near, within); x != 0 || y != 0 || ok {
		t.Errorf("%v %v %d %d %d %d: %d %d %v", a, b, far, close, near, within, x, y, ok)
	}
}

func TestPairAtBounds(t *testing.T) {
	a, b := impl.Own{Id: 1, Height: 1000}, impl.Own{Id: 2, Height: 1100, Sense: up15}
	takes := func(far, close, near, within int) {
		t.Helper()
		if _, _, ok := impl.Pair(a, b, far, close, near, within); !ok {
			t.Error("refused:", far, close, near, within)
		}
	}
	for i := range 4 {
		takes(rangeBounds.edges()[i], 10, 300, 20)
		takes(95, closeBounds.edges()[i], 300, 20)
		takes(95, 10, nearBounds.edges()[i], 20)
		takes(95, 10, 300, withinBounds.edges()[i])
	}
	for i := range rangeBounds.beyond() {
		refusesPair(t, a, b, rangeBounds.beyond()[i], 10, 300, 20)
		refusesPair(t, a, b, 95, closeBounds.beyond()[i], 300, 20)
		refusesPair(t, a, b, 95, 10, nearBounds.beyond()[i], 20)
		refusesPair(t, a, b, 95, 10, 300, withinBounds.beyond()[i])
	}
	for _, one := range ofOwn {
		for _, n := range one.beyond() {
			wrong := a
			*numberOfOwn(&wrong, one.name) = n
			refusesPair(t, wrong, b, 95, 10, 300, 20)
			refusesPair(t, b, wrong, 95, 10, 300, 20)
			refusesPair(t, wrong, wrong, 95, 10, 300, 20)
			refusesPair(t, wrong, b, 95, -10, 0, 20)
			refusesPair(t, b, wrong, 95, -10, 0, 20)
		}
	}
	b.Id = a.Id
	refusesPair(t, a, b, 95, 10, 300, 20)
	refusesPair(t, b, a, 95, 10, 300, 20)
	refusesPair(t, a, a, 95, -10, 0, 20)
}

func TestNearestByHand(t *testing.T) {
	o := impl.Own{Id: 5, Height: 1000}
	// track comes in so many ticks, as high as the own one.
	track := func(id, ticks int) impl.Track {
		return impl.Track{Id: id, Height: 1000, Range: ticks * 10, Close: 10}
	}
	high := impl.Track{Id: 9, Height: 2000, Range: 10, Close: 10}
	gone := impl.Track{Id: 9, Height: 1000, Range: 10, Close: -10}
	wrong := impl.Track{Id: 9, Height: 1000, Range: 10, Close: 10, Sense: 3}
	many := func(n int) []impl.Track { return slices.Repeat([]impl.Track{track(9, 7)}, n) }
	cases := []struct {
		name string
		list []impl.Track
		want int
	}{
		{"none", nil, -1},
		{"an empty list", []impl.Track{}, -1},
		{"one", []impl.Track{track(1, 20)}, 0},
		{"the first", []impl.Track{track(1, 3), track(2, 4), track(3, 5)}, 0},
		{"the middle", []impl.Track{track(1, 4), track(2, 3), track(3, 5)}, 1},
		{"the last", []impl.Track{track(1, 4), track(2, 3), track(3, 2)}, 2},
		{"two with as few", []impl.Track{track(1, 9), track(3, 4), track(2, 4), track(4, 5)}, 1},
		{"all with as few", []impl.Track{track(4, 4), track(3, 4), track(2, 4)}, 0},
		{"of as few ticks by other ranges", []impl.Track{{Id: 1, Height: 1000, Range: 40, Close: 10}, {Id: 2, Height: 1000, Range: 31, Close: 10}}, 0},
		{"there", []impl.Track{track(1, 1), track(2, 0)}, 1},
		{"too late", []impl.Track{track(1, 21), track(2, 300)}, -1},
		{"no threat among them", []impl.Track{high, gone, wrong, track(5, 1)}, -1},
		{"behind those that are none", []impl.Track{high, gone, wrong, track(5, 1), {}, track(6, 20)}, 5},
		{"one Id twice", []impl.Track{track(6, 8), track(6, 7)}, 1},
		{"at most", many(20), 0},
		{"at most, the last", append(many(19), track(1, 6)), 19},
		{"more", many(21), -1},
		{"more that are none", append(slices.Repeat([]impl.Track{gone}, 20), track(1, 1)), -1},
	}
	for _, c := range cases {
		if i, ok := impl.Nearest(o, c.list, 300, 20); i != c.want || ok != (c.want >= 0) {
			t.Errorf("%s: %d %v, not %d", c.name, i, ok, c.want)
		}
	}
	far := []impl.Track{{Id: 1, Height: 1000, Range: 300, Close: 1}}
	if i, ok := impl.Nearest(o, far, 1, 300); i != 0 || !ok {
		t.Error("in 300 ticks", i, ok)
	}
	if i, ok := impl.Nearest(o, far, 1, 299); i != -1 || ok {
		t.Error("in 300 ticks, within 299", i, ok)
	}
	for _, b := range ofOwn {
		for _, n := range b.beyond() {
			wrong := o
			*numberOfOwn(&wrong, b.name) = n
			if i, ok := impl.Nearest(wrong, many(3), 300, 20); i != -1 || ok {
				t.Error(wrong, i, ok)
			}
		}
	}
}

func TestAlertByHand(t *testing.T) {
	rising := make([]int, 200)
	rising[199] = 60000
	cases := []struct {
		name                  string
		ground                []int
		height, climb, margin int
		want                  int
	}{
		{"no ground", nil, 100, 0, 5000, -1},
		{"ground without heights", []int{}, -1000, -200, 5000, -1},
		{"at tick 0", []int{81, 0, 0}, 100, 5, 20, 0},
		{"by the margin at tick 0", []int{80, 0, 0}, 100, 5, 20, -1},
		{"at the last tick", []int{0, 60, 95}, 100, 5, 20, 2},
		{"by the margin at the last tick", []int{0, 60, 90}, 100, 5, 20, -1},
		{"one less than the margin", []int{0, 60, 91}, 100, 5, 20, 2},
		{"the first of several", []int{0, 100, 0, 200}, 100, 5, 20, 1},
		{"well again behind it", []int{0, 100, 0}, 100, 5, 20, 1},
		{"margin 0, on the ground", []int{100, 100}, 100, 0, 0, -1},
		{"margin 0, below the ground", []int{100, 101}, 100, 0, 0, 1},
		{"fastest up", []int{0, 200, 400, 601}, 0, 200, 0, 3},
		{"fastest down", []int{0, 0, 0, 0}, 600, -200, 0, -1},
		{"fastest down, below", []int{0, 0, 0, 0, 0}, 600, -200, 1, 3},
		{"the greatest margin", []int{0, 0}, 5000, 0, 5000, -1},
		{"one below the greatest margin", []int{0, 0}, 4999, 0, 5000, 0},
		{"lowest ground and height", []int{-1000}, -1000, 0, 0, -1},
		{"lowest ground and height, margin 1", []int{-1000}, -1000, 0, 1, 0},
		{"highest", []int{60000, 60000}, 60000, 0, 0, -1},
		{"below the lowest then", []int{-1000, -1000}, -1000, -200, 0, 1},
		{"above the highest then", []int{60000, 60000, 60000}, 60000, 200, 1, 0},
		{"the last of 200", rising, 20000, 200, 1, 199},
		{"not the last of 200", rising, 20200, 200, 0, -1},
	}
	for _, c := range cases {
		if tick, ok := impl.Alert(c.ground, c.height, c.climb, c.margin); tick != c.want || ok != (c.want >= 0) {
			t.Errorf("%s: %d %v, not %d", c.name, tick, ok, c.want)
		}
	}
}

func TestAlertRefuses(t *testing.T) {
	refuses := func(ground []int, height, climb, margin int) {
		t.Helper()
		if tick, ok := impl.Alert(ground, height, climb, margin); tick != -1 || ok {
			t.Errorf("%d heights, %d %d %d: %d %v", len(ground), height, climb, margin, tick, ok)
		}
	}
	low := []int{500, 500, 500}
	heights, margins := bounded{"height", -1000, 60000}, bounded{"margin", 0, 5000}
	for i := range heights.beyond() {
		refuses(low, heights.beyond()[i], 0, 600)
		refuses(low, 500, climbBounds.beyond()[i], 600)
		refuses(low, 500, 0, margins.beyond()[i])
		for place := range low {
			wrong := slices.Clone(low)
			wrong[place] = heights.beyond()[i]
			refuses(wrong, 500, 0, 600)
		}
	}
	refuses(slices.Repeat([]int{500}, 201), 0, 0, 600)
	refuses(append(slices.Repeat([]int{500}, 199), -1001), 0, 0, 600)
	for i := range heights.edges() {
		if tick, ok := impl.Alert([]int{60000}, heights.edges()[i], 0, 5000); tick != 0 || !ok {
			t.Error("height", heights.edges()[i], tick, ok)
		}
		if tick, ok := impl.Alert(low, 500, climbBounds.edges()[i], 5000); tick != 0 || !ok {
			t.Error("climb", climbBounds.edges()[i], tick, ok)
		}
		if tick, ok := impl.Alert(low, -1000, 0, margins.edges()[i]); tick != 0 || !ok {
			t.Error("margin", margins.edges()[i], tick, ok)
		}
		if _, ok := impl.Alert([]int{heights.edges()[i], 60000}, 60000, 0, 5000); !ok {
			t.Error("ground", heights.edges()[i])
		}
	}
	if tick, ok := impl.Alert(slices.Repeat([]int{500}, 200), 0, 0, 600); tick != 0 || !ok {
		t.Error("200 heights", tick, ok)
	}
}

// ownFrom draws aircraft that meet often: heights, climbs and Ids close by.
func ownFrom(r *rand.Rand) impl.Own {
	return impl.Own{Id: 1 + r.Intn(4), Height: 1000 + r.Intn(60), Climb: r.Intn(21) - 10, Sense: max(0, r.Intn(6)-3)}
}

func trackFrom(r *rand.Rand) impl.Track {
	return trackOf15(ownFrom(r), r.Intn(120), r.Intn(30)-4)
}

func spoilOwn(r *rand.Rand, o *impl.Own) {
	b := ofOwn[r.Intn(len(ofOwn))]
	*numberOfOwn(o, b.name) = b.beyond()[r.Intn(8)]
}

func spoilTrack(r *rand.Rand, tr *impl.Track) {
	b := ofTrack[r.Intn(len(ofTrack))]
	*numberOfTrack(tr, b.name) = b.beyond()[r.Intn(8)]
}

func TestApartAgainstWords(t *testing.T) {
	r := rand.New(rand.NewSource(151))
	advised := map[int]int{}
	for range 60000 {
		o, tr, near, within := ownFrom(r), trackFrom(r), r.Intn(80), 1+r.Intn(12)
		switch r.Intn(20) {
		case 0:
			spoilOwn(r, &o)
		case 1:
			spoilTrack(r, &tr)
		case 2:
			near = nearBounds.beyond()[r.Intn(8)]
		case 3:
			within = withinBounds.beyond()[r.Intn(8)]
		}
		if impl.TrackOk(tr) != trackIsSo(tr) || impl.OwnOk(o) != ownIsSo(o) {
			t.Fatal(o, tr)
		}
		n, ok := impl.TicksTo(tr)
		if want, comes := ticksByWords(tr); n != want || ok != comes {
			t.Fatal(tr, n, ok, want, comes)
		}
		if got := impl.Threat(o, tr, near, within); got != threatByWords(o, tr, near, within) {
			t.Fatal(o, tr, near, within, got)
		}
		got, want := impl.Advise(o, tr, near, within), adviseByWords(o, tr, near, within)
		if got != want {
			t.Fatal(o, tr, near, within, got, want)
		}
		advised[want]++
	}
	if advised[none15] < 1000 || advised[up15] < 1000 || advised[down15] < 1000 {
		t.Error("some advice is hardly asked for:", advised)
	}
}

func TestPairAgainstWords(t *testing.T) {
	r := rand.New(rand.NewSource(152))
	for range 60000 {
		a, b := ownFrom(r), ownFrom(r)
		far, close, near, within := r.Intn(120), r.Intn(30)-4, r.Intn(80), 1+r.Intn(12)
		switch r.Intn(20) {
		case 0:
			spoilOwn(r, &a)
		case 1:
			spoilOwn(r, &b)
		case 2:
			far = rangeBounds.beyond()[r.Intn(8)]
		case 3:
			close = closeBounds.beyond()[r.Intn(8)]
		case 4:
			near = nearBounds.beyond()[r.Intn(8)]
		case 5:
			within = withinBounds.beyond()[r.Intn(8)]
		}
		x, y, ok := impl.Pair(a, b, far, close, near, within)
		if wantX, wantY, wantOk := pairByWords(a, b, far, close, near, within); x != wantX || y != wantY || ok != wantOk {
			t.Fatal(a, b, far, close, near, within, x, y, ok, wantX, wantY, wantOk)
		}
	}
}

func TestNearestAgainstWords(t *testing.T) {
	r := rand.New(rand.NewSource(153))
	for range 6000 {
		o, near, within := ownFrom(r), r.Intn(80), 1+r.Intn(12)
		list := make([]impl.Track, r.Intn(23))
		for i := range list {
			list[i] = trackFrom(r)
			if r.Intn(6) == 0 {
				spoilTrack(r, &list[i])
			}
		}
		if r.Intn(20) == 0 {
			spoilOwn(r, &o)
		}
		i, ok := impl.Nearest(o, list, near, within)
		if want, some := nearestByWords(o, list, near, within); i != want || ok != some {
			t.Fatal(o, list, near, within, i, ok, want, some)
		}
	}
}

func TestAlertAgainstWords(t *testing.T) {
	r := rand.New(rand.NewSource(154))
	for range 20000 {
		ground := listOf(r, r.Intn(12), -1000, -1000+r.Intn(200))
		if r.Intn(50) == 0 {
			ground = listOf(r, 199+r.Intn(3), -1000, -900)
		}
		height, climb, margin := -1000+r.Intn(400), r.Intn(41)-20, r.Intn(60)
		if len(ground) > 0 && r.Intn(20) == 0 {
			ground[r.Intn(len(ground))] = []int{-1001, 60001, math.MinInt, math.MaxInt}[r.Intn(4)]
		}
		tick, ok := impl.Alert(ground, height, climb, margin)
		if want, some := alertByWords(ground, height, climb, margin); tick != want || ok != some {
			t.Fatal(ground, height, climb, margin, tick, ok, want, some)
		}
	}
}

// meetSmall hands on every meeting of two aircraft of few heights and climbs.
func meetSmall(use func(a, b impl.Own, far, near int)) {
	for n := range 5 * 5 * 3 * 3 * 2 {
		a := impl.Own{Id: 1, Height: 1000, Climb: n%3 - 1}
		b := impl.Own{Id: 2, Height: 998 + n/3%5, Climb: n/15%3 - 1}
		if n/45%2 == 1 {
			a.Id, b.Id = b.Id, a.Id
		}
		use(a, b, n/90*10, 3)
	}
}

// Promise 15: of two that are advised one goes up and one goes down.
func TestOneGoesUpAndOneGoesDown(t *testing.T) {
	pairs := 0
	holds := func(a, b impl.Own, far, close, near, within int) {
		t.Helper()
		x, y, ok := impl.Pair(a, b, far, close, near, within)
		if !ok {
			t.Fatal("refused:", a, b, far, close, near, within)
		}
		if (x == none15) != (y == none15) {
			t.Fatal("one alone is advised:", a, b, far, close, near, within, x, y)
		}
		if x == none15 {
			return
		}
		pairs++
		told := a.Sense != none15 && a.Sense == b.Sense
		if x == y != told || a.Sense != none15 && x != a.Sense || b.Sense != none15 && y != b.Sense {
			t.Fatal("to the same side:", a, b, far, close, near, within, x, y)
		}
		a.Sense, b.Sense = x, y
		if again, more, _ := impl.Pair(a, b, far, close, near, within); again != x || more != y {
			t.Fatal("what was told is not kept:", a, b, far, close, near, within, again, more)
		}
	}
	meetSmall(func(a, b impl.Own, far, near int) {
		for n := range 9 {
			a.Sense, b.Sense = n%3, n/3
			holds(a, b, far, 10, near, 20)
		}
	})
	r := rand.New(rand.NewSource(155))
	for range 20000 {
		a, b := ownFrom(r), ownFrom(r)
		if a.Id != b.Id {
			holds(a, b, r.Intn(120), 1+r.Intn(30), r.Intn(80), 1+r.Intn(12))
		}
	}
	if pairs < 2000 {
		t.Error("hardly a pair is advised:", pairs)
	}
}

// Promise 15: too low is told at the first tick.
func TestTooLowIsToldAtTheFirstTick(t *testing.T) {
	r := rand.New(rand.NewSource(156))
	for range 20000 {
		ground := listOf(r, r.Intn(30), 0, 50)
		height, climb, margin := r.Intn(200), r.Intn(21)-10, r.Intn(40)
		tick, ok := impl.Alert(ground, height, climb, margin)
		high := ground
		if ok {
			high = ground[:tick]
			if height+tick*climb-ground[tick] >= margin {
				t.Fatal("high enough there:", ground, height, climb, margin, tick)
			}
		}
		for i, g := range high {
			if height+i*climb-g < margin {
				t.Fatal("too low ahead of it:", ground, height, climb, margin, tick, i)
			}
		}
	}
}

func TestApartAtTheEdgesOfNumbers(t *testing.T) {
	for _, a := range append([]int{0, 1}, farNumbers...) {
		for _, b := range farNumbers {
			o := impl.Own{Id: a, Height: b, Climb: a, Sense: b}
			tr := impl.Track{Id: b, Height: a, Climb: b, Range: a, Close: b, Sense: a}
			if n, ok := impl.TicksTo(tr); ok || n != 0 {
				t.Error(tr, n, ok)
			}
			if impl.Threat(o, tr, a, b) || impl.Advise(o, tr, b, a) != none15 {
				t.Error(o, tr, a, b)
			}
			if x, y, ok := impl.Pair(o, plainOwn(), a, b, b, a); x != 0 || y != 0 || ok {
				t.Error(o, a, b, x, y, ok)
			}
			if i, ok := impl.Nearest(o, []impl.Track{tr, plainTrack()}, a, b); i != -1 || ok {
				t.Error(o, tr, i, ok)
			}
			if tick, ok := impl.Alert([]int{a, b}, 5, a, b); ok || tick != -1 {
				t.Error(a, b, tick, ok)
			}
		}
	}
}

func TestApartWritesIntoNoArgument(t *testing.T) {
	r := rand.New(rand.NewSource(157))
	for range 200 {
		mark := impl.Track{Id: 77, Height: 77, Climb: 77, Range: 77, Close: 77, Sense: 77}
		list := make([]impl.Track, r.Intn(22), 40)
		for i := range list {
			list[i] = trackFrom(r)
		}
		for i := range list[len(list):cap(list)] {
			list[:cap(list)][len(list)+i] = mark
		}
		whole := slices.Clone(list[:cap(list)])
		ground := roomy(listOf(r, r.Intn(202), -1000, 1000))
		below := slices.Clone(ground[:cap(ground)])
		impl.Nearest(ownFrom(r), list, r.Intn(80), 1+r.Intn(12))
		impl.Alert(ground, r.Intn(1000), r.Intn(21)-10, r.Intn(50))
		if !slices.Equal(list[:cap(list)], whole) || !slices.Equal(ground[:cap(ground)], below) {
			t.Fatal("written into an argument")
		}
	}
}

// embeddedIn has the names of the structs, by what is embedded in them.
func embeddedIn(file *ast.File) map[string][]string {
	in := map[string][]string{}
	ast.Inspect(file, func(n ast.Node) bool {
		if spec, ok := n.(*ast.TypeSpec); ok {
			if s, ok := spec.Type.(*ast.StructType); ok {
				for _, f := range s.Fields.List {
					if part, ok := f.Type.(*ast.Ident); ok && len(f.Names) == 0 {
						in[part.Name] = append(in[part.Name], spec.Name.Name)
					}
				}
			}
		}
		return true
	})
	return in
}

func TestKeepingApartIsBuiltItsWay(t *testing.T) {
	file, err := parser.ParseFile(token.NewFileSet(), "../impl/l15_apart.go", nil, 0)
	if err != nil {
		t.Fatal(err)
	}
	twice := false
	for _, in := range embeddedIn(file) {
		twice = twice || len(in) >= 2
	}
	byIota := false
	ast.Inspect(file, func(n ast.Node) bool {
		if v, ok := n.(*ast.ValueSpec); ok && len(v.Values) == 1 && v.Names[0].Name == "SenseNone" {
			byIota = isNamed(v.Values[0], "iota")
		}
		return true
	})
	if !twice || !byIota {
		t.Error("both aircraft embed one struct:", twice, "senses come by iota:", byIota)
	}
}
