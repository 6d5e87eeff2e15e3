package tests

import (
	"go/ast"
	"go/parser"
	"go/token"
	"math"
	"math/rand"
	"slices"
	"testing"

	"loop.example/g00063/impl"
)

// vert is a pilot whose Lat is off.
func vert(mode, height, target, rate int) impl.Pilot {
	return impl.Pilot{Vert: mode, Height: height, Target: target, Rate: rate}
}

// lat is a pilot whose Vert holds.
func lat(mode, heading, wanted, off int, armed bool) impl.Pilot {
	return impl.Pilot{Vert: 1, Lat: mode, Heading: heading, Wanted: wanted, Off: off, Armed: armed}
}

func pilotIsSo(p impl.Pilot) bool {
	return allIn([]int{p.Vert}, 0, 4) && allIn([]int{p.Lat}, 0, 3) && allIn([]int{p.Height, p.Target}, 0, 60000) &&
		allIn([]int{p.Rate}, -100, 100) && allIn([]int{p.Heading, p.Wanted}, 0, 359) && allIn([]int{p.Off}, -10000, 10000)
}

func sizeByWords(n int) int {
	if n < 0 {
		return -n
	}
	return n
}

// manyIsSo holds many against what its key takes.
func manyIsSo(key, many int) bool {
	switch key {
	case 3:
		return many >= 0 && many <= 60000
	case 4:
		return many >= 0 && many <= 359
	case 7:
		return many >= -100 && many <= 100
	}
	return true
}

func refusedByWords(p impl.Pilot, key, many int) bool {
	if !pilotIsSo(p) || key < 1 || key > 7 || !manyIsSo(key, many) {
		return true
	}
	switch key {
	case 2:
		above, below := p.Target > p.Height, p.Target < p.Height
		return p.Rate == 0 || above && p.Rate < 0 || below && p.Rate > 0 || p.Height == p.Target
	case 5:
		return p.Lat == 3 || p.Lat == 2
	case 7:
		return p.Vert == 1 || p.Vert == 3
	}
	return false
}

func pressByWords(p impl.Pilot, key, many int) (impl.Pilot, bool) {
	if refusedByWords(p, key, many) {
		return p, false
	}
	switch key {
	case 1:
		p.Vert, p.Target, p.Rate = 1, p.Height, 0
	case 2:
		p.Vert = 2
	case 3:
		p.Target = many
		up, down := many > p.Height && p.Rate > 0, many < p.Height && p.Rate < 0
		if !up && !down && (p.Vert == 2 || p.Vert == 3) {
			p.Vert, p.Target, p.Rate = 1, p.Height, 0
		}
	case 4:
		p.Lat, p.Wanted, p.Armed = 1, many, false
	case 5:
		p.Armed = true
	case 6:
		p.Vert, p.Lat, p.Rate, p.Armed = 0, 0, 0, false
	case 7:
		p.Rate = many
	}
	return p, true
}

// climbByWords turns a climb down into one up.
func climbByWords(height, target, rate int) (mode, at, stays int) {
	if rate == 0 {
		return 2, height, 0
	}
	if rate < 0 {
		mode, at, stays = climbByWords(-height, -target, -rate)
		return mode, -at, -stays
	}
	height += rate
	switch {
	case height >= target:
		return 1, target, 0
	case target-height <= 10*rate:
		return 3, height, rate
	}
	return 2, height, rate
}

// captureByWords goes one by one.
func captureByWords(height, target, rate int) (mode, at, stays int) {
	size := sizeByWords(rate)
	for range max(size/2+size%2, 1) {
		switch {
		case height < target:
			height++
		case height > target:
			height--
		}
	}
	if height == target {
		return 1, height, 0
	}
	return 3, height, rate
}

// turnByWords goes one by one, to the right as long as the right is not the longer way.
func turnByWords(heading, wanted int) int {
	for range 3 {
		right := 0
		for (heading+right)%360 != wanted {
			right++
		}
		switch {
		case right == 0:
		case right <= 180:
			heading = (heading + 1) % 360
		default:
			heading = (heading + 359) % 360
		}
	}
	return heading
}

func latByWords(p impl.Pilot) impl.Pilot {
	switch p.Lat {
	case 1:
		p.Heading = turnByWords(p.Heading, p.Wanted)
		if p.Armed && p.Off >= -50 && p.Off <= 50 {
			p.Lat, p.Armed = 3, false
		}
	case 3:
		for range 10 {
			switch {
			case p.Off < 0:
				p.Off++
			case p.Off > 0:
				p.Off--
			}
		}
		if p.Off == 0 {
			p.Lat = 2
		}
	case 2:
		if p.Off >= -20 && p.Off <= 20 {
			p.Off = 0
		} else {
			p.Lat = 3
		}
	}
	return p
}

func tickByWords(p impl.Pilot, drift int) (impl.Pilot, bool) {
	if !pilotIsSo(p) || drift < -100 || drift > 100 {
		return impl.Pilot{}, false
	}
	switch p.Vert {
	case 2:
		p.Vert, p.Height, p.Rate = climbByWords(p.Height, p.Target, p.Rate)
	case 3:
		p.Vert, p.Height, p.Rate = captureByWords(p.Height, p.Target, p.Rate)
	case 0:
		p.Height += p.Rate
		if p.Height < 0 {
			p.Height = 0
		}
		if p.Height > 60000 {
			p.Height = 60000
		}
	}
	p.Off += drift
	if p.Off < -10000 {
		p.Off = -10000
	}
	if p.Off > 10000 {
		p.Off = 10000
	}
	return latByWords(p), true
}

func TestModesAndKeysOfThePilot(t *testing.T) {
	if got := []int{impl.VertOff, impl.VertHold, impl.VertClimb, impl.VertCapture, impl.VertPath}; !slices.Equal(got, numbersTo(5)) {
		t.Error("modes up and down", got)
	}
	if got := []int{impl.LatOff, impl.LatHeading, impl.LatCourse, impl.LatCapture}; !slices.Equal(got, numbersTo(4)) {
		t.Error("modes to the sides", got)
	}
	keys := []int{impl.KeyHold, impl.KeyClimb, impl.KeyTarget, impl.KeyHeading, impl.KeyArm, impl.KeyOff, impl.KeyRate}
	if !slices.Equal(keys, []int{1, 2, 3, 4, 5, 6, 7}) {
		t.Error("keys", keys)
	}
}

var rightPilots = []struct {
	name  string
	pilot impl.Pilot
}{
	{"the zero value", impl.Pilot{}},
	{"VertHold", impl.Pilot{Vert: impl.VertHold}},
	{"VertClimb", impl.Pilot{Vert: impl.VertClimb}},
	{"VertCapture", impl.Pilot{Vert: impl.VertCapture}},
	{"VertPath", impl.Pilot{Vert: impl.VertPath}},
	{"LatHeading", impl.Pilot{Lat: impl.LatHeading}},
	{"LatCourse", impl.Pilot{Lat: impl.LatCourse}},
	{"LatCapture", impl.Pilot{Lat: impl.LatCapture}},
	{"a Height of 60000", impl.Pilot{Height: 60000}},
	{"a Target of 60000", impl.Pilot{Target: 60000}},
	{"a Rate of -100", impl.Pilot{Rate: -100}},
	{"a Rate of 100", impl.Pilot{Rate: 100}},
	{"a Heading of 359", impl.Pilot{Heading: 359}},
	{"a Wanted of 359", impl.Pilot{Wanted: 359}},
	{"an Off of -10^4", impl.Pilot{Off: -10000}},
	{"an Off of 10^4", impl.Pilot{Off: 10000}},
	{"armed", impl.Pilot{Armed: true}},
	{"armed on its course", impl.Pilot{Lat: impl.LatCourse, Armed: true}},
	{"all as great as may be", impl.Pilot{Vert: 4, Lat: 3, Height: 60000, Target: 60000, Rate: 100, Heading: 359, Wanted: 359, Off: 10000, Armed: true}},
}

var wrongPilots = []struct {
	name  string
	pilot impl.Pilot
}{
	{"a Vert of -1", impl.Pilot{Vert: -1}},
	{"a Vert of 5", impl.Pilot{Vert: 5}},
	{"a Lat of -1", impl.Pilot{Lat: -1}},
	{"a Lat of 4", impl.Pilot{Lat: 4}},
	{"a Height of -1", impl.Pilot{Height: -1}},
	{"a Height of 60001", impl.Pilot{Height: 60001}},
	{"a Target of -1", impl.Pilot{Target: -1}},
	{"a Target of 60001", impl.Pilot{Target: 60001}},
	{"a Rate of -101", impl.Pilot{Rate: -101}},
	{"a Rate of 101", impl.Pilot{Rate: 101}},
	{"a Heading of -1", impl.Pilot{Heading: -1}},
	{"a Heading of 360", impl.Pilot{Heading: 360}},
	{"a Wanted of -1", impl.Pilot{Wanted: -1}},
	{"a Wanted of 360", impl.Pilot{Wanted: 360}},
	{"an Off of -10001", impl.Pilot{Off: -10001}},
	{"an Off of 10001", impl.Pilot{Off: 10001}},
	{"a far Vert", impl.Pilot{Vert: math.MinInt}},
	{"a far Lat", impl.Pilot{Lat: math.MaxInt}},
	{"a far Height", impl.Pilot{Height: math.MaxInt, Rate: 100}},
	{"a far Target", impl.Pilot{Target: math.MinInt, Height: 7}},
	{"a far Rate", impl.Pilot{Vert: 3, Rate: math.MinInt}},
	{"a far Heading", impl.Pilot{Lat: 1, Heading: math.MaxInt}},
	{"a far Wanted", impl.Pilot{Lat: 1, Wanted: math.MinInt}},
	{"a far Off", impl.Pilot{Lat: 1, Off: math.MinInt, Armed: true}},
}

func TestPilotOkAtItsEdges(t *testing.T) {
	for _, c := range rightPilots {
		if !impl.PilotOk(c.pilot) {
			t.Error("refused:", c.name)
		}
		if _, ok := impl.PilotTick(c.pilot, 0); !ok {
			t.Error("no tick:", c.name)
		}
		if _, ok := impl.Press(c.pilot, impl.KeyHold, 0); !ok {
			t.Error("no key:", c.name)
		}
	}
	for _, c := range wrongPilots {
		if impl.PilotOk(c.pilot) {
			t.Error("accepted:", c.name)
		}
		for key := -1; key <= 8; key++ {
			refusesKey(t, c.name, c.pilot, key, 5)
		}
		for _, drift := range []int{-100, 0, 100, 101} {
			refusesTick(t, c.name, c.pilot, drift)
		}
		for _, drifts := range [][]int{nil, {}, {0}, {0, 0}} {
			refusesTicks(t, c.name, c.pilot, drifts)
		}
	}
}

func refusesKey(t *testing.T, name string, p impl.Pilot, key, many int) {
	t.Helper()
	if after, ok := impl.Press(p, key, many); after != p || ok {
		t.Errorf("Press: %s: key %d with %d: %+v %v behind %+v", name, key, many, after, ok, p)
	}
}

func refusesTick(t *testing.T, name string, p impl.Pilot, drift int) {
	t.Helper()
	if after, ok := impl.PilotTick(p, drift); after != (impl.Pilot{}) || ok {
		t.Errorf("PilotTick: %s: %+v %v", name, after, ok)
	}
}

func refusesTicks(t *testing.T, name string, p impl.Pilot, drifts []int) {
	t.Helper()
	if list, ok := impl.Ticks(p, drifts); len(list) != 0 || ok {
		t.Errorf("Ticks: %s: %v %v", name, list, ok)
	}
}

// keyCase names what a key makes of a pilot.
type keyCase struct {
	name      string
	pilot     impl.Pilot
	key, many int
	after     impl.Pilot
}

func askKeys(t *testing.T, cases []keyCase) {
	t.Helper()
	for _, c := range cases {
		if after, ok := impl.Press(c.pilot, c.key, c.many); after != c.after || !ok {
			t.Errorf("%s: %+v %v, not %+v", c.name, after, ok, c.after)
		}
	}
}

func busyPilot(vert, lat int) impl.Pilot {
	return impl.Pilot{Vert: vert, Lat: lat, Height: 500, Target: 900, Rate: 20, Heading: 10, Wanted: 40, Off: -70, Armed: true}
}

func TestKeysInEachModeByHand(t *testing.T) {
	for mode := impl.VertOff; mode <= impl.VertPath; mode++ {
		for side := impl.LatOff; side <= impl.LatCapture; side++ {
			was := busyPilot(mode, side)
			with := func(change func(p *impl.Pilot)) impl.Pilot {
				p := was
				change(&p)
				return p
			}
			askKeys(t, []keyCase{
				{"hold", was, impl.KeyHold, 0, with(func(p *impl.Pilot) { p.Vert, p.Target, p.Rate = 1, 500, 0 })},
				{"climb", was, impl.KeyClimb, 0, with(func(p *impl.Pilot) { p.Vert = 2 })},
				{"a target that it leads to", was, impl.KeyTarget, 700, with(func(p *impl.Pilot) { p.Target = 700 })},
				{"a heading", was, impl.KeyHeading, 77, with(func(p *impl.Pilot) { p.Lat, p.Wanted, p.Armed = 1, 77, false })},
				{"off", was, impl.KeyOff, 0, with(func(p *impl.Pilot) { p.Vert, p.Lat, p.Rate, p.Armed = 0, 0, 0, false })},
			})
			if mode == impl.VertHold || mode == impl.VertCapture {
				refusesKey(t, "a rate", was, impl.KeyRate, 5)
				refusesKey(t, "the rate that it has", was, impl.KeyRate, 20)
			} else {
				askKeys(t, []keyCase{{"a rate", was, impl.KeyRate, -5, with(func(p *impl.Pilot) { p.Rate = -5 })}})
			}
			if side == impl.LatCapture || side == impl.LatCourse {
				refusesKey(t, "arm", was, impl.KeyArm, 0)
				refusesKey(t, "arm what is not armed", with(func(p *impl.Pilot) { p.Armed = false }), impl.KeyArm, 0)
			} else {
				askKeys(t, []keyCase{
					{"arm", with(func(p *impl.Pilot) { p.Armed = false }), impl.KeyArm, 0, was},
					{"arm once more", was, impl.KeyArm, 0, was},
				})
			}
			for _, key := range append([]int{-1, 0, 8}, farNumbers...) {
				refusesKey(t, "a key that is none", was, key, 5)
			}
		}
	}
}

func TestKeyClimbByHand(t *testing.T) {
	for mode := impl.VertOff; mode <= impl.VertPath; mode++ {
		askKeys(t, []keyCase{
			{"up", vert(mode, 100, 101, 1), impl.KeyClimb, 0, vert(2, 100, 101, 1)},
			{"down", vert(mode, 100, 99, -1), impl.KeyClimb, 0, vert(2, 100, 99, -1)},
			{"up from the bottom to the top", vert(mode, 0, 60000, 100), impl.KeyClimb, 0, vert(2, 0, 60000, 100)},
			{"down from the top to the bottom", vert(mode, 60000, 0, -100), impl.KeyClimb, 0, vert(2, 60000, 0, -100)},
		})
		for _, c := range []struct {
			name  string
			pilot impl.Pilot
		}{
			{"a Rate of 0, above", vert(mode, 100, 101, 0)},
			{"a Rate of 0, below", vert(mode, 100, 99, 0)},
			{"a Rate of 0 at the Target", vert(mode, 100, 100, 0)},
			{"away, up", vert(mode, 100, 99, 1)},
			{"away, down", vert(mode, 100, 101, -1)},
			{"at the Target, up", vert(mode, 100, 100, 1)},
			{"at the Target, down", vert(mode, 100, 100, -1)},
			{"at the Target at the bottom", vert(mode, 0, 0, -100)},
			{"at the Target at the top", vert(mode, 60000, 60000, 100)},
		} {
			refusesKey(t, c.name, c.pilot, impl.KeyClimb, 0)
		}
	}
}

func TestKeyTargetByHand(t *testing.T) {
	for _, mode := range []int{impl.VertClimb, impl.VertCapture} {
		held := vert(1, 500, 500, 0)
		askKeys(t, []keyCase{
			{"still leads to it, up", vert(mode, 500, 900, 20), impl.KeyTarget, 501, vert(mode, 500, 501, 20)},
			{"still leads to it, down", vert(mode, 500, 100, -20), impl.KeyTarget, 499, vert(mode, 500, 499, -20)},
			{"as it is", vert(mode, 500, 900, 20), impl.KeyTarget, 900, vert(mode, 500, 900, 20)},
			{"no more leads to it, up", vert(mode, 500, 900, 20), impl.KeyTarget, 499, held},
			{"no more leads to it, down", vert(mode, 500, 100, -20), impl.KeyTarget, 501, held},
			{"far off the other way, up", vert(mode, 500, 900, 20), impl.KeyTarget, 0, held},
			{"far off the other way, down", vert(mode, 500, 100, -20), impl.KeyTarget, 60000, held},
			{"led away ahead, leads to it now", vert(mode, 500, 100, 20), impl.KeyTarget, 900, vert(mode, 500, 900, 20)},
			{"led away ahead, leads away still", vert(mode, 500, 100, 20), impl.KeyTarget, 101, held},
			{"at the Height itself, up", vert(mode, 500, 900, 20), impl.KeyTarget, 500, held},
			{"at the Height itself, down", vert(mode, 500, 100, -20), impl.KeyTarget, 500, held},
			{"at the Height itself as it is", vert(mode, 500, 500, 20), impl.KeyTarget, 500, held},
			{"at the bottom itself", vert(mode, 0, 900, 20), impl.KeyTarget, 0, vert(1, 0, 0, 0)},
			{"at the top itself", vert(mode, 60000, 100, -20), impl.KeyTarget, 60000, vert(1, 60000, 60000, 0)},
			{"a Rate of 0, above", vert(mode, 500, 100, 0), impl.KeyTarget, 900, held},
			{"a Rate of 0, below", vert(mode, 500, 900, 0), impl.KeyTarget, 100, held},
			{"a Rate of 0, one above", vert(mode, 500, 100, 0), impl.KeyTarget, 501, held},
			{"a Rate of 0, one below", vert(mode, 500, 900, 0), impl.KeyTarget, 499, held},
			{"a Rate of 0 at the Height itself", vert(mode, 500, 900, 0), impl.KeyTarget, 500, held},
			{"a Rate of 0, the Target as it is", vert(mode, 500, 900, 0), impl.KeyTarget, 900, held},
		})
	}
	for _, mode := range []int{impl.VertOff, impl.VertHold, impl.VertPath} {
		for _, rate := range []int{-20, 0, 20} {
			for _, many := range []int{0, 499, 500, 501, 60000} {
				askKeys(t, []keyCase{{"in another mode", vert(mode, 500, 900, rate), impl.KeyTarget, many, vert(mode, 500, many, rate)}})
			}
		}
	}
}

// A target that is not led to is held at the Height, and nothing of Lat goes with it; a target outside does nothing.
func TestKeyTargetLeavesTheRestAlone(t *testing.T) {
	for _, mode := range []int{impl.VertClimb, impl.VertCapture} {
		for side := impl.LatOff; side <= impl.LatCapture; side++ {
			still, held := busyPilot(mode, side), busyPilot(impl.VertHold, side)
			still.Rate, held.Target, held.Rate = 0, 500, 0
			askKeys(t, []keyCase{
				{"a Rate of 0", still, impl.KeyTarget, 700, held},
				{"the Height itself", busyPilot(mode, side), impl.KeyTarget, 500, held},
			})
			for _, many := range append([]int{-1, 60001}, farNumbers...) {
				refusesKey(t, "a Rate of 0 and a target outside", still, impl.KeyTarget, many)
			}
		}
	}
}

// Promise 10: what KeyTarget leaves in a climb or a capture is led to, and ends held at the new target.
func TestWhatKeyTargetLeavesClimbingEndsAtIt(t *testing.T) {
	r := rand.New(rand.NewSource(106))
	held, climbing := 0, 0
	for range 3000 {
		p := pilotFrom(r)
		p.Vert = []int{impl.VertClimb, impl.VertCapture}[r.Intn(2)]
		many := min(max(p.Height+r.Intn(41)-20, 0), 60000)
		after, ok := impl.Press(p, impl.KeyTarget, many)
		if !ok {
			t.Fatalf("refused: %+v %d", p, many)
		}
		if after.Vert == impl.VertHold {
			held++
			if after.Target != p.Height || after.Height != p.Height || after.Rate != 0 {
				t.Fatalf("of %+v, %d: %+v", p, many, after)
			}
			continue
		}
		climbing++
		list, _ := impl.Ticks(after, make([]int, 40))
		climbIsSo(t, after, append([]impl.Pilot{after}, list...))
	}
	if held < 200 || climbing < 200 {
		t.Error("too few of a kind were tried:", held, climbing)
	}
}

func TestManyAtItsEdges(t *testing.T) {
	p := busyPilot(impl.VertOff, impl.LatHeading)
	for _, c := range []struct{ key, least, most int }{{impl.KeyTarget, 0, 60000}, {impl.KeyHeading, 0, 359}, {impl.KeyRate, -100, 100}} {
		for _, many := range []int{c.least, c.most} {
			after, ok := impl.Press(p, c.key, many)
			if want, _ := pressByWords(p, c.key, many); !ok || after != want {
				t.Error("refused:", c.key, many, after, ok)
			}
			if put := map[int]int{3: after.Target, 4: after.Wanted, 7: after.Rate}[c.key]; put != many {
				t.Error("not put:", c.key, many, after)
			}
		}
		for _, many := range append([]int{c.least - 1, c.most + 1}, farNumbers...) {
			refusesKey(t, "many outside", p, c.key, many)
		}
	}
	for _, key := range []int{impl.KeyHold, impl.KeyClimb, impl.KeyArm, impl.KeyOff} {
		want, ok := impl.Press(p, key, 0)
		for _, many := range append([]int{-1, 360, 60001}, farNumbers...) {
			if after, also := impl.Press(p, key, many); after != want || !ok || !also {
				t.Error("many is looked at:", key, many, after, also)
			}
		}
	}
}

// tickCase names a tick without a drift, unless it says so.
type tickCase struct {
	name  string
	pilot impl.Pilot
	drift int
	after impl.Pilot
}

func askTicks(t *testing.T, cases []tickCase) {
	t.Helper()
	for _, c := range cases {
		if after, ok := impl.PilotTick(c.pilot, c.drift); after != c.after || !ok {
			t.Errorf("%s: %+v %v, not %+v", c.name, after, ok, c.after)
		}
	}
}

func TestClimbsToATargetByHand(t *testing.T) {
	askTicks(t, []tickCase{
		{"far from its Target", vert(2, 100, 1000, 10), 0, vert(2, 110, 1000, 10)},
		{"far from its Target, down", vert(2, 1000, 100, -10), 0, vert(2, 990, 100, -10)},
		{"just 10 times its Rate away", vert(2, 100, 210, 10), 0, vert(3, 110, 210, 10)},
		{"one further", vert(2, 100, 211, 10), 0, vert(2, 110, 211, 10)},
		{"just 10 times its Rate away, down", vert(2, 210, 100, -10), 0, vert(3, 200, 100, -10)},
		{"one further, down", vert(2, 211, 100, -10), 0, vert(2, 201, 100, -10)},
		{"10 times its Rate away ahead of it", vert(2, 100, 200, 10), 0, vert(3, 110, 200, 10)},
		{"just to its Target", vert(2, 100, 110, 10), 0, vert(1, 110, 110, 0)},
		{"just to its Target, down", vert(2, 110, 100, -10), 0, vert(1, 100, 100, 0)},
		{"one short of its Target", vert(2, 100, 111, 10), 0, vert(3, 110, 111, 10)},
		{"one short of its Target, down", vert(2, 111, 100, -10), 0, vert(3, 101, 100, -10)},
		{"one beyond its Target", vert(2, 100, 109, 10), 0, vert(1, 109, 109, 0)},
		{"one beyond its Target, down", vert(2, 109, 100, -10), 0, vert(1, 100, 100, 0)},
		{"at its Target ahead", vert(2, 100, 100, 10), 0, vert(1, 100, 100, 0)},
		{"at its Target ahead, down", vert(2, 100, 100, -10), 0, vert(1, 100, 100, 0)},
		{"beyond it ahead", vert(2, 300, 100, 10), 0, vert(1, 100, 100, 0)},
		{"beyond it ahead, down", vert(2, 100, 300, -10), 0, vert(1, 300, 300, 0)},
		{"beyond it ahead by one", vert(2, 101, 100, 1), 0, vert(1, 100, 100, 0)},
		{"beyond it ahead by one, down", vert(2, 99, 100, -1), 0, vert(1, 100, 100, 0)},
		{"a Rate of 1", vert(2, 100, 111, 1), 0, vert(3, 101, 111, 1)},
		{"a Rate of 1, one further", vert(2, 100, 112, 1), 0, vert(2, 101, 112, 1)},
		{"a Rate of -1", vert(2, 111, 100, -1), 0, vert(3, 110, 100, -1)},
		{"a Rate of -1, one further", vert(2, 112, 100, -1), 0, vert(2, 111, 100, -1)},
		{"a Rate of 100 to the top", vert(2, 59901, 60000, 100), 0, vert(1, 60000, 60000, 0)},
		{"a Rate of -100 to the bottom", vert(2, 99, 0, -100), 0, vert(1, 0, 0, 0)},
		{"a Rate of 100 from the bottom", vert(2, 0, 60000, 100), 0, vert(2, 100, 60000, 100)},
		{"a Rate of 0, below", vert(2, 100, 110, 0), 0, vert(2, 100, 110, 0)},
		{"a Rate of 0, above", vert(2, 100, 90, 0), 0, vert(2, 100, 90, 0)},
		{"a Rate of 0 at its Target", vert(2, 100, 100, 0), 0, vert(2, 100, 100, 0)},
	})
}

func TestCapturesOfHeightByHand(t *testing.T) {
	askTicks(t, []tickCase{
		{"an even Rate", vert(3, 110, 200, 10), 0, vert(3, 115, 200, 10)},
		{"an odd Rate", vert(3, 110, 200, 11), 0, vert(3, 116, 200, 11)},
		{"an even Rate, down", vert(3, 200, 110, -10), 0, vert(3, 195, 110, -10)},
		{"an odd Rate, down", vert(3, 200, 110, -11), 0, vert(3, 194, 110, -11)},
		{"a Rate of 1", vert(3, 110, 112, 1), 0, vert(3, 111, 112, 1)},
		{"a Rate of -1", vert(3, 112, 110, -1), 0, vert(3, 111, 110, -1)},
		{"a Rate of 2", vert(3, 110, 112, 2), 0, vert(3, 111, 112, 2)},
		{"a Rate of -2", vert(3, 112, 110, -2), 0, vert(3, 111, 110, -2)},
		{"a Rate of 3", vert(3, 110, 113, 3), 0, vert(3, 112, 113, 3)},
		{"one step ahead of the Target", vert(3, 195, 200, 10), 0, vert(1, 200, 200, 0)},
		{"one further", vert(3, 194, 200, 10), 0, vert(3, 199, 200, 10)},
		{"one nearer", vert(3, 196, 200, 10), 0, vert(1, 200, 200, 0)},
		{"one step ahead of the Target, down", vert(3, 205, 200, -10), 0, vert(1, 200, 200, 0)},
		{"one further, down", vert(3, 206, 200, -10), 0, vert(3, 201, 200, -10)},
		{"one nearer, down", vert(3, 204, 200, -10), 0, vert(1, 200, 200, 0)},
		{"an odd Rate one step ahead", vert(3, 194, 200, 11), 0, vert(1, 200, 200, 0)},
		{"a Rate of 1 one step ahead", vert(3, 199, 200, 1), 0, vert(1, 200, 200, 0)},
		{"a Rate of -1 one step ahead", vert(3, 201, 200, -1), 0, vert(1, 200, 200, 0)},
		{"at the Target", vert(3, 200, 200, 10), 0, vert(1, 200, 200, 0)},
		{"a Rate of 0", vert(3, 198, 200, 0), 0, vert(3, 199, 200, 0)},
		{"a Rate of 0, down", vert(3, 202, 200, 0), 0, vert(3, 201, 200, 0)},
		{"a Rate of 0 one step ahead", vert(3, 199, 200, 0), 0, vert(1, 200, 200, 0)},
		{"toward the Target, wherever the Rate leads", vert(3, 200, 110, 10), 0, vert(3, 195, 110, 10)},
		{"toward the Target, wherever the Rate leads, up", vert(3, 110, 200, -10), 0, vert(3, 115, 200, -10)},
		{"from the bottom to the top", vert(3, 0, 60000, 100), 0, vert(3, 50, 60000, 100)},
		{"from the top to the bottom", vert(3, 60000, 0, -99), 0, vert(3, 59950, 0, -99)},
	})
}

func TestOtherModesOfHeightByHand(t *testing.T) {
	for _, mode := range []int{impl.VertHold, impl.VertPath} {
		for _, rate := range []int{-100, 0, 100} {
			askTicks(t, []tickCase{
				{"stays", vert(mode, 500, 900, rate), 0, vert(mode, 500, 900, rate)},
				{"stays at its Target", vert(mode, 500, 500, rate), 0, vert(mode, 500, 500, rate)},
			})
		}
	}
	askTicks(t, []tickCase{
		{"off, up", vert(0, 500, 505, 10), 0, vert(0, 510, 505, 10)},
		{"off, down", vert(0, 500, 495, -10), 0, vert(0, 490, 495, -10)},
		{"off, level", vert(0, 500, 900, 0), 0, vert(0, 500, 900, 0)},
		{"off, just to the top", vert(0, 59990, 0, 10), 0, vert(0, 60000, 0, 10)},
		{"off, beyond the top", vert(0, 59991, 0, 10), 0, vert(0, 60000, 0, 10)},
		{"off at the top", vert(0, 60000, 0, 100), 0, vert(0, 60000, 0, 100)},
		{"off, down from the top", vert(0, 60000, 0, -1), 0, vert(0, 59999, 0, -1)},
		{"off, just to the bottom", vert(0, 10, 700, -10), 0, vert(0, 0, 700, -10)},
		{"off, beyond the bottom", vert(0, 9, 700, -10), 0, vert(0, 0, 700, -10)},
		{"off at the bottom", vert(0, 0, 700, -100), 0, vert(0, 0, 700, -100)},
		{"off, up from the bottom", vert(0, 0, 700, 1), 0, vert(0, 1, 700, 1)},
	})
}

func TestDriftsByHand(t *testing.T) {
	askTicks(t, []tickCase{
		{"none", lat(0, 5, 9, 30, false), 0, lat(0, 5, 9, 30, false)},
		{"100", lat(0, 5, 9, 30, false), 100, lat(0, 5, 9, 130, false)},
		{"-100", lat(0, 5, 9, 30, false), -100, lat(0, 5, 9, -70, false)},
		{"just to the bound", lat(0, 5, 9, 9900, false), 100, lat(0, 5, 9, 10000, false)},
		{"beyond the bound", lat(0, 5, 9, 9901, false), 100, lat(0, 5, 9, 10000, false)},
		{"at the bound", lat(0, 5, 9, 10000, false), 1, lat(0, 5, 9, 10000, false)},
		{"just to the other bound", lat(0, 5, 9, -9900, false), -100, lat(0, 5, 9, -10000, false)},
		{"beyond the other bound", lat(0, 5, 9, -9901, false), -100, lat(0, 5, 9, -10000, false)},
		{"at the other bound", lat(0, 5, 9, -10000, false), -1, lat(0, 5, 9, -10000, false)},
		{"away from the bound", lat(0, 5, 9, 10000, false), -100, lat(0, 5, 9, 9900, false)},
		{"off and armed", lat(0, 5, 9, 0, true), 10, lat(0, 5, 9, 10, true)},
		{"held at the bound ahead of a capture", lat(3, 5, 9, 9950, false), 100, lat(3, 5, 9, 9990, false)},
		{"held at the other bound ahead of a capture", lat(3, 5, 9, -9950, false), -100, lat(3, 5, 9, -9990, false)},
	})
	for _, c := range rightPilots {
		for _, drift := range append([]int{-101, 101}, farNumbers...) {
			refusesTick(t, c.name, c.pilot, drift)
		}
	}
}

func TestHeadingsByHand(t *testing.T) {
	for _, c := range []struct{ heading, wanted, after int }{
		{100, 100, 100}, {100, 101, 101}, {100, 102, 102}, {100, 103, 103}, {100, 104, 103}, {100, 200, 103},
		{100, 99, 99}, {100, 98, 98}, {100, 97, 97}, {100, 96, 97}, {100, 20, 97},
		{359, 0, 0}, {359, 1, 1}, {359, 2, 2}, {359, 3, 2}, {358, 0, 0}, {358, 2, 1}, {357, 0, 0}, {356, 0, 359}, {357, 90, 0},
		{0, 359, 359}, {0, 358, 358}, {0, 357, 357}, {0, 356, 357}, {1, 359, 359}, {1, 350, 358}, {2, 359, 359}, {2, 300, 359}, {3, 359, 0}, {3, 0, 0},
		{0, 180, 3}, {180, 0, 183}, {90, 270, 93}, {270, 90, 273}, {359, 179, 2}, {179, 359, 182}, {1, 181, 4}, {358, 178, 1},
		{0, 179, 3}, {0, 181, 357}, {180, 359, 183}, {180, 1, 177}, {90, 271, 87}, {90, 269, 93}, {270, 91, 267}, {270, 89, 273},
		{0, 0, 0}, {359, 359, 359},
	} {
		askTicks(t, []tickCase{{"a heading", lat(1, c.heading, c.wanted, 7, false), 0, lat(1, c.after, c.wanted, 7, false)}})
		for _, mode := range []int{impl.LatOff, impl.LatCapture, impl.LatCourse} {
			if after, _ := impl.PilotTick(lat(mode, c.heading, c.wanted, 0, false), 0); after.Heading != c.heading || after.Wanted != c.wanted {
				t.Error("turned in another mode:", mode, c, after)
			}
		}
	}
}

func TestCapturesOfACourseByHand(t *testing.T) {
	askTicks(t, []tickCase{
		{"armed at 50", lat(1, 10, 20, 50, true), 0, lat(3, 13, 20, 50, false)},
		{"armed at 51", lat(1, 10, 20, 51, true), 0, lat(1, 13, 20, 51, true)},
		{"armed at -50", lat(1, 10, 20, -50, true), 0, lat(3, 13, 20, -50, false)},
		{"armed at -51", lat(1, 10, 20, -51, true), 0, lat(1, 13, 20, -51, true)},
		{"armed at 0", lat(1, 10, 20, 0, true), 0, lat(3, 13, 20, 0, false)},
		{"armed at 9, no capture in the same tick", lat(1, 10, 20, 9, true), 0, lat(3, 13, 20, 9, false)},
		{"armed, drifted to 50", lat(1, 10, 20, 90, true), -40, lat(3, 13, 20, 50, false)},
		{"armed, drifted to 51", lat(1, 10, 20, 50, true), 1, lat(1, 13, 20, 51, true)},
		{"armed, drifted to -50", lat(1, 10, 20, -150, true), 100, lat(3, 13, 20, -50, false)},
		{"armed, drifted to -51", lat(1, 10, 20, -50, true), -1, lat(1, 13, 20, -51, true)},
		{"not armed", lat(1, 10, 20, 0, false), 0, lat(1, 13, 20, 0, false)},
		{"off and armed", lat(0, 10, 20, 0, true), 0, lat(0, 10, 20, 0, true)},
		{"a capture at 0", lat(3, 10, 20, 0, false), 0, lat(2, 10, 20, 0, false)},
		{"a capture at 1", lat(3, 10, 20, 1, false), 0, lat(2, 10, 20, 0, false)},
		{"a capture at 9", lat(3, 10, 20, 9, false), 0, lat(2, 10, 20, 0, false)},
		{"a capture at 10", lat(3, 10, 20, 10, false), 0, lat(2, 10, 20, 0, false)},
		{"a capture at 11", lat(3, 10, 20, 11, false), 0, lat(3, 10, 20, 1, false)},
		{"a capture at -9", lat(3, 10, 20, -9, false), 0, lat(2, 10, 20, 0, false)},
		{"a capture at -10", lat(3, 10, 20, -10, false), 0, lat(2, 10, 20, 0, false)},
		{"a capture at -11", lat(3, 10, 20, -11, false), 0, lat(3, 10, 20, -1, false)},
		{"a capture far off", lat(3, 10, 20, 10000, false), 0, lat(3, 10, 20, 9990, false)},
		{"a capture that drifts to 10", lat(3, 10, 20, 5, false), 5, lat(2, 10, 20, 0, false)},
		{"a capture that drifts to 11", lat(3, 10, 20, 5, false), 6, lat(3, 10, 20, 1, false)},
		{"a capture that drifts through 0", lat(3, 10, 20, 5, false), -16, lat(3, 10, 20, -1, false)},
		{"a capture that is armed", lat(3, 10, 20, 11, true), 0, lat(3, 10, 20, 1, true)},
		{"a course at 0", lat(2, 10, 20, 0, false), 0, lat(2, 10, 20, 0, false)},
		{"a course at 20", lat(2, 10, 20, 20, false), 0, lat(2, 10, 20, 0, false)},
		{"a course at 21", lat(2, 10, 20, 21, false), 0, lat(3, 10, 20, 21, false)},
		{"a course at -20", lat(2, 10, 20, -20, false), 0, lat(2, 10, 20, 0, false)},
		{"a course at -21", lat(2, 10, 20, -21, false), 0, lat(3, 10, 20, -21, false)},
		{"a course that drifts to 20", lat(2, 10, 20, 0, false), 20, lat(2, 10, 20, 0, false)},
		{"a course that drifts to 21", lat(2, 10, 20, 0, false), 21, lat(3, 10, 20, 21, false)},
		{"a course that drifts to -21", lat(2, 10, 20, 0, false), -21, lat(3, 10, 20, -21, false)},
		{"a course that is armed", lat(2, 10, 20, 5, true), 0, lat(2, 10, 20, 0, true)},
	})
}

func TestHeightAndCourseGoInOneTick(t *testing.T) {
	askTicks(t, []tickCase{
		{"both change", impl.Pilot{Vert: 2, Lat: 1, Height: 100, Target: 200, Rate: 10, Heading: 1, Wanted: 350, Off: 45, Armed: true}, 4,
			impl.Pilot{Vert: 3, Lat: 3, Height: 110, Target: 200, Rate: 10, Heading: 358, Wanted: 350, Off: 49}},
		{"both go on", impl.Pilot{Vert: 3, Lat: 3, Height: 110, Target: 200, Rate: 10, Heading: 358, Wanted: 350, Off: 49}, 4,
			impl.Pilot{Vert: 3, Lat: 3, Height: 115, Target: 200, Rate: 10, Heading: 358, Wanted: 350, Off: 43}},
		{"both end", impl.Pilot{Vert: 3, Lat: 3, Height: 195, Target: 200, Rate: 10, Heading: 358, Wanted: 350, Off: 6}, 4,
			impl.Pilot{Vert: 1, Lat: 2, Height: 200, Target: 200, Heading: 358, Wanted: 350}},
	})
}

func TestTicksByHand(t *testing.T) {
	p := vert(2, 100, 131, 10)
	list, ok := impl.Ticks(p, []int{0, 0, 0, 0, 0, 0})
	want := []impl.Pilot{vert(3, 110, 131, 10), vert(3, 115, 131, 10), vert(3, 120, 131, 10), vert(3, 125, 131, 10), vert(3, 130, 131, 10), vert(1, 131, 131, 0)}
	if !slices.Equal(list, want) || !ok {
		t.Error("a climb:", list, ok)
	}
	for _, none := range [][]int{nil, {}} {
		if list, ok := impl.Ticks(p, none); len(list) != 0 || !ok {
			t.Error("no tick:", list, ok)
		}
	}
	if list, ok := impl.Ticks(lat(0, 0, 0, 0, false), slices.Repeat([]int{100}, 300)); len(list) != 300 || list[299].Off != 10000 || list[98].Off != 9900 || !ok {
		t.Error("300 ticks:", len(list), ok)
	}
	refusesTicks(t, "301 ticks", p, make([]int, 301))
	refusesTicks(t, "far too many", p, make([]int, 5000))
	for _, wrong := range append([]int{-101, 101}, farNumbers...) {
		refusesTicks(t, "one drift", p, []int{wrong})
		refusesTicks(t, "the first drift", p, []int{wrong, 0, 0})
		refusesTicks(t, "one in the middle", p, []int{0, wrong, 0})
		refusesTicks(t, "the last drift", p, []int{0, 0, wrong})
	}
	if list, ok := impl.Ticks(p, []int{-100, 100, 0}); len(list) != 3 || !ok || list[0].Off != -100 || list[1].Off != 0 {
		t.Error("drifts at their bounds:", list, ok)
	}
}

func TestChangesByHand(t *testing.T) {
	for _, c := range []struct {
		name  string
		verts []int
		many  int
	}{
		{"none", nil, 0},
		{"one", []int{2}, 0},
		{"two alike", []int{2, 2}, 0},
		{"two unlike", []int{2, 3}, 1},
		{"a change and back", []int{1, 2, 1}, 2},
		{"a change, a stay and back", []int{1, 2, 2, 1}, 2},
		{"to and fro", []int{1, 2, 1, 2, 1}, 4},
		{"at the end", []int{1, 1, 1, 4}, 1},
		{"modes that are none", []int{-1, 77, 77, math.MaxInt, math.MinInt}, 3},
	} {
		var list []impl.Pilot
		for i, mode := range c.verts {
			list = append(list, impl.Pilot{Vert: mode, Lat: i, Height: -i, Armed: i%2 == 0})
		}
		if got := impl.Changes(list); got != c.many {
			t.Errorf("%s: %d, not %d", c.name, got, c.many)
		}
	}
	if got := impl.Changes(make([]impl.Pilot, 5000)); got != 0 {
		t.Error("a long list:", got)
	}
}

func pilotFrom(r *rand.Rand) impl.Pilot {
	p := impl.Pilot{Vert: r.Intn(5), Lat: r.Intn(4), Height: r.Intn(60001), Target: r.Intn(60001), Rate: r.Intn(201) - 100,
		Heading: r.Intn(360), Wanted: r.Intn(360), Off: r.Intn(20001) - 10000, Armed: r.Intn(2) == 0}
	if r.Intn(3) > 0 {
		p.Target = min(max(p.Height+r.Intn(2401)-1200, 0), 60000)
	}
	switch r.Intn(4) {
	case 0:
		p.Rate = r.Intn(7) - 3
		p.Target = min(max(p.Height+r.Intn(101)-50, 0), 60000)
	case 1:
		p.Height = []int{0, 50, 59950, 60000}[r.Intn(4)]
	}
	if r.Intn(3) > 0 {
		p.Off = r.Intn(241) - 120
	}
	if r.Intn(2) == 0 {
		p.Wanted = (p.Heading + []int{0, 1, 2, 3, 4, 177, 178, 179, 180, 181, 182, 183, 356, 357, 358, 359}[r.Intn(16)]) % 360
	}
	return p
}

// spoilPilot makes a number wrong now and then, by as little as may be.
func spoilPilot(r *rand.Rand, p *impl.Pilot) {
	wrong := r.Intn(2)
	switch r.Intn(60) {
	case 0:
		p.Vert = []int{-1, 5}[wrong]
	case 1:
		p.Lat = []int{-1, 4}[wrong]
	case 2:
		p.Height = []int{-1, 60001}[wrong]
	case 3:
		p.Target = []int{-1, 60001}[wrong]
	case 4:
		p.Rate = []int{-101, 101}[wrong]
	case 5:
		p.Heading = []int{-1, 360}[wrong]
	case 6:
		p.Wanted = []int{-1, 360}[wrong]
	case 7:
		p.Off = []int{-10001, 10001}[wrong]
	}
}

func manyFrom(r *rand.Rand, p impl.Pilot) int {
	switch r.Intn(5) {
	case 0:
		return r.Intn(60003) - 1
	case 1:
		return r.Intn(205) - 102
	case 2:
		return []int{-101, -100, -1, 0, 100, 101, 359, 360, 60000, 60001}[r.Intn(10)]
	}
	return p.Height + r.Intn(5) - 2
}

func TestKeysAreAsTheWordsSay(t *testing.T) {
	r := rand.New(rand.NewSource(100))
	done, refused := [8]int{}, [8]int{}
	for range 100000 {
		p, key := pilotFrom(r), r.Intn(9)
		many := manyFrom(r, p)
		spoilPilot(r, &p)
		after, ok := impl.Press(p, key, many)
		if want, wantOk := pressByWords(p, key, many); after != want || ok != wantOk {
			t.Fatalf("Press of %+v, %d, %d: %+v %v, not %+v %v", p, key, many, after, ok, want, wantOk)
		}
		if ok && !impl.PilotOk(after) {
			t.Fatalf("Press of %+v, %d, %d: %+v", p, key, many, after)
		}
		if key < 8 && ok {
			done[key]++
		} else if key < 8 {
			refused[key]++
		}
	}
	if done[0] != 0 || slices.Min(done[1:]) < 200 || slices.Min(refused[:]) < 200 {
		t.Error("too few of a kind were tried:", done, refused)
	}
}

func TestPilotTicksAreAsTheWordsSay(t *testing.T) {
	r := rand.New(rand.NewSource(101))
	verts, lats := [5][5]int{}, [4][4]int{}
	for range 150000 {
		p, drift := pilotFrom(r), r.Intn(203)-101
		if r.Intn(2) == 0 {
			drift = 0
		}
		spoilPilot(r, &p)
		after, ok := impl.PilotTick(p, drift)
		if want, wantOk := tickByWords(p, drift); after != want || ok != wantOk {
			t.Fatalf("PilotTick of %+v, %d: %+v %v, not %+v %v", p, drift, after, ok, want, wantOk)
		}
		if ok && !impl.PilotOk(after) {
			t.Fatalf("PilotTick of %+v, %d: %+v", p, drift, after)
		}
		if ok {
			verts[p.Vert][after.Vert]++
			lats[p.Lat][after.Lat]++
		}
	}
	for _, way := range [][2]int{{2, 1}, {2, 2}, {2, 3}, {3, 1}, {3, 3}, {0, 0}, {1, 1}, {4, 4}} {
		if verts[way[0]][way[1]] < 100 {
			t.Error("too few of a kind were tried:", way, verts)
		}
	}
	for _, way := range [][2]int{{0, 0}, {1, 1}, {1, 3}, {3, 3}, {3, 2}, {2, 2}, {2, 3}} {
		if lats[way[0]][way[1]] < 100 {
			t.Error("too few of a kind were tried:", way, lats)
		}
	}
}

func TestEverySmallClimbIsAsTheWordsSay(t *testing.T) {
	for mode := impl.VertOff; mode <= impl.VertPath; mode++ {
		for height := 0; height <= 40; height++ {
			for target := 0; target <= 40; target++ {
				for rate := -5; rate <= 5; rate++ {
					p := vert(mode, height, target, rate)
					after, ok := impl.PilotTick(p, 0)
					if want, _ := tickByWords(p, 0); after != want || !ok {
						t.Fatalf("PilotTick of %+v: %+v %v, not %+v", p, after, ok, want)
					}
					for key := impl.KeyHold; key <= impl.KeyRate; key++ {
						after, ok := impl.Press(p, key, 20)
						if want, wantOk := pressByWords(p, key, 20); after != want || ok != wantOk {
							t.Fatalf("Press of %+v, %d: %+v %v, not %+v %v", p, key, after, ok, want, wantOk)
						}
					}
				}
			}
		}
	}
}

// A list of ticks is the ticks one after the other, also where it is flown on from its middle.
func TestTicksAreTicksOneAfterTheOther(t *testing.T) {
	r := rand.New(rand.NewSource(102))
	for range 500 {
		p, drifts := pilotFrom(r), listOf(r, r.Intn(301), -100, 100)
		if r.Intn(2) == 0 {
			drifts = listOf(r, r.Intn(301), -8, 8)
		}
		list, ok := impl.Ticks(p, drifts)
		if len(list) != len(drifts) || !ok {
			t.Fatal("Ticks:", len(list), len(drifts), ok)
		}
		now := p
		for i, drift := range drifts {
			now, _ = tickByWords(now, drift)
			if list[i] != now {
				t.Fatalf("Ticks of %+v: at %d %+v, not %+v", p, i, list[i], now)
			}
		}
		if len(drifts) > 1 {
			cut := len(drifts) / 2
			if rest, _ := impl.Ticks(list[cut-1], drifts[cut:]); !slices.Equal(rest, list[cut:]) {
				t.Fatalf("flown on from the middle: %+v", p)
			}
		}
	}
}

// Promise 10: a climb that leads to its target ends held at it, by two changes at most, by way of a capture at most.
func TestAClimbEndsHeldAtItsTarget(t *testing.T) {
	r := rand.New(rand.NewSource(103))
	direct, captured := 0, 0
	for range 2000 {
		p := pilotFrom(r)
		p, ok := impl.Press(p, impl.KeyClimb, 0)
		if !ok {
			continue
		}
		flown := []impl.Pilot{p}
		for flown[len(flown)-1].Vert != impl.VertHold {
			list, ok := impl.Ticks(flown[len(flown)-1], listOf(r, 300, -100, 100))
			if !ok || len(flown) > 63000 {
				t.Fatalf("never held: %+v", p)
			}
			flown = append(flown, list...)
		}
		stays, _ := impl.Ticks(flown[len(flown)-1], listOf(r, 300, -100, 100))
		flown = append(flown, stays...)
		climbIsSo(t, p, flown)
		switch impl.Changes(flown) {
		case 1:
			direct++
		case 2:
			captured++
		default:
			t.Fatalf("changes %d times: %+v", impl.Changes(flown), p)
		}
	}
	if direct < 10 || captured < 200 {
		t.Error("too few of a kind were tried:", direct, captured)
	}
}

// climbIsSo wants each height nearer to the target than the one ahead, until it is held there.
func climbIsSo(t *testing.T, p impl.Pilot, flown []impl.Pilot) {
	t.Helper()
	order := map[int]int{impl.VertClimb: 0, impl.VertCapture: 1, impl.VertHold: 2}
	for i, now := range flown {
		place, known := order[now.Vert]
		held := now.Vert == impl.VertHold
		if !known || now.Target != p.Target || held != (now.Height == p.Target) || held != (now.Rate == 0) {
			t.Fatalf("of %+v: %+v", p, now)
		}
		if i == 0 {
			continue
		}
		ahead := flown[i-1]
		before, after := p.Target-ahead.Height, p.Target-now.Height
		if place < order[ahead.Vert] || sizeByWords(after) >= sizeByWords(before) && before != 0 || after*before < 0 {
			t.Fatalf("of %+v: %+v behind %+v", p, now, ahead)
		}
	}
	if last := flown[len(flown)-1]; last.Vert != impl.VertHold || last.Height != p.Target {
		t.Fatalf("of %+v: ends as %+v", p, last)
	}
}

// Promise 10: a heading is reached the shorter way, in as many ticks as that takes, from each to each.
func TestHeadingsAreReachedTheShorterWay(t *testing.T) {
	for heading := range 360 {
		for wanted := range 360 {
			p, ok := impl.Press(impl.Pilot{Heading: heading}, impl.KeyHeading, wanted)
			if !ok {
				t.Fatal("no key", heading, wanted)
			}
			right := (wanted - heading + 360) % 360
			side, way := 1, right
			if right > 180 {
				side, way = -1, 360-right
			}
			for left := way; left > 0; left -= 3 {
				at := ((wanted-side*left)%360 + 360) % 360
				if p.Heading != at {
					t.Fatalf("from %d to %d: %d, not %d", heading, wanted, p.Heading, at)
				}
				p, _ = impl.PilotTick(p, 0)
			}
			if again, _ := impl.PilotTick(p, 0); p.Heading != wanted || again != p {
				t.Fatalf("from %d to %d: ends at %d and %d", heading, wanted, p.Heading, again.Heading)
			}
			if list, _ := impl.Ticks(impl.Pilot{Lat: 1, Heading: heading, Wanted: wanted}, make([]int, 60)); list[59].Heading != wanted {
				t.Fatalf("from %d to %d: not in 60 ticks: %d", heading, wanted, list[59].Heading)
			}
		}
	}
}

// Promise 10: what is armed is captured once, and with little drift is left no more.
func TestACourseIsCapturedOnce(t *testing.T) {
	r := rand.New(rand.NewSource(104))
	for range 3000 {
		p := pilotFrom(r)
		p, _ = impl.Press(p, impl.KeyHeading, r.Intn(360))
		p, ok := impl.Press(p, impl.KeyArm, 0)
		if !ok || !p.Armed {
			t.Fatal("not armed", p, ok)
		}
		p.Off = r.Intn(1001) - 500
		to := 9
		if p.Off > 0 {
			to = -9
		}
		drifts := append(slices.Repeat([]int{to}, 60), listOf(r, 200, -9, 9)...)
		list, _ := impl.Ticks(p, drifts)
		order := map[int]int{impl.LatHeading: 0, impl.LatCapture: 1, impl.LatCourse: 2}
		ahead, captures := p, 0
		for _, now := range list {
			if order[now.Lat] < order[ahead.Lat] || order[now.Lat] > order[ahead.Lat]+1 || now.Armed != (now.Lat == impl.LatHeading) {
				t.Fatalf("of %+v: %+v behind %+v", p, now, ahead)
			}
			if now.Lat != ahead.Lat && now.Lat == impl.LatCapture {
				captures++
			}
			if now.Lat == impl.LatHeading && sizeByWords(now.Off) <= 50 {
				t.Fatalf("not captured: %+v", now)
			}
			ahead = now
		}
		if captures != 1 || ahead.Lat != impl.LatCourse || ahead.Off != 0 {
			t.Fatalf("of %+v: %d captures, ends as %+v", p, captures, ahead)
		}
	}
}

func TestPilotsWriteIntoNoArgument(t *testing.T) {
	r := rand.New(rand.NewSource(105))
	for range 100 {
		drifts := roomy(listOf(r, r.Intn(310), -100, 100+r.Intn(2)))
		whole := slices.Clone(drifts[:len(drifts)+4])
		p := pilotFrom(r)
		list, _ := impl.Ticks(p, drifts)
		again, _ := impl.Ticks(p, drifts)
		kept := slices.Clone(again)
		for i := range list[:cap(list)] {
			list[:cap(list)][i] = impl.Pilot{Vert: -7}
		}
		if !slices.Equal(again, kept) {
			t.Fatal("two answers share their memory")
		}
		if !slices.Equal(drifts[:len(drifts)+4], whole) {
			t.Fatal("written into the drifts")
		}
		roomyList := append(slices.Clone(again), impl.Pilot{Vert: 9}, impl.Pilot{Vert: 8})
		all := slices.Clone(roomyList)
		if many := impl.Changes(roomyList[:len(again)]); many != impl.Changes(again) {
			t.Fatal("what lies behind the list is read:", many)
		}
		if !slices.Equal(roomyList, all) {
			t.Fatal("written into the list")
		}
	}
}

// The document's 'Ways': modes are a machine with goto between its labels, and keys are method expressions in a map.
func TestThePilotIsBuiltItsWay(t *testing.T) {
	file, err := parser.ParseFile(token.NewFileSet(), "../impl/l10_auto.go", nil, 0)
	if err != nil {
		t.Fatal(err)
	}
	rows, jumps, labels := map[string]bool{}, 0, 0
	ast.Inspect(file, func(n ast.Node) bool {
		switch x := n.(type) {
		case *ast.BranchStmt:
			if x.Tok == token.GOTO {
				jumps++
			}
		case *ast.LabeledStmt:
			labels++
		case *ast.CompositeLit:
			if _, ok := x.Type.(*ast.MapType); ok {
				keysOfMethods(x, rows)
			}
		}
		return true
	})
	for _, key := range []string{"KeyHold", "KeyClimb", "KeyTarget", "KeyHeading", "KeyArm", "KeyOff", "KeyRate"} {
		if !rows[key] {
			t.Error("no method expression in the map at", key)
		}
	}
	if jumps < 2 || labels < 2 {
		t.Error("no machine:", jumps, labels)
	}
}

func keysOfMethods(table *ast.CompositeLit, rows map[string]bool) {
	for _, row := range table.Elts {
		pair, ok := row.(*ast.KeyValueExpr)
		if !ok {
			continue
		}
		key, named := pair.Key.(*ast.Ident)
		method, chosen := pair.Value.(*ast.SelectorExpr)
		if named && chosen && isNamed(method.X, "Pilot") {
			rows[key.Name] = true
		}
	}
}
