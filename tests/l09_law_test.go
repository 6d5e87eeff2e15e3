package tests

import (
	"go/ast"
	"go/parser"
	"go/token"
	"math"
	"math/big"
	"math/rand"
	"reflect"
	"slices"
	"testing"

	"loop.example/g00063/impl"
)

// gain takes a speed and its gain in turn.
func gain(pairs ...int) impl.Gain {
	g := impl.Gain{}
	for i := 0; i+1 < len(pairs); i += 2 {
		g.Speeds, g.Gains = append(g.Speeds, pairs[i]), append(g.Gains, pairs[i+1])
	}
	return g
}

// steadyGain is the same at every speed.
func steadyGain(all int) impl.Gain { return gain(0, all, 1000, all) }

func limits(low, high, step int) impl.Limits { return impl.Limits{Low: low, High: high, Step: step} }

func stick(ask, rate, speed, load int) impl.Stick {
	return impl.Stick{Ask: ask, Rate: rate, Speed: speed, Load: load}
}

func mixer(a, b []int) impl.Mixer { return impl.Mixer{A: a, B: b} }

func gainIsSo(g impl.Gain) bool {
	if len(g.Speeds) < 2 || len(g.Speeds) > 8 || len(g.Gains) != len(g.Speeds) {
		return false
	}
	for i, speed := range g.Speeds {
		if i > 0 && speed <= g.Speeds[i-1] {
			return false
		}
	}
	return allIn(g.Speeds, 0, 1000) && allIn(g.Gains, 0, 1000)
}

func limitsAreSo(l impl.Limits) bool {
	return allIn([]int{l.Low, l.High}, -10000, 10000) && l.Low <= l.High && allIn([]int{l.Step}, 1, 10000)
}

func stickIsSo(s impl.Stick) bool {
	return allIn([]int{s.Ask, s.Load}, -1000, 1000) && allIn([]int{s.Rate}, -10000, 10000)
}

// gainByWords is the floor of what big fractions say.
func gainByWords(g impl.Gain, speed int) int {
	if !gainIsSo(g) {
		return 0
	}
	last := len(g.Speeds) - 1
	if speed <= g.Speeds[0] {
		return g.Gains[0]
	}
	if speed >= g.Speeds[last] {
		return g.Gains[last]
	}
	exact, _ := alongList(g.Speeds, rats(g.Gains), speed)
	return int(new(big.Int).Div(exact.Num(), exact.Denom()).Int64())
}

// hundredthTowardNought takes the sign off, so that no division is below 0.
func hundredthTowardNought(n int) int {
	if n < 0 {
		return -(-n / 100)
	}
	return n / 100
}

func lawIsSo(mode int, g impl.Gain, s impl.Stick, l impl.Limits, now int) bool {
	return mode >= 0 && mode <= 2 && gainIsSo(g) && stickIsSo(s) && limitsAreSo(l) && now >= l.Low && now <= l.High
}

// lawByWords tells the code by the bounds that changed something, one by one.
func lawByWords(mode int, g impl.Gain, s impl.Stick, l impl.Limits, now int) (int, int) {
	if !lawIsSo(mode, g, s, l, now) {
		return now, 1
	}
	told := 10 * s.Ask
	if mode != 2 {
		told = hundredthTowardNought(gainByWords(g, s.Speed) * (s.Ask - s.Rate))
	}
	code := 0
	become := func(changed bool, to int) {
		if changed {
			told, code = to, 2
		}
	}
	if mode == 0 {
		become(s.Load > 250 && told > now, now)
		become(s.Load < -100 && told < now, now)
	}
	become(told < l.Low, l.Low)
	become(told > l.High, l.High)
	become(told < now-l.Step, now-l.Step)
	become(told > now+l.Step, now+l.Step)
	return told, code
}

func modeByWords(lanes int, air bool, fails int) int {
	switch {
	case lanes < 2, fails > 2:
		return 2
	case !air, fails > 0:
		return 1
	}
	return 0
}

func mixIsSo(m impl.Mixer, pitch, roll int, l impl.Limits) bool {
	return len(m.A) <= 12 && len(m.A) == len(m.B) && allIn(m.A, -100, 100) && allIn(m.B, -100, 100) &&
		limitsAreSo(l) && allIn([]int{pitch, roll}, -10000, 10000)
}

func mixByWords(m impl.Mixer, pitch, roll int, l impl.Limits) ([]int, int, bool) {
	if !mixIsSo(m, pitch, roll, l) {
		return nil, 0, false
	}
	var told []int
	changed := 0
	for i := range m.A {
		one := hundredthTowardNought(m.A[i]*pitch + m.B[i]*roll)
		switch {
		case one < l.Low:
			one, changed = l.Low, changed+1
		case one > l.High:
			one, changed = l.High, changed+1
		}
		told = append(told, one)
	}
	return told, changed, true
}

func trimByWords(trim, held, hold int) (int, int, bool) {
	if !allIn([]int{trim, held}, -1000, 1000) || !allIn([]int{hold}, 0, 9) {
		return 0, 0, false
	}
	switch {
	case held == 0:
		return trim, 0, true
	case hold < 9:
		return trim, hold + 1, true
	case held > 0 && trim < 1000:
		return trim + 1, 0, true
	case held < 0 && trim > -1000:
		return trim - 1, 0, true
	}
	return trim, 0, true
}

func TestLimitsOfLaws(t *testing.T) {
	if impl.MaxSurfaces != 12 {
		t.Error("limit", impl.MaxSurfaces)
	}
	if impl.LawNormal != 0 || impl.LawAlternate != 1 || impl.LawDirect != 2 {
		t.Error("laws", impl.LawNormal, impl.LawAlternate, impl.LawDirect)
	}
	if impl.LawOk != 0 || impl.LawBad != 1 || impl.LawLimited != 2 {
		t.Error("codes", impl.LawOk, impl.LawBad, impl.LawLimited)
	}
}

var rightGains = []struct {
	name string
	gain impl.Gain
}{
	{"two numbers", gain(10, 5, 20, 7)},
	{"eight numbers", gain(1, 8, 2, 7, 3, 6, 4, 5, 5, 4, 6, 3, 7, 2, 8, 1)},
	{"speeds of 0 and 1000", gain(0, 5, 1000, 7)},
	{"gains of 0 and 1000", gain(10, 0, 20, 1000)},
	{"gains of 1000 and 0", gain(10, 1000, 20, 0)},
	{"speeds one apart", gain(999, 5, 1000, 5)},
	{"gains alike", gain(0, 0, 1, 0, 2, 0)},
}

var wrongGains = []struct {
	name string
	gain impl.Gain
}{
	{"the zero value", impl.Gain{}},
	{"one number", gain(10, 5)},
	{"nine numbers", gain(1, 9, 2, 8, 3, 7, 4, 6, 5, 5, 6, 4, 7, 3, 8, 2, 9, 1)},
	{"far too many", impl.Gain{Speeds: numbersTo(1000), Gains: numbersTo(1000)}},
	{"fewer gains than speeds", impl.Gain{Speeds: []int{1, 2, 3}, Gains: []int{4, 5}}},
	{"more gains than speeds", impl.Gain{Speeds: []int{1, 2}, Gains: []int{4, 5, 6}}},
	{"no gains", impl.Gain{Speeds: []int{1, 2}}},
	{"no speeds", impl.Gain{Gains: []int{1, 2}}},
	{"speeds that are alike", gain(10, 5, 10, 7)},
	{"later speeds that are alike", gain(10, 5, 20, 7, 20, 7)},
	{"speeds that fall", gain(20, 5, 10, 7)},
	{"later speeds that fall", gain(10, 5, 30, 7, 20, 7)},
	{"a speed of -1", gain(-1, 5, 10, 7)},
	{"a speed of 1001", gain(10, 5, 1001, 7)},
	{"a first gain of -1", gain(10, -1, 20, 7)},
	{"a last gain of -1", gain(10, 5, 20, -1)},
	{"a first gain of 1001", gain(10, 1001, 20, 7)},
	{"a last gain of 1001", gain(10, 5, 20, 1001)},
	{"far speeds", gain(math.MinInt, 5, math.MaxInt, 7)},
	{"far gains", gain(10, math.MinInt, 20, math.MaxInt)},
}

func TestGainOkAtItsEdges(t *testing.T) {
	for _, c := range rightGains {
		if !impl.GainOk(c.gain) {
			t.Error("refused:", c.name)
		}
	}
	for _, c := range wrongGains {
		if impl.GainOk(c.gain) {
			t.Error("accepted:", c.name)
		}
		for _, speed := range []int{0, 10, 15, 20, math.MinInt, math.MaxInt} {
			if got := impl.GainAt(c.gain, speed); got != 0 {
				t.Error("GainAt:", c.name, speed, got)
			}
		}
		for mode := impl.LawNormal; mode <= impl.LawDirect; mode++ {
			refusesLaw(t, c.name, mode, c.gain, stick(10, 0, 15, 0), limits(-100, 100, 30), 7)
		}
	}
}

func TestGainAtByHand(t *testing.T) {
	g := gain(100, 400, 200, 800, 203, 793, 300, 0)
	for _, c := range []struct {
		name       string
		speed, all int
	}{
		{"far below the first", math.MinInt, 400},
		{"0", 0, 400},
		{"just below the first", 99, 400},
		{"at the first", 100, 400},
		{"just above the first", 101, 404},
		{"in between, a whole number", 150, 600},
		{"just below one in the middle", 199, 796},
		{"at one in the middle", 200, 800},
		{"falling, no whole number", 201, 797},
		{"falling, no whole number again", 202, 795},
		{"at the next in the middle", 203, 793},
		{"falling to 0, no whole number", 299, 8},
		{"at the last", 300, 0},
		{"just above the last", 301, 0},
		{"far above the last", math.MaxInt, 0},
	} {
		if got := impl.GainAt(g, c.speed); got != c.all {
			t.Errorf("%s: %d, not %d", c.name, got, c.all)
		}
	}
	for _, c := range []struct {
		name       string
		gain       impl.Gain
		speed, all int
	}{
		{"rising, down", gain(0, 0, 3, 1), 2, 0},
		{"falling, down", gain(0, 1, 3, 0), 1, 0},
		{"the widest, rising", gain(0, 0, 1000, 1000), 999, 999},
		{"the widest, falling", gain(0, 1000, 1000, 0), 1, 999},
		{"the widest, falling by one", gain(0, 1000, 1000, 999), 1, 999},
		{"the widest, rising by one", gain(0, 999, 1000, 1000), 999, 999},
		{"held at 1000", gain(0, 0, 1000, 1000), math.MaxInt, 1000},
		{"held at 1000 below", gain(0, 1000, 1000, 0), math.MinInt, 1000},
		{"eight numbers, the last piece", gain(0, 0, 1, 0, 2, 0, 3, 0, 4, 0, 5, 0, 6, 10, 8, 20), 7, 15},
	} {
		if got := impl.GainAt(c.gain, c.speed); got != c.all {
			t.Errorf("%s: %d, not %d", c.name, got, c.all)
		}
	}
}

func refusesLaw(t *testing.T, name string, mode int, g impl.Gain, s impl.Stick, l impl.Limits, now int) {
	t.Helper()
	if told, code := impl.Law(mode, g, s, l, now); told != now || code != impl.LawBad {
		t.Error("Law:", name, mode, told, code)
	}
}

// lawCase has a gain of 100 unless it says so, so that what is wanted by gain is the Ask less the Rate.
type lawCase struct {
	name       string
	modes      []int
	all        int
	stick      impl.Stick
	limits     impl.Limits
	now        int
	told, code int
}

var (
	everyMode = []int{0, 1, 2}
	byGain    = []int{0, 1}
)

func askLaw(t *testing.T, cases []lawCase) {
	t.Helper()
	for _, c := range cases {
		for _, mode := range c.modes {
			if told, code := impl.Law(mode, steadyGain(c.all), c.stick, c.limits, c.now); told != c.told || code != c.code {
				t.Errorf("%s, law %d: %d %d, not %d %d", c.name, mode, told, code, c.told, c.code)
			}
		}
	}
}

func TestWhatIsWantedByHand(t *testing.T) {
	far := limits(-10000, 10000, 10000)
	askLaw(t, []lawCase{
		{"by gain", byGain, 250, stick(10, 0, 50, 0), far, 0, 25, 0},
		{"less the rate", byGain, 250, stick(10, 30, 50, 0), far, 0, -50, 0},
		{"toward 0, above it", byGain, 33, stick(5, 0, 50, 0), far, 0, 1, 0},
		{"toward 0, below it", byGain, 33, stick(-5, 0, 50, 0), far, 0, -1, 0},
		{"just below a whole one below 0", byGain, 199, stick(-1, 0, 50, 0), far, 0, -1, 0},
		{"just a whole one below 0", byGain, 100, stick(-2, 0, 50, 0), far, 0, -2, 0},
		{"less than one below 0", byGain, 99, stick(-1, 0, 50, 0), far, 3, 0, 0},
		{"a gain of 0", byGain, 0, stick(1000, -10000, 50, 0), far, 9, 0, 0},
		{"a gain of 1000", byGain, 1000, stick(7, 3, 50, 0), far, 9, 40, 0},
		{"an ask of 1000", byGain, 100, stick(1000, 0, 50, 0), far, 0, 1000, 0},
		{"an ask of -1000", byGain, 100, stick(-1000, 0, 50, 0), far, 0, -1000, 0},
		{"a rate of 10^4", byGain, 90, stick(0, 10000, 50, 0), far, 0, -9000, 0},
		{"a rate of -10^4", byGain, 90, stick(0, -10000, 50, 0), far, 0, 9000, 0},
		{"the most that can be wanted", byGain, 1000, stick(1000, -10000, 50, 0), far, 0, 10000, 2},
		{"the least that can be wanted", byGain, 1000, stick(-1000, 10000, 50, 0), far, 0, -10000, 2},
		{"direct", []int{2}, 250, stick(7, 0, 50, 0), far, 0, 70, 0},
		{"direct, below 0", []int{2}, 250, stick(-7, 0, 50, 0), far, 0, -70, 0},
		{"direct, no rate is looked at", []int{2}, 250, stick(7, -10000, 50, 0), far, 0, 70, 0},
		{"direct, no gain is looked at", []int{2}, 0, stick(1000, 0, 50, 0), far, 0, 10000, 0},
		{"direct, an ask of -1000", []int{2}, 1000, stick(-1000, 0, 50, 0), far, 0, -10000, 0},
		{"nothing asked", everyMode, 250, stick(0, 0, 50, 0), far, -400, 0, 0},
	})
}

func TestTheSpeedIsAnyNumber(t *testing.T) {
	g := gain(100, 400, 200, 100)
	for _, c := range []struct{ speed, told int }{{math.MinInt, 40}, {-1, 40}, {100, 40}, {150, 25}, {199, 10}, {200, 10}, {1001, 10}, {math.MaxInt, 10}} {
		for _, mode := range byGain {
			if told, code := impl.Law(mode, g, stick(10, 0, c.speed, 0), limits(-100, 100, 100), 0); told != c.told || code != impl.LawOk {
				t.Error(mode, c.speed, told, code)
			}
		}
		if told, code := impl.Law(impl.LawDirect, g, stick(10, 0, c.speed, 0), limits(-100, 100, 100), 0); told != 100 || code != impl.LawOk {
			t.Error("direct", c.speed, told, code)
		}
	}
}

// What is wanted is above, at and below now: with an ask of 10 that is 10 by gain and 100 directly.
func TestTheLoadHoldsInTheNormalLawAlone(t *testing.T) {
	far := limits(-10000, 10000, 10000)
	for _, load := range []int{-1000, -101, -100, 0, 250, 251, 1000} {
		for _, c := range []struct{ mode, wanted int }{{impl.LawNormal, 10}, {impl.LawAlternate, 10}, {impl.LawDirect, 100}} {
			for _, now := range []int{c.wanted - 1, c.wanted, c.wanted + 1, c.wanted - 500, c.wanted + 500} {
				held := c.mode == impl.LawNormal && (load > 250 && c.wanted > now || load < -100 && c.wanted < now)
				want, wantCode := c.wanted, impl.LawOk
				if held {
					want, wantCode = now, impl.LawLimited
				}
				told, code := impl.Law(c.mode, steadyGain(100), stick(10, 0, 50, load), far, now)
				if told != want || code != wantCode {
					t.Errorf("law %d, load %d, now %d: %d %d, not %d %d", c.mode, load, now, told, code, want, wantCode)
				}
			}
		}
	}
}

func TestTheLoadByHand(t *testing.T) {
	near := limits(-100, 100, 30)
	askLaw(t, []lawCase{
		{"250 holds nothing", []int{0}, 100, stick(20, 0, 50, 250), near, 0, 20, 0},
		{"251 holds what is above now", []int{0}, 100, stick(20, 0, 50, 251), near, 0, 0, 2},
		{"251 leaves what is now", []int{0}, 100, stick(20, 0, 50, 251), near, 20, 20, 0},
		{"251 leaves what is below now", []int{0}, 100, stick(20, 0, 50, 251), near, 21, 20, 0},
		{"251, below now by more than a step", []int{0}, 100, stick(20, 0, 50, 251), near, 60, 30, 2},
		{"-100 holds nothing", []int{0}, 100, stick(-20, 0, 50, -100), near, 0, -20, 0},
		{"-101 holds what is below now", []int{0}, 100, stick(-20, 0, 50, -101), near, 0, 0, 2},
		{"-101 leaves what is now", []int{0}, 100, stick(-20, 0, 50, -101), near, -20, -20, 0},
		{"-101 leaves what is above now", []int{0}, 100, stick(-20, 0, 50, -101), near, -21, -20, 0},
		{"-101, above now by more than a step", []int{0}, 100, stick(-20, 0, 50, -101), near, -60, -30, 2},
		{"251, beyond the limits too", []int{0}, 100, stick(900, 0, 50, 251), near, 40, 40, 2},
		{"-101, beyond the limits too", []int{0}, 100, stick(-900, 0, 50, -101), near, 40, 40, 2},
		{"251 in another law", []int{1}, 100, stick(20, 0, 50, 251), near, 0, 20, 0},
		{"-101 in another law", []int{1}, 100, stick(-20, 0, 50, -101), near, 0, -20, 0},
		{"251 directly", []int{2}, 100, stick(2, 0, 50, 251), near, 0, 20, 0},
		{"-101 directly", []int{2}, 100, stick(-2, 0, 50, -101), near, 0, -20, 0},
	})
}

func TestLimitsAndStepByHand(t *testing.T) {
	askLaw(t, []lawCase{
		{"just a step above", byGain, 100, stick(37, 0, 50, 0), limits(-100, 100, 30), 7, 37, 0},
		{"one further above", byGain, 100, stick(38, 0, 50, 0), limits(-100, 100, 30), 7, 37, 2},
		{"just a step below", byGain, 100, stick(-23, 0, 50, 0), limits(-100, 100, 30), 7, -23, 0},
		{"one further below", byGain, 100, stick(-24, 0, 50, 0), limits(-100, 100, 30), 7, -23, 2},
		{"just at the high limit", byGain, 100, stick(100, 0, 50, 0), limits(-100, 100, 30), 90, 100, 0},
		{"one further than the high limit", byGain, 100, stick(101, 0, 50, 0), limits(-100, 100, 30), 90, 100, 2},
		{"just at the low limit", byGain, 100, stick(-100, 0, 50, 0), limits(-100, 100, 30), -90, -100, 0},
		{"one further than the low limit", byGain, 100, stick(-101, 0, 50, 0), limits(-100, 100, 30), -90, -100, 2},
		{"both the limit and the step, above", byGain, 100, stick(500, 0, 50, 0), limits(-100, 100, 30), 7, 37, 2},
		{"both the limit and the step, below", byGain, 100, stick(-500, 0, 50, 0), limits(-100, 100, 30), 7, -23, 2},
		{"both at one number", byGain, 100, stick(500, 0, 50, 0), limits(-100, 100, 30), 70, 100, 2},
		{"the limit leaves no more than half a step", byGain, 100, stick(500, 0, 50, 0), limits(-100, 100, 30), 85, 100, 2},
		{"a step of 1", byGain, 100, stick(9, 0, 50, 0), limits(-100, 100, 1), 7, 8, 2},
		{"a step of 1, just it", byGain, 100, stick(8, 0, 50, 0), limits(-100, 100, 1), 7, 8, 0},
		{"a step of 1, below", byGain, 100, stick(5, 0, 50, 0), limits(-100, 100, 1), 7, 6, 2},
		{"a step of 10^4, just it", []int{2}, 100, stick(500, 0, 50, 0), limits(-10000, 10000, 10000), -5000, 5000, 0},
		{"a step of 10^4, one further", []int{2}, 100, stick(500, 0, 50, 0), limits(-10000, 10000, 10000), -5001, 4999, 2},
		{"a step of 10^4 from limit to limit", []int{2}, 100, stick(1000, 0, 50, 0), limits(-10000, 10000, 10000), -10000, 0, 2},
		{"low that is high", everyMode, 100, stick(5, 0, 50, 0), limits(7, 7, 30), 7, 7, 2},
		{"low that is high, and that is wanted", byGain, 100, stick(7, 0, 50, 0), limits(7, 7, 1), 7, 7, 0},
		{"low that is high at a bound", []int{2}, 100, stick(-1000, 0, 50, 0), limits(-10000, -10000, 10000), -10000, -10000, 0},
		{"low that is high at the other bound", []int{2}, 100, stick(-1000, 0, 50, 0), limits(10000, 10000, 10000), 10000, 10000, 2},
		{"now at low, lower is wanted", everyMode, 100, stick(-200, 0, 50, 0), limits(-100, 100, 30), -100, -100, 2},
		{"now at low, higher is wanted", everyMode, 100, stick(200, 0, 50, 0), limits(-100, 100, 30), -100, -70, 2},
		{"now at high, higher is wanted", everyMode, 100, stick(200, 0, 50, 0), limits(-100, 100, 30), 100, 100, 2},
		{"now at high, lower is wanted", everyMode, 100, stick(-200, 0, 50, 0), limits(-100, 100, 30), 100, 70, 2},
		{"limits above 0", everyMode, 100, stick(0, 0, 50, 0), limits(40, 60, 30), 50, 40, 2},
		{"limits below 0", everyMode, 100, stick(0, 0, 50, 0), limits(-60, -40, 5), -50, -45, 2},
		{"direct, just a step", []int{2}, 100, stick(3, 0, 50, 0), limits(-100, 100, 30), 0, 30, 0},
		{"direct, beyond a step", []int{2}, 100, stick(-9, 0, 50, 0), limits(-100, 100, 30), 0, -30, 2},
	})
}

func TestLawRefusesWhatIsNotSo(t *testing.T) {
	right, near := stick(10, 0, 15, 0), limits(-100, 100, 30)
	for _, mode := range append([]int{-1, 3}, farNumbers...) {
		refusesLaw(t, "a mode that is none", mode, steadyGain(100), right, near, 7)
	}
	for _, mode := range everyMode {
		for _, s := range []impl.Stick{
			stick(-1001, 0, 15, 0), stick(1001, 0, 15, 0), stick(10, -10001, 15, 0), stick(10, 10001, 15, 0), stick(10, 0, 15, -1001), stick(10, 0, 15, 1001),
			stick(math.MinInt, 0, 15, 0), stick(10, math.MinInt, 15, 0), stick(10, 0, 15, math.MaxInt),
		} {
			refusesLaw(t, "a stick that is not so", mode, steadyGain(100), s, near, 7)
		}
		for _, l := range wrongLimits {
			refusesLaw(t, "limits that are not so", mode, steadyGain(100), right, l, 7)
			refusesLaw(t, "limits that are not so, at low", mode, steadyGain(100), right, l, l.Low)
			refusesLaw(t, "limits that are not so, at high", mode, steadyGain(100), right, l, l.High)
		}
		for _, now := range []int{-101, 101, math.MinInt, math.MaxInt} {
			refusesLaw(t, "now outside", mode, steadyGain(100), right, near, now)
		}
		if _, code := impl.Law(mode, steadyGain(100), stick(-1000, -10000, 15, -1000), limits(-10000, 10000, 1), -10000); code == impl.LawBad {
			t.Error("refused at the bounds below, law", mode)
		}
		if _, code := impl.Law(mode, steadyGain(100), stick(1000, 10000, 15, 1000), limits(-10000, 10000, 10000), 10000); code == impl.LawBad {
			t.Error("refused at the bounds above, law", mode)
		}
	}
}

var wrongLimits = []impl.Limits{
	{}, limits(-100, 100, 0), limits(-100, 100, -1), limits(-100, 100, 10001), limits(8, 7, 30), limits(10000, -10000, 30),
	limits(-10001, 100, 30), limits(-100, 10001, 30), limits(-10001, -10001, 30), limits(10001, 10001, 30),
	limits(math.MinInt, 100, 30), limits(-100, math.MaxInt, 30), limits(-100, 100, math.MaxInt), limits(-100, 100, math.MinInt),
	limits(math.MaxInt, math.MinInt, 30),
}

func TestModeOfByHand(t *testing.T) {
	for _, c := range []struct {
		lanes int
		air   bool
		fails int
		mode  int
	}{
		{2, true, 0, impl.LawNormal}, {3, true, 0, impl.LawNormal},
		{2, true, 1, impl.LawAlternate}, {2, true, 2, impl.LawAlternate}, {2, true, 3, impl.LawDirect},
		{2, false, 0, impl.LawAlternate}, {2, false, 1, impl.LawAlternate}, {2, false, 2, impl.LawAlternate}, {2, false, 3, impl.LawDirect},
		{1, true, 0, impl.LawDirect}, {1, true, 1, impl.LawDirect}, {1, true, 2, impl.LawDirect}, {1, true, 3, impl.LawDirect},
		{1, false, 0, impl.LawDirect}, {1, false, 1, impl.LawDirect}, {1, false, 2, impl.LawDirect}, {1, false, 3, impl.LawDirect},
		{0, true, 0, impl.LawDirect}, {-1, true, 0, impl.LawDirect}, {2, true, -1, impl.LawNormal}, {2, false, -1, impl.LawAlternate},
		{math.MaxInt, true, math.MinInt, impl.LawNormal}, {math.MaxInt, true, math.MaxInt, impl.LawDirect}, {math.MinInt, true, math.MinInt, impl.LawDirect},
	} {
		if mode := impl.ModeOf(c.lanes, c.air, c.fails); mode != c.mode {
			t.Error(c, mode)
		}
	}
	for lanes := -2; lanes < 6; lanes++ {
		for fails := -2; fails < 6; fails++ {
			for _, air := range []bool{false, true} {
				if mode := impl.ModeOf(lanes, air, fails); mode != modeByWords(lanes, air, fails) {
					t.Error(lanes, air, fails, mode)
				}
			}
		}
	}
}

func TestMixByHand(t *testing.T) {
	full := slices.Repeat([]int{100}, 12)
	for _, c := range []struct {
		name        string
		mixer       impl.Mixer
		pitch, roll int
		limits      impl.Limits
		told        []int
		changed     int
	}{
		{"no surface", impl.Mixer{}, 50, 60, limits(-100, 100, 30), nil, 0},
		{"no surface, lists without elements", mixer([]int{}, nil), 50, 60, limits(7, 7, 1), nil, 0},
		{"one", mixer([]int{50}, []int{20}), 100, 200, limits(-1000, 1000, 30), []int{90}, 0},
		{"none changed", mixer([]int{100, 50}, []int{100, -50}), 60, 40, limits(-100, 100, 30), []int{100, 10}, 0},
		{"some changed", mixer([]int{100, 50}, []int{100, -50}), 60, 50, limits(-100, 100, 30), []int{100, 5}, 1},
		{"all changed", mixer([]int{100, -50, 0}, []int{100, -50, 0}), 60, 60, limits(7, 50, 30), []int{50, 7, 7}, 3},
		{"some above, some below, some within", mixer([]int{100, -100, 0, 50}, []int{0, 0, 0, 0}), 90, 0, limits(-80, 80, 1), []int{80, -80, 0, 45}, 2},
		{"just at the limits", mixer([]int{100, -100}, []int{0, 0}), 80, 0, limits(-80, 80, 1), []int{80, -80}, 0},
		{"one further", mixer([]int{100, -100}, []int{0, 0}), 81, 0, limits(-80, 80, 1), []int{80, -80}, 2},
		{"toward 0", mixer([]int{1, -1, 1, -1}, []int{0, 0, 1, -1}), 199, 0, limits(-80, 80, 1), []int{1, -1, 1, -1}, 0},
		{"a sum, toward 0", mixer([]int{1, -1, 1}, []int{1, -1, -1}), 150, 49, limits(-80, 80, 1), []int{1, -1, 1}, 0},
		{"each below one, the sum not", mixer([]int{1, -1}, []int{1, -1}), 50, 50, limits(-80, 80, 1), []int{1, -1}, 0},
		{"below 0 and less than one", mixer([]int{-1}, []int{0}), 99, 0, limits(0, 80, 1), []int{0}, 0},
		{"weights and numbers at their bounds", mixer([]int{100, -100, 100, -100}, []int{100, -100, -100, 100}), 10000, 10000, limits(-10000, 10000, 1), []int{10000, -10000, 0, 0}, 2},
		{"pitch and roll of -10^4", mixer([]int{100, -100, 100, -100}, []int{100, -100, -100, 100}), -10000, -10000, limits(-10000, 10000, 1), []int{-10000, 10000, 0, 0}, 2},
		{"one at its bound alone", mixer([]int{100, 0}, []int{0, -100}), 10000, -10000, limits(-10000, 10000, 1), []int{10000, 10000}, 0},
		{"as many as may be", mixer(full, full), 3, 4, limits(-10, 10, 1), slices.Repeat([]int{7}, 12), 0},
		{"as many as may be, all changed", mixer(full, full), 3, 4, limits(-10, 6, 1), slices.Repeat([]int{6}, 12), 12},
		{"low that is high", mixer([]int{100, 0}, []int{0, 100}), 5, 6, limits(5, 5, 1), []int{5, 5}, 1},
		{"a step holds nothing here", mixer([]int{100}, []int{0}), 9000, 0, limits(-10000, 10000, 1), []int{9000}, 0},
	} {
		told, changed, ok := impl.Mix(c.mixer, c.pitch, c.roll, c.limits)
		if !slices.Equal(told, c.told) || changed != c.changed || !ok {
			t.Errorf("%s: %v %d %v, not %v %d", c.name, told, changed, ok, c.told, c.changed)
		}
	}
}

func refusesMix(t *testing.T, name string, m impl.Mixer, pitch, roll int, l impl.Limits) {
	t.Helper()
	if told, changed, ok := impl.Mix(m, pitch, roll, l); len(told) != 0 || changed != 0 || ok {
		t.Error("Mix:", name, told, changed, ok)
	}
}

func TestMixRefusesWhatIsNotSo(t *testing.T) {
	right, near := mixer([]int{100, 50}, []int{100, -50}), limits(-100, 100, 30)
	thirteen := make([]int, 13)
	for _, c := range []struct {
		name  string
		mixer impl.Mixer
	}{
		{"one surface too many", mixer(thirteen, thirteen)},
		{"one too many in the first", mixer(thirteen, thirteen[1:])},
		{"one too many in the second", mixer(thirteen[1:], thirteen)},
		{"the first is longer", mixer([]int{1, 2}, []int{1})},
		{"the second is longer", mixer([]int{1}, []int{1, 2})},
		{"the first alone", mixer([]int{1}, nil)},
		{"the second alone", mixer(nil, []int{1})},
		{"a weight of 101", mixer([]int{1, 101}, []int{1, 1})},
		{"a weight of -101", mixer([]int{-101, 1}, []int{1, 1})},
		{"a second weight of 101", mixer([]int{1, 1}, []int{1, 101})},
		{"a second weight of -101", mixer([]int{1, 1}, []int{-101, 1})},
		{"far weights", mixer([]int{math.MinInt}, []int{math.MaxInt})},
	} {
		refusesMix(t, c.name, c.mixer, 60, 50, near)
	}
	for _, l := range wrongLimits {
		refusesMix(t, "limits that are not so", right, 60, 50, l)
		refusesMix(t, "limits that are not so, no surface", impl.Mixer{}, 60, 50, l)
	}
	for _, wrong := range append([]int{-10001, 10001}, farNumbers...) {
		refusesMix(t, "a wrong pitch", right, wrong, 50, near)
		refusesMix(t, "a wrong roll", right, 60, wrong, near)
		refusesMix(t, "a wrong pitch, no surface", impl.Mixer{}, wrong, 50, near)
		refusesMix(t, "a wrong roll, no surface", impl.Mixer{}, 60, wrong, near)
	}
}

func TestTrimTickByHand(t *testing.T) {
	for _, c := range []struct {
		name             string
		trim, held, hold int
		after, next      int
	}{
		{"nothing held", 7, 0, 5, 7, 0},
		{"nothing held, as long as may be", 7, 0, 9, 7, 0},
		{"nothing held, trimmed fully", -1000, 0, 9, -1000, 0},
		{"held first", 7, 1, 0, 7, 1},
		{"held first, down", 7, -1, 0, 7, 1},
		{"held for 8", 7, 1, 8, 7, 9},
		{"held for 8, down", 7, -1, 8, 7, 9},
		{"held for 9", 7, 1, 9, 8, 0},
		{"held for 9, down", 7, -1, 9, 6, 0},
		{"held as far as may be", 7, 1000, 9, 8, 0},
		{"held as far as may be, down", 7, -1000, 9, 6, 0},
		{"from just below 0", -1, 5, 9, 0, 0},
		{"to just below 0", 0, -5, 9, -1, 0},
		{"up to the end", 999, 5, 9, 1000, 0},
		{"up at the end", 1000, 5, 9, 1000, 0},
		{"down to the end", -999, -5, 9, -1000, 0},
		{"down at the end", -1000, -5, 9, -1000, 0},
		{"away from the end above", 1000, -5, 9, 999, 0},
		{"away from the end below", -1000, 5, 9, -999, 0},
		{"at the end, not long enough", 1000, 5, 8, 1000, 9},
	} {
		if after, next, ok := impl.TrimTick(c.trim, c.held, c.hold); after != c.after || next != c.next || !ok {
			t.Errorf("%s: %d %d %v, not %d %d", c.name, after, next, ok, c.after, c.next)
		}
	}
	wrong := [][3]int{{-1001, 1, 9}, {1001, 1, 9}, {7, -1001, 9}, {7, 1001, 9}, {7, 1, -1}, {7, 1, 10}, {1001, 0, 9}, {7, 0, -1}, {7, 0, 10}}
	for _, far := range farNumbers {
		wrong = append(wrong, [3]int{far, 1, 9}, [3]int{7, far, 9}, [3]int{7, 1, far})
	}
	for _, c := range wrong {
		if after, next, ok := impl.TrimTick(c[0], c[1], c[2]); after != 0 || next != 0 || ok {
			t.Error("accepted:", c, after, next, ok)
		}
	}
}

func TestTrimTickIsAsTheWordsSay(t *testing.T) {
	for _, trim := range []int{-1001, -1000, -999, -1, 0, 1, 7, 999, 1000, 1001} {
		for _, held := range []int{-1001, -1000, -1, 0, 1, 500, 1000, 1001} {
			for hold := -1; hold <= 10; hold++ {
				after, next, ok := impl.TrimTick(trim, held, hold)
				if a, n, o := trimByWords(trim, held, hold); after != a || next != n || ok != o {
					t.Errorf("TrimTick of %d, %d, %d: %d %d %v, not %d %d %v", trim, held, hold, after, next, ok, a, n, o)
				}
			}
		}
	}
}

// Held without a break, the trim goes by one in every tenth tick and stops at its end.
func TestATrimThatIsHeldGoesOn(t *testing.T) {
	for _, side := range []int{-1, 1} {
		trim, hold, ok := 990*side, 0, true
		for tick := 1; tick <= 200; tick++ {
			trim, hold, ok = impl.TrimTick(trim, 3*side, hold)
			if !ok || trim != side*min(990+tick/10, 1000) || hold != tick%10 {
				t.Fatal(side, tick, trim, hold, ok)
			}
		}
	}
}

func gainFrom(r *rand.Rand) impl.Gain {
	many, far := 2+r.Intn(7), []int{10, 60, 1000}[r.Intn(3)]
	return impl.Gain{Speeds: ascendingList(r, many, 0, far), Gains: listOf(r, many, 0, []int{5, 300, 1000}[r.Intn(3)])}
}

func limitsFrom(r *rand.Rand) impl.Limits {
	ends := listOf(r, 2, -10000, 10000)
	if r.Intn(2) == 0 {
		ends = listOf(r, 2, -40, 40)
	}
	slices.Sort(ends)
	return limits(ends[0], ends[1], []int{1, 1 + r.Intn(9), 1 + r.Intn(10000), 10000}[r.Intn(4)])
}

func stickFrom(r *rand.Rand) impl.Stick {
	s := stick(r.Intn(2001)-1000, r.Intn(20001)-10000, r.Intn(1200)-100, r.Intn(2001)-1000)
	if r.Intn(2) == 0 {
		s.Ask, s.Rate = r.Intn(21)-10, r.Intn(21)-10
	}
	if r.Intn(2) == 0 {
		s.Load = []int{250, 251, -100, -101, 0}[r.Intn(5)]
	}
	if r.Intn(8) == 0 {
		s.Speed = []int{math.MinInt, math.MaxInt}[r.Intn(2)]
	}
	return s
}

func TestGainsAreAsTheWordsSay(t *testing.T) {
	r := rand.New(rand.NewSource(90))
	for range 3000 {
		g := gainFrom(r)
		for _, speed := range append(listOf(r, 6, -5, 1005), append(slices.Clone(g.Speeds), math.MinInt, math.MaxInt)...) {
			if got, want := impl.GainAt(g, speed), gainByWords(g, speed); got != want {
				t.Fatalf("GainAt of %v, %d: %d, not %d", g, speed, got, want)
			}
		}
	}
}

// spoilLaw makes something wrong now and then, by as little as may be.
func spoilLaw(r *rand.Rand, mode *int, g *impl.Gain, s *impl.Stick, l *impl.Limits, now *int) {
	switch r.Intn(24) {
	case 0:
		*mode = []int{-1, 3}[r.Intn(2)]
	case 1:
		g.Gains[r.Intn(len(g.Gains))] = []int{-1, 1001}[r.Intn(2)]
	case 2:
		g.Speeds[1] = g.Speeds[0]
	case 3:
		s.Ask = []int{-1001, 1001}[r.Intn(2)]
	case 4:
		s.Rate = []int{-10001, 10001}[r.Intn(2)]
	case 5:
		s.Load = []int{-1001, 1001}[r.Intn(2)]
	case 6:
		l.Step = []int{0, 10001}[r.Intn(2)]
	case 7:
		l.Low, l.High = l.High, l.Low
	case 8:
		*now = []int{l.Low - 1, l.High + 1}[r.Intn(2)]
	}
}

func TestLawsAreAsTheWordsSay(t *testing.T) {
	r := rand.New(rand.NewSource(91))
	seen := [3][3]int{}
	for range 60000 {
		mode, g, s, l := r.Intn(3), gainFrom(r), stickFrom(r), limitsFrom(r)
		now := l.Low + r.Intn(l.High-l.Low+1)
		spoilLaw(r, &mode, &g, &s, &l, &now)
		told, code := impl.Law(mode, g, s, l, now)
		if wantTold, wantCode := lawByWords(mode, g, s, l, now); told != wantTold || code != wantCode {
			t.Fatalf("Law of %d, %v, %v, %v, %d: %d %d, not %d %d", mode, g, s, l, now, told, code, wantTold, wantCode)
		}
		if mode >= 0 && mode <= 2 {
			seen[mode][code]++
		}
	}
	for mode, codes := range seen {
		if slices.Min(codes[:]) < 200 {
			t.Error("too few of a kind were tried:", mode, codes)
		}
	}
}

// Promise 9: flown on and on, whatever is asked, also what is not so, a surface stays in its limits and moves by a step at most.
func TestNoSurfaceLeavesItsLimitsOrMovesByMoreThanAStep(t *testing.T) {
	r := rand.New(rand.NewSource(92))
	for range 400 {
		l := limitsFrom(r)
		now := l.Low + r.Intn(l.High-l.Low+1)
		for range 60 {
			mode, g, s := r.Intn(3), gainFrom(r), stickFrom(r)
			// The limits and where it stands are kept; only what is asked is spoilt.
			otherLimits, otherNow := l, now
			spoilLaw(r, &mode, &g, &s, &otherLimits, &otherNow)
			if r.Intn(10) == 0 {
				s = stick(math.MinInt, math.MaxInt, math.MinInt, math.MaxInt)
			}
			told, code := impl.Law(mode, g, s, l, now)
			if told < l.Low || told > l.High || told-now > l.Step || now-told > l.Step {
				t.Fatalf("Law of %d, %v, %v, %v, %d: %d %d", mode, g, s, l, now, told, code)
			}
			if code == impl.LawBad && told != now {
				t.Fatalf("moved by what is not so: %d, %v, %v, %v, %d: %d", mode, g, s, l, now, told)
			}
			now = told
		}
	}
}

// Promise 9 over every small case: limits, a step, now and what is asked.
func TestNoSmallCaseLeavesItsLimits(t *testing.T) {
	for low := -4; low <= 4; low++ {
		for high := low; high <= 4; high++ {
			for now := low; now <= high; now++ {
				for step := 1; step <= 3; step++ {
					for ask := -6; ask <= 6; ask++ {
						smallCase(t, stick(ask, 0, 50, 0), limits(low, high, step), now)
						smallCase(t, stick(ask, 0, 50, 251), limits(low, high, step), now)
						smallCase(t, stick(ask, 0, 50, -101), limits(low, high, step), now)
					}
				}
			}
		}
	}
}

func smallCase(t *testing.T, s impl.Stick, l impl.Limits, now int) {
	t.Helper()
	for _, mode := range everyMode {
		told, code := impl.Law(mode, steadyGain(100), s, l, now)
		if told < l.Low || told > l.High || told-now > l.Step || now-told > l.Step {
			t.Fatalf("Law of %d, %v, %v, %d: %d %d", mode, s, l, now, told, code)
		}
		if want, wantCode := lawByWords(mode, steadyGain(100), s, l, now); told != want || code != wantCode {
			t.Fatalf("Law of %d, %v, %v, %d: %d %d, not %d %d", mode, s, l, now, told, code, want, wantCode)
		}
		if mode == impl.LawNormal && (s.Load > 250 && told > now || s.Load < -100 && told < now) {
			t.Fatalf("the load becomes more: %v, %v, %d: %d", s, l, now, told)
		}
	}
}

// What follows: the more is asked in the direct law, the more is told.
func TestTheMoreIsAskedDirectlyTheMoreIsTold(t *testing.T) {
	r := rand.New(rand.NewSource(93))
	for range 40 {
		g, s, l := gainFrom(r), stickFrom(r), limitsFrom(r)
		now := l.Low + r.Intn(l.High-l.Low+1)
		before := math.MinInt
		for ask := -1000; ask <= 1000; ask++ {
			s.Ask = ask
			told, code := impl.Law(impl.LawDirect, g, s, l, now)
			if told < before || code == impl.LawOk && told != 10*ask || code == impl.LawLimited && told == 10*ask {
				t.Fatalf("%v, %v, %v, %d: %d %d behind %d", g, s, l, now, told, code, before)
			}
			before = told
		}
	}
}

func TestMixesAreAsTheWordsSay(t *testing.T) {
	r := rand.New(rand.NewSource(94))
	none, some, all := 0, 0, 0
	for range 20000 {
		many := r.Intn(14)
		m, l := mixer(listOf(r, many, -100, 100), listOf(r, many, -100, 100)), limitsFrom(r)
		pitch, roll := r.Intn(20003)-10001, r.Intn(20003)-10001
		if r.Intn(2) == 0 {
			pitch, roll = r.Intn(81)-40, r.Intn(81)-40
		}
		switch r.Intn(20) {
		case 0:
			m.B = append(m.B, 0)
		case 1:
			m.A = append(m.A, 101)
			m.B = append(m.B, -101)
		case 2:
			l.Step = 0
		}
		told, changed, ok := impl.Mix(m, pitch, roll, l)
		wantTold, wantChanged, wantOk := mixByWords(m, pitch, roll, l)
		if !slices.Equal(told, wantTold) || changed != wantChanged || ok != wantOk {
			t.Fatalf("Mix of %v, %d, %d, %v: %v %d %v, not %v %d %v", m, pitch, roll, l, told, changed, ok, wantTold, wantChanged, wantOk)
		}
		if !allIn(told, l.Low, l.High) {
			t.Fatalf("Mix of %v, %d, %d, %v: %v", m, pitch, roll, l, told)
		}
		switch {
		case !ok || many == 0:
		case changed == 0:
			none++
		case changed == many:
			all++
		default:
			some++
		}
	}
	if min(none, some, all) < 200 {
		t.Error("too few of a kind were tried:", none, some, all)
	}
}

func TestLawsWriteIntoNoArgument(t *testing.T) {
	for _, g := range []impl.Gain{gain(0, 400, 100, 100), gain(0, 400, 50, 3, 100, 1000), gain(100, 400), gain(5, 1, 5, 1)} {
		g.Speeds, g.Gains = roomy(g.Speeds), roomy(g.Gains)
		m := mixer(roomy(g.Gains[:1]), roomy([]int{-100}))
		full := mixer(roomy(slices.Repeat([]int{50}, 12)), roomy(slices.Repeat([]int{-50}, 12)))
		whole := func() [][]int {
			var out [][]int
			for _, list := range [][]int{g.Speeds, g.Gains, m.A, m.B, full.A, full.B} {
				out = append(out, slices.Clone(list[:len(list)+4]))
			}
			return out
		}
		before := whole()
		for _, mode := range everyMode {
			impl.GainOk(g)
			impl.GainAt(g, 33)
			impl.Law(mode, g, stick(100, 3, 33, 251), limits(-100, 100, 30), 7)
			for _, one := range []impl.Mixer{m, full, {}} {
				told, _, _ := impl.Mix(one, 60, 50, limits(-100, 100, 30))
				again, _, _ := impl.Mix(one, 60, 50, limits(-100, 100, 30))
				kept := slices.Clone(again)
				for i := range told[:cap(told)] {
					told[:cap(told)][i] = 55
				}
				if !slices.Equal(again, kept) {
					t.Error("two answers share their memory:", again, kept)
				}
			}
		}
		if now := whole(); !reflect.DeepEqual(now, before) {
			t.Errorf("written into: %v, not %v", now, before)
		}
	}
}

// The document's 'Ways': laws are method values in a table by mode, and limits are closures.
func TestLawsAreBuiltTheirWay(t *testing.T) {
	file, err := parser.ParseFile(token.NewFileSet(), "../impl/l09_law.go", nil, 0)
	if err != nil {
		t.Fatal(err)
	}
	rows, closures := map[string]bool{}, 0
	ast.Inspect(file, func(n ast.Node) bool {
		switch x := n.(type) {
		case *ast.FuncLit:
			closures++
		case *ast.KeyValueExpr:
			mode, ok := x.Key.(*ast.Ident)
			if _, method := x.Value.(*ast.SelectorExpr); ok && method {
				rows[mode.Name] = true
			}
		}
		return true
	})
	for _, mode := range []string{"LawNormal", "LawAlternate", "LawDirect"} {
		if !rows[mode] {
			t.Error("no method value in the table at", mode)
		}
	}
	if closures == 0 {
		t.Error("no closure")
	}
}
