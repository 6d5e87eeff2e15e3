package tests

import (
	"math/rand"
	"reflect"
	"slices"
	"testing"

	"loop.example/g00063/impl"
)

func TestLimitsOfPerformance(t *testing.T) {
	if impl.MaxSpeed != 400 || impl.MaxPhases != 12 || impl.MaxPeaks != 20 {
		t.Error("limits", impl.MaxSpeed, impl.MaxPhases, impl.MaxPeaks)
	}
}

func runner(push, drag, stop, engines int) impl.Runner {
	return impl.Runner{Push: push, Drag: drag, Stop: stop, Engines: engines}
}

func TestRunnerOkAtItsEdges(t *testing.T) {
	for _, c := range []struct {
		runner impl.Runner
		want   bool
	}{
		{impl.Runner{}, false},
		{runner(1, 0, 1, 2), true},
		{runner(40, 20, 40, 4), true},
		{runner(5, 3, 7, 3), true},
		{runner(0, 3, 7, 3), false},
		{runner(41, 3, 7, 3), false},
		{runner(-1, 3, 7, 3), false},
		{runner(5, -1, 7, 3), false},
		{runner(5, 21, 7, 3), false},
		{runner(5, 3, 0, 3), false},
		{runner(5, 3, 41, 3), false},
		{runner(5, 3, -7, 3), false},
		{runner(5, 3, 7, 1), false},
		{runner(5, 3, 7, 5), false},
	} {
		if got := impl.RunnerOk(c.runner); got != c.want {
			t.Errorf("%v: RunnerOk is %v", c.runner, got)
		}
		if !c.want {
			wrongRunner(t, c.runner)
		}
	}
	for _, n := range farNumbers {
		wrongRunner(t, runner(n, 3, 7, 3))
		wrongRunner(t, runner(5, n, 7, 3))
		wrongRunner(t, runner(5, 3, n, 3))
		wrongRunner(t, runner(5, 3, 7, n))
	}
}

func wrongRunner(t *testing.T, r impl.Runner) {
	t.Helper()
	if impl.RunnerOk(r) {
		t.Errorf("%v: is RunnerOk", r)
	}
	if far, ticks, ok := impl.Rolls(r, 0, 1); far != 0 || ticks != 0 || ok {
		t.Errorf("%v: Rolls tells %d %d %v", r, far, ticks, ok)
	}
	if far, ok := impl.Stops(r, 1); far != 0 || ok {
		t.Errorf("%v: Stops tells %d %v", r, far, ok)
	}
	if least, greatest, ok := impl.Decide(r, 1, 10000000); least != 0 || greatest != 0 || ok {
		t.Errorf("%v: Decide tells %d %d %v", r, least, greatest, ok)
	}
}

func TestRollsByHand(t *testing.T) {
	r := runner(2, 1, 4, 2)
	for _, c := range []struct {
		name       string
		runner     impl.Runner
		fail, lift int
		far, ticks int
		ok         bool
	}{
		{"a failure at speed 0", r, 0, 6, 21, 6, true},
		{"at the least speed above it", r, 1, 6, 18, 4, true},
		{"met at the first tick's end", r, 3, 6, 18, 4, true},
		{"passed by the second tick's end", r, 4, 6, 9, 2, true},
		{"at lift", r, 6, 6, 9, 2, true},
		{"above lift", r, 7, 6, 9, 2, true},
		{"far above lift", r, 400, 6, 9, 2, true},
		{"above lift, met by what goes past lift", r, 6, 5, 9, 2, true},
		{"lift passed by one", r, 3, 7, 25, 5, true},
		{"the least lift", r, 0, 1, 1, 1, true},
		{"the least lift passed", r, 1, 1, 3, 1, true},
		{"the greatest lift", runner(1, 0, 1, 2), 400, 400, 40200, 200, true},
		{"the greatest lift, failed at 0", runner(1, 0, 1, 2), 0, 400, 80200, 400, true},
		{"the greatest of all", runner(40, 0, 40, 4), 400, 400, 960, 3, true},
		{"grows no more ahead of the failure", runner(1, 2, 1, 2), 5, 1, 0, 0, false},
		{"grows no more, held at 0 by more drag", runner(1, 20, 1, 2), 400, 1, 0, 0, false},
		{"grows no more behind the failure", runner(1, 1, 1, 2), 3, 4, 0, 0, false},
		{"fails at lift, so grows up to it", runner(1, 1, 1, 2), 4, 4, 10, 4, true},
		{"grows no more, failed at 0", runner(1, 1, 1, 2), 0, 1, 0, 0, false},
		{"grows a little behind the failure", runner(1, 1, 1, 3), 2, 4, 9, 3, true},
		{"one engine less of four", runner(1, 2, 1, 4), 2, 4, 9, 3, true},
		{"fail below 0", r, -1, 6, 0, 0, false},
		{"fail above all speeds", r, 401, 6, 0, 0, false},
		{"lift 0", r, 0, 0, 0, 0, false},
		{"lift below 0", r, 0, -1, 0, 0, false},
		{"lift above all speeds", r, 3, 401, 0, 0, false},
	} {
		if far, ticks, ok := impl.Rolls(c.runner, c.fail, c.lift); far != c.far || ticks != c.ticks || ok != c.ok {
			t.Errorf("%s: %d %d %v, not %d %d %v", c.name, far, ticks, ok, c.far, c.ticks, c.ok)
		}
	}
	for _, n := range farNumbers {
		if far, ticks, ok := impl.Rolls(r, n, 6); far != 0 || ticks != 0 || ok {
			t.Errorf("fail %d: %d %d %v", n, far, ticks, ok)
		}
		if far, ticks, ok := impl.Rolls(r, 3, n); far != 0 || ticks != 0 || ok {
			t.Errorf("lift %d: %d %d %v", n, far, ticks, ok)
		}
	}
}

func TestStopsByHand(t *testing.T) {
	r := runner(2, 1, 4, 2)
	for _, c := range []struct {
		name   string
		runner impl.Runner
		fail   int
		far    int
		ok     bool
	}{
		{"a failure at speed 0", r, 0, 1, true},
		{"at the least speed above it", r, 1, 7, true},
		{"met at the first tick's end", r, 3, 7, true},
		{"passed by the second tick's end", r, 4, 19, true},
		{"met at the second tick's end", r, 6, 19, true},
		{"braked down to 0 exactly", runner(2, 1, 2, 2), 3, 9, true},
		{"braked by as little as may be", runner(1, 0, 1, 2), 2, 8, true},
		{"the failed tick adds nothing", runner(1, 1, 1, 2), 3, 12, true},
		{"a failure at 0 that goes nowhere", runner(1, 1, 1, 2), 0, 0, true},
		{"a failure at 0 of one that can't grow", runner(1, 20, 1, 2), 0, 0, true},
		{"never reached", runner(1, 20, 1, 2), 1, 0, false},
		{"never reached, just held at 0", runner(1, 2, 1, 2), 400, 0, false},
		{"the greatest speed", runner(1, 0, 40, 2), 400, 40200 + 401 + 1810, true},
		{"fail below 0", r, -1, 0, false},
		{"fail above all speeds", r, 401, 0, false},
	} {
		if far, ok := impl.Stops(c.runner, c.fail); far != c.far || ok != c.ok {
			t.Errorf("%s: %d %v, not %d %v", c.name, far, ok, c.far, c.ok)
		}
	}
	for _, n := range farNumbers {
		if far, ok := impl.Stops(r, n); far != 0 || ok {
			t.Errorf("fail %d: %d %v", n, far, ok)
		}
	}
}

func TestDecideByHand(t *testing.T) {
	r := runner(2, 1, 4, 2)
	for _, c := range []struct {
		name            string
		runner          impl.Runner
		lift, runway    int
		least, greatest int
		ok              bool
	}{
		{"room for the failed roll", r, 6, 21, 0, 6, true},
		{"one too short for a failure at 0", r, 6, 20, 1, 6, true},
		{"met exactly by the stop", r, 6, 19, 1, 6, true},
		{"one too short for the later stops", r, 6, 18, 1, 3, true},
		{"one too short for the failed rolls", r, 6, 17, 0, 0, false},
		{"a runway of 0", r, 6, 0, 0, 0, false},
		{"the least lift, met exactly", r, 1, 1, 0, 0, true},
		{"the least lift, one too short", r, 1, 0, 0, 0, false},
		{"the least lift, both", r, 1, 7, 0, 1, true},
		{"the longest runway", r, 400, 10000000, 0, 400, true},
		{"only a failure at lift leaves a roll", runner(1, 1, 1, 2), 4, 100, 4, 4, true},
		{"only a failure at lift, met exactly", runner(1, 1, 1, 2), 4, 20, 4, 4, true},
		{"only a failure at lift, one too short", runner(1, 1, 1, 2), 4, 19, 0, 0, false},
		{"lift is not reached", runner(1, 20, 1, 2), 1, 10000000, 0, 0, false},
		{"lift 0", r, 0, 100, 0, 0, false},
		{"lift above all speeds", r, 401, 10000000, 0, 0, false},
		{"a runway below 0", r, 6, -1, 0, 0, false},
		{"a runway too long", r, 6, 10000001, 0, 0, false},
	} {
		if least, greatest, ok := impl.Decide(c.runner, c.lift, c.runway); least != c.least || greatest != c.greatest || ok != c.ok {
			t.Errorf("%s: %d %d %v, not %d %d %v", c.name, least, greatest, ok, c.least, c.greatest, c.ok)
		}
	}
	for _, n := range []int{farNumbers[0], farNumbers[len(farNumbers)-1]} {
		if least, greatest, ok := impl.Decide(r, n, 100); least != 0 || greatest != 0 || ok {
			t.Errorf("lift %d: %d %d %v", n, least, greatest, ok)
		}
		if least, greatest, ok := impl.Decide(r, 6, n); least != 0 || greatest != 0 || ok {
			t.Errorf("runway %d: %d %d %v", n, least, greatest, ok)
		}
	}
}

// speedsByWords are the speeds at the ticks' ends, from a speed on, until there is enough; nothing, where that never comes.
func speedsByWords(from int, enough func(int) bool, next func(int) int) ([]int, bool) {
	speeds := []int{}
	for speed := from; !enough(speed); {
		speed = next(speed)
		speeds = append(speeds, speed)
		// No speed is above 700, and each tick changes one by at least 1 where it changes at all.
		if len(speeds) > 1000 {
			return nil, false
		}
	}
	return speeds, true
}

func sumOfList(list []int) int {
	sum := 0
	for _, n := range list {
		sum += n
	}
	return sum
}

func rollsByWords(r impl.Runner, fail, lift int) (int, int, bool) {
	speeds, ok := speedsByWords(0, func(v int) bool { return v >= lift }, func(v int) int {
		if v >= fail && fail <= lift {
			return v + max(0, (r.Engines-1)*r.Push-r.Drag)
		}
		return v + max(0, r.Engines*r.Push-r.Drag)
	})
	return sumOfList(speeds), len(speeds), ok
}

func stopsByWords(r impl.Runner, fail int) (int, bool) {
	up, ok := speedsByWords(0, func(v int) bool { return v >= fail }, func(v int) int { return v + max(0, r.Engines*r.Push-r.Drag) })
	if !ok {
		return 0, false
	}
	top := max(0, (r.Engines-1)*r.Push-r.Drag)
	if len(up) > 0 {
		top += up[len(up)-1]
	}
	down, _ := speedsByWords(top, func(v int) bool { return v == 0 }, func(v int) int { return max(0, v-r.Stop) })
	return sumOfList(up) + top + sumOfList(down), true
}

func runnerOf(r *rand.Rand) impl.Runner {
	most := []int{3, 8, 40}[r.Intn(3)]
	return runner(1+r.Intn(most), r.Intn(min(21, 3*most)), 1+r.Intn(40), 2+r.Intn(3))
}

func TestRollsAndStopsAreAsTheWordsSay(t *testing.T) {
	r := rand.New(rand.NewSource(30))
	reached, not := 0, 0
	for range 4000 {
		run, lift := runnerOf(r), 1+r.Intn(400)
		fail := []int{0, lift, min(400, lift+1), r.Intn(401), r.Intn(lift + 1)}[r.Intn(5)]
		far, ticks, ok := impl.Rolls(run, fail, lift)
		if wantFar, wantTicks, want := rollsByWords(run, fail, lift); far != wantFar || ticks != wantTicks || ok != want {
			t.Fatalf("Rolls %v %d %d: %d %d %v, not %d %d %v", run, fail, lift, far, ticks, ok, wantFar, wantTicks, want)
		}
		if stopped, stops := impl.Stops(run, fail); true {
			if wantFar, want := stopsByWords(run, fail); stopped != wantFar || stops != want {
				t.Fatalf("Stops %v %d: %d %v, not %d %v", run, fail, stopped, stops, wantFar, want)
			}
		}
		if ok {
			reached++
		} else {
			not++
		}
	}
	if reached < 1000 || not < 100 {
		t.Fatalf("%d reached, %d not: too few to tell", reached, not)
	}
}

func TestAFailureLaterNeverMakesTheRollTakeMoreTicks(t *testing.T) {
	r := rand.New(rand.NewSource(31))
	for range 60 {
		run, lift := runnerOf(r), 1+r.Intn(400)
		reached, before := false, 0
		for fail := range impl.MaxSpeed + 1 {
			_, ticks, ok := impl.Rolls(run, fail, lift)
			if reached && (!ok || ticks > before) {
				t.Fatalf("Rolls %v %d %d: %d ticks (%v), %d ahead", run, fail, lift, ticks, ok, before)
			}
			reached, before = ok, ticks
		}
	}
}

func speedsThatSuffice(r impl.Runner, lift, runway int) []int {
	speeds := []int{}
	for v := range lift + 1 {
		far, _, lifts := rollsByWords(r, v, lift)
		back, stops := stopsByWords(r, v)
		if lifts && stops && far <= runway && back <= runway {
			speeds = append(speeds, v)
		}
	}
	return speeds
}

func TestDecideTellsTheLeastAndTheGreatest(t *testing.T) {
	r := rand.New(rand.NewSource(32))
	found, none := 0, 0
	for range 120 {
		run, lift := runnerOf(r), 1+r.Intn(120)
		far, _, _ := rollsByWords(run, r.Intn(lift+1), lift)
		back, _ := stopsByWords(run, r.Intn(lift+1))
		for _, runway := range []int{0, max(far-1, 0), far, max(back-1, 0), back, max(far, back), r.Intn(2 * (far + 1)), 10000000} {
			least, greatest, ok := impl.Decide(run, lift, runway)
			speeds := speedsThatSuffice(run, lift, runway)
			if len(speeds) == 0 {
				none++
				if least != 0 || greatest != 0 || ok {
					t.Fatalf("Decide %v %d %d: %d %d %v, yet there is none", run, lift, runway, least, greatest, ok)
				}
				continue
			}
			found++
			if !ok || least != speeds[0] || greatest != speeds[len(speeds)-1] {
				t.Fatalf("Decide %v %d %d: %d %d %v, not of %v", run, lift, runway, least, greatest, ok, speeds)
			}
		}
	}
	if found < 100 || none < 100 {
		t.Fatalf("%d found, %d none: too few to tell", found, none)
	}
}

func TestALongerRunwayLeavesNoFewerSpeeds(t *testing.T) {
	r := rand.New(rand.NewSource(33))
	for range 25 {
		run, lift := runnerOf(r), 1+r.Intn(40)
		var least, greatest int
		found := false
		for runway := range 400 {
			l, g, ok := impl.Decide(run, lift, runway)
			if found && (!ok || l > least || g < greatest) {
				t.Fatalf("Decide %v %d %d: %d %d %v, one shorter %d %d", run, lift, runway, l, g, ok, least, greatest)
			}
			least, greatest, found = l, g, ok
		}
	}
}

var wrongPhases = []struct {
	name   string
	start  int
	phases []impl.Phase
}{
	{"start below 0", -1, []impl.Phase{{Climb: 1, Ticks: 1}}},
	{"start too high", 100001, nil},
	{"too many phases", 5, slices.Repeat([]impl.Phase{{Climb: 1, Ticks: 1}}, 13)},
	{"sinks too fast", 5, []impl.Phase{{Climb: -101, Ticks: 1}}},
	{"climbs too fast", 5, []impl.Phase{{Climb: 1, Ticks: 1}, {Climb: 101, Ticks: 1}}},
	{"no ticks", 5, []impl.Phase{{Climb: 1, Ticks: 0}}},
	{"ticks below 0", 5, []impl.Phase{{Climb: 1, Ticks: -1}}},
	{"too many ticks", 5, []impl.Phase{{Climb: 1, Ticks: 1}, {Climb: 1, Ticks: 1001}}},
	{"the first wrong", 5, []impl.Phase{{Climb: 1, Ticks: 0}, {Climb: 1, Ticks: 1}}},
	{"far", farNumbers[0], []impl.Phase{{Climb: 1, Ticks: 1}}},
	{"far climb", 5, []impl.Phase{{Climb: farNumbers[0], Ticks: 1}}},
	{"far ticks", 5, []impl.Phase{{Climb: 1, Ticks: farNumbers[len(farNumbers)-1]}}},
}

func TestWrongPhases(t *testing.T) {
	for _, c := range wrongPhases {
		if ends, ok := impl.Climbs(c.start, c.phases); len(ends) != 0 || ok {
			t.Errorf("%s: Climbs tells %v %v", c.name, ends, ok)
		}
		for _, peaks := range [][]impl.Peak{nil, {{At: 0, High: 1000000}}} {
			if at, ok := impl.Clears(c.start, c.phases, peaks, 0); at != -2 || ok {
				t.Errorf("%s: Clears tells %d %v", c.name, at, ok)
			}
		}
	}
}

func TestClimbsByHand(t *testing.T) {
	for _, c := range []struct {
		name   string
		start  int
		phases []impl.Phase
		want   []int
	}{
		{"no phase", 7, nil, []int{}},
		{"from 0, level", 0, []impl.Phase{{Climb: 0, Ticks: 1}}, []int{0}},
		{"up and down", 10, []impl.Phase{{Climb: 2, Ticks: 5}, {Climb: -1, Ticks: 3}}, []int{20, 17}},
		{"below 0", 10, []impl.Phase{{Climb: -100, Ticks: 1000}, {Climb: 1, Ticks: 1}}, []int{-99990, -99989}},
		{"all that may be", 100000, slices.Repeat([]impl.Phase{{Climb: 100, Ticks: 1000}}, 12),
			[]int{200000, 300000, 400000, 500000, 600000, 700000, 800000, 900000, 1000000, 1100000, 1200000, 1300000}},
		{"all that may be, down", 0, slices.Repeat([]impl.Phase{{Climb: -100, Ticks: 1000}}, 12),
			[]int{-100000, -200000, -300000, -400000, -500000, -600000, -700000, -800000, -900000, -1000000, -1100000, -1200000}},
	} {
		if ends, ok := impl.Climbs(c.start, c.phases); !ok || !slices.Equal(ends, c.want) {
			t.Errorf("%s: %v %v, not %v", c.name, ends, ok, c.want)
		}
	}
}

func TestClearsByHand(t *testing.T) {
	up := []impl.Phase{{Climb: 2, Ticks: 5}, {Climb: -1, Ticks: 3}}
	full := slices.Repeat([]impl.Phase{{Climb: 100, Ticks: 1000}}, 12)
	many := func(n int) []impl.Peak { return slices.Repeat([]impl.Peak{{At: 1, High: 1}}, n) }
	for _, c := range []struct {
		name   string
		start  int
		phases []impl.Phase
		peaks  []impl.Peak
		margin int
		want   int
		ok     bool
	}{
		{"no peaks", 10, up, nil, 1000, -1, true},
		{"the first of two in order", 10, up, []impl.Peak{{At: 8, High: 18}, {At: 0, High: 11}}, 0, 0, true},
		{"the second alone", 10, up, []impl.Peak{{At: 8, High: 17}, {At: 0, High: 11}}, 0, 1, true},
		{"at the beginning, margin met", 10, up, []impl.Peak{{At: 0, High: 7}}, 3, -1, true},
		{"at the beginning, missed by one", 10, up, []impl.Peak{{At: 0, High: 8}}, 3, 0, true},
		{"within the first phase, met", 10, up, []impl.Peak{{At: 4, High: 15}}, 3, -1, true},
		{"within the first phase, missed", 10, up, []impl.Peak{{At: 4, High: 16}}, 3, 0, true},
		{"at a phase's end, met", 10, up, []impl.Peak{{At: 5, High: 17}}, 3, -1, true},
		{"at a phase's end, missed", 10, up, []impl.Peak{{At: 5, High: 18}}, 3, 0, true},
		{"the first tick of the second phase, met", 10, up, []impl.Peak{{At: 6, High: 16}}, 3, -1, true},
		{"the first tick of the second phase, missed", 10, up, []impl.Peak{{At: 6, High: 17}}, 3, 0, true},
		{"at the last end, met", 10, up, []impl.Peak{{At: 8, High: 14}}, 3, -1, true},
		{"at the last end, missed", 10, up, []impl.Peak{{At: 8, High: 15}}, 3, 0, true},
		{"behind the last phase, met", 10, up, []impl.Peak{{At: 9, High: 14}, {At: 12000, High: 14}}, 3, -1, true},
		{"behind the last phase, missed", 10, up, []impl.Peak{{At: 9, High: 14}, {At: 12000, High: 15}}, 3, 1, true},
		{"no phase, met", 10, nil, []impl.Peak{{At: 40, High: 7}}, 3, -1, true},
		{"no phase, missed", 10, nil, []impl.Peak{{At: 40, High: 8}}, 3, 0, true},
		{"margin 0, met", 10, nil, []impl.Peak{{At: 40, High: 10}}, 0, -1, true},
		{"margin 0, missed", 10, nil, []impl.Peak{{At: 40, High: 11}}, 0, 0, true},
		{"the greatest margin, met", 1000, nil, []impl.Peak{{At: 0, High: 0}}, 1000, -1, true},
		{"the greatest margin, missed", 999, nil, []impl.Peak{{At: 0, High: 0}}, 1000, 0, true},
		{"the greatest of all, met", 1000, full, []impl.Peak{{At: 10000, High: 1000000}}, 1000, -1, true},
		{"the greatest of all, missed", 999, full, []impl.Peak{{At: 10000, High: 1000000}}, 1000, 0, true},
		{"at the last tick of all", 0, full, []impl.Peak{{At: 12000, High: 1000000}}, 1000, -1, true},
		{"below the ground", 0, []impl.Phase{{Climb: -1, Ticks: 1}}, []impl.Peak{{At: 0, High: 0}, {At: 1, High: 0}}, 0, 1, true},
		{"as many peaks as may be", 10, up, append(many(19), impl.Peak{At: 0, High: 11}), 0, 19, true},
		{"one peak too many", 10, up, many(21), 0, -2, false},
		{"a peak ahead of the first tick", 10, up, []impl.Peak{{At: -1, High: 0}}, 0, -2, false},
		{"a peak too late", 10, up, []impl.Peak{{At: 12001, High: 0}}, 0, -2, false},
		{"a peak below 0", 10, up, []impl.Peak{{At: 1, High: -1}}, 0, -2, false},
		{"a peak too high", 10, up, []impl.Peak{{At: 1, High: 1000001}}, 0, -2, false},
		{"a wrong peak behind one not cleared", 10, up, []impl.Peak{{At: 0, High: 1000000}, {At: 12001, High: 0}}, 0, -2, false},
		{"a peak far", 10, up, []impl.Peak{{At: farNumbers[0], High: farNumbers[0]}}, 0, -2, false},
		{"margin below 0", 10, up, nil, -1, -2, false},
		{"margin too great", 10, up, []impl.Peak{{At: 0, High: 1000000}}, 1001, -2, false},
		{"margin far", 10, up, nil, farNumbers[len(farNumbers)-1], -2, false},
	} {
		if at, ok := impl.Clears(c.start, c.phases, c.peaks, c.margin); at != c.want || ok != c.ok {
			t.Errorf("%s: %d %v, not %d %v", c.name, at, ok, c.want, c.ok)
		}
	}
}

func phasesOf(r *rand.Rand, climb, ticks int) []impl.Phase {
	phases := make([]impl.Phase, r.Intn(impl.MaxPhases+1))
	for i := range phases {
		phases[i] = impl.Phase{Climb: r.Intn(2*climb+1) - climb, Ticks: 1 + r.Intn(ticks)}
	}
	return phases
}

// heightsByTicks is the height at each tick up to the last one that a peak may have.
func heightsByTicks(start int, phases []impl.Phase) []int {
	heights := []int{start}
	for _, p := range phases {
		for range p.Ticks {
			heights = append(heights, heights[len(heights)-1]+p.Climb)
		}
	}
	for len(heights) <= 12000 {
		heights = append(heights, heights[len(heights)-1])
	}
	return heights
}

// peaksNear stand about as high as the aircraft flies, so that some are cleared and some are not.
func peaksNear(r *rand.Rand, heights []int, last int, near int) []impl.Peak {
	peaks := make([]impl.Peak, r.Intn(impl.MaxPeaks+1))
	for i := range peaks {
		at := r.Intn(last + 1)
		peaks[i] = impl.Peak{At: at, High: min(max(heights[at]-r.Intn(near), 0), 1000000)}
	}
	return peaks
}

func TestClimbsAndClearsTickByTick(t *testing.T) {
	r := rand.New(rand.NewSource(34))
	cleared, hit := 0, 0
	for round := range 400 {
		start, phases := r.Intn(100001), phasesOf(r, 100, []int{3, 40, 1000}[round%3])
		heights := heightsByTicks(start, phases)
		ends, ok := impl.Climbs(start, phases)
		if !ok || len(ends) != len(phases) {
			t.Fatalf("Climbs %d %v: %v %v", start, phases, ends, ok)
		}
		tick := 0
		for i, p := range phases {
			tick += p.Ticks
			if ends[i] != heights[tick] {
				t.Fatalf("Climbs %d %v: %v, not %d at %d", start, phases, ends, heights[tick], i)
			}
		}
		peaks, margin := peaksNear(r, heights, min(12000, 2*tick+2), 200), r.Intn(40)
		want := slices.IndexFunc(peaks, func(p impl.Peak) bool { return heights[p.At]-p.High < margin })
		if got, ok := impl.Clears(start, phases, peaks, margin); !ok || got != want {
			t.Fatalf("Clears %d %v %v %d: %d %v, not %d", start, phases, peaks, margin, got, ok, want)
		}
		if want == -1 {
			cleared++
		} else {
			hit++
		}
	}
	if cleared < 20 || hit < 100 {
		t.Fatalf("%d cleared, %d not: too few to tell", cleared, hit)
	}
}

func TestWhatClearsWithAMarginClearsWithLess(t *testing.T) {
	r := rand.New(rand.NewSource(35))
	for range 60 {
		start, phases := 2000+r.Intn(1000), phasesOf(r, 9, 20)
		peaks := peaksNear(r, heightsByTicks(start, phases), 250, 1100)
		for margin := 1; margin <= 1000; margin++ {
			more, ok := impl.Clears(start, phases, peaks, margin)
			less, okLess := impl.Clears(start, phases, peaks, margin-1)
			if !ok || !okLess {
				t.Fatalf("Clears %d %v %v %d: refused", start, phases, peaks, margin)
			}
			if less != -1 && (more == -1 || more > less) {
				t.Fatalf("Clears %d %v %v %d: %d, with one less %d", start, phases, peaks, margin, more, less)
			}
		}
	}
}

func TestPerformanceWritesIntoNoArgument(t *testing.T) {
	r := rand.New(rand.NewSource(36))
	mark := impl.Phase{Climb: 77, Ticks: 77}
	for range 50 {
		phases := append(append(phasesOf(r, 20, 20), mark), mark)
		peaks := append(peaksNear(r, heightsByTicks(500, phases), 300, 20), impl.Peak{At: 77, High: 77})
		phasesCopy, peaksCopy := slices.Clone(phases), slices.Clone(peaks)
		short, few := phases[:len(phases)-2], peaks[:len(peaks)-1]
		first, _ := impl.Climbs(500, short)
		second, _ := impl.Climbs(500, short)
		want := slices.Clone(second)
		for i := range first {
			first[i] = -1
		}
		impl.Clears(500, short, few, 10)
		if !reflect.DeepEqual(phases, phasesCopy) || !reflect.DeepEqual(peaks, peaksCopy) {
			t.Fatalf("written into: %v %v", phases, peaks)
		}
		if !slices.Equal(second, want) {
			t.Fatal("two answers share memory")
		}
	}
}
