package tests

import (
	"go/ast"
	"go/parser"
	"go/token"
	"math"
	"math/rand"
	"runtime"
	"slices"
	"sync"
	"testing"

	"loop.example/g00063/impl"
)

var (
	frameBounds = bounded{"Frame", 1, 100000}
	partsBounds = bounded{"Parts", 1, 10}
	longBounds  = bounded{"Long", 1, 10000}
	everyBounds = bounded{"Every", 1, 100000}
	needsBounds = bounded{"Needs", 1, 100000}
	ticksBounds = bounded{"ticks", 0, 5000}
	tickBounds  = bounded{"tick", 0, 100000000}
)

func window(part, at, long int) impl.Window { return impl.Window{Part: part, At: at, Long: long} }

// plan17 takes the windows as three numbers each: Part, At and Long.
func plan17(frame, parts int, numbers ...int) impl.Plan17 {
	p := impl.Plan17{Frame: frame, Parts: parts}
	for w := range slices.Chunk(numbers, 3) {
		p.Windows = append(p.Windows, window(w[0], w[1], w[2]))
	}
	return p
}

// wholeOf is a plan in which the partition 0 has each tick.
func wholeOf(frame int) impl.Plan17 { return plan17(frame, 1, 0, 0, frame) }

// alikeWindows has so many windows of one tick each, with one free tick behind each.
func alikeWindows(many int) impl.Plan17 {
	p := plan17(100, 2)
	for i := range many {
		p.Windows = append(p.Windows, window(i%2, 2*i, 1))
	}
	return p
}

func job(part, every, needs int) impl.Job {
	return impl.Job{Part: part, Every: every, Needs: needs}
}

// jobsOf takes three numbers for each job: Part, Every and Needs.
func jobsOf(numbers ...int) []impl.Job {
	var jobs []impl.Job
	for j := range slices.Chunk(numbers, 3) {
		jobs = append(jobs, job(j[0], j[1], j[2]))
	}
	return jobs
}

func samePlan(a, b impl.Plan17) bool {
	return a.Frame == b.Frame && a.Parts == b.Parts && slices.Equal(a.Windows, b.Windows)
}

func windowIsSo(p impl.Plan17, w impl.Window) bool {
	return w.Part >= 0 && w.Part < p.Parts && longBounds.has(w.Long) &&
		w.At >= 0 && w.At <= 100000 && w.At+w.Long <= p.Frame
}

// painted tells for each tick of a frame how many windows it is in, and whose the
// last of them is.
func painted(p impl.Plan17) ([]int, []int) {
	many, owners := make([]int, p.Frame), slices.Repeat([]int{-1}, p.Frame)
	for _, w := range p.Windows {
		for tick := w.At; tick < w.At+w.Long; tick++ {
			many[tick]++
			owners[tick] = w.Part
		}
	}
	return many, owners
}

// plan17IsSo paints the frame: no tick may be in two windows, and these go by At.
func plan17IsSo(p impl.Plan17) bool {
	if !frameBounds.has(p.Frame) || !partsBounds.has(p.Parts) || len(p.Windows) > 40 {
		return false
	}
	for i, w := range p.Windows {
		if !windowIsSo(p, w) || i > 0 && w.At <= p.Windows[i-1].At {
			return false
		}
	}
	many, _ := painted(p)
	return slices.Max(many) < 2
}

func ownerByWords(p impl.Plan17, tick int) (int, bool) {
	if !plan17IsSo(p) || !tickBounds.has(tick) {
		return -1, false
	}
	_, owners := painted(p)
	return owners[tick%p.Frame], true
}

// shareByWords counts over three painted frames in a row.
func shareByWords(p impl.Plan17, part int) (int, int, bool) {
	if !plan17IsSo(p) || part < 0 || part >= p.Parts {
		return 0, 0, false
	}
	_, owners := painted(p)
	has, row, longest := 0, 0, 0
	for _, owner := range slices.Repeat(owners, 3) {
		row++
		if owner == part {
			has, row = has+1, 0
		}
		longest = max(longest, row)
	}
	if has == 0 {
		return 0, p.Frame, true
	}
	return has / 3, longest, true
}

func jobIsSo(p impl.Plan17, j impl.Job) bool {
	return j.Part >= 0 && j.Part < p.Parts && everyBounds.has(j.Every) && needsBounds.has(j.Needs)
}

func jobsAreSo(p impl.Plan17, jobs []impl.Job, ticks int) bool {
	for _, j := range jobs {
		if !jobIsSo(p, j) {
			return false
		}
	}
	return plan17IsSo(p) && len(jobs) < 21 && ticksBounds.has(ticks)
}

// runByWords keeps nothing of a job but at which ticks it was worked on: what is left of
// it, and whether it is late, is counted from these.
func runByWords(p impl.Plan17, jobs []impl.Job, ticks int) ([]int, int, bool) {
	if !jobsAreSo(p, jobs, ticks) {
		return nil, 0, false
	}
	_, owners := painted(p)
	lates, idle := make([]int, len(jobs)), 0
	worked := make([][]int, len(jobs))
	for j := range jobs {
		worked[j] = []int{0}
	}
	for tick := range ticks {
		taken, takenCame := -1, math.MaxInt
		for j, one := range jobs {
			came := tick - tick%one.Every
			done := worked[j]
			if came == tick && tick > 0 && done[tick]-done[tick-one.Every] < one.Needs {
				lates[j]++
			}
			if one.Part == owners[tick%p.Frame] && done[tick]-done[came] < one.Needs && came < takenCame {
				taken, takenCame = j, came
			}
		}
		if taken < 0 && owners[tick%p.Frame] >= 0 {
			idle++
		}
		for j := range jobs {
			now := worked[j][tick]
			if j == taken {
				now++
			}
			worked[j] = append(worked[j], now)
		}
	}
	return lates, idle, true
}

// fitByWords tries each tick of the frame, from the first on.
func fitByWords(p impl.Plan17, part, long int) (impl.Plan17, bool) {
	if !plan17IsSo(p) || part < 0 || part >= p.Parts || !longBounds.has(long) || len(p.Windows) == 40 {
		return p, false
	}
	_, owners := painted(p)
	for at := 0; at+long <= p.Frame; at++ {
		if slices.Max(owners[at:at+long]) >= 0 {
			continue
		}
		q := impl.Plan17{Frame: p.Frame, Parts: p.Parts, Windows: slices.Clone(p.Windows)}
		q.Windows = append(q.Windows, window(part, at, long))
		slices.SortFunc(q.Windows, func(a, b impl.Window) int { return a.At - b.At })
		return q, true
	}
	return p, false
}

func owns(t *testing.T, name string, p impl.Plan17, tick, want int) {
	t.Helper()
	if owner, ok := impl.Owner(p, tick); owner != want || !ok {
		t.Errorf("%s: at %d %d %v, not %d", name, tick, owner, ok, want)
	}
}

func refusesOwner(t *testing.T, name string, p impl.Plan17, tick int) {
	t.Helper()
	if owner, ok := impl.Owner(p, tick); owner != -1 || ok {
		t.Errorf("%s: at %d %d %v", name, tick, owner, ok)
	}
}

func shares(t *testing.T, name string, p impl.Plan17, part, has, longest int) {
	t.Helper()
	if h, l, ok := impl.Share(p, part); h != has || l != longest || !ok {
		t.Errorf("%s: of %d %d %d %v, not %d %d", name, part, h, l, ok, has, longest)
	}
}

func refusesShare(t *testing.T, name string, p impl.Plan17, part int) {
	t.Helper()
	if h, l, ok := impl.Share(p, part); h != 0 || l != 0 || ok {
		t.Errorf("%s: of %d %d %d %v", name, part, h, l, ok)
	}
}

func runs(t *testing.T, name string, p impl.Plan17, jobs []impl.Job, ticks, idle int, lates ...int) {
	t.Helper()
	if l, i, ok := impl.RunJobs(p, jobs, ticks); !slices.Equal(l, lates) || i != idle || !ok {
		t.Errorf("%s: %v %d %v, not %v %d", name, l, i, ok, lates, idle)
	}
}

func refusesJobs(t *testing.T, name string, p impl.Plan17, jobs []impl.Job, ticks int) {
	t.Helper()
	if l, i, ok := impl.RunJobs(p, jobs, ticks); len(l) != 0 || i != 0 || ok {
		t.Errorf("%s: %v %d %v", name, l, i, ok)
	}
}

// fits wants the new window at that place of the list, and the others as they were.
func fits(t *testing.T, name string, p impl.Plan17, part, long, at, place int) {
	t.Helper()
	want := p
	want.Windows = slices.Insert(slices.Clone(p.Windows), place, window(part, at, long))
	if q, ok := impl.FitWindow(p, part, long); !samePlan(q, want) || !ok {
		t.Errorf("%s: %v %v, not %v", name, q, ok, want)
	}
}

func refusesWindow(t *testing.T, name string, p impl.Plan17, part, long int) {
	t.Helper()
	if q, ok := impl.FitWindow(p, part, long); !samePlan(q, p) || ok {
		t.Errorf("%s: %v %v", name, q, ok)
	}
}

func TestLimitsOfPartitions(t *testing.T) {
	if impl.MaxParts17 != 10 || impl.MaxWindows != 40 {
		t.Error(impl.MaxParts17, impl.MaxWindows)
	}
}

var plansAtBounds = []struct {
	name string
	plan impl.Plan17
	want bool
}{
	{"nothing", impl.Plan17{}, false},
	{"a frame of 0", plan17(0, 1), false},
	{"a frame of 1", plan17(1, 1), true},
	{"a frame of 1, taken", plan17(1, 1, 0, 0, 1), true},
	{"the longest frame", plan17(100000, 1), true},
	{"one tick too long a frame", plan17(100001, 1), false},
	{"a frame below 0", plan17(-1, 1), false},
	{"0 partitions", plan17(10, 0), false},
	{"one partition", plan17(10, 1), true},
	{"the most partitions", plan17(10, 10), true},
	{"one partition too many", plan17(10, 11), false},
	{"partitions below 0", plan17(10, -1), false},
	{"no window", impl.Plan17{Frame: 10, Parts: 1, Windows: []impl.Window{}}, true},
	{"all but one window", alikeWindows(39), true},
	{"the most windows", alikeWindows(40), true},
	{"one window too many", alikeWindows(41), false},
	{"a partition of -1", plan17(10, 3, -1, 0, 1), false},
	{"the first partition", plan17(10, 3, 0, 0, 1), true},
	{"the last partition", plan17(10, 3, 2, 0, 1), true},
	{"a partition beyond", plan17(10, 3, 3, 0, 1), false},
	{"the last of the most partitions", plan17(10, 10, 9, 0, 1), true},
	{"beyond the most partitions", plan17(10, 10, 10, 0, 1), false},
	{"0 ticks long", plan17(10, 1, 0, 4, 0), false},
	{"1 tick long", plan17(10, 1, 0, 4, 1), true},
	{"-1 ticks long", plan17(10, 1, 0, 4, -1), false},
	{"the longest window", plan17(100000, 1, 0, 4, 10000), true},
	{"one tick too long a window", plan17(100000, 1, 0, 4, 10001), false},
	{"the longest window is the frame", plan17(10000, 1, 0, 0, 10000), true},
	{"at -1", plan17(10, 1, 0, -1, 5), false},
	{"at 0", plan17(10, 1, 0, 0, 5), true},
	{"ends just at the frame", plan17(10, 1, 0, 6, 4), true},
	{"ends one tick beyond", plan17(10, 1, 0, 6, 5), false},
	{"begins at the last tick", plan17(10, 1, 0, 9, 1), true},
	{"begins at the frame's end", plan17(10, 1, 0, 10, 1), false},
	{"ends just at the longest frame", plan17(100000, 1, 0, 90000, 10000), true},
	{"ends one beyond the longest frame", plan17(100000, 1, 0, 90001, 10000), false},
	{"begins at the end of the one ahead", plan17(10, 2, 0, 1, 3, 1, 4, 2), true},
	{"begins one tick sooner", plan17(10, 2, 0, 1, 3, 1, 3, 2), false},
	{"begins one tick later", plan17(10, 2, 0, 1, 3, 1, 5, 2), true},
	{"begins one tick sooner, of one partition", plan17(10, 2, 1, 1, 3, 1, 3, 2), false},
	{"two at one tick", plan17(10, 2, 0, 1, 3, 1, 1, 3), false},
	{"one within another", plan17(10, 2, 0, 1, 6, 1, 3, 1), false},
	{"not by At", plan17(10, 2, 0, 5, 2, 1, 1, 2), false},
	{"the third begins in the first", plan17(20, 2, 0, 1, 5, 1, 6, 2, 0, 3, 1), false},
	{"the last one is beyond", plan17(10, 2, 0, 1, 3, 1, 4, 3, 0, 7, 4), false},
	{"the last one is of none", plan17(10, 2, 0, 1, 3, 1, 4, 3, 2, 7, 3), false},
	{"the first one is of none", plan17(10, 2, 2, 1, 3, 1, 4, 3, 0, 7, 3), false},
	{"the middle one is 0 long", plan17(10, 2, 0, 1, 3, 1, 4, 0, 0, 4, 3), false},
	{"the frame is full", plan17(10, 2, 0, 0, 3, 1, 3, 3, 0, 6, 4), true},
}

func refusesPlan(t *testing.T, name string, p impl.Plan17) {
	t.Helper()
	if impl.PlanOk(p) {
		t.Errorf("%s: %v is taken", name, p)
	}
	refusesOwner(t, name, p, 0)
	refusesOwner(t, name, p, -1)
	refusesShare(t, name, p, 0)
	refusesShare(t, name, p, -1)
	refusesJobs(t, name, p, nil, 0)
	refusesJobs(t, name, p, jobsOf(0, 1, 1), 20)
	refusesWindow(t, name, p, 0, 1)
}

func TestPlanOkAtBounds(t *testing.T) {
	for _, c := range plansAtBounds {
		if plan17IsSo(c.plan) != c.want {
			t.Errorf("%s: the words say otherwise", c.name)
		}
		if !c.want {
			refusesPlan(t, c.name, c.plan)
			continue
		}
		if !impl.PlanOk(c.plan) {
			t.Errorf("%s: %v is refused", c.name, c.plan)
		}
		if _, ok := impl.Owner(c.plan, 0); !ok {
			t.Errorf("%s: no owner", c.name)
		}
		if _, _, ok := impl.Share(c.plan, 0); !ok {
			t.Errorf("%s: no share", c.name)
		}
		if _, _, ok := impl.RunJobs(c.plan, jobsOf(0, 1, 1), 20); !ok {
			t.Errorf("%s: no run", c.name)
		}
	}
}

func TestPlansAtTheEdgesOfNumbers(t *testing.T) {
	for _, n := range frameBounds.beyond() {
		refusesPlan(t, "Frame", plan17(n, 2))
		refusesPlan(t, "Frame", plan17(n, 2, 0, 0, 1))
		refusesPlan(t, "Frame", plan17(n, 2, 0, n, 1))
	}
	for _, n := range partsBounds.beyond() {
		refusesPlan(t, "Parts", plan17(10, n))
		refusesPlan(t, "Parts", plan17(10, n, n, 0, 1))
		refusesPlan(t, "Parts", plan17(10, n, 0, 0, 1))
	}
	for _, n := range farNumbers {
		refusesPlan(t, "Part", plan17(10, 2, n, 0, 1))
		refusesPlan(t, "At", plan17(10, 2, 0, n, 1))
		refusesPlan(t, "Long", plan17(10, 2, 0, 3, n))
		refusesPlan(t, "all", impl.Plan17{Frame: n, Parts: n, Windows: []impl.Window{{Part: n, At: n, Long: n}}})
		for _, m := range append([]int{-10, 10, 10000}, farNumbers...) {
			// Their sum may wrap round into the frame.
			refusesPlan(t, "At and Long", plan17(10000, 2, 0, n, m))
			refusesPlan(t, "At and Long, the second", plan17(10000, 2, 1, 0, 1, 0, m, n))
		}
	}
	refusesPlan(t, "a sum of just the frame", plan17(10, 2, 0, math.MaxInt, math.MinInt+11))
	refusesPlan(t, "a sum of just 0", plan17(10, 2, 0, math.MinInt, math.MinInt))
	refusesPlan(t, "very many windows", impl.Plan17{Frame: 10, Parts: 1, Windows: make([]impl.Window, 100000)})
}

func TestOwnerByHand(t *testing.T) {
	p := plan17(10, 3, 0, 1, 3, 1, 4, 2, 2, 8, 1)
	want := []int{-1, 0, 0, 0, 1, 1, -1, -1, 2, -1}
	for frame := range 4 {
		for tick, owner := range want {
			owns(t, "over and over", p, 10*frame+tick, owner)
		}
	}
	full := plan17(7, 2, 1, 0, 2, 0, 2, 5)
	owns(t, "the first tick", full, 0, 1)
	owns(t, "the last of the first", full, 1, 1)
	owns(t, "the first of the last", full, 2, 0)
	owns(t, "the last of a frame", full, 6, 0)
	owns(t, "the first of the next", full, 7, 1)
	owns(t, "the last of the next", full, 13, 0)
	owns(t, "the one behind it", full, 14, 1)
	// 7 goes into 99999998.
	owns(t, "the last tick", full, 100000000, 0)
	owns(t, "one ahead of the last tick", full, 99999999, 1)
	owns(t, "no window", plan17(10, 1), 3, -1)
	owns(t, "no window, the last tick", plan17(10, 1), 100000000, -1)
	owns(t, "a frame of 1", wholeOf(1), 100000000, 0)
	owns(t, "the longest frame", plan17(100000, 10, 9, 90000, 10000), 99999, 9)
	owns(t, "the longest frame again", plan17(100000, 10, 9, 90000, 10000), 100000, -1)
	owns(t, "the longest frame, just ahead", plan17(100000, 10, 9, 90000, 10000), 89999, -1)
	owns(t, "the longest frame, the last tick", plan17(100000, 10, 9, 0, 1), 100000000, 9)
	for i := range 40 {
		owns(t, "forty windows", alikeWindows(40), 2*i, i%2)
		owns(t, "between forty windows", alikeWindows(40), 2*i+1, -1)
	}
	for _, tick := range tickBounds.beyond() {
		refusesOwner(t, "no tick", p, tick)
		refusesOwner(t, "no tick", full, tick)
		refusesOwner(t, "no tick", plan17(10, 1), tick)
	}
}

func TestShareByHand(t *testing.T) {
	tenth := plan17(100000, 2)
	for i := range 10 {
		tenth.Windows = append(tenth.Windows, window(1, 10000*i, 10000))
	}
	cases := []struct {
		name               string
		plan               impl.Plan17
		part, has, longest int
	}{
		{"no window at all", plan17(10, 1), 0, 0, 10},
		{"no window of its own", plan17(10, 2, 0, 0, 10), 1, 0, 10},
		{"no window in a frame of 1", plan17(1, 1), 0, 0, 1},
		{"one, in the middle", plan17(10, 1, 0, 4, 3), 0, 3, 7},
		{"one, at the begin", plan17(10, 1, 0, 0, 3), 0, 3, 7},
		{"one, at the end", plan17(10, 1, 0, 7, 3), 0, 3, 7},
		{"one, all but the first tick", plan17(10, 1, 0, 1, 9), 0, 9, 1},
		{"one, all but the last tick", plan17(10, 1, 0, 0, 9), 0, 9, 1},
		{"the whole frame", wholeOf(10), 0, 10, 0},
		{"the whole frame of 1", wholeOf(1), 0, 1, 0},
		{"the whole frame by two", plan17(10, 1, 0, 0, 4, 0, 4, 6), 0, 10, 0},
		{"the whole of the longest frame", tenth, 1, 100000, 0},
		{"nothing of the longest frame", tenth, 0, 0, 100000},
		{"several, the middle is longest", plan17(20, 1, 0, 1, 2, 0, 10, 3, 0, 15, 4), 0, 9, 7},
		{"several, over the end is longest", plan17(20, 1, 0, 5, 2, 0, 10, 3), 0, 5, 12},
		{"over the end and into the first", plan17(20, 1, 0, 0, 3, 0, 16, 4), 0, 7, 13},
		{"over the end, as long as the middle", plan17(20, 1, 0, 3, 2, 0, 10, 8), 0, 10, 5},
		{"side by side", plan17(20, 1, 0, 5, 2, 0, 7, 3), 0, 5, 15},
		{"another one between", plan17(20, 2, 0, 5, 2, 1, 7, 3, 0, 10, 2), 0, 4, 13},
		{"the other one of these", plan17(20, 2, 0, 5, 2, 1, 7, 3, 0, 10, 2), 1, 3, 17},
		{"forty windows", alikeWindows(40), 0, 20, 23},
		{"forty windows, of the other", alikeWindows(40), 1, 20, 23},
		{"the last of the most partitions", plan17(30, 10, 9, 3, 4), 9, 4, 26},
	}
	for _, c := range cases {
		shares(t, c.name, c.plan, c.part, c.has, c.longest)
		refusesShare(t, c.name, c.plan, -1)
		refusesShare(t, c.name, c.plan, c.plan.Parts)
		for _, part := range farNumbers {
			refusesShare(t, c.name, c.plan, part)
		}
	}
}

func TestRunJobsByHand(t *testing.T) {
	own := plan17(10, 2, 0, 1, 3, 1, 4, 2, 0, 8, 1)
	cases := []struct {
		name        string
		plan        impl.Plan17
		jobs        []impl.Job
		ticks, idle int
		lates       []int
	}{
		{"no job", own, nil, 20, 12, nil},
		{"no job, no window", plan17(10, 1), nil, 20, 0, nil},
		{"no tick", own, jobsOf(0, 5, 3, 1, 10, 1), 0, 0, []int{0, 0}},
		{"one tick, in nobody's", own, jobsOf(0, 5, 3), 1, 0, []int{0}},
		{"one tick, worked", wholeOf(4), jobsOf(0, 5, 3), 1, 0, []int{0}},
		{"one tick, idle", plan17(4, 2, 1, 0, 4), jobsOf(0, 5, 3), 1, 1, []int{0}},
		{"no window", plan17(10, 1), jobsOf(0, 5, 3), 21, 0, []int{4}},
		{"the frame comes again", own, jobsOf(0, 5, 3, 1, 10, 1), 20, 2, []int{1, 0}},
		{"the same, one tick more", own, jobsOf(0, 5, 3, 1, 10, 1), 21, 2, []int{2, 0}},
		{"just done when it comes again", wholeOf(4), jobsOf(0, 5, 5), 50, 0, []int{0}},
		{"one tick sooner", wholeOf(4), jobsOf(0, 5, 6), 50, 0, []int{9}},
		{"one tick to spare", wholeOf(4), jobsOf(0, 5, 4), 50, 10, []int{0}},
		{"late again and again", wholeOf(4), jobsOf(0, 1, 2), 50, 0, []int{49}},
		{"each tick", wholeOf(4), jobsOf(0, 1, 1), 50, 0, []int{0}},
		{"each tick, each second owned", plan17(2, 1, 0, 0, 1), jobsOf(0, 1, 1), 50, 0, []int{24}},
		{"the rest is gone", wholeOf(4), jobsOf(0, 3, 4, 0, 6, 1), 13, 0, []int{4, 0}},
		{"two at once, the first in the list", wholeOf(4), jobsOf(0, 4, 4, 0, 4, 4), 40, 0, []int{0, 9}},
		{"two at once, another length", wholeOf(4), jobsOf(0, 4, 3, 0, 4, 2), 40, 0, []int{0, 9}},
		{"two at once, both fit", wholeOf(4), jobsOf(0, 4, 3, 0, 4, 1), 40, 0, []int{0, 0}},
		{"sooner, and later in the list", wholeOf(4), jobsOf(0, 3, 2, 0, 6, 3), 7, 0, []int{1, 0}},
		{"sooner, and ahead in the list", wholeOf(4), jobsOf(0, 6, 3, 0, 3, 2), 7, 1, []int{0, 1}},
		{"one that is late goes behind", wholeOf(4), jobsOf(0, 2, 3, 0, 10, 1), 11, 0, []int{5, 0}},
		{"each in its own windows", plan17(4, 2, 0, 0, 2, 1, 2, 2), jobsOf(1, 4, 2, 0, 4, 2), 41, 0, []int{0, 0}},
		{"none of another's windows", plan17(4, 2, 0, 0, 2, 1, 2, 2), jobsOf(1, 4, 3), 41, 21, []int{10}},
		{"idle ahead of its coming again", wholeOf(4), jobsOf(0, 10, 3), 40, 28, []int{0}},
		{"seldom and much", wholeOf(4), jobsOf(0, 100000, 100000), 5000, 0, []int{0}},
		{"seldom and little", wholeOf(4), jobsOf(0, 100000, 1), 5000, 4999, []int{0}},
		{"the most ticks", own, jobsOf(0, 5, 3, 1, 10, 1), 5000, 500, []int{499, 0}},
		{"the last coming is at the last tick", wholeOf(4), jobsOf(0, 4999, 5000), 5000, 0, []int{1}},
		{"comes behind the last tick", wholeOf(4), jobsOf(0, 5000, 5001), 5000, 0, []int{0}},
	}
	for _, c := range cases {
		runs(t, c.name, c.plan, c.jobs, c.ticks, c.idle, c.lates...)
		l, i, _ := runByWords(c.plan, c.jobs, c.ticks)
		if !slices.Equal(l, c.lates) || i != c.idle {
			t.Errorf("%s: by words %v %d", c.name, l, i)
		}
	}
}

func TestRunJobsAtBounds(t *testing.T) {
	p := plan17(10, 3, 0, 0, 4, 2, 5, 5)
	twenty := slices.Repeat(jobsOf(0, 10, 1), 20)
	// Of the twenty, four are done in each frame, and the other sixteen are late.
	lates := slices.Concat(make([]int, 4), slices.Repeat([]int{9}, 16))
	runs(t, "twenty jobs", p, twenty, 100, 50, lates...)
	refusesJobs(t, "twenty-one jobs", p, append(slices.Clone(twenty), job(0, 10, 1)), 100)
	refusesJobs(t, "very many jobs", p, slices.Repeat(twenty, 1000), 100)
	for _, ticks := range ticksBounds.edges() {
		if l, _, ok := impl.RunJobs(p, twenty, ticks); len(l) != 20 || !ok {
			t.Error(ticks, l, ok)
		}
	}
	for _, ticks := range ticksBounds.beyond() {
		refusesJobs(t, "ticks", p, twenty, ticks)
		refusesJobs(t, "ticks, no job", p, nil, ticks)
	}
	spoiltJobs(func(name string, j impl.Job, right bool) {
		for _, place := range []int{0, 1, 2} {
			jobs := slices.Insert(jobsOf(0, 5, 1, 2, 7, 2), place, j)
			if l, _, ok := impl.RunJobs(p, jobs, 30); right && (len(l) != 3 || !ok) {
				t.Errorf("%s: %v is refused", name, j)
			}
			if !right {
				refusesJobs(t, name, p, jobs, 30)
				refusesJobs(t, name, p, jobs, 0)
			}
		}
	})
}

// spoiltJobs hands out jobs of three partitions with one number at its edges, and beyond.
func spoiltJobs(use func(name string, j impl.Job, right bool)) {
	for _, b := range []bounded{{"Part", 0, 2}, everyBounds, needsBounds} {
		for i, n := range append(b.edges(), b.beyond()...) {
			j := job(1, 5, 2)
			*map[string]*int{"Part": &j.Part, "Every": &j.Every, "Needs": &j.Needs}[b.name] = n
			use(b.name, j, i < 4)
		}
	}
}

func TestFitWindowByHand(t *testing.T) {
	gaps := plan17(20, 2, 0, 2, 3, 1, 9, 2, 0, 12, 5)
	fits(t, "at 0", gaps, 1, 1, 0, 0)
	fits(t, "at 0, just", gaps, 1, 2, 0, 0)
	fits(t, "between two", gaps, 1, 3, 5, 1)
	fits(t, "between two, just", gaps, 0, 4, 5, 1)
	refusesWindow(t, "between two, by one tick not", gaps, 1, 5)
	fits(t, "no window", plan17(10, 1), 0, 3, 0, 0)
	fits(t, "the whole frame", plan17(10, 1), 0, 10, 0, 0)
	fits(t, "the shortest frame", plan17(1, 10), 9, 1, 0, 0)
	refusesWindow(t, "longer than the frame", plan17(10, 1), 0, 11)
	last := plan17(20, 2, 0, 0, 3, 1, 4, 6)
	fits(t, "behind the last, just up to the frame's end", last, 1, 10, 10, 2)
	fits(t, "behind the last", last, 1, 9, 10, 2)
	fits(t, "the least At, though there is more room behind", last, 1, 1, 3, 1)
	refusesWindow(t, "behind the last, by one tick not", last, 1, 11)
	refusesWindow(t, "free over the frame's end alone", plan17(10, 1, 0, 3, 4), 0, 4)
	fits(t, "free at both ends", plan17(10, 1, 0, 3, 4), 0, 3, 0, 0)
	refusesWindow(t, "nowhere", plan17(10, 2, 0, 0, 3, 1, 3, 7), 0, 1)
	refusesWindow(t, "nowhere in the shortest frame", wholeOf(1), 0, 1)
	fits(t, "one free tick, the last", plan17(10, 2, 0, 0, 3, 1, 3, 6), 0, 1, 9, 2)
	fits(t, "one free tick, the first", plan17(10, 2, 0, 1, 3, 1, 4, 6), 0, 1, 0, 0)
	fits(t, "one free tick, between", plan17(10, 2, 0, 0, 3, 1, 4, 6), 0, 1, 3, 1)
	fits(t, "all but one window", alikeWindows(39), 1, 1, 1, 1)
	fits(t, "all but one window, behind the last", alikeWindows(39), 1, 2, 77, 39)
	refusesWindow(t, "the most windows", alikeWindows(40), 1, 1)
	refusesWindow(t, "one window too many", alikeWindows(41), 1, 1)
	wide := plan17(100000, 3, 2, 100, 10000)
	fits(t, "the longest window", wide, 1, 10000, 10100, 1)
	fits(t, "the longest window, just behind all", plan17(20100, 1, 0, 100, 10000), 0, 10000, 10100, 1)
	refusesWindow(t, "the longest window, by one tick not", plan17(20099, 1, 0, 100, 10000), 0, 10000)
	for _, long := range longBounds.beyond() {
		refusesWindow(t, "long", wide, 1, long)
		refusesWindow(t, "long, no window", plan17(100000, 1), 0, long)
	}
	for _, part := range (bounded{"part", 0, 2}).beyond() {
		refusesWindow(t, "part", wide, part, 1)
		for _, long := range farNumbers {
			refusesWindow(t, "part and long", wide, part, long)
		}
	}
	fits(t, "the first partition", wide, 0, 1, 0, 0)
	fits(t, "the last partition", wide, 2, 1, 0, 0)
}

func TestFittedUntilNothingIsFree(t *testing.T) {
	p := plan17(50, 3, 1, 7, 3)
	for _, long := range []int{7, 20, 10, 9, 1} {
		q, ok := impl.FitWindow(p, 2, long)
		if !ok || !impl.PlanOk(q) || len(q.Windows) != len(p.Windows)+1 {
			t.Fatal(long, p, q, ok)
		}
		p = q
	}
	if has, longest, ok := impl.Share(p, 2); has != 47 || longest != 3 || !ok {
		t.Error(has, longest, ok)
	}
	refusesWindow(t, "full", p, 0, 1)
	many := plan17(100, 1)
	for range 40 {
		many, _ = impl.FitWindow(many, 0, 2)
	}
	if len(many.Windows) != 40 || !impl.PlanOk(many) {
		t.Error(many)
	}
	refusesWindow(t, "forty", many, 0, 2)
}

// eachPlan hands out every plan of two partitions with such a frame.
func eachPlan(frame int, use func(p impl.Plan17)) {
	var goOn func(at int, windows []impl.Window)
	goOn = func(at int, windows []impl.Window) {
		if at == frame {
			use(impl.Plan17{Frame: frame, Parts: 2, Windows: slices.Clone(windows)})
			return
		}
		goOn(at+1, windows)
		for long := 1; at+long <= frame; long++ {
			for part := range 2 {
				goOn(at+long, append(windows, window(part, at, long)))
			}
		}
	}
	goOn(0, nil)
}

func planHolds(t *testing.T, p impl.Plan17, part, long, tick int) {
	t.Helper()
	if impl.PlanOk(p) != plan17IsSo(p) {
		t.Fatal(p, impl.PlanOk(p))
	}
	owner, ok := impl.Owner(p, tick)
	if wantOwner, want := ownerByWords(p, tick); owner != wantOwner || ok != want {
		t.Fatal(p, tick, owner, ok, wantOwner, want)
	}
	has, longest, ok := impl.Share(p, part)
	if wantHas, wantLongest, want := shareByWords(p, part); has != wantHas || longest != wantLongest || ok != want {
		t.Fatal(p, part, has, longest, ok, wantHas, wantLongest, want)
	}
	q, ok := impl.FitWindow(p, part, long)
	if wantQ, want := fitByWords(p, part, long); !samePlan(q, wantQ) || ok != want {
		t.Fatal(p, part, long, q, ok, wantQ, want)
	}
}

func runHolds(t *testing.T, p impl.Plan17, jobs []impl.Job, ticks int) {
	t.Helper()
	lates, idle, ok := impl.RunJobs(p, jobs, ticks)
	if wantLates, wantIdle, want := runByWords(p, jobs, ticks); !slices.Equal(lates, wantLates) || idle != wantIdle || ok != want {
		t.Fatal(p, jobs, ticks, lates, idle, ok, wantLates, wantIdle, want)
	}
}

func TestSmallPlansAreAsTheWordsSay(t *testing.T) {
	for frame := 1; frame <= 6; frame++ {
		eachPlan(frame, func(p impl.Plan17) {
			if !impl.PlanOk(p) {
				t.Fatal("refused:", p)
			}
			for part := -1; part <= 2; part++ {
				for long := 0; long <= frame+1; long++ {
					planHolds(t, p, part, long, frame*(part+1)+long)
				}
			}
			for tick := range 3 * frame {
				planHolds(t, p, 0, 1, tick)
			}
			runHolds(t, p, jobsOf(0, 3, 2, 1, 4, 2, 0, 5, 1, 1, 2, 1), 25)
		})
	}
}

// planFrom draws a plan that is so, with windows that lie close to each other.
func planFrom(r *rand.Rand) impl.Plan17 {
	p := plan17(1+r.Intn([]int{8, 60, 400}[r.Intn(3)]), 1+r.Intn(10))
	at := r.Intn(3)
	for len(p.Windows) < 40 {
		w := window(r.Intn(p.Parts), at, 1+r.Intn(1+p.Frame/(1+r.Intn(20))))
		if w.At+w.Long > p.Frame {
			break
		}
		p.Windows = append(p.Windows, w)
		at += w.Long + max(0, r.Intn(5)-2)
	}
	return p
}

// spoilPlan leaves a plan mostly wrong, by a tick or by far.
func spoilPlan(r *rand.Rand, p *impl.Plan17) {
	numbers := []*int{&p.Frame, &p.Parts}
	for i := range p.Windows {
		numbers = append(numbers, &p.Windows[i].Part, &p.Windows[i].At, &p.Windows[i].Long)
	}
	spoilt := numbers[r.Intn(len(numbers))]
	switch r.Intn(4) {
	case 0:
		*spoilt = farNumbers[r.Intn(len(farNumbers))]
	case 1:
		*spoilt++
	case 2:
		*spoilt--
	case 3:
		*spoilt = r.Intn(12) - 1
	}
}

func jobsFrom(r *rand.Rand, parts int) []impl.Job {
	var jobs []impl.Job
	most := []int{3, 12, 60}[r.Intn(3)]
	for range r.Intn(21) {
		jobs = append(jobs, job(r.Intn(parts), 1+r.Intn(4*most), 1+r.Intn(most)))
	}
	return jobs
}

func TestPlansAreAsTheWordsSay(t *testing.T) {
	r := rand.New(rand.NewSource(171))
	right, wrong := 0, 0
	for range 20000 {
		p := planFrom(r)
		if r.Intn(3) == 0 {
			spoilPlan(r, &p)
		}
		planHolds(t, p, r.Intn(12)-1, r.Intn(20), r.Intn(1000))
		if impl.PlanOk(p) {
			right++
		} else {
			wrong++
		}
	}
	if right < 5000 || wrong < 2000 {
		t.Error("too few of a kind were tried:", right, wrong)
	}
}

func TestRunsAreAsTheWordsSay(t *testing.T) {
	r := rand.New(rand.NewSource(172))
	late, onTime, idling := 0, 0, 0
	for range 3000 {
		p := planFrom(r)
		jobs, ticks := jobsFrom(r, p.Parts), r.Intn(300)
		runHolds(t, p, jobs, ticks)
		lates, idle, _ := impl.RunJobs(p, jobs, ticks)
		for _, n := range lates {
			if n > 0 {
				late++
			} else {
				onTime++
			}
		}
		if idle > 0 {
			idling++
		}
		if len(jobs) == 0 {
			continue
		}
		one := &jobs[r.Intn(len(jobs))]
		*[]*int{&one.Part, &one.Every, &one.Needs}[r.Intn(3)] = append([]int{-1, 0, 11}, farNumbers...)[r.Intn(11)]
		runHolds(t, p, jobs, ticks)
	}
	if late < 1000 || onTime < 1000 || idling < 500 {
		t.Error("too few of a kind were tried:", late, onTime, idling)
	}
	runHolds(t, planFrom(r), nil, 5000)
	runHolds(t, plan17(7, 10, 3, 1, 2, 9, 4, 3), slices.Repeat(jobsOf(3, 11, 2, 9, 5, 1), 10), 5000)
}

// windowsAt counts the windows of a plan in which a tick is.
func windowsAt(p impl.Plan17, tick int) []int {
	var parts []int
	for _, w := range p.Windows {
		if at := tick % p.Frame; w.At <= at && at < w.At+w.Long {
			parts = append(parts, w.Part)
		}
	}
	return parts
}

// Promise 17: each tick has at most one owner.
func TestEachTickHasAtMostOneOwner(t *testing.T) {
	r := rand.New(rand.NewSource(173))
	for range 1000 {
		p := planFrom(r)
		if r.Intn(2) == 0 {
			spoilPlan(r, &p)
		}
		if !impl.PlanOk(p) {
			refusesPlan(t, "spoilt", p)
			continue
		}
		owned := make([]int, p.Parts)
		first := p.Frame * r.Intn(100000000/p.Frame)
		for tick := first; tick < first+p.Frame; tick++ {
			owner, ok := impl.Owner(p, tick)
			parts := windowsAt(p, tick)
			if !ok || len(parts) > 1 || len(parts) == 0 && owner != -1 || len(parts) == 1 && owner != parts[0] {
				t.Fatal(p, tick, owner, ok, parts)
			}
			if owner != -1 {
				owned[owner]++
			}
		}
		// What partitions have together is no more than the frame.
		sum := 0
		for part := range p.Parts {
			has, longest, ok := impl.Share(p, part)
			if has != owned[part] || has+longest > p.Frame || !ok {
				t.Fatal(p, part, has, longest, ok, owned[part])
			}
			sum += has
		}
		if sum > p.Frame {
			t.Fatal(p, sum)
		}
	}
}

// Promise 17: a window that is put in takes nothing from another one.
func TestAWindowThatIsPutInTakesNothing(t *testing.T) {
	r := rand.New(rand.NewSource(174))
	put := 0
	for range 3000 {
		p := planFrom(r)
		part, long := r.Intn(p.Parts), 1+r.Intn(9)
		q, ok := impl.FitWindow(p, part, long)
		if !ok {
			continue
		}
		put++
		if !impl.PlanOk(q) || q.Frame != p.Frame || q.Parts != p.Parts || len(q.Windows) != len(p.Windows)+1 {
			t.Fatal(p, q)
		}
		came := 0
		for tick := range p.Frame {
			before, _ := impl.Owner(p, tick)
			after, _ := impl.Owner(q, tick)
			if before != after && (before != -1 || after != part) {
				t.Fatal("taken away:", p, q, tick, before, after)
			}
			if before != after {
				came++
			}
		}
		if came != long {
			t.Fatal("not as many ticks as asked for:", p, q, came, long)
		}
		othersKeep(t, p, q, part, long, jobsFrom(r, p.Parts))
	}
	if put < 500 {
		t.Error("too few were put in:", put)
	}
}

func othersKeep(t *testing.T, p, q impl.Plan17, part, long int, jobs []impl.Job) {
	t.Helper()
	for other := range p.Parts {
		has, longest, _ := impl.Share(p, other)
		has2, longest2, _ := impl.Share(q, other)
		if other == part {
			has += long
			longest = min(longest, longest2)
		}
		if has2 != has || longest2 != longest {
			t.Fatal(p, q, other, has, longest, has2, longest2)
		}
	}
	lates, _, _ := impl.RunJobs(p, jobs, 200)
	lates2, _, _ := impl.RunJobs(q, jobs, 200)
	for i, j := range jobs {
		if j.Part != part && lates2[i] != lates[i] {
			t.Fatal("another one's jobs are later:", p, q, j, lates[i], lates2[i])
		}
	}
}

// roomyPlan has windows behind the end of its list that would change each answer.
func roomyPlan(p impl.Plan17) impl.Plan17 {
	p.Windows = append(slices.Clone(p.Windows), window(0, 0, 1), window(7, 7, 7), window(-7, -7, -7))[:len(p.Windows)]
	return p
}

func roomyJobs(jobs []impl.Job) []impl.Job {
	return append(slices.Clone(jobs), job(0, 1, 1), job(-7, -7, -7))[:len(jobs)]
}

// markWindows writes over every window of an answer, with its spare room.
func markWindows(list []impl.Window) {
	for i := range list[:cap(list)] {
		list[:cap(list)][i] = window(99, 99, 99)
	}
}

func TestPartitionsShareAndWriteNothing(t *testing.T) {
	r := rand.New(rand.NewSource(175))
	for range 3000 {
		plain := planFrom(r)
		if r.Intn(4) == 0 {
			spoilPlan(r, &plain)
		}
		p, jobs := roomyPlan(plain), roomyJobs(jobsFrom(r, 1+r.Intn(10)))
		windows, all := slices.Clone(p.Windows[:cap(p.Windows)]), slices.Clone(jobs[:cap(jobs)])
		part, long := r.Intn(11), r.Intn(12)
		planHolds(t, p, part, long, r.Intn(500))
		runHolds(t, p, jobs, r.Intn(60))
		q, _ := impl.FitWindow(p, part, long)
		again, _ := impl.FitWindow(p, part, long)
		want := slices.Clone(again.Windows)
		markWindows(q.Windows)
		if !slices.Equal(again.Windows, want) {
			t.Fatal("two answers share memory:", p, part, long)
		}
		lates, _, ok := impl.RunJobs(p, jobs, 50)
		for i := range lates[:cap(lates)] {
			lates[:cap(lates)][i] = 99
		}
		if wantLates, _, _ := runByWords(p, jobs, 50); ok {
			if next, _, _ := impl.RunJobs(p, jobs, 50); !slices.Equal(next, wantLates) {
				t.Fatal("something is kept:", p, jobs)
			}
		}
		if !slices.Equal(p.Windows[:cap(p.Windows)], windows) || !slices.Equal(jobs[:cap(jobs)], all) {
			t.Fatal("an argument, or the room behind it, is written into or shared:", plain, jobs)
		}
	}
	wrong := roomyPlan(impl.Plan17{Frame: 10, Parts: 1, Windows: make([]impl.Window, 50)})
	q, ok := impl.FitWindow(wrong, 0, 1)
	markWindows(q.Windows)
	if ok || !slices.Equal(wrong.Windows, make([]impl.Window, 50)) {
		t.Error("what is refused shares memory with the plan")
	}
}

// What is counted is counted for one call alone, whoever else calls.
func TestTheOutcomeOfPlansIsOne(t *testing.T) {
	defer runtime.GOMAXPROCS(runtime.GOMAXPROCS(0))
	full, wrong := alikeWindows(40), alikeWindows(41)
	jobs := jobsOf(0, 7, 3, 1, 9, 4, 0, 100, 20)
	wantLates, wantIdle, _ := runByWords(full, jobs, 500)
	for _, workers := range []int{1, 8} {
		runtime.GOMAXPROCS(workers)
		var callers sync.WaitGroup
		for range 8 {
			callers.Go(func() {
				for range 100 {
					lates, idle, ok := impl.RunJobs(full, jobs, 500)
					if !slices.Equal(lates, wantLates) || idle != wantIdle || !ok || !impl.PlanOk(full) || impl.PlanOk(wrong) {
						t.Error("another outcome:", lates, idle, ok)
						return
					}
				}
			})
		}
		callers.Wait()
	}
}

// isAtomic tells whether an expression names something of the package atomic.
func isAtomic(e ast.Expr) bool {
	chosen, ok := e.(*ast.SelectorExpr)
	return ok && isNamed(chosen.X, "atomic")
}

// fallsThrough tells whether a switch has a case that goes on in the next one.
func fallsThrough(s *ast.SwitchStmt) bool {
	return slices.ContainsFunc(s.Body.List, func(c ast.Stmt) bool {
		body := c.(*ast.CaseClause).Body
		if len(body) == 0 {
			return false
		}
		last, ok := body[len(body)-1].(*ast.BranchStmt)
		return ok && last.Tok == token.FALLTHROUGH
	})
}

// The document's 'Ways': windows are counted by an atomic (of the call's own, since
// nothing is kept); whose a tick is, is told by a switch with fallthrough.
func TestPartitionsAreBuiltTheirWay(t *testing.T) {
	file, err := parser.ParseFile(token.NewFileSet(), "../impl/l17_part.go", nil, 0)
	if err != nil {
		t.Fatal(err)
	}
	counted, through := false, false
	for _, d := range file.Decls {
		if g, ok := d.(*ast.GenDecl); ok && g.Tok == token.VAR {
			t.Error("a variable is kept from call to call")
		}
	}
	ast.Inspect(file, func(n ast.Node) bool {
		switch x := n.(type) {
		case *ast.ValueSpec:
			counted = counted || isAtomic(x.Type)
		case *ast.SwitchStmt:
			through = through || fallsThrough(x)
		}
		return true
	})
	if !counted || !through {
		t.Error("counted by an atomic:", counted, "a switch with fallthrough:", through)
	}
}
