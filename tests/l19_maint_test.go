package tests

import (
	"cmp"
	"fmt"
	"go/ast"
	"go/parser"
	"go/token"
	"math"
	"math/rand"
	"slices"
	"strconv"
	"strings"
	"sync"
	"testing"

	"loop.example/g00063/impl"
)

var (
	ofClock       = []bounded{{"Hours", 0, 1000000}, {"Cycles", 0, 1000000}, {"Days", 0, 1000000}}
	ofTask        = []bounded{{"Hours", 0, 100000}, {"Cycles", 0, 100000}, {"Days", 0, 100000}}
	ofCarry       = []bounded{{"Most", 0, 10}, {"Days", 0, 120}}
	itemBounds    = bounded{"Item", 1, 1000000}
	sinceBounds   = bounded{"Since", 0, 1000000}
	manyBounds    = bounded{"Many", 1, 100}
	clockAtItsEnd = clock19(1000000, 1000000, 1000000)
)

func clock19(hours, cycles, days int) impl.Clock {
	return impl.Clock{Hours: hours, Cycles: cycles, Days: days}
}

// task19 was done when nothing had passed yet.
func task19(name string, hours, cycles, days int) impl.Task {
	return impl.Task{Name: name, Hours: hours, Cycles: cycles, Days: days}
}

func doneAt(t impl.Task, done impl.Clock) impl.Task {
	t.Done = done
	return t
}

func carry19(name string, most, days int) impl.Carry {
	return impl.Carry{Name: name, Most: most, Days: days}
}

func defect19(name string, item, since int) impl.Defect {
	return impl.Defect{Name: name, Item: item, Since: since}
}

func fly19(hours int) impl.Deed19        { return impl.Deed19{Kind: impl.WorkFly, Many: hours} }
func doTask19(name string) impl.Deed19   { return impl.Deed19{Kind: impl.WorkTask, Name: name} }
func mend19(item int) impl.Deed19        { return impl.Deed19{Kind: impl.WorkMend, Item: item} }
func days19(many int) impl.Deed19        { return impl.Deed19{Kind: impl.WorkDays, Many: many} }
func find19(n string, i int) impl.Deed19 { return impl.Deed19{Kind: impl.WorkFind, Name: n, Item: i} }

// oneOfEach has a deed of each kind that the fleet of fleet19 can do.
func oneOfEach() []impl.Deed19 {
	return []impl.Deed19{fly19(1), doTask19("oil"), find19("lamp", 99), mend19(40), days19(1)}
}

// fleet19 is released, and has something of everything.
func fleet19() impl.Fleet {
	return impl.Fleet{
		Tasks: []impl.Task{
			doneAt(task19("check", 100, 20, 90), clock19(450, 90, 60)),
			doneAt(task19("oil", 0, 50, 0), clock19(400, 80, 50)),
			doneAt(task19("wash", 0, 0, 30), clock19(490, 99, 95)),
		},
		Carries: []impl.Carry{carry19("fan", 1, 20), carry19("lamp", 3, 10), carry19("seat", 0, 30)},
		Defects: []impl.Defect{defect19("lamp", 20, 95), defect19("fan", 40, 90), defect19("lamp", 60, 100)},
		Now:     clock19(500, 100, 100),
	}
}

func withTasks(f impl.Fleet, tasks ...impl.Task) impl.Fleet {
	f.Tasks = tasks
	return f
}

func withCarries(f impl.Fleet, carries ...impl.Carry) impl.Fleet {
	f.Carries = carries
	return f
}

func withDefects(f impl.Fleet, defects ...impl.Defect) impl.Fleet {
	f.Defects = defects
	return f
}

func withNow(f impl.Fleet, now impl.Clock) impl.Fleet {
	f.Now = now
	return f
}

func manyTasks(many int) []impl.Task {
	var tasks []impl.Task
	for i := range many {
		tasks = append(tasks, task19(partNumber(i), 0, 500+i, 0))
	}
	return tasks
}

func manyCarries(many int) []impl.Carry {
	var carries []impl.Carry
	for i := range many {
		carries = append(carries, carry19(partNumber(i), 10, 120))
	}
	return carries
}

// manyDefects has the Items 10, 20 and so on, each with a name of its own.
func manyDefects(many int) []impl.Defect {
	var defects []impl.Defect
	for i := range many {
		defects = append(defects, defect19(partNumber(i), 10*(i+1), 0))
	}
	return defects
}

func sameFleet(a, b impl.Fleet) bool {
	return slices.Equal(a.Tasks, b.Tasks) && slices.Equal(a.Carries, b.Carries) && slices.Equal(a.Defects, b.Defects) && a.Now == b.Now
}

func numbersOfClock(c impl.Clock) []int { return []int{c.Hours, c.Cycles, c.Days} }

func clockIsSo(c impl.Clock) bool { return allIn(numbersOfClock(c), 0, 1000000) }

func isAhead(a, b impl.Clock) bool {
	return a.Hours <= b.Hours && a.Cycles <= b.Cycles && a.Days <= b.Days
}

func taskIsSo(t impl.Task) bool {
	bounds := []int{t.Hours, t.Cycles, t.Days}
	return isName(t.Name) && allIn(bounds, 0, 100000) && slices.Max(bounds) > 0 && clockIsSo(t.Done)
}

func due19ByWords(t impl.Task, now impl.Clock) (bool, impl.Clock, bool) {
	if !taskIsSo(t) || !clockIsSo(now) || !isAhead(t.Done, now) {
		return false, impl.Clock{}, false
	}
	due, left, done, ends := false, []int{0, 0, 0}, numbersOfClock(t.Done), numbersOfClock(now)
	for i, bound := range []int{t.Hours, t.Cycles, t.Days} {
		if passed := ends[i] - done[i]; bound > 0 && passed >= bound {
			due = true
		} else if bound > 0 {
			left[i] = bound - passed
		}
	}
	return due, clock19(left[0], left[1], left[2]), true
}

func carriesAreSo(list []impl.Carry) bool {
	var names []string
	for _, c := range list {
		if !isName(c.Name) || c.Most < 0 || c.Most > 10 || c.Days < 0 || c.Days > 120 {
			return false
		}
		names = append(names, c.Name)
	}
	return len(list) < 21 && namesAscend(names)
}

func fleetIsSo(f impl.Fleet) bool {
	var names []string
	for _, t := range f.Tasks {
		if !taskIsSo(t) || !isAhead(t.Done, f.Now) {
			return false
		}
		names = append(names, t.Name)
	}
	for i, d := range f.Defects {
		if !isName(d.Name) || !itemBounds.has(d.Item) || d.Since < 0 || d.Since > f.Now.Days {
			return false
		}
		for _, later := range f.Defects[i+1:] {
			if d.Item >= later.Item {
				return false
			}
		}
	}
	return clockIsSo(f.Now) && carriesAreSo(f.Carries) && len(f.Tasks) < 41 && len(f.Defects) < 21 && namesAscend(names)
}

type reason19 struct {
	code int
	name string
}

// reasonsOf has all that keeps a fleet from flying, in the document's order; within a code by
// Name or by Item.
func reasonsOf(f impl.Fleet) []reason19 {
	if !fleetIsSo(f) {
		return []reason19{{impl.FreeBad, ""}}
	}
	var reasons []reason19
	for _, t := range f.Tasks {
		if due, _, _ := due19ByWords(t, f.Now); due {
			reasons = append(reasons, reason19{impl.FreeTask, t.Name})
		}
	}
	allowed, many := map[string]impl.Carry{}, map[string]int{}
	for _, c := range f.Carries {
		allowed[c.Name] = c
	}
	for _, d := range f.Defects {
		many[d.Name]++
	}
	for _, d := range f.Defects {
		c, listed := allowed[d.Name]
		if !listed {
			reasons = append(reasons, reason19{impl.FreeList, d.Name})
			continue
		}
		if many[d.Name] > c.Most {
			reasons = append(reasons, reason19{impl.FreeMany, d.Name})
		}
		if d.Since+c.Days < f.Now.Days {
			reasons = append(reasons, reason19{impl.FreeLate, d.Name})
		}
	}
	slices.SortStableFunc(reasons, func(a, b reason19) int { return a.code - b.code })
	return reasons
}

func releaseByWords(f impl.Fleet) (int, string) {
	if reasons := reasonsOf(f); len(reasons) > 0 {
		return reasons[0].code, reasons[0].name
	}
	return impl.FreeYes, ""
}

// doWorkByWords does a deed that is so, and asks then whether the fleet behind it is right.
func doWorkByWords(f impl.Fleet, d impl.Deed19) (impl.Fleet, bool) {
	g := impl.Fleet{Tasks: slices.Clone(f.Tasks), Carries: f.Carries, Defects: slices.Clone(f.Defects), Now: f.Now}
	there := slices.ContainsFunc(f.Defects, func(one impl.Defect) bool { return one.Item == d.Item })
	done := false
	switch d.Kind {
	case impl.WorkFly:
		if code, _ := releaseByWords(f); code == impl.FreeYes && manyBounds.has(d.Many) {
			g.Now, done = clock19(f.Now.Hours+d.Many, f.Now.Cycles+1, f.Now.Days), true
		}
	case impl.WorkTask:
		for i := range g.Tasks {
			if g.Tasks[i].Name == d.Name {
				g.Tasks[i].Done, done = f.Now, true
			}
		}
	case impl.WorkFind:
		if !there {
			g.Defects = append(g.Defects, defect19(d.Name, d.Item, f.Now.Days))
			slices.SortFunc(g.Defects, func(a, b impl.Defect) int { return cmp.Compare(a.Item, b.Item) })
			done = true
		}
	case impl.WorkMend:
		g.Defects, done = slices.DeleteFunc(g.Defects, func(one impl.Defect) bool { return one.Item == d.Item }), there
	case impl.WorkDays:
		if manyBounds.has(d.Many) {
			g.Now.Days, done = f.Now.Days+d.Many, true
		}
	}
	if !fleetIsSo(f) || !done || !fleetIsSo(g) {
		return f, false
	}
	return g, true
}

func runWorkByWords(f impl.Fleet, list []impl.Deed19) (impl.Fleet, []bool) {
	if len(list) > 100 {
		return f, nil
	}
	told := make([]bool, len(list))
	for i, d := range list {
		f, told[i] = doWorkByWords(f, d)
	}
	return f, told
}

func nextDueByWords(f impl.Fleet) (string, int, bool) {
	if !fleetIsSo(f) {
		return "", 0, false
	}
	var some []reason19
	for _, t := range f.Tasks {
		if due, left, _ := due19ByWords(t, f.Now); !due && t.Cycles > 0 {
			some = append(some, reason19{left.Cycles, t.Name})
		}
	}
	if len(some) == 0 {
		return "", 0, false
	}
	least := slices.MinFunc(some, func(a, b reason19) int {
		return cmp.Or(a.code-b.code, strings.Compare(a.name, b.name))
	})
	return least.name, least.code, true
}

func isDue19(t *testing.T, name string, one impl.Task, now impl.Clock, want bool, left impl.Clock) {
	t.Helper()
	if due, got, ok := impl.Due19(one, now); due != want || got != left || !ok {
		t.Errorf("%s: %v %v %v, not %v %v", name, due, got, ok, want, left)
	}
}

func refusesDue19(t *testing.T, name string, one impl.Task, now impl.Clock) {
	t.Helper()
	if due, left, ok := impl.Due19(one, now); due || left != (impl.Clock{}) || ok {
		t.Errorf("%s: %v %v: %v %v %v", name, one, now, due, left, ok)
	}
}

// releases wants the code, and that a flight goes just where it is FreeYes.
func releases(t *testing.T, name string, f impl.Fleet, want int, about string) {
	t.Helper()
	if code, told := impl.Release(f); code != want || told != about {
		t.Errorf("%s: %d %q, not %d %q", name, code, told, want, about)
	}
	if g, done := impl.DoWork(f, fly19(1)); done != (want == impl.FreeYes) || !done && !sameFleet(f, g) {
		t.Errorf("%s: a flight tells %v: %v", name, done, g)
	}
}

func does(t *testing.T, name string, f impl.Fleet, d impl.Deed19, want impl.Fleet) {
	t.Helper()
	if g, done := impl.DoWork(f, d); !sameFleet(g, want) || !done || !impl.FleetOk(g) {
		t.Errorf("%s: %v %v, not %v", name, g, done, want)
	}
	if g, told := impl.RunWork(f, []impl.Deed19{d}); !sameFleet(g, want) || !slices.Equal(told, []bool{true}) {
		t.Errorf("%s: %v %v, not %v", name, g, told, want)
	}
}

func refusesWork(t *testing.T, name string, f impl.Fleet, d impl.Deed19) {
	t.Helper()
	if g, done := impl.DoWork(f, d); !sameFleet(g, f) || done {
		t.Errorf("%s: %v %v", name, g, done)
	}
	if g, told := impl.RunWork(f, []impl.Deed19{d}); !sameFleet(g, f) || !slices.Equal(told, []bool{false}) {
		t.Errorf("%s: %v %v", name, g, told)
	}
}

func isNext(t *testing.T, name string, f impl.Fleet, want string, left int) {
	t.Helper()
	if next, many, ok := impl.NextDue(f); next != want || many != left || !ok {
		t.Errorf("%s: %q %d %v, not %q %d", name, next, many, ok, want, left)
	}
}

func hasNoNext(t *testing.T, name string, f impl.Fleet) {
	t.Helper()
	if next, many, ok := impl.NextDue(f); next != "" || many != 0 || ok {
		t.Errorf("%s: %q %d %v", name, next, many, ok)
	}
}

// takesFleet wants a fleet that is right.
func takesFleet(t *testing.T, name string, f impl.Fleet) {
	t.Helper()
	if !impl.FleetOk(f) || !fleetIsSo(f) {
		t.Errorf("%s: %v is refused", name, f)
	}
	if code, _ := impl.Release(f); code == impl.FreeBad {
		t.Errorf("%s: %v is bad", name, f)
	}
}

// refusesFleet wants a fleet refused by each function, and handed back as it was.
func refusesFleet(t *testing.T, name string, f impl.Fleet) {
	t.Helper()
	if impl.FleetOk(f) || fleetIsSo(f) {
		t.Errorf("%s: %v is taken", name, f)
	}
	releases(t, name, f, impl.FreeBad, "")
	hasNoNext(t, name, f)
	for _, d := range oneOfEach() {
		refusesWork(t, name, f, d)
	}
	if g, told := impl.RunWork(f, oneOfEach()); !sameFleet(f, g) || !slices.Equal(told, make([]bool, 5)) {
		t.Errorf("%s: %v %v", name, g, told)
	}
	if g, told := impl.RunWork(f, nil); !sameFleet(f, g) || len(told) != 0 {
		t.Errorf("%s: %v %v", name, g, told)
	}
}

func TestLimitsAndCodesOfMaintenance(t *testing.T) {
	if impl.MaxTasks != 40 || impl.MaxDefects != 20 || impl.MaxDeeds != 100 {
		t.Error(impl.MaxTasks, impl.MaxDefects, impl.MaxDeeds)
	}
	codes := []int{impl.FreeYes, impl.FreeBad, impl.FreeTask, impl.FreeList, impl.FreeMany, impl.FreeLate}
	if !slices.Equal(codes, []int{0, 1, 2, 3, 4, 5}) {
		t.Error(codes)
	}
	kinds := []int{impl.WorkFly, impl.WorkTask, impl.WorkFind, impl.WorkMend, impl.WorkDays}
	if !slices.Equal(kinds, []int{1, 2, 3, 4, 5}) {
		t.Error(kinds)
	}
}

func numberOfClock(c *impl.Clock, name string) *int {
	return map[string]*int{"Hours": &c.Hours, "Cycles": &c.Cycles, "Days": &c.Days}[name]
}

func numberOfTask(t *impl.Task, name string) *int {
	return map[string]*int{"Hours": &t.Hours, "Cycles": &t.Cycles, "Days": &t.Days}[name]
}

func numberOfCarry(c *impl.Carry, name string) *int {
	return map[string]*int{"Most": &c.Most, "Days": &c.Days}[name]
}

// wrongClocks hands out clocks that are wrong in one number, and in all.
func wrongClocks(use func(name string, c impl.Clock)) {
	for _, b := range ofClock {
		for _, n := range b.beyond() {
			for _, c := range []impl.Clock{{}, clock19(500, 100, 100), clockAtItsEnd} {
				*numberOfClock(&c, b.name) = n
				use(b.name+" of "+strconv.Itoa(n), c)
			}
			use("all of "+strconv.Itoa(n), clock19(n, n, n))
		}
	}
}

func TestClockOkAtItsEdges(t *testing.T) {
	for _, b := range ofClock {
		for _, n := range b.edges() {
			for _, c := range []impl.Clock{{}, clock19(500, 100, 100), clockAtItsEnd} {
				*numberOfClock(&c, b.name) = n
				if !impl.ClockOk(c) {
					t.Errorf("%v is refused", c)
				}
			}
		}
	}
	wrongClocks(func(name string, c impl.Clock) {
		if impl.ClockOk(c) {
			t.Errorf("%s is taken", name)
		}
	})
}

// wrongTasks hands out tasks that are wrong in one thing.
func wrongTasks(use func(name string, one impl.Task)) {
	use("nothing", impl.Task{})
	use("no bound", task19("oil", 0, 0, 0))
	for _, name := range wrongNames {
		use("the Name "+strconv.Quote(name), task19(name, 10, 10, 10))
	}
	for _, b := range ofTask {
		for _, n := range b.beyond() {
			for _, one := range []impl.Task{task19("oil", 10, 10, 10), task19("oil", 0, 0, 0)} {
				*numberOfTask(&one, b.name) = n
				use(b.name+" of "+strconv.Itoa(n), one)
			}
		}
	}
	wrongClocks(func(name string, c impl.Clock) { use("Done, "+name, doneAt(task19("oil", 10, 10, 10), c)) })
}

func TestTaskOkAtItsEdges(t *testing.T) {
	right := func(name string, one impl.Task) {
		t.Helper()
		if !impl.TaskOk(one) {
			t.Errorf("%s: %v is refused", name, one)
		}
	}
	for _, name := range rightNames {
		right("a Name", task19(name, 10, 10, 10))
	}
	for _, b := range ofTask {
		for _, n := range b.edges() {
			all, alone := task19("oil", 10, 10, 10), task19("oil", 0, 0, 0)
			*numberOfTask(&all, b.name), *numberOfTask(&alone, b.name) = n, n
			right("with others", all)
			if impl.TaskOk(alone) != (n > 0) {
				t.Errorf("alone: %v %v", alone, impl.TaskOk(alone))
			}
		}
	}
	for _, b := range ofClock {
		for _, n := range b.edges() {
			one := task19("oil", 0, 10, 0)
			*numberOfClock(&one.Done, b.name) = n
			right("Done", one)
		}
	}
	right("done at the end", doneAt(task19("oil", 100000, 100000, 100000), clockAtItsEnd))
	wrongTasks(func(name string, one impl.Task) {
		if impl.TaskOk(one) {
			t.Errorf("%s is taken", name)
		}
	})
}

func TestDue19ByHand(t *testing.T) {
	done := clock19(100, 200, 300)
	all := doneAt(task19("oil", 10, 20, 30), done)
	isDue19(t, "just done", all, done, false, clock19(10, 20, 30))
	isDue19(t, "one less of each", all, clock19(109, 219, 329), false, clock19(1, 1, 1))
	isDue19(t, "just Hours", all, clock19(110, 219, 329), true, clock19(0, 1, 1))
	isDue19(t, "just Cycles", all, clock19(109, 220, 329), true, clock19(1, 0, 1))
	isDue19(t, "just Days", all, clock19(109, 219, 330), true, clock19(1, 1, 0))
	isDue19(t, "one more of Hours", all, clock19(111, 219, 329), true, clock19(0, 1, 1))
	isDue19(t, "one more of Cycles", all, clock19(109, 221, 329), true, clock19(1, 0, 1))
	isDue19(t, "one more of Days", all, clock19(109, 219, 331), true, clock19(1, 1, 0))
	isDue19(t, "all", all, clock19(110, 220, 330), true, clock19(0, 0, 0))
	isDue19(t, "much more of all", all, clockAtItsEnd, true, clock19(0, 0, 0))
	hours, cycles, days := doneAt(task19("oil", 10, 0, 0), done), doneAt(task19("oil", 0, 20, 0), done), doneAt(task19("oil", 0, 0, 30), done)
	isDue19(t, "Hours alone, just done", hours, done, false, clock19(10, 0, 0))
	isDue19(t, "Hours alone, much of others", hours, clock19(109, 1000000, 1000000), false, clock19(1, 0, 0))
	isDue19(t, "Hours alone", hours, clock19(110, 200, 300), true, clock19(0, 0, 0))
	isDue19(t, "Hours alone, more", hours, clock19(111, 200, 300), true, clock19(0, 0, 0))
	isDue19(t, "Cycles alone, much of others", cycles, clock19(1000000, 219, 1000000), false, clock19(0, 1, 0))
	isDue19(t, "Cycles alone", cycles, clock19(100, 220, 300), true, clock19(0, 0, 0))
	isDue19(t, "Cycles alone, more", cycles, clock19(100, 221, 300), true, clock19(0, 0, 0))
	isDue19(t, "Days alone, much of others", days, clock19(1000000, 1000000, 329), false, clock19(0, 0, 1))
	isDue19(t, "Days alone", days, clock19(100, 200, 330), true, clock19(0, 0, 0))
	isDue19(t, "Days alone, more", days, clock19(100, 200, 331), true, clock19(0, 0, 0))
	isDue19(t, "a bound of 1, just done", task19("oil", 1, 1, 1), impl.Clock{}, false, clock19(1, 1, 1))
	isDue19(t, "a bound of 1", task19("oil", 1, 0, 1), clock19(1, 0, 0), true, clock19(0, 0, 1))
	most := task19("oil", 100000, 100000, 100000)
	isDue19(t, "the greatest bounds", most, clock19(99999, 99999, 99999), false, clock19(1, 1, 1))
	isDue19(t, "just the greatest bound", most, clock19(0, 100000, 0), true, clock19(100000, 0, 100000))
	isDue19(t, "done at the end", doneAt(most, clockAtItsEnd), clockAtItsEnd, false, clock19(100000, 100000, 100000))
}

func TestDue19RefusesWrongInputs(t *testing.T) {
	done := clock19(100, 200, 300)
	all := doneAt(task19("oil", 10, 20, 30), done)
	refusesDue19(t, "one hour ahead", all, clock19(99, 200, 300))
	refusesDue19(t, "one cycle ahead", all, clock19(100, 199, 300))
	refusesDue19(t, "one day ahead", all, clock19(100, 200, 299))
	refusesDue19(t, "an hour ahead, due by others", all, clock19(99, 400, 400))
	refusesDue19(t, "a cycle ahead, due by others", all, clock19(400, 199, 400))
	refusesDue19(t, "a day ahead, due by others", all, clock19(400, 400, 299))
	refusesDue19(t, "ahead in what has no bound", doneAt(task19("oil", 10, 0, 0), done), clock19(100, 199, 300))
	refusesDue19(t, "ahead in what has no bound, due", doneAt(task19("oil", 10, 0, 0), done), clock19(200, 200, 0))
	refusesDue19(t, "all ahead", all, impl.Clock{})
	wrongTasks(func(name string, one impl.Task) {
		for _, now := range []impl.Clock{{}, done, clockAtItsEnd, one.Done} {
			refusesDue19(t, name, one, now)
		}
	})
	wrongClocks(func(name string, now impl.Clock) {
		refusesDue19(t, name, all, now)
		refusesDue19(t, name, task19("oil", 1, 1, 1), now)
		refusesDue19(t, name, doneAt(task19("oil", 1, 1, 1), now), now)
		refusesDue19(t, name, impl.Task{}, now)
	})
}

// wrongCarries hands out carries that are wrong in one thing.
func wrongCarries(use func(name string, c impl.Carry)) {
	for _, name := range wrongNames {
		use("the Name "+strconv.Quote(name), carry19(name, 1, 1))
	}
	for _, b := range ofCarry {
		for _, n := range b.beyond() {
			c := carry19("lamp", 1, 1)
			*numberOfCarry(&c, b.name) = n
			use(b.name+" of "+strconv.Itoa(n), c)
		}
	}
}

func TestCarryOkAtItsEdges(t *testing.T) {
	right := map[string][]impl.Carry{
		"none":                   nil,
		"a list of none":         {},
		"19":                     manyCarries(19),
		"20":                     manyCarries(20),
		"nothing is allowed":     {carry19("lamp", 0, 0)},
		"one, one day":           {carry19("lamp", 1, 1)},
		"the most":               {carry19("lamp", 10, 120)},
		"one less than the most": {carry19("lamp", 9, 119)},
		"a beginning is less":    {carry19("fan", 1, 1), carry19("fan-", 1, 1), carry19("fan-2", 1, 1)},
		"by their bytes":         {carry19("-", 1, 1), carry19("0", 1, 1), carry19("A", 1, 1), carry19("Z", 1, 1), carry19("a", 1, 1)},
	}
	for _, name := range rightNames {
		right["the Name "+name] = []impl.Carry{carry19(name, 1, 1)}
	}
	for name, list := range right {
		if !impl.CarryOk(list) || !carriesAreSo(list) {
			t.Errorf("%s: %v is refused", name, list)
		}
		takesFleet(t, name, impl.Fleet{Carries: list})
	}
	wrong := map[string][]impl.Carry{
		"21":                     manyCarries(21),
		"40":                     manyCarries(40),
		"alike":                  {carry19("lamp", 1, 1), carry19("lamp", 1, 1)},
		"alike, not neighbours":  {carry19("a", 1, 1), carry19("b", 1, 1), carry19("a", 1, 1)},
		"alike by name alone":    {carry19("lamp", 1, 1), carry19("lamp", 2, 3)},
		"that go down":           {carry19("b", 1, 1), carry19("a", 1, 1)},
		"that go down at last":   {carry19("a", 1, 1), carry19("c", 1, 1), carry19("b", 1, 1)},
		"a beginning behind":     {carry19("fan-", 1, 1), carry19("fan", 1, 1)},
		"small letters ahead":    {carry19("a", 1, 1), carry19("Z", 1, 1)},
		"the zero value":         {{}},
		"the zero value, behind": {carry19("a", 1, 1), {}},
	}
	for name, list := range wrong {
		refusesCarries(t, name, list)
	}
	wrongCarries(func(name string, c impl.Carry) {
		refusesCarries(t, name, []impl.Carry{c})
		refusesCarries(t, name+", last", []impl.Carry{carry19("a", 1, 1), c})
		refusesCarries(t, name+", first", []impl.Carry{c, carry19("z", 1, 1)})
	})
}

func refusesCarries(t *testing.T, name string, list []impl.Carry) {
	t.Helper()
	if impl.CarryOk(list) || carriesAreSo(list) {
		t.Errorf("%s: %v is taken", name, list)
	}
	refusesFleet(t, name, withCarries(withDefects(fleet19()), list...))
}

func TestFleetOkWithItsTasks(t *testing.T) {
	f := fleet19()
	takesFleet(t, "of everything", f)
	takesFleet(t, "nothing", impl.Fleet{})
	takesFleet(t, "empty lists", impl.Fleet{Tasks: []impl.Task{}, Carries: []impl.Carry{}, Defects: []impl.Defect{}})
	takesFleet(t, "39 tasks", withTasks(f, manyTasks(39)...))
	takesFleet(t, "40 tasks", withTasks(f, manyTasks(40)...))
	refusesFleet(t, "41 tasks", withTasks(f, manyTasks(41)...))
	refusesFleet(t, "80 tasks", withTasks(f, manyTasks(80)...))
	a, b, c := task19("a", 1000, 0, 0), task19("b", 1000, 0, 0), task19("c", 1000, 0, 0)
	takesFleet(t, "ascending", withTasks(f, a, b, c))
	takesFleet(t, "a beginning is less", withTasks(f, task19("b", 1000, 0, 0), task19("b-", 1000, 0, 0), task19("b-2", 1000, 0, 0)))
	refusesFleet(t, "alike", withTasks(f, a, a))
	refusesFleet(t, "alike by name alone", withTasks(f, a, task19("a", 0, 7000, 0)))
	refusesFleet(t, "alike, not neighbours", withTasks(f, a, b, a))
	refusesFleet(t, "that go down", withTasks(f, b, a))
	refusesFleet(t, "that go down at last", withTasks(f, a, c, b))
	refusesFleet(t, "small letters ahead", withTasks(f, a, task19("Z", 1000, 0, 0)))
	takesFleet(t, "done just now", withTasks(f, doneAt(a, f.Now)))
	takesFleet(t, "all done just now, at the end", withNow(withTasks(f, doneAt(a, clockAtItsEnd), doneAt(b, clockAtItsEnd)), clockAtItsEnd))
	for _, bound := range ofClock {
		late := f.Now
		*numberOfClock(&late, bound.name)++
		refusesFleet(t, "done beyond now, "+bound.name, withTasks(f, doneAt(a, late)))
		refusesFleet(t, "done beyond now, the last, "+bound.name, withTasks(f, a, b, doneAt(c, late)))
		early := impl.Clock{}
		*numberOfClock(&early, bound.name) = *numberOfClock(&late, bound.name)
		refusesFleet(t, "done beyond now in one alone, "+bound.name, withTasks(f, doneAt(a, early), b))
	}
	wrongTasks(func(name string, one impl.Task) {
		refusesFleet(t, name, withTasks(f, one))
		refusesFleet(t, name+", first", withTasks(f, one, task19("z", 1000, 0, 0)))
		refusesFleet(t, name+", last", withTasks(f, a, one))
		refusesFleet(t, name+", at the end", withNow(withTasks(f, one), clockAtItsEnd))
	})
}

func TestFleetOkWithItsDefectsAndItsClock(t *testing.T) {
	f := withNow(withCarries(withTasks(withDefects(fleet19()))), clock19(0, 0, 50))
	takesFleet(t, "no defect", f)
	takesFleet(t, "19 defects", withDefects(f, manyDefects(19)...))
	takesFleet(t, "20 defects", withDefects(f, manyDefects(20)...))
	refusesFleet(t, "21 defects", withDefects(f, manyDefects(21)...))
	refusesFleet(t, "40 defects", withDefects(f, manyDefects(40)...))
	for _, item := range itemBounds.edges() {
		takesFleet(t, "an Item", withDefects(f, defect19("lamp", item, 5)))
	}
	takesFleet(t, "the first and the last Item", withDefects(f, defect19("lamp", 1, 5), defect19("lamp", 1000000, 5)))
	takesFleet(t, "Items one apart, names that go down", withDefects(f, defect19("b", 7, 5), defect19("a", 8, 5), defect19("a", 9, 4)))
	refusesFleet(t, "Items alike", withDefects(f, defect19("a", 7, 5), defect19("b", 7, 5)))
	refusesFleet(t, "Items alike, not neighbours", withDefects(f, defect19("a", 7, 5), defect19("b", 8, 5), defect19("c", 7, 5)))
	refusesFleet(t, "Items that go down", withDefects(f, defect19("a", 8, 5), defect19("b", 7, 5)))
	refusesFleet(t, "Items that go down at last", withDefects(f, defect19("a", 7, 5), defect19("b", 9, 5), defect19("c", 8, 5)))
	for _, item := range itemBounds.beyond() {
		refusesFleet(t, "an Item", withDefects(f, defect19("lamp", item, 5)))
		refusesFleet(t, "an Item, first", withDefects(f, defect19("lamp", item, 5), defect19("lamp", 1000000, 5)))
		refusesFleet(t, "an Item, last", withDefects(f, defect19("lamp", 1, 5), defect19("lamp", item, 5)))
	}
	for _, since := range []int{0, 1, 49, 50} {
		takesFleet(t, "a Since", withDefects(f, defect19("lamp", 7, since)))
	}
	for _, since := range append(sinceBounds.beyond(), 51, 100) {
		refusesFleet(t, "a Since", withDefects(f, defect19("lamp", 7, since)))
		refusesFleet(t, "a Since, last", withDefects(f, defect19("lamp", 7, 50), defect19("lamp", 8, since)))
		refusesFleet(t, "a Since, first", withDefects(f, defect19("lamp", 7, since), defect19("lamp", 8, 50)))
	}
	for _, since := range sinceBounds.edges() {
		takesFleet(t, "a Since at the end", withNow(withDefects(f, defect19("lamp", 7, since)), clockAtItsEnd))
	}
	for _, name := range rightNames {
		takesFleet(t, "a name", withDefects(f, defect19(name, 7, 5)))
	}
	for _, name := range wrongNames {
		refusesFleet(t, "a name", withDefects(f, defect19(name, 7, 5)))
		refusesFleet(t, "a name, last", withDefects(f, defect19("lamp", 6, 5), defect19(name, 7, 5)))
	}
	wrongClocks(func(name string, now impl.Clock) {
		refusesFleet(t, name, impl.Fleet{Now: now})
		refusesFleet(t, name, withNow(fleet19(), now))
	})
}

func TestReleaseForEachReasonAlone(t *testing.T) {
	f := fleet19()
	releases(t, "of everything", f, impl.FreeYes, "")
	releases(t, "nothing", impl.Fleet{}, impl.FreeYes, "")
	releases(t, "carries alone", impl.Fleet{Carries: f.Carries}, impl.FreeYes, "")

	releases(t, "a task one hour ahead", withTasks(f, task19("oil", 501, 0, 0)), impl.FreeYes, "")
	releases(t, "a task due by Hours", withTasks(f, task19("oil", 500, 0, 0)), impl.FreeTask, "oil")
	releases(t, "a task due by Cycles", withTasks(f, task19("oil", 0, 100, 0)), impl.FreeTask, "oil")
	releases(t, "a task due by Days", withTasks(f, task19("oil", 0, 0, 100)), impl.FreeTask, "oil")
	releases(t, "a task one ahead by all", withTasks(f, task19("oil", 501, 101, 101)), impl.FreeYes, "")
	a, b, c := task19("a", 500, 0, 0), task19("b", 400, 0, 0), task19("c", 300, 0, 0)
	releases(t, "of several tasks the first by Name", withTasks(f, a, b, c), impl.FreeTask, "a")
	releases(t, "the first is not due", withTasks(f, task19("a", 501, 0, 0), b, c), impl.FreeTask, "b")
	releases(t, "the last alone", withTasks(f, task19("a", 501, 0, 0), task19("b", 501, 0, 0), c), impl.FreeTask, "c")
	forty := manyTasks(40)
	releases(t, "none of forty", withTasks(f, forty...), impl.FreeYes, "")
	forty[39].Cycles = 100
	releases(t, "the last of forty", withTasks(f, forty...), impl.FreeTask, partNumber(39))

	releases(t, "a defect that is not listed", withDefects(f, defect19("oven", 7, 100)), impl.FreeList, "oven")
	releases(t, "nothing is listed", withCarries(f), impl.FreeList, "lamp")
	releases(t, "of several the first by Item", withDefects(f, defect19("lamp", 5, 100), defect19("z", 6, 100), defect19("a", 7, 100)), impl.FreeList, "z")
	releases(t, "a beginning of a name", withDefects(f, defect19("lam", 5, 100)), impl.FreeList, "lam")
	releases(t, "a name that goes on", withDefects(f, defect19("lamps", 5, 100)), impl.FreeList, "lamps")
	releases(t, "other letters", withDefects(f, defect19("Lamp", 5, 100)), impl.FreeList, "Lamp")

	lamps := []impl.Defect{defect19("lamp", 5, 100), defect19("lamp", 6, 100), defect19("lamp", 7, 100), defect19("lamp", 8, 100)}
	releases(t, "just Most", withDefects(f, lamps[:3]...), impl.FreeYes, "")
	releases(t, "one more than Most", withDefects(f, lamps...), impl.FreeMany, "lamp")
	releases(t, "a Most of 0", withDefects(f, defect19("seat", 5, 100)), impl.FreeMany, "seat")
	both := []impl.Defect{defect19("fan", 3, 100), defect19("seat", 4, 100), defect19("fan", 5, 100)}
	releases(t, "of several names the first by Item", withDefects(f, both...), impl.FreeMany, "fan")
	releases(t, "of several names the first by Item, not by Name", withDefects(f, defect19("seat", 1, 100), defect19("fan", 3, 100), defect19("fan", 5, 100)), impl.FreeMany, "seat")
	releases(t, "the first name is not too many", withDefects(f, defect19("lamp", 1, 100), defect19("fan", 3, 100), defect19("fan", 5, 100)), impl.FreeMany, "fan")
	ten := make([]impl.Defect, 11)
	for i := range ten {
		ten[i] = defect19("lamp", i+1, 100)
	}
	releases(t, "ten", withCarries(withDefects(f, ten[:10]...), carry19("lamp", 10, 0)), impl.FreeYes, "")
	releases(t, "eleven", withCarries(withDefects(f, ten...), carry19("lamp", 10, 0)), impl.FreeMany, "lamp")

	releases(t, "just Days", withDefects(f, defect19("lamp", 5, 90)), impl.FreeYes, "")
	releases(t, "one day more", withDefects(f, defect19("lamp", 5, 89)), impl.FreeLate, "lamp")
	releases(t, "of several the late one", withDefects(f, defect19("fan", 5, 80), defect19("lamp", 6, 89)), impl.FreeLate, "lamp")
	releases(t, "of several late ones the first by Item", withDefects(f, defect19("lamp", 5, 89), defect19("fan", 6, 0)), impl.FreeLate, "lamp")
	zero := withCarries(f, carry19("lamp", 10, 0))
	releases(t, "Days of 0, today", withDefects(zero, defect19("lamp", 5, 100)), impl.FreeYes, "")
	releases(t, "Days of 0, yesterday", withDefects(zero, defect19("lamp", 5, 99)), impl.FreeLate, "lamp")
	far := withTasks(withNow(withCarries(f, carry19("lamp", 10, 120)), clock19(0, 0, 999999)))
	releases(t, "120 days", withDefects(far, defect19("lamp", 5, 999879)), impl.FreeYes, "")
	releases(t, "121 days", withDefects(far, defect19("lamp", 5, 999878)), impl.FreeLate, "lamp")
	releases(t, "all days", withDefects(far, defect19("lamp", 5, 0)), impl.FreeLate, "lamp")
}

func TestTheFirstReasonOfReleaseCounts(t *testing.T) {
	free := withTasks(withDefects(fleet19()), task19("oil", 501, 0, 0))
	due, unlisted := task19("oil", 500, 0, 0), defect19("oven", 70, 100)
	many, late := []impl.Defect{defect19("fan", 50, 100), defect19("fan", 51, 100)}, defect19("lamp", 30, 89)
	// The later a reason counts, the earlier it stands in the lists.
	for mask := range 16 {
		f, want, about := free, impl.FreeYes, ""
		var defects []impl.Defect
		if mask&1 != 0 {
			defects, want, about = append(defects, late), impl.FreeLate, "lamp"
		}
		if mask&2 != 0 {
			defects, want, about = append(defects, many...), impl.FreeMany, "fan"
		}
		if mask&4 != 0 {
			defects, want, about = append(defects, unlisted), impl.FreeList, "oven"
		}
		if mask&8 != 0 {
			f, want, about = withTasks(f, due), impl.FreeTask, "oil"
		}
		f = withDefects(f, defects...)
		releases(t, "reasons "+strconv.Itoa(mask), f, want, about)
		f.Now.Days = -1
		releases(t, "bad and reasons "+strconv.Itoa(mask), f, impl.FreeBad, "")
	}
	releases(t, "late and too many of one name", withDefects(free, defect19("fan", 1, 0), defect19("fan", 2, 0)), impl.FreeMany, "fan")
	releases(t, "late and too many of two names", withDefects(free, defect19("lamp", 1, 0), defect19("seat", 2, 100)), impl.FreeMany, "seat")
	releases(t, "not listed and old", withDefects(free, defect19("lamp", 1, 0), defect19("oven", 2, 0)), impl.FreeList, "oven")
	releases(t, "many that are not listed", withDefects(free, defect19("fan", 1, 0), defect19("fan", 2, 0), defect19("b", 3, 0), defect19("a", 4, 0)), impl.FreeList, "b")
	releases(t, "a task due, all else too", withTasks(withDefects(free, late, many[0], many[1], unlisted), task19("a", 501, 0, 0), due), impl.FreeTask, "oil")
}

func TestFlightsAndDaysByHand(t *testing.T) {
	f := fleet19()
	for _, many := range manyBounds.edges() {
		plain := withTasks(f)
		does(t, "a flight", plain, fly19(many), withNow(plain, clock19(500+many, 101, 100)))
		does(t, "days", f, days19(many), withNow(f, clock19(500, 100, 100+many)))
	}
	for _, many := range manyBounds.beyond() {
		refusesWork(t, "a flight", f, fly19(many))
		refusesWork(t, "a flight of nothing", impl.Fleet{}, fly19(many))
		refusesWork(t, "days", f, days19(many))
		refusesWork(t, "days of nothing", impl.Fleet{}, days19(many))
	}
	grounded := map[string]impl.Fleet{
		"task": withTasks(f, task19("oil", 500, 0, 0)),
		"list": withDefects(f, defect19("oven", 7, 100)),
		"many": withDefects(f, defect19("seat", 7, 100)),
		"late": withDefects(f, defect19("lamp", 7, 89)),
	}
	for name, g := range grounded {
		refusesWork(t, name, g, fly19(1))
		refusesWork(t, name, g, fly19(100))
		does(t, name, g, days19(100), withNow(g, clock19(500, 100, 200)))
	}
	bare := impl.Fleet{}
	at := func(hours, cycles, days int) impl.Fleet { return withNow(bare, clock19(hours, cycles, days)) }
	does(t, "up to the last hour", at(999999, 0, 0), fly19(1), at(1000000, 1, 0))
	does(t, "a hundred up to the last hour", at(999900, 0, 0), fly19(100), at(1000000, 1, 0))
	refusesWork(t, "beyond the last hour", at(1000000, 0, 0), fly19(1))
	refusesWork(t, "one beyond the last hour", at(999901, 0, 0), fly19(100))
	does(t, "up to the last cycle", at(0, 999999, 0), fly19(1), at(1, 1000000, 0))
	refusesWork(t, "beyond the last cycle", at(0, 1000000, 0), fly19(1))
	does(t, "on the last day", at(0, 0, 1000000), fly19(1), at(1, 1, 1000000))
	does(t, "up to the last day", at(0, 0, 999999), days19(1), at(0, 0, 1000000))
	does(t, "a hundred up to the last day", at(0, 0, 999900), days19(100), at(0, 0, 1000000))
	refusesWork(t, "beyond the last day", at(0, 0, 1000000), days19(1))
	refusesWork(t, "one beyond the last day", at(0, 0, 999901), days19(100))
	does(t, "days, all else at its end", at(1000000, 1000000, 5), days19(1), at(1000000, 1000000, 6))
}

func TestTasksThatAreDoneByHand(t *testing.T) {
	f := fleet19()
	for place, name := range []string{"check", "oil", "wash"} {
		g := withTasks(f, slices.Clone(f.Tasks)...)
		g.Tasks[place].Done = f.Now
		does(t, name, f, doTask19(name), g)
		does(t, name+" twice", g, doTask19(name), g)
	}
	for _, name := range append([]string{"lamp", "fan", "Oil", "oi", "oil-", "zzz", "a"}, wrongNames...) {
		refusesWork(t, "not there", f, doTask19(name))
		refusesWork(t, "no tasks", withTasks(f), doTask19(name))
	}
	forty := withTasks(f, manyTasks(40)...)
	for place := range 40 {
		g := withTasks(forty, manyTasks(40)...)
		g.Tasks[place].Done = f.Now
		does(t, "of forty", forty, doTask19(partNumber(place)), g)
	}
	due := withTasks(f, task19("oil", 1, 1, 1))
	does(t, "that is due", due, doTask19("oil"), withTasks(f, doneAt(task19("oil", 1, 1, 1), f.Now)))
	end := withNow(due, clockAtItsEnd)
	does(t, "at the end", end, doTask19("oil"), withTasks(end, doneAt(task19("oil", 1, 1, 1), clockAtItsEnd)))
}

func TestDefectsThatAreFoundByHand(t *testing.T) {
	f := fleet19()
	a, b, c := f.Defects[0], f.Defects[1], f.Defects[2]
	finds := func(name string, f impl.Fleet, what string, item int, want ...impl.Defect) {
		t.Helper()
		does(t, name, f, find19(what, item), withDefects(f, want...))
	}
	finds("into none", withDefects(f), "lamp", 5, defect19("lamp", 5, 100))
	finds("first", f, "lamp", 19, defect19("lamp", 19, 100), a, b, c)
	finds("the first Item", f, "lamp", 1, defect19("lamp", 1, 100), a, b, c)
	finds("just behind the first", f, "lamp", 21, a, defect19("lamp", 21, 100), b, c)
	finds("in the middle", f, "lamp", 41, a, b, defect19("lamp", 41, 100), c)
	finds("last", f, "lamp", 61, a, b, c, defect19("lamp", 61, 100))
	finds("the last Item", f, "lamp", 1000000, a, b, c, defect19("lamp", 1000000, 100))
	finds("one that is not listed", f, "oven", 41, a, b, defect19("oven", 41, 100), c)
	finds("one of too many", f, "seat", 41, a, b, defect19("seat", 41, 100), c)
	finds("on the first day", impl.Fleet{}, "seat", 41, defect19("seat", 41, 0))
	finds("on the last day", impl.Fleet{Now: clockAtItsEnd}, "seat", 41, defect19("seat", 41, 1000000))
	for _, name := range rightNames {
		finds("a name", f, name, 41, a, b, defect19(name, 41, 100), c)
	}
	for _, name := range wrongNames {
		refusesWork(t, "a name", f, find19(name, 41))
		refusesWork(t, "a name, into none", withDefects(f), find19(name, 41))
	}
	for _, item := range itemBounds.beyond() {
		refusesWork(t, "an Item", f, find19("lamp", item))
		refusesWork(t, "an Item, into none", withDefects(f), find19("lamp", item))
	}
	for _, item := range []int{20, 40, 60} {
		refusesWork(t, "there already", f, find19("lamp", item))
		refusesWork(t, "there already, of another name", f, find19("oven", item))
	}
	nineteen, twenty := withDefects(f, manyDefects(19)...), withDefects(f, manyDefects(20)...)
	for place := range 20 {
		want := slices.Insert(manyDefects(19), place, defect19("lamp", 10*place+5, 100))
		finds("nineteen are there", nineteen, "lamp", 10*place+5, want...)
		refusesWork(t, "twenty are there", twenty, find19("lamp", 10*place+5))
		refusesWork(t, "twenty are there, this one too", twenty, find19("lamp", 10*place+10))
	}
	refusesWork(t, "twenty are there, the last", twenty, find19("lamp", 1000000))
}

func TestDefectsThatAreMendedByHand(t *testing.T) {
	f := fleet19()
	a, b, c := f.Defects[0], f.Defects[1], f.Defects[2]
	does(t, "the first", f, mend19(20), withDefects(f, b, c))
	does(t, "the middle one", f, mend19(40), withDefects(f, a, c))
	does(t, "the last", f, mend19(60), withDefects(f, a, b))
	does(t, "the only one", withDefects(f, a), mend19(20), withDefects(f))
	does(t, "the first Item", withDefects(f, defect19("lamp", 1, 3), a), mend19(1), withDefects(f, a))
	does(t, "the last Item", withDefects(f, a, defect19("lamp", 1000000, 3)), mend19(1000000), withDefects(f, a))
	for _, item := range append(itemBounds.beyond(), 1, 19, 21, 39, 41, 59, 61, 1000000) {
		refusesWork(t, "not there", f, mend19(item))
		refusesWork(t, "there is none", withDefects(f), mend19(item))
	}
	twenty := withDefects(f, manyDefects(20)...)
	for place := range 20 {
		does(t, "of twenty", twenty, mend19(10*(place+1)), withDefects(f, slices.Delete(manyDefects(20), place, place+1)...))
	}
}

// What a kind does not name is not looked at.
func TestDeedsOfOtherKindsAndNumbers(t *testing.T) {
	f := fleet19()
	for _, kind := range []int{0, 6, -1, 7, 100, math.MinInt, math.MaxInt, 1 << 32, 1<<32 + 1} {
		refusesWork(t, "a kind", f, impl.Deed19{Kind: kind, Name: "oil", Item: 40, Many: 1})
		refusesWork(t, "a kind", f, impl.Deed19{Kind: kind, Name: "lamp", Item: 99, Many: 1})
		refusesWork(t, "a kind, of nothing", impl.Fleet{}, impl.Deed19{Kind: kind, Many: 1})
	}
	refusesWork(t, "the zero value", f, impl.Deed19{})
	for _, n := range append([]int{0, 5, 40}, farNumbers...) {
		for _, name := range append([]string{"oil", "lamp"}, wrongNames...) {
			for _, d := range oneOfEach() {
				want, done := impl.DoWork(f, d)
				if !done {
					t.Fatal("not done", d)
				}
				if d.Kind != impl.WorkFind && d.Kind != impl.WorkTask {
					d.Name = name
				}
				if d.Kind != impl.WorkFind && d.Kind != impl.WorkMend {
					d.Item = n
				}
				if d.Kind != impl.WorkFly && d.Kind != impl.WorkDays {
					d.Many = n
				}
				does(t, "not looked at", f, d, want)
			}
		}
	}
}

func TestRunWorkByHand(t *testing.T) {
	f := fleet19()
	runs19 := func(name string, f impl.Fleet, list []impl.Deed19, want impl.Fleet, told ...bool) {
		t.Helper()
		if g, got := impl.RunWork(f, list); !sameFleet(g, want) || !slices.Equal(got, told) {
			t.Errorf("%s: %v %v, not %v %v", name, g, got, want, told)
		}
	}
	runs19("no deed", f, nil, f)
	runs19("an empty list", f, []impl.Deed19{}, f)
	runs19("no deed, of nothing", impl.Fleet{}, nil, impl.Fleet{})
	g := withNow(withDefects(f, f.Defects[0], f.Defects[2], defect19("lamp", 99, 100)), clock19(501, 101, 101))
	g.Tasks = slices.Clone(f.Tasks)
	g.Tasks[1].Done = clock19(501, 101, 100)
	runs19("one of each", f, oneOfEach(), g, true, true, true, true, true)
	wear := impl.Fleet{Tasks: []impl.Task{task19("oil", 0, 2, 0)}}
	worn := withNow(withTasks(wear, doneAt(task19("oil", 0, 2, 0), clock19(20, 2, 0))), clock19(30, 3, 0))
	runs19("one that can't be done among others", wear, []impl.Deed19{fly19(10), fly19(10), fly19(10), doTask19("oil"), fly19(10)},
		worn, true, true, false, true, true)
	ground := impl.Fleet{Carries: []impl.Carry{carry19("lamp", 1, 3)}}
	runs19("a defect that holds it back", ground,
		[]impl.Deed19{find19("lamp", 5), fly19(1), find19("lamp", 6), fly19(1), mend19(5), fly19(1), days19(3), fly19(1), days19(1), fly19(1), mend19(6), fly19(1)},
		withNow(ground, clock19(4, 4, 4)), true, true, true, false, true, true, true, true, true, false, true, true)
	runs19("found, found again, mended, mended again", ground,
		[]impl.Deed19{find19("x", 5), find19("x", 5), mend19(5), mend19(5), {}, {Kind: 6}}, ground, true, false, true, false, false, false)
	all := slices.Repeat([]bool{true}, 100)
	days := slices.Repeat([]impl.Deed19{days19(2)}, 101)
	runs19("99 deeds", f, days[:99], withNow(f, clock19(500, 100, 298)), all[:99]...)
	runs19("100 deeds", f, days[:100], withNow(f, clock19(500, 100, 300)), all...)
	runs19("101 deeds", f, days, f)
	runs19("202 deeds", f, slices.Repeat(days, 2), f)
	runs19("101 deeds that can't be done", f, make([]impl.Deed19, 101), f)
	runs19("100 deeds that can't be done", f, make([]impl.Deed19, 100), f, make([]bool, 100)...)
	wrong := withNow(f, clock19(-1, 0, 0))
	runs19("100 deeds on a wrong one", wrong, days[:100], wrong, make([]bool, 100)...)
	runs19("101 deeds on a wrong one", wrong, days, wrong)
	near := impl.Fleet{Now: clock19(999990, 999997, 999990)}
	runs19("up to the end", near, []impl.Deed19{fly19(11), fly19(5), days19(11), days19(10), fly19(6), fly19(4), fly19(1), days19(1)},
		impl.Fleet{Now: clockAtItsEnd}, false, true, false, true, false, true, true, false)
}

func TestNextDueByHand(t *testing.T) {
	f := withDefects(fleet19())
	isNext(t, "of everything", f, "check", 10)
	hasNoNext(t, "no task", withTasks(f))
	hasNoNext(t, "nothing", impl.Fleet{})
	hasNoNext(t, "none with a bound of Cycles", withTasks(f, task19("a", 600, 0, 0), task19("b", 0, 0, 600), task19("c", 600, 0, 600)))
	isNext(t, "one left", withTasks(f, task19("a", 0, 101, 0)), "a", 1)
	hasNoNext(t, "none left", withTasks(f, task19("a", 0, 100, 0)))
	hasNoNext(t, "long due", withTasks(f, task19("a", 0, 1, 0)))
	hasNoNext(t, "due by Hours", withTasks(f, task19("a", 500, 101, 0)))
	hasNoNext(t, "due by Days", withTasks(f, task19("a", 0, 101, 100)))
	isNext(t, "due by neither", withTasks(f, task19("a", 501, 102, 101)), "a", 2)
	isNext(t, "one that is due beside it", withTasks(f, task19("a", 0, 100, 0), task19("b", 0, 900, 0), task19("c", 0, 100, 0)), "b", 800)
	isNext(t, "one that is due by Hours beside it", withTasks(f, task19("a", 500, 101, 0), task19("b", 0, 900, 0)), "b", 800)
	isNext(t, "one without a bound beside it", withTasks(f, task19("a", 501, 0, 0), task19("b", 0, 900, 0), task19("c", 0, 0, 101)), "b", 800)
	isNext(t, "two with as few", withTasks(f, task19("a", 0, 105, 0), task19("b", 0, 105, 0)), "a", 5)
	isNext(t, "two with as few, behind one with more", withTasks(f, task19("a", 0, 106, 0), task19("b", 0, 105, 0), task19("c", 0, 105, 0)), "b", 5)
	isNext(t, "two with as few, of unlike bounds", withTasks(f, doneAt(task19("a", 0, 55, 0), clock19(0, 50, 0)), task19("b", 0, 105, 0)), "a", 5)
	isNext(t, "the first has the fewest", withTasks(f, task19("a", 0, 103, 0), task19("b", 0, 104, 0), task19("c", 0, 105, 0)), "a", 3)
	isNext(t, "the last has the fewest", withTasks(f, task19("a", 0, 105, 0), task19("b", 0, 104, 0), task19("c", 0, 103, 0)), "c", 3)
	isNext(t, "a lesser bound with more left", withTasks(f, task19("a", 0, 105, 0), doneAt(task19("b", 0, 20, 0), clock19(0, 100, 0))), "a", 5)
	isNext(t, "just done", withTasks(f, doneAt(task19("a", 1, 100000, 1), f.Now)), "a", 100000)
	isNext(t, "at the end", impl.Fleet{Tasks: []impl.Task{doneAt(task19("a", 0, 1, 0), clockAtItsEnd)}, Now: clockAtItsEnd}, "a", 1)
	isNext(t, "the first of forty", withTasks(f, manyTasks(40)...), partNumber(0), 400)
	hasNoNext(t, "forty-one", withTasks(f, manyTasks(41)...))
	isNext(t, "not released by its defects", withDefects(f, defect19("oven", 5, 5)), "check", 10)
	hasNoNext(t, "a wrong defect", withDefects(f, defect19("oven", 0, 5)))
}

// taskFrom draws a task that is often near its bound.
func taskFrom(r *rand.Rand, name string, now impl.Clock) impl.Task {
	ago := func(n int) int { return max(n-r.Intn(60), 0) }
	one := impl.Task{Name: name, Done: clock19(ago(now.Hours), ago(now.Cycles), ago(now.Days))}
	for one.Hours+one.Cycles+one.Days == 0 {
		for _, b := range ofTask {
			if r.Intn(2) == 0 {
				near := *numberOfClock(&now, b.name) - *numberOfClock(&one.Done, b.name) + r.Intn(12) - 1
				*numberOfTask(&one, b.name) = max(near, 0)
			}
		}
	}
	return one
}

func fleetFrom(r *rand.Rand) impl.Fleet {
	f := impl.Fleet{Now: clock19(r.Intn(60), r.Intn(40), r.Intn(50))}
	if r.Intn(12) == 0 {
		f.Now = clock19(1000000-r.Intn(8), 1000000-r.Intn(4), 1000000-r.Intn(8))
	}
	names := slices.Sorted(slices.Values(fewParts))
	for _, name := range names {
		if r.Intn(3) == 0 {
			f.Tasks = append(f.Tasks, taskFrom(r, name, f.Now))
		}
		if r.Intn(7) > 0 {
			f.Carries = append(f.Carries, carry19(name, r.Intn(5), r.Intn(60)))
		}
	}
	for item := range 12 {
		if r.Intn(5) == 0 {
			since := max(f.Now.Days-r.Intn(20), 0)
			f.Defects = append(f.Defects, defect19(names[r.Intn(len(names))], item+1, since))
		}
	}
	if r.Intn(12) == 0 {
		for item := 13; len(f.Defects) < 19+r.Intn(2); item++ {
			f.Defects = append(f.Defects, defect19(names[r.Intn(len(names))], item, f.Now.Days))
		}
	}
	return f
}

func deedFrom(r *rand.Rand, f impl.Fleet) impl.Deed19 {
	d := impl.Deed19{Kind: 1 + r.Intn(5), Name: fewParts[r.Intn(len(fewParts))], Item: 1 + r.Intn(14), Many: 1 + r.Intn(6)}
	if len(f.Tasks) > 0 && r.Intn(2) == 0 {
		d.Name = f.Tasks[r.Intn(len(f.Tasks))].Name
	}
	switch r.Intn(20) {
	case 0:
		d.Kind = []int{0, 6, -1, math.MinInt, math.MaxInt}[r.Intn(5)]
	case 1:
		d.Name = wrongNames[r.Intn(len(wrongNames))]
	case 2:
		d.Item = []int{-1, 0, 1, 1000000, 1000001, math.MinInt, math.MaxInt}[r.Intn(7)]
	case 3:
		d.Many = []int{-1, 0, 1, 100, 101, math.MinInt, math.MaxInt}[r.Intn(7)]
	}
	return d
}

func spoilTask(r *rand.Rand, one *impl.Task, now impl.Clock) {
	b := ofTask[r.Intn(3)]
	switch r.Intn(4) {
	case 0:
		one.Name = wrongNames[r.Intn(len(wrongNames))]
	case 1:
		*numberOfTask(one, b.name) = []int{-1, 0, 1, 100000, 100001, math.MinInt, math.MaxInt}[r.Intn(7)]
	case 2:
		*numberOfClock(&one.Done, b.name) = []int{-1, 0, 1000000, 1000001, math.MinInt, math.MaxInt}[r.Intn(6)]
	case 3:
		*numberOfClock(&one.Done, b.name) = *numberOfClock(&now, b.name) + r.Intn(2)
	}
}

func spoilDefect(r *rand.Rand, d *impl.Defect, now impl.Clock) {
	switch r.Intn(3) {
	case 0:
		d.Name = wrongNames[r.Intn(len(wrongNames))]
	case 1:
		d.Item = []int{-1, 0, 1, 1000000, 1000001, math.MinInt, math.MaxInt}[r.Intn(7)]
	case 2:
		d.Since = []int{-1, 0, now.Days, now.Days + 1, 1000001, math.MinInt, math.MaxInt}[r.Intn(7)]
	}
}

// spoilFleet leaves a fleet mostly wrong, in one thing.
func spoilFleet(r *rand.Rand, f *impl.Fleet) {
	switch at := r.Intn(8); {
	case at == 0 && len(f.Tasks) > 0:
		spoilTask(r, &f.Tasks[r.Intn(len(f.Tasks))], f.Now)
	case at == 1 && len(f.Tasks) > 1:
		f.Tasks[0], f.Tasks[1] = f.Tasks[1], f.Tasks[0]
	case at == 2 && len(f.Defects) > 0:
		spoilDefect(r, &f.Defects[r.Intn(len(f.Defects))], f.Now)
	case at == 3 && len(f.Defects) > 1:
		f.Defects[len(f.Defects)-1].Item = f.Defects[0].Item + r.Intn(2)
	case at == 4 && len(f.Carries) > 0:
		f.Carries[r.Intn(len(f.Carries))].Name = append(wrongNames, fewParts...)[r.Intn(len(wrongNames)+len(fewParts))]
	case at == 5 && len(f.Carries) > 0:
		b := ofCarry[r.Intn(2)]
		*numberOfCarry(&f.Carries[r.Intn(len(f.Carries))], b.name) = []int{-1, 0, 10, 11, 120, 121, math.MinInt, math.MaxInt}[r.Intn(8)]
	case at == 6:
		f.Tasks = manyTasks(40 + r.Intn(3))
	default:
		b := ofClock[r.Intn(3)]
		*numberOfClock(&f.Now, b.name) = []int{-1, 0, 1000000, 1000001, math.MinInt, math.MaxInt}[r.Intn(6)]
	}
}

// workHolds tells the code of Release, and whether the first deed was done.
func workHolds(t *testing.T, f impl.Fleet, list []impl.Deed19) (int, bool) {
	t.Helper()
	if impl.FleetOk(f) != fleetIsSo(f) || impl.CarryOk(f.Carries) != carriesAreSo(f.Carries) || impl.ClockOk(f.Now) != clockIsSo(f.Now) {
		t.Fatal(f, impl.FleetOk(f), impl.CarryOk(f.Carries), impl.ClockOk(f.Now))
	}
	for _, one := range f.Tasks {
		due, left, ok := impl.Due19(one, f.Now)
		wantDue, wantLeft, wantOk := due19ByWords(one, f.Now)
		if impl.TaskOk(one) != taskIsSo(one) || due != wantDue || left != wantLeft || ok != wantOk {
			t.Fatal(one, f.Now, due, left, ok, wantDue, wantLeft, wantOk)
		}
	}
	code, about := impl.Release(f)
	if wantCode, wantAbout := releaseByWords(f); code != wantCode || about != wantAbout {
		t.Fatal(f, code, about, wantCode, wantAbout)
	}
	next, left, ok := impl.NextDue(f)
	if wantNext, wantLeft, wantOk := nextDueByWords(f); next != wantNext || left != wantLeft || ok != wantOk {
		t.Fatal(f, next, left, ok, wantNext, wantLeft, wantOk)
	}
	g, done := impl.DoWork(f, list[0])
	if want, wantDone := doWorkByWords(f, list[0]); !sameFleet(g, want) || done != wantDone {
		t.Fatal(f, list[0], g, done, want, wantDone)
	}
	g, told := impl.RunWork(f, list)
	if want, wantTold := runWorkByWords(f, list); !sameFleet(g, want) || !slices.Equal(told, wantTold) {
		t.Fatal(f, list, g, told, want, wantTold)
	}
	return code, done
}

func deedsFrom(r *rand.Rand, f impl.Fleet, many int) []impl.Deed19 {
	var list []impl.Deed19
	for range many {
		list = append(list, deedFrom(r, f))
	}
	return list
}

func TestMaintenanceIsAsTheWordsSay(t *testing.T) {
	r := rand.New(rand.NewSource(191))
	codes, done, not := map[int]int{}, map[int]int{}, map[int]int{}
	for range 20000 {
		f := fleetFrom(r)
		if r.Intn(5) == 0 {
			spoilFleet(r, &f)
		}
		list := deedsFrom(r, f, 1+r.Intn(12))
		code, well := workHolds(t, f, list)
		codes[code]++
		if well {
			done[list[0].Kind]++
		} else {
			not[list[0].Kind]++
		}
	}
	for code := impl.FreeYes; code <= impl.FreeLate; code++ {
		if codes[code] < 500 {
			t.Error("too few of a code were tried:", code, codes)
		}
	}
	for kind := impl.WorkFly; kind <= impl.WorkDays; kind++ {
		if done[kind] < 150 || not[kind] < 150 {
			t.Error("too few of a kind were tried:", kind, done, not)
		}
	}
}

// Every list of at most four defects of two names and two ages, and every way of carrying them.
func TestEverySmallListOfDefectsIsAsTheWordsSay(t *testing.T) {
	kinds := []impl.Defect{defect19("a", 0, 9), defect19("a", 0, 10), defect19("b", 0, 9), defect19("b", 0, 10)}
	var carries [][]impl.Carry
	for most := range 3 {
		for days := range 2 {
			carries = append(carries, nil, []impl.Carry{carry19("a", most, days)}, []impl.Carry{carry19("b", most, days)})
			for other := range 3 {
				carries = append(carries, []impl.Carry{carry19("a", most, days), carry19("b", other, 1-days)},
					[]impl.Carry{carry19("a", most, days), carry19("b", other, days)})
			}
		}
	}
	tried := 0
	var goOn func(defects []impl.Defect)
	goOn = func(defects []impl.Defect) {
		for _, list := range carries {
			tried++
			f := impl.Fleet{Carries: list, Defects: defects, Now: clock19(0, 0, 10)}
			workHolds(t, f, []impl.Deed19{fly19(1), days19(1), fly19(1), mend19(2), fly19(1), find19("b", 3), fly19(1)})
		}
		if len(defects) == 4 {
			return
		}
		for _, one := range kinds {
			one.Item = len(defects) + 1
			goOn(append(slices.Clone(defects), one))
		}
	}
	goOn(nil)
	if tried < 5000 {
		t.Error("too few of a kind were tried:", tried)
	}
}

// Every task with bounds of at most 2, done at most 2 ago, held against what has passed since.
func TestEverySmallTaskIsAsTheWordsSay(t *testing.T) {
	three := func(n int) impl.Clock { return clock19(n%4-1, n/4%4-1, n/16-1) }
	for bounds := range 64 {
		b := three(bounds)
		for done := range 64 {
			one := doneAt(task19("oil", b.Hours, b.Cycles, b.Days), three(done))
			for now := range 64 {
				due, left, ok := impl.Due19(one, three(now))
				wantDue, wantLeft, wantOk := due19ByWords(one, three(now))
				if due != wantDue || left != wantLeft || ok != wantOk {
					t.Fatal(one, three(now), due, left, ok, wantDue, wantLeft, wantOk)
				}
			}
		}
	}
}

// mayFly asks each list by itself, and not for a code.
func mayFly(f impl.Fleet) bool {
	for _, one := range f.Tasks {
		passed := clock19(f.Now.Hours-one.Done.Hours, f.Now.Cycles-one.Done.Cycles, f.Now.Days-one.Done.Days)
		if one.Hours > 0 && passed.Hours >= one.Hours || one.Cycles > 0 && passed.Cycles >= one.Cycles || one.Days > 0 && passed.Days >= one.Days {
			return false
		}
	}
	for _, d := range f.Defects {
		many := 0
		for _, other := range f.Defects {
			if other.Name == d.Name {
				many++
			}
		}
		allowed := func(c impl.Carry) bool {
			return c.Name == d.Name && many <= c.Most && f.Now.Days-d.Since <= c.Days
		}
		if !slices.ContainsFunc(f.Carries, allowed) {
			return false
		}
	}
	return true
}

// Promise 19: nothing flies that is not released; nothing is carried longer than its list allows.
func TestNothingFliesThatIsNotReleased(t *testing.T) {
	r := rand.New(rand.NewSource(192))
	flown, kept, carried := 0, 0, 0
	for range 400 {
		f := fleetFrom(r)
		for range 80 {
			code, about := impl.Release(f)
			d := deedFrom(r, f)
			switch {
			case r.Intn(3) == 0:
				d = fly19(1 + r.Intn(3))
			case code == impl.FreeTask && r.Intn(3) > 0:
				d = doTask19(about)
			case code > impl.FreeTask && r.Intn(3) > 0:
				d = mend19(f.Defects[r.Intn(len(f.Defects))].Item)
			}
			g, done := impl.DoWork(f, d)
			if !impl.FleetOk(g) {
				t.Fatal("not right any more:", f, d, g)
			}
			if (code == impl.FreeYes) != mayFly(f) {
				t.Fatal("released, or not, against its lists:", f, code)
			}
			if g.Now.Cycles != f.Now.Cycles || g.Now.Hours != f.Now.Hours {
				flown++
				carried += len(f.Defects)
				if !done || d.Kind != impl.WorkFly || !mayFly(f) {
					t.Fatal("it flies although it is not released:", f, d, g)
				}
			} else if d.Kind == impl.WorkFly {
				kept++
			}
			f = g
		}
	}
	if flown < 1000 || kept < 1000 || carried < 500 {
		t.Error("too few of a kind were tried:", flown, kept, carried)
	}
}

// Promise 19: a task just done is not due.
func TestATaskJustDoneIsNotDue(t *testing.T) {
	r := rand.New(rand.NewSource(193))
	wasDue, wasNot := 0, 0
	for range 5000 {
		f := fleetFrom(r)
		for _, one := range f.Tasks {
			if due, _, _ := impl.Due19(one, f.Now); due {
				wasDue++
			} else {
				wasNot++
			}
			g, done := impl.DoWork(f, doTask19(one.Name))
			if !done {
				t.Fatal("not done:", f, one)
			}
			at := slices.IndexFunc(g.Tasks, func(other impl.Task) bool { return other.Name == one.Name })
			due, left, ok := impl.Due19(g.Tasks[at], g.Now)
			if due || !ok || left != clock19(one.Hours, one.Cycles, one.Days) {
				t.Fatal("due, or not all is left:", g, one, due, left, ok)
			}
			if code, about := impl.Release(g); code == impl.FreeTask && about == one.Name {
				t.Fatal("it holds the fleet back:", g, one)
			}
		}
	}
	if wasDue < 500 || wasNot < 500 {
		t.Error("too few of a kind were tried:", wasDue, wasNot)
	}
}

// Promise 19: a defect that is found is carried for just its Days, and then mended ahead of the next flight.
func TestADefectIsCarriedForJustItsDays(t *testing.T) {
	for days := range 121 {
		f := impl.Fleet{Carries: []impl.Carry{carry19("lamp", 1, days)}, Now: clock19(0, 0, 7)}
		list := []impl.Deed19{find19("lamp", 5)}
		want := []bool{true}
		for range days {
			list, want = append(list, fly19(1), days19(1)), append(want, true, true)
		}
		list, want = append(list, fly19(1), days19(1), fly19(1), mend19(5), fly19(1)), append(want, true, true, false, true, true)
		var told []bool
		for from := 0; from < len(list); from += 100 {
			var part []bool
			f, part = impl.RunWork(f, list[from:min(from+100, len(list))])
			told = append(told, part...)
		}
		if !slices.Equal(told, want) || f.Now != clock19(days+2, days+2, days+8) {
			t.Error(days, told, f)
		}
	}
}

// Deeds done in two runs are those done in one.
func TestRunsOfWorkGoOn(t *testing.T) {
	r := rand.New(rand.NewSource(194))
	for range 1000 {
		f := fleetFrom(r)
		list := deedsFrom(r, f, 40)
		whole, told := impl.RunWork(f, list)
		cut := r.Intn(41)
		half, first := impl.RunWork(f, list[:cut])
		rest, second := impl.RunWork(half, list[cut:])
		if !sameFleet(whole, rest) || !slices.Equal(told, append(first, second...)) {
			t.Fatal(f, list, cut, whole, rest)
		}
		one := f
		for i, d := range list {
			g, done := impl.DoWork(one, d)
			if done != told[i] {
				t.Fatal(f, list, i, done)
			}
			one = g
		}
		if !sameFleet(whole, one) {
			t.Fatal(f, list, whole, one)
		}
	}
}

// roomyFleet has tasks, carries and defects behind its ends that would change each answer.
func roomyFleet(f impl.Fleet) impl.Fleet {
	f.Tasks = append(slices.Clone(f.Tasks), task19("zz", 1, 1, 1), impl.Task{}, task19("new", 1, 1, 1))[:len(f.Tasks)]
	f.Carries = append(slices.Clone(f.Carries), carry19("new", 10, 120), impl.Carry{}, carry19("zz", 0, 0))[:len(f.Carries)]
	f.Defects = append(slices.Clone(f.Defects), defect19("zz", 1000000, 0), impl.Defect{}, defect19("new", 5, 0))[:len(f.Defects)]
	return f
}

// allOfFleet tells all that a fleet reaches, with what lies behind.
func allOfFleet(f impl.Fleet) string {
	return fmt.Sprint(f.Tasks[:cap(f.Tasks)], f.Carries[:cap(f.Carries)], f.Defects[:cap(f.Defects)], f.Now)
}

// markFleet writes over all of an answer, with its spare room.
func markFleet(f impl.Fleet) {
	for i := range f.Tasks[:cap(f.Tasks)] {
		f.Tasks[:cap(f.Tasks)][i] = task19("marked", 7, 7, 7)
	}
	for i := range f.Carries[:cap(f.Carries)] {
		f.Carries[:cap(f.Carries)][i] = carry19("marked", 7, 7)
	}
	for i := range f.Defects[:cap(f.Defects)] {
		f.Defects[:cap(f.Defects)][i] = defect19("marked", 7, 7)
	}
}

func markTold(told []bool) {
	for i := range told[:cap(told)] {
		told[:cap(told)][i] = !told[:cap(told)][i]
	}
}

// fleetSharesNothing asks for an answer three times over, and spoils the first of them.
func fleetSharesNothing(t *testing.T, name string, ask func() impl.Fleet, want impl.Fleet, all func() string) {
	t.Helper()
	before := all()
	first, second := ask(), ask()
	if all() != before {
		t.Fatal(name, "an argument, or the room behind it, is written into:", want)
	}
	markFleet(first)
	if all() != before {
		t.Fatal(name, "an argument shares memory with an answer:", want)
	}
	if !sameFleet(second, want) || !sameFleet(ask(), want) {
		t.Fatal(name, "two answers share memory, or something is kept:", second, want)
	}
}

func TestMaintenanceSharesAndWritesNothing(t *testing.T) {
	r := rand.New(rand.NewSource(195))
	done, refused := 0, 0
	for range 4000 {
		plain := fleetFrom(r)
		if r.Intn(5) == 0 {
			spoilFleet(r, &plain)
		}
		f := roomyFleet(plain)
		list := append(deedsFrom(r, plain, 1+r.Intn(6)), mend19(5), find19("new", 5), fly19(1))
		deeds := list[: len(list)-3 : len(list)]
		all := func() string { return allOfFleet(f) + fmt.Sprint(list) }
		before := all()
		if _, well := workHolds(t, f, deeds); well {
			done++
		} else {
			refused++
		}
		if all() != before {
			t.Fatal("an argument, or the room behind it, is written into:", f, deeds)
		}
		want, _ := doWorkByWords(plain, deeds[0])
		fleetSharesNothing(t, "DoWork", func() impl.Fleet { g, _ := impl.DoWork(f, deeds[0]); return g }, want, all)
		want, told := runWorkByWords(plain, deeds)
		fleetSharesNothing(t, "RunWork", func() impl.Fleet { g, _ := impl.RunWork(f, deeds); return g }, want, all)
		fleetSharesNothing(t, "RunWork of none", func() impl.Fleet { g, _ := impl.RunWork(f, nil); return g }, plain, all)
		over := slices.Repeat(deeds, 101)
		fleetSharesNothing(t, "RunWork of too many", func() impl.Fleet { g, _ := impl.RunWork(f, over); return g }, plain, all)
		_, first := impl.RunWork(f, deeds)
		markTold(first)
		if _, again := impl.RunWork(f, deeds); !slices.Equal(again, told) {
			t.Fatal("two answers share memory:", f, deeds, again)
		}
	}
	if done < 500 || refused < 500 {
		t.Error("too few of a kind were tried:", done, refused)
	}
}

// Calls beside each other tell what each tells alone.
func TestWorkOfManyAtOnce(t *testing.T) {
	r := rand.New(rand.NewSource(196))
	f := fleetFrom(r)
	list := deedsFrom(r, f, 100)
	want, wantTold := runWorkByWords(f, list)
	var all sync.WaitGroup
	wrong := make([]bool, 16)
	for i := range wrong {
		all.Go(func() {
			for range 50 {
				g, told := impl.RunWork(f, list)
				wrong[i] = wrong[i] || !sameFleet(g, want) || !slices.Equal(told, wantTold)
			}
		})
	}
	all.Wait()
	if slices.Contains(wrong, true) {
		t.Error(wrong)
	}
}

func TestMaintenanceAtTheEdgesOfNumbers(t *testing.T) {
	good := fleet19()
	edges := append(itemBounds.beyond(), 0, 1, 1000000)
	for _, x := range edges {
		for _, y := range edges {
			one := impl.Task{Name: "a", Hours: x, Cycles: y, Days: x, Done: clock19(y, x, y)}
			f := impl.Fleet{Tasks: []impl.Task{one}, Carries: []impl.Carry{carry19("a", x, y)},
				Defects: []impl.Defect{defect19("a", x, y)}, Now: clock19(x, y, x)}
			d := impl.Deed19{Kind: x, Name: "a", Item: y, Many: x}
			workHolds(t, f, []impl.Deed19{d})
			workHolds(t, good, []impl.Deed19{d, {Kind: impl.WorkFly, Item: x, Many: y}, {Kind: impl.WorkDays, Item: x, Many: y},
				{Kind: impl.WorkFind, Name: "a", Item: x, Many: y}, {Kind: impl.WorkMend, Item: x, Many: y}})
			workHolds(t, withNow(good, f.Now), []impl.Deed19{fly19(1)})
			workHolds(t, withTasks(good, one), []impl.Deed19{doTask19("a")})
			workHolds(t, withDefects(good, f.Defects...), []impl.Deed19{mend19(x)})
			workHolds(t, withCarries(good, f.Carries...), []impl.Deed19{find19("a", y)})
		}
	}
}

// givesBack tells whether a function takes a mutex, and whether it defers the call that gives it back.
func givesBack(f *ast.FuncDecl) (bool, bool) {
	took, deferred := false, false
	ast.Inspect(f.Body, func(n ast.Node) bool {
		switch x := n.(type) {
		case *ast.CallExpr:
			chosen, ok := x.Fun.(*ast.SelectorExpr)
			took = took || ok && (chosen.Sel.Name == "Lock" || chosen.Sel.Name == "RLock")
		case *ast.DeferStmt:
			chosen, ok := x.Call.Fun.(*ast.SelectorExpr)
			deferred = deferred || ok && (chosen.Sel.Name == "Unlock" || chosen.Sel.Name == "RUnlock")
		}
		return true
	})
	return took, deferred
}

// holdsFleetUnderMutex tells whether a struct has both a mutex and a fleet.
func holdsFleetUnderMutex(s *ast.StructType) bool {
	mutex, fleet := false, false
	for _, field := range s.Fields.List {
		chosen, ok := field.Type.(*ast.SelectorExpr)
		mutex = mutex || ok && isNamed(chosen.X, "sync") && (chosen.Sel.Name == "Mutex" || chosen.Sel.Name == "RWMutex")
		fleet = fleet || isNamed(field.Type, "Fleet")
	}
	return mutex && fleet
}

// The document's 'Ways': the lists stand under a mutex, which a deferred call gives back.
func TestMaintenanceIsBuiltItsWay(t *testing.T) {
	file, err := parser.ParseFile(token.NewFileSet(), "../impl/l19_maint.go", nil, 0)
	if err != nil {
		t.Fatal(err)
	}
	held, bodies := false, map[string]*ast.BlockStmt{}
	for _, d := range file.Decls {
		switch x := d.(type) {
		case *ast.GenDecl:
			if x.Tok == token.VAR {
				t.Error("a variable is kept from call to call")
			}
		case *ast.FuncDecl:
			took, deferred := givesBack(x)
			if took != deferred {
				t.Error(x.Name.Name, "takes a mutex:", took, "gives it back by a deferred call:", deferred)
			}
			if took || x.Recv == nil {
				bodies[x.Name.Name] = x.Body
			}
		}
	}
	ast.Inspect(file, func(n ast.Node) bool {
		if s, ok := n.(*ast.StructType); ok {
			held = held || holdsFleetUnderMutex(s)
		}
		return true
	})
	if !held {
		t.Error("no fleet stands under a mutex")
	}
	for _, name := range []string{"DoWork", "RunWork"} {
		if !defersWithin(bodies, name, map[string]bool{}) {
			t.Error(name, "gives back no mutex by a deferred call")
		}
	}
}
