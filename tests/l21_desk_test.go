package tests

import (
	"fmt"
	"go/ast"
	"go/parser"
	"go/token"
	"math"
	"math/rand"
	"regexp"
	"slices"
	"strconv"
	"strings"
	"sync"
	"testing"

	"loop.example/g00063/impl"
)

// desk21 has something of each kind, and is released.
func desk21() impl.Desk {
	return impl.Desk{
		Craft: craft(10, -20, 3, 400, 5),
		Legs:  []impl.Leg{legTo(12, -20), legHold(1), legTurn(0, -1)},
		Pilot: impl.Pilot{Vert: impl.VertOff, Lat: impl.LatHeading, Height: 5000, Target: 5200, Rate: 10, Heading: 350, Wanted: 20, Off: 60},
		Fleet: fleet19(),
	}
}

func withLegs(d impl.Desk, legs ...impl.Leg) impl.Desk {
	d.Legs = legs
	return d
}

func withPilot(d impl.Desk, p impl.Pilot) impl.Desk {
	d.Pilot = p
	return d
}

func withCraft(d impl.Desk, c impl.Craft) impl.Desk {
	d.Craft = c
	return d
}

func withFleet(d impl.Desk, f impl.Fleet) impl.Desk {
	d.Fleet = f
	return d
}

func copyOfDesk(d impl.Desk) impl.Desk {
	d.Legs = slices.Clone(d.Legs)
	d.Fleet.Tasks = slices.Clone(d.Fleet.Tasks)
	d.Fleet.Carries = slices.Clone(d.Fleet.Carries)
	d.Fleet.Defects = slices.Clone(d.Fleet.Defects)
	return d
}

func sameDesk(a, b impl.Desk) bool {
	return a.Craft == b.Craft && slices.Equal(a.Legs, b.Legs) && a.Pilot == b.Pilot && sameFleet(a.Fleet, b.Fleet)
}

func deskIsSo(d impl.Desk) bool {
	wrong := slices.ContainsFunc(d.Legs, func(l impl.Leg) bool { return !legIsSo(l) })
	return craftIsSo(d.Craft) && len(d.Legs) < 31 && !wrong && pilotIsSo(d.Pilot) && fleetIsSo(d.Fleet)
}

// deskLine is a line of the document's table as a form of its own. What it does it does to
// the desk that it is handed, and tells no where it can't be done.
type deskLine struct {
	form *regexp.Regexp
	do   func(d *impl.Desk, found []string) string
}

func okOrNo(ok bool) string {
	if ok {
		return "ok"
	}
	return "no"
}

func intOf(word string) int {
	n, _ := strconv.Atoi(word)
	return n
}

func workByLine(kind int) func(d *impl.Desk, found []string) string {
	return func(d *impl.Desk, found []string) string {
		deed := impl.Deed19{Kind: kind, Item: intOf(found[len(found)-1]), Many: intOf(found[len(found)-1])}
		if kind == impl.WorkFind || kind == impl.WorkTask {
			deed.Name = found[1]
		}
		f, ok := doWorkByWords(d.Fleet, deed)
		d.Fleet = f
		return okOrNo(ok)
	}
}

func legByLine(d *impl.Desk, found []string) string {
	l, ok := legReadByWords(found[1])
	d.Legs = append(d.Legs, l)
	return okOrNo(ok && len(d.Legs) < 31)
}

func dropByLine(d *impl.Desk, found []string) string {
	place := intOf(found[1])
	var left []impl.Leg
	for i, l := range d.Legs {
		if i != place {
			left = append(left, l)
		}
	}
	ok := len(left) < len(d.Legs)
	d.Legs = left
	return okOrNo(ok)
}

func flyByLine(d *impl.Desk, _ []string) string {
	c, steps, code := routeByWords(d.Craft, d.Legs)
	if code != 0 {
		return "no"
	}
	d.Craft, d.Legs = c, nil
	return fmt.Sprintf("at %d %d high %d steps %d", c.X, c.Y, c.Height, sumOfList(steps))
}

func keyByLine(d *impl.Desk, found []string) string {
	p, ok := pressByWords(d.Pilot, intOf(found[1]), intOf(found[2]))
	d.Pilot = p
	if !ok {
		return "no"
	}
	return fmt.Sprintf("vert %d lat %d", p.Vert, p.Lat)
}

func tickByLine(d *impl.Desk, found []string) string {
	p, ok := tickByWords(d.Pilot, intOf(found[1]))
	d.Pilot = p
	if !ok {
		return "no"
	}
	return fmt.Sprintf("high %d heading %d off %d", p.Height, p.Heading, p.Off)
}

func releaseByLine(d *impl.Desk, _ []string) string {
	code, name := releaseByWords(d.Fleet)
	if code == impl.FreeYes {
		return "yes"
	}
	return []string{"", "", "task", "list", "many", "late"}[code] + " " + name
}

func showByLine(d *impl.Desk, found []string) string {
	texts, between := []string{}, " "
	switch found[1] {
	case "legs":
		between = ", "
		for _, l := range d.Legs {
			text, _ := legTextByWords(l)
			texts = append(texts, text)
		}
	case "defects":
		for _, one := range d.Fleet.Defects {
			texts = append(texts, fmt.Sprintf("%d:%s", one.Item, one.Name))
		}
	case "clock":
		return fmt.Sprint(d.Fleet.Now.Hours, d.Fleet.Now.Cycles, d.Fleet.Now.Days)
	}
	if len(texts) == 0 {
		return "nothing"
	}
	return strings.Join(texts, between)
}

var deskLines = func() []deskLine {
	number, name := `(0|-?[1-9][0-9]{0,8})`, `([a-zA-Z0-9-]{1,20})`
	lines := []deskLine{}
	add := func(form string, do func(d *impl.Desk, found []string) string) {
		lines = append(lines, deskLine{regexp.MustCompile(`\A` + form + `\z`), do})
	}
	add(`leg ([ -~]+)`, legByLine)
	add(`drop `+number, dropByLine)
	add(`fly`, flyByLine)
	add(`turn `+number, func(d *impl.Desk, found []string) string {
		d.Craft.Dir = intOf(found[1])
		return okOrNo(craftIsSo(d.Craft))
	})
	add(`climb `+number, func(d *impl.Desk, found []string) string {
		d.Craft.Climb = intOf(found[1])
		return okOrNo(craftIsSo(d.Craft))
	})
	add(`key `+number+` `+number, keyByLine)
	add(`tick `+number, tickByLine)
	add(`find `+name+` `+number, workByLine(impl.WorkFind))
	add(`mend `+number, workByLine(impl.WorkMend))
	add(`task `+name, workByLine(impl.WorkTask))
	add(`days `+number, workByLine(impl.WorkDays))
	add(`cycle `+number, workByLine(impl.WorkFly))
	add(`release`, releaseByLine)
	add(`show (legs|defects|clock)`, showByLine)
	return lines
}()

func doLineByWords(d impl.Desk, line string) (impl.Desk, string) {
	if line == "" || strings.HasPrefix(line, "#") {
		return d, ""
	}
	if len(line) > 100 || !deskIsSo(d) {
		return d, "no"
	}
	for _, one := range deskLines {
		found := one.form.FindStringSubmatch(line)
		if found == nil {
			continue
		}
		behind := copyOfDesk(d)
		if told := one.do(&behind, found); told != "no" {
			return behind, told
		}
	}
	return d, "no"
}

func replayByWords(d impl.Desk, lines []string) (impl.Desk, []string) {
	told := []string{}
	if len(lines) > 150 {
		return d, told
	}
	for _, line := range lines {
		behind, one := doLineByWords(d, line)
		d, told = behind, append(told, one)
	}
	return d, told
}

// linesByWords parts a text at its bytes 10, and leaves out what is empty behind the last one.
func linesByWords(text string) []string {
	lines := strings.Split(text, "\x0a")
	if lines[len(lines)-1] == "" {
		lines = lines[:len(lines)-1]
	}
	return lines
}

func sessionByWords(text string) (string, int) {
	lines := linesByWords(text)
	if len(text) > 9000 {
		return "", -1
	}
	if len(lines) > 150 {
		return "", -2
	}
	_, told := replayByWords(impl.NewDesk(), lines)
	told = slices.DeleteFunc(told, func(one string) bool { return one == "" })
	if len(told) == 0 {
		return "", len(lines)
	}
	return strings.Join(told, "\x0a") + "\x0a", len(lines)
}

// does21 asks for what a line tells and for the desk behind it, and holds both against the
// words as well.
func does21(t *testing.T, name string, d impl.Desk, line string, want impl.Desk, wantTold string) {
	t.Helper()
	before := copyOfDesk(d)
	got, told := impl.DoLine(d, line)
	if told != wantTold || !sameDesk(got, want) {
		t.Errorf("%s: %q on %+v: %+v and %q, not %+v and %q", name, line, d, got, told, want, wantTold)
	}
	if !sameDesk(d, before) {
		t.Errorf("%s: %q changes the desk that it is handed", name, line)
	}
	if byWords, toldByWords := doLineByWords(d, line); toldByWords != wantTold || !sameDesk(byWords, want) {
		t.Errorf("%s: %q on %+v: by words %+v and %q", name, line, d, byWords, toldByWords)
	}
}

// refusesLine asks that a line tells no, and that nothing is done.
func refusesLine(t *testing.T, name string, d impl.Desk, line string) {
	t.Helper()
	does21(t, name, d, line, d, "no")
}

func TestLimitsOfTheDesk(t *testing.T) {
	if impl.MaxLines != 150 || impl.MaxText != 9000 || impl.MaxLine != 100 {
		t.Error(impl.MaxLines, impl.MaxText, impl.MaxLine)
	}
}

func takesDesk(t *testing.T, name string, d impl.Desk) {
	t.Helper()
	if !impl.DeskOk(d) || !deskIsSo(d) {
		t.Error(name, "is not DeskOk:", d)
	}
	does21(t, name, d, "show clock", d, fmt.Sprint(d.Fleet.Now.Hours, d.Fleet.Now.Cycles, d.Fleet.Now.Days))
}

// refusesDesk asks that a desk is not so, and that each line tells no there, but for silent ones.
func refusesDesk(t *testing.T, name string, d impl.Desk) {
	t.Helper()
	if impl.DeskOk(d) || deskIsSo(d) {
		t.Error(name, "is DeskOk:", d)
	}
	for _, line := range rightLines {
		refusesLine(t, name, d, line)
	}
	for _, line := range silentLines {
		does21(t, name, d, line, d, "")
	}
	lines := []string{"fly", "", "# fly", "show clock", " fly"}
	if got, told := impl.Replay(d, lines); !sameDesk(got, d) || !slices.Equal(told, []string{"no", "", "", "no", "no"}) {
		t.Error(name, "a replay:", got, told)
	}
}

// rightLines can each be done on desk21.
var rightLines = []string{
	"leg to 1 2", "leg course nw 500", "leg climb 1000", "leg hold 9", "leg turn se left", "drop 0", "fly", "turn 7", "climb -20",
	"key 4 90", "tick -100", "find lamp 7", "mend 20", "task oil", "days 1", "cycle 1", "release",
	"show legs", "show defects", "show clock",
}

var silentLines = []string{"", "#", "# fly", "#fly", "##", "# ", "#\x00\xff\x0afly", "#" + strings.Repeat("x", 99), "#" + strings.Repeat("x", 100), "#" + strings.Repeat(" fly", 5000)}

func TestDeskOkForEachPartAlone(t *testing.T) {
	good := desk21()
	takesDesk(t, "one with all", good)
	takesDesk(t, "a new one", impl.NewDesk())
	takesDesk(t, "the zero craft and pilot, and nothing else", impl.Desk{})
	for _, c := range rightCrafts {
		takesDesk(t, "a craft", withCraft(good, c))
	}
	for _, c := range wrongCrafts {
		refusesDesk(t, "a wrong craft", withCraft(good, c))
	}
	for _, p := range rightPilots {
		takesDesk(t, p.name, withPilot(good, p.pilot))
	}
	for _, p := range wrongPilots {
		refusesDesk(t, p.name, withPilot(good, p.pilot))
	}
	refusesDesk(t, "a task too many", withFleet(good, withTasks(fleet19(), manyTasks(41)...)))
	refusesDesk(t, "carries turned about", withFleet(good, withCarries(fleet19(), carry19("b", 1, 1), carry19("a", 1, 1))))
	refusesDesk(t, "a defect of tomorrow", withFleet(good, withDefects(fleet19(), defect19("lamp", 1, 101))))
	refusesDesk(t, "a defect without a name", withFleet(good, withDefects(fleet19(), defect19("", 1, 1))))
	refusesDesk(t, "a clock beyond", withFleet(good, withNow(fleet19(), clock19(1000001, 100, 100))))
	refusesDesk(t, "all wrong", impl.Desk{Craft: wrongCrafts[0], Legs: wrongLegs[:1], Pilot: wrongPilots[0].pilot, Fleet: withNow(impl.Fleet{}, clock19(-1, 0, 0))})
}

func TestDeskOkWithItsLegs(t *testing.T) {
	good := desk21()
	takesDesk(t, "no leg", withLegs(good))
	takesDesk(t, "an empty list of legs", withLegs(good, []impl.Leg{}...))
	takesDesk(t, "MaxLegs", withLegs(good, slices.Repeat([]impl.Leg{legTo(1, 1)}, 30)...))
	refusesDesk(t, "one leg too many", withLegs(good, slices.Repeat([]impl.Leg{legTo(1, 1)}, 31)...))
	for _, l := range rightLegs {
		takesDesk(t, "a leg", withLegs(good, l))
		takesDesk(t, "a leg with more than its kind names", withLegs(good, wildLeg(l)))
	}
	for _, l := range wrongLegs {
		refusesDesk(t, "a wrong leg", withLegs(good, l))
		refusesDesk(t, "a wrong leg behind others", withLegs(good, legTo(0, 0), legHold(1), l))
		refusesDesk(t, "a wrong leg ahead of others", withLegs(good, l, legTo(0, 0)))
	}
}

func TestNewDeskNumberByNumber(t *testing.T) {
	d := impl.NewDesk()
	if d.Craft != (impl.Craft{X: 0, Y: 0, Dir: 0, Height: 100, Climb: 5}) {
		t.Error("craft", d.Craft)
	}
	if len(d.Legs) != 0 {
		t.Error("legs", d.Legs)
	}
	if d.Pilot != (impl.Pilot{Vert: 1, Lat: 1, Height: 1000, Target: 1000, Rate: 0, Heading: 0, Wanted: 0, Off: 0, Armed: false}) {
		t.Error("pilot", d.Pilot)
	}
	want := impl.Fleet{
		Tasks: []impl.Task{
			{Name: "check", Hours: 0, Cycles: 10, Days: 0, Done: impl.Clock{Hours: 0, Cycles: 0, Days: 0}},
			{Name: "oil", Hours: 50, Cycles: 0, Days: 0, Done: impl.Clock{Hours: 0, Cycles: 0, Days: 0}},
		},
		Carries: []impl.Carry{{Name: "lamp", Most: 2, Days: 10}, {Name: "seat", Most: 1, Days: 30}},
		Defects: nil,
		Now:     impl.Clock{Hours: 0, Cycles: 0, Days: 0},
	}
	if !sameFleet(d.Fleet, want) {
		t.Error("fleet", d.Fleet)
	}
	if !impl.DeskOk(d) {
		t.Error("it is not DeskOk")
	}
}

// markDesk writes over all of an answer, with its spare room.
func markDesk(d impl.Desk) {
	for i := range d.Legs[:cap(d.Legs)] {
		d.Legs[:cap(d.Legs)][i] = impl.Leg{Kind: 7, X: 7, Y: 7, Many: 7}
	}
	markFleet(d.Fleet)
}

func TestTwoNewDesksShareNoMemory(t *testing.T) {
	first, second := impl.NewDesk(), impl.NewDesk()
	want := copyOfDesk(second)
	markDesk(first)
	if !sameDesk(second, want) || !sameDesk(impl.NewDesk(), want) {
		t.Error("a new desk hangs on another one:", second, impl.NewDesk())
	}
	if told, n := impl.Session("release\nshow defects\nshow legs\ncycle 1\nshow clock"); n != 5 || told != "yes\nnothing\nnothing\nok\n1 1 0\n" {
		t.Errorf("a session hangs on another desk: %d %q", n, told)
	}
}

func TestLinesOfLegs(t *testing.T) {
	d := desk21()
	for _, one := range toldLegs {
		does21(t, "a leg behind the others", d, "leg "+one.text, withLegs(d, append(slices.Clone(d.Legs), one.leg)...), "ok")
		does21(t, "a leg alone", withLegs(d), "leg "+one.text, withLegs(d, one.leg), "ok")
	}
	for _, line := range []string{
		"leg", "leg ", "leg  hold 1", "leg hold 1 ", "leg hold", "leg hold 0", "leg hold 10", "leg hold 01", "leg hold +1", "leg hold -1", "leg hold 1 1",
		"leg to 501 0", "leg to 0 -501", "leg to -0 0", "leg to 1", "leg to 1 2 3", "leg to a b", "leg course x 1", "leg course n 501", "leg course 0 1",
		"leg climb 1001", "leg climb -1", "leg turn n", "leg turn n up", "leg turn nn left", "leg leg hold 1", "leg\thold 1", "legs hold 1", "leghold 1",
		"Leg hold 1", "leg Hold 1", "leg hold one", "hold 1", "leg #", "leg hold 18446744073709551617",
	} {
		refusesLine(t, "no leg", d, line)
	}
	room := withLegs(d, slices.Repeat([]impl.Leg{legTo(1, 1)}, 29)...)
	full := withLegs(d, append(slices.Clone(room.Legs), legHold(2))...)
	does21(t, "the last one that there is room for", room, "leg hold 2", full, "ok")
	refusesLine(t, "one more", full, "leg hold 2")
	for place := range 30 {
		left := slices.Delete(slices.Clone(full.Legs), place, place+1)
		does21(t, "one of many goes", full, "drop "+strconv.Itoa(place), withLegs(d, left...), "ok")
	}
}

func TestLinesThatDropALeg(t *testing.T) {
	d := desk21()
	does21(t, "the first", d, "drop 0", withLegs(d, d.Legs[1], d.Legs[2]), "ok")
	does21(t, "the middle", d, "drop 1", withLegs(d, d.Legs[0], d.Legs[2]), "ok")
	does21(t, "the last", d, "drop 2", withLegs(d, d.Legs[0], d.Legs[1]), "ok")
	does21(t, "the only one", withLegs(d, legHold(1)), "drop 0", withLegs(d), "ok")
	for _, line := range []string{"drop -1", "drop 3", "drop 4", "drop 999999999", "drop -999999999", "drop", "drop 0 0", "drop a", "drop 00", "drop -0"} {
		refusesLine(t, "no place", d, line)
	}
	refusesLine(t, "no legs", withLegs(d), "drop 0")
	refusesLine(t, "no legs", withLegs(d), "drop -1")
	refusesLine(t, "one beyond the only one", withLegs(d, legHold(1)), "drop 1")
}

func TestLinesThatFly(t *testing.T) {
	d := desk21()
	does21(t, "without legs", withLegs(d), "fly", withLegs(d), "at 10 -20 high 400 steps 0")
	at := withCraft(withLegs(d), craft(12, -20, 2, 410, 5))
	does21(t, "one leg", withLegs(d, legTo(12, -20)), "fly", at, "at 12 -20 high 410 steps 2")
	// Two steps and a round of sixteen end at the place in direction 2; two turns to the left
	// go by one to the north-east and by one to the north.
	at = withCraft(withLegs(d), craft(13, -18, 0, 500, 5))
	does21(t, "three legs", d, "fly", at, "at 13 -18 high 500 steps 20")
	down := withCraft(withLegs(d, legCourse(6, 30)), craft(-5, 3, 0, 100, -7))
	does21(t, "down to 0", down, "fly", withCraft(withLegs(d), craft(-35, 3, 6, 0, -7)), "at -35 3 high 0 steps 30")
	does21(t, "a leg of no step", withLegs(d, legClimb(400)), "fly", withLegs(d), "at 10 -20 high 400 steps 0")
	long := withCraft(withLegs(d, legCourse(0, 500), legCourse(4, 500), legCourse(0, 500), legCourse(4, 500)), craft(0, 0, 0, 0, 0))
	does21(t, "as many steps as may be", long, "fly", withCraft(withLegs(d), craft(0, 0, 4, 0, 0)), "at 0 0 high 0 steps 2000")
	refusesLine(t, "one step more", withLegs(long, append(slices.Clone(long.Legs), legCourse(0, 1))...), "fly")
	refusesLine(t, "a leg that leads out", withLegs(d, legTo(10, -19), legCourse(2, 500), legCourse(2, 500)), "fly")
	refusesLine(t, "a leg that never ends", withCraft(withLegs(d, legTo(12, -20), legClimb(401)), craft(10, -20, 0, 400, 0)), "fly")
	refusesLine(t, "more words", d, "fly 1")
	refusesLine(t, "more words", withLegs(d), "fly fly")
	refusesLine(t, "a blank behind", d, "fly ")
}

func TestLinesThatTurnAndClimb(t *testing.T) {
	d := desk21()
	for dir := range 8 {
		want := d
		want.Craft.Dir = dir
		does21(t, "a direction", d, fmt.Sprint("turn ", dir), want, "ok")
	}
	for climb := -20; climb <= 20; climb++ {
		want := d
		want.Craft.Climb = climb
		does21(t, "a climb", d, fmt.Sprint("climb ", climb), want, "ok")
	}
	for _, line := range []string{"turn -1", "turn 8", "turn n", "turn", "turn 1 1", "turn s right", "climb -21", "climb 21", "climb", "climb 1 1", "climb 0 0", "turn 999999999", "climb -999999999"} {
		refusesLine(t, "not so", d, line)
	}
}

func TestLinesThatPressKeys(t *testing.T) {
	d := desk21()
	p := d.Pilot
	held, climbs, target, heading, armed, off, rate := p, p, p, p, p, p, p
	held.Vert, held.Target, held.Rate = 1, 5000, 0
	climbs.Vert = 2
	target.Target = 60000
	heading.Wanted = 359
	armed.Armed = true
	off.Lat, off.Rate = 0, 0
	rate.Rate = -100
	for _, c := range []struct {
		line string
		want impl.Pilot
		told string
	}{
		{"key 1 0", held, "vert 1 lat 1"}, {"key 1 -999999999", held, "vert 1 lat 1"}, {"key 2 0", climbs, "vert 2 lat 1"},
		{"key 3 60000", target, "vert 0 lat 1"}, {"key 4 359", heading, "vert 0 lat 1"}, {"key 5 0", armed, "vert 0 lat 1"},
		{"key 6 0", off, "vert 0 lat 0"}, {"key 7 -100", rate, "vert 0 lat 1"},
	} {
		does21(t, "a key", d, c.line, withPilot(d, c.want), c.told)
	}
	for _, line := range []string{
		"key 0 0", "key 8 0", "key -1 0", "key 999999999 0", "key 3 -1", "key 3 60001", "key 4 -1", "key 4 360", "key 7 -101", "key 7 101",
		"key", "key 1", "key 1 0 0", "key 01 0", "key 1 a", "key a 1", "key 1 -0", "key 1  0",
	} {
		refusesLine(t, "not so", d, line)
	}
	refusesLine(t, "nowhere to climb", impl.NewDesk(), "key 2 0")
	refusesLine(t, "a rate where it is held", impl.NewDesk(), "key 7 1")
	p.Lat = impl.LatCourse
	refusesLine(t, "armed on the course", withPilot(d, p), "key 5 0")
}

func TestLinesThatTick(t *testing.T) {
	d := desk21()
	want := d.Pilot
	want.Height, want.Heading, want.Off = 5010, 353, 60
	does21(t, "no drift", d, "tick 0", withPilot(d, want), "high 5010 heading 353 off 60")
	want.Off = 160
	does21(t, "the greatest drift", d, "tick 100", withPilot(d, want), "high 5010 heading 353 off 160")
	want.Off = -40
	does21(t, "the least drift", d, "tick -100", withPilot(d, want), "high 5010 heading 353 off -40")
	still := impl.NewDesk()
	does21(t, "all 0", still, "tick 0", still, "high 1000 heading 0 off 0")
	for _, line := range []string{"tick", "tick -101", "tick 101", "tick 0 0", "tick x", "tick 999999999"} {
		refusesLine(t, "not so", d, line)
	}
}

func TestLinesOfTheLists(t *testing.T) {
	d := desk21()
	f := d.Fleet
	found := withDefects(f, defect19("no-such", 7, 100), f.Defects[0], f.Defects[1], f.Defects[2])
	does21(t, "found", d, "find no-such 7", withFleet(d, found), "ok")
	behind := withDefects(f, f.Defects[0], f.Defects[1], f.Defects[2], defect19("lamp", 1000000, 100))
	does21(t, "found, the greatest", d, "find lamp 1000000", withFleet(d, behind), "ok")
	does21(t, "mended", d, "mend 40", withFleet(d, withDefects(f, f.Defects[0], f.Defects[2])), "ok")
	done := withTasks(f, f.Tasks[0], doneAt(f.Tasks[1], f.Now), f.Tasks[2])
	does21(t, "a task", d, "task oil", withFleet(d, done), "ok")
	does21(t, "a day", d, "days 1", withFleet(d, withNow(f, clock19(500, 100, 101))), "ok")
	does21(t, "days", d, "days 100", withFleet(d, withNow(f, clock19(500, 100, 200))), "ok")
	does21(t, "a cycle", d, "cycle 1", withFleet(d, withNow(f, clock19(501, 101, 100))), "ok")
	does21(t, "a long cycle", d, "cycle 100", withFleet(d, withNow(f, clock19(600, 101, 100))), "ok")
	for _, line := range []string{
		"find lamp 20", "find lamp 0", "find lamp -1", "find lamp 1000001", "find lamp", "find 7", "find", "find lamp 7 7", "find 7 lamp", "find la_mp 7",
		"mend 21", "mend 0", "mend -20", "mend", "mend 20 20", "mend lamp", "task none", "task Oil", "task", "task oil oil", "task oil 1",
		"days 0", "days -1", "days 101", "days", "days 1 1", "days x", "cycle 0", "cycle -1", "cycle 101", "cycle", "cycle 1 1", "cycle x",
	} {
		refusesLine(t, "not so", d, line)
	}
	full := withFleet(d, withDefects(f, manyDefects(20)...))
	refusesLine(t, "no room", full, "find lamp 999999")
	does21(t, "room again", full, "mend "+strconv.Itoa(full.Fleet.Defects[19].Item), withFleet(d, withDefects(f, manyDefects(19)...)), "ok")
	refusesLine(t, "not released", withFleet(d, withDefects(f, defect19("none", 1, 100))), "cycle 1")
	late := withFleet(d, withNow(f, clock19(500, 100, 1000000)))
	refusesLine(t, "no day is left", late, "days 1")
	// A task's numbers are its name where they have that form.
	named := withFleet(d, withTasks(f, doneAt(task19("0", 1, 0, 0), clock19(0, 0, 0))))
	does21(t, "a name of digits", named, "task 0", withFleet(d, withTasks(f, doneAt(task19("0", 1, 0, 0), f.Now))), "ok")
}

func TestReleaseTellsEachCode(t *testing.T) {
	d := desk21()
	f := d.Fleet
	for _, c := range []struct {
		fleet impl.Fleet
		told  string
	}{
		{f, "yes"}, {impl.Fleet{}, "yes"},
		{withNow(f, clock19(550, 100, 100)), "task check"},
		{withNow(f, clock19(500, 130, 100)), "task check"},
		{withTasks(withNow(f, clock19(500, 130, 100)), f.Tasks[1]), "task oil"},
		{withDefects(f, defect19("none", 1, 100)), "list none"},
		{withDefects(f, defect19("lamp", 1, 100), defect19("seat", 2, 100)), "many seat"},
		{withDefects(f, defect19("fan", 1, 79)), "late fan"},
		{withDefects(f, defect19("fan", 1, 80)), "yes"},
		{withDefects(f, defect19("fan", 1, 79), defect19("seat", 2, 79), defect19("none", 3, 79)), "list none"},
		{withDefects(f, defect19("fan", 1, 79), defect19("seat", 2, 79)), "many seat"},
	} {
		on := withFleet(d, c.fleet)
		does21(t, "release", on, "release", on, c.told)
	}
	refusesLine(t, "more words", d, "release lamp")
	refusesLine(t, "more words", d, "release 1")
}

func TestShowOfEach(t *testing.T) {
	d := desk21()
	for _, c := range []struct {
		desk impl.Desk
		line string
		told string
	}{
		{d, "show legs", "to 12 -20, hold 1, turn n left"},
		{withLegs(d), "show legs", "nothing"},
		{withLegs(d, wildLeg(legCourse(7, 500))), "show legs", "course nw 500"},
		{withLegs(d, legClimb(0), legTo(-500, 500)), "show legs", "climb 0, to -500 500"},
		{d, "show defects", "20:lamp 40:fan 60:lamp"},
		{withFleet(d, withDefects(d.Fleet)), "show defects", "nothing"},
		{withFleet(d, withDefects(d.Fleet, defect19("nothing", 1000000, 0))), "show defects", "1000000:nothing"},
		{d, "show clock", "500 100 100"},
		{impl.NewDesk(), "show clock", "0 0 0"},
		{withFleet(d, withNow(impl.Fleet{}, clock19(1000000, 0, 7))), "show clock", "1000000 0 7"},
	} {
		does21(t, "show", c.desk, c.line, c.desk, c.told)
	}
	for _, line := range []string{"show", "show ", "show leg", "show tasks", "show Legs", "show legs 1", "show legs legs", "show legs defects", "show clocks", "show 0", "show  legs", "show carries", "show pilot"} {
		refusesLine(t, "something else", d, line)
	}
	many := withLegs(d, slices.Repeat([]impl.Leg{legTo(-500, -500)}, 30)...)
	does21(t, "all legs", many, "show legs", many, strings.TrimSuffix(strings.Repeat("to -500 -500, ", 30), ", "))
	full := withFleet(d, withDefects(d.Fleet, manyDefects(20)...))
	_, told := impl.DoLine(full, "show defects")
	if words := strings.Split(told, " "); len(words) != 20 || !slices.IsSortedFunc(words, func(a, b string) int {
		return intOf(strings.SplitN(a, ":", 2)[0]) - intOf(strings.SplitN(b, ":", 2)[0])
	}) {
		t.Errorf("defects: %q", told)
	}
}

func TestSilentLines(t *testing.T) {
	for _, d := range []impl.Desk{desk21(), impl.NewDesk(), {}, withCraft(desk21(), wrongCrafts[0]), withLegs(desk21(), wrongLegs...),
		withLegs(desk21(), slices.Repeat([]impl.Leg{legHold(1)}, 31)...)} {
		for _, line := range silentLines {
			does21(t, "silent", d, line, d, "")
		}
	}
	for _, line := range []string{" ", " #", "\t#", "\n", "\x00", "fly#", "fly #", "fly # away", "\xef\xbc\x83"} {
		refusesLine(t, "not silent", desk21(), line)
	}
}

// No line that can be done has MaxLine bytes: the longest is a find.
func TestLongLines(t *testing.T) {
	d := desk21()
	longest := "find " + strings.Repeat("n", 20) + " 1000000"
	found := withDefects(d.Fleet, d.Fleet.Defects[0], d.Fleet.Defects[1], d.Fleet.Defects[2], defect19(strings.Repeat("n", 20), 1000000, 100))
	does21(t, "the longest", d, longest, withFleet(d, found), "ok")
	for _, many := range []int{100, 101, 5000} {
		for _, begin := range []string{"fly", "leg hold ", "leg to ", "find ", "turn ", "release ", "show legs", "x", " "} {
			for _, filled := range []string{" ", "1", "a", "\xff", "\n", "é"} {
				refusesLine(t, "a long line", d, (begin + strings.Repeat(filled, many))[:many])
			}
		}
	}
	if _, told := impl.DoLine(d, strings.Repeat("fly ", 5000000)); told != "no" {
		t.Error(told)
	}
}

func TestLinesThatAreNone(t *testing.T) {
	d := desk21()
	for _, line := range rightLines {
		if _, told := impl.DoLine(d, line); told == "no" {
			t.Errorf("%q can't be done", line)
		}
		words := strings.Split(line, " ")
		for _, wrong := range []string{
			" " + line, line + " ", " " + line + " ", "  " + line, line + "  ", line + " 1", line + " a", line + " " + words[0], "x " + line, line + "\n", "\n" + line,
			strings.ToUpper(line), strings.ToUpper(line[:1]) + line[1:], strings.ReplaceAll(line, " ", "  ") + " ", line + "\x00", line + "\xff", "\xff" + line, "é" + line,
			"\xe2\x80\x89" + line, "\xc2\xa0" + line, line + "\xc2\xa0",
		} {
			refusesLine(t, "none", d, wrong)
		}
		for i := range words {
			for _, filled := range []string{"", "\t", "\xff", "é"} {
				wrong := slices.Clone(words)
				wrong[i] += filled
				if filled == "" {
					wrong = slices.Delete(wrong, i, i+1)
				}
				refuseUnlessSilent(t, d, strings.Join(wrong, " "))
			}
			if i > 0 {
				refusesLine(t, "an empty word", d, strings.Join(slices.Insert(slices.Clone(words), i, ""), " "))
				refusesLine(t, "a tab for a blank", d, strings.Join(words[:i], " ")+"\t"+strings.Join(words[i:], " "))
				refusesLine(t, "no blank", d, strings.Join(words[:i], " ")+strings.Join(words[i:], " "))
				refusesLine(t, "other blanks", d, strings.Join(words[:i], " ")+"\xc2\xa0"+strings.Join(words[i:], " "))
			}
		}
	}
	for _, line := range []string{"-", "0", "1", "help", "legs", "list", "flyy", "fl", "f", "desk", "ok", "no", "yes", "nothing", "hold 1", "to 1 2", "course n 1", "\xff", "é", "\t"} {
		refusesLine(t, "no command", d, line)
	}
}

// refuseUnlessSilent is for a line that has lost all its words as well.
func refuseUnlessSilent(t *testing.T, d impl.Desk, line string) {
	t.Helper()
	if line == "" {
		does21(t, "empty", d, line, d, "")
		return
	}
	refusesLine(t, "not whole", d, line)
}

func TestNumbersInLines(t *testing.T) {
	d := desk21()
	zero := d
	zero.Craft.Dir = 0
	does21(t, "0", d, "turn 0", zero, "ok")
	minus := d
	minus.Craft.Climb = -1
	does21(t, "-1", d, "climb -1", minus, "ok")
	// A key that does not look at its number tells whether that is one.
	held, _ := impl.Press(d.Pilot, impl.KeyHold, 0)
	for _, word := range []string{"0", "-1", "1", "9", "10", "-10", "100", "123456789", "999999999", "-999999999", "-100000000", "100000000"} {
		does21(t, "a number", d, "key 1 "+word, withPilot(d, held), "vert 1 lat 1")
	}
	for _, word := range []string{
		"", "-", "--1", "-0", "00", "01", "007", "-01", "+1", "+0", "1-", "1.0", "1e3", "0x1", "1_0", "a", "1a", "a1", " 1", "1 ", "1,", "１", "٣", "\xff1", "1\x00",
		"1000000000", "-1000000000", "9999999999", "0000000001", "000000000", "-0000000001", "18446744073709551616", "18446744073709551617", "-18446744073709551615",
		"9223372036854775807", "-9223372036854775808", "9223372036854775808", strings.Repeat("1", 80), strings.Repeat("0", 80),
	} {
		refusesLine(t, "no number", d, "key 1 "+word)
		for _, begin := range []string{"turn ", "climb ", "tick ", "drop ", "days ", "cycle ", "mend ", "find lamp "} {
			refusesLine(t, "no number", d, begin+word)
		}
		refusesLine(t, "no key", d, "key "+word+" 0")
	}
}

func TestNamesInLines(t *testing.T) {
	d := desk21()
	f := d.Fleet
	for _, name := range []string{"a", "Z", "0", "-", "--", "007", "aZ-09", strings.Repeat("x", 20), strings.Repeat("-", 20), "find"} {
		found := withDefects(f, defect19(name, 7, 100), f.Defects[0], f.Defects[1], f.Defects[2])
		does21(t, "a name", d, "find "+name+" 7", withFleet(d, found), "ok")
		on := withFleet(d, withTasks(f, doneAt(task19(name, 1000, 0, 0), clock19(0, 0, 0))))
		does21(t, "a name", on, "task "+name, withFleet(d, withTasks(f, doneAt(task19(name, 1000, 0, 0), f.Now))), "ok")
	}
	for _, name := range append([]string{"", "a_b", "a b", "é", "\xff", "a\x00", "a.b", "a:b", "a/b", "@", "[", "`", "{", "a\tb", strings.Repeat("x", 21), strings.Repeat("x", 60)}, wrongNames...) {
		refusesLine(t, "no name", d, "find "+name+" 7")
		refusesLine(t, "no name", d, "task "+name)
	}
}

func asksSession(t *testing.T, name, text, want string, lines int) {
	t.Helper()
	told, n := impl.Session(text)
	if told != want || n != lines {
		t.Errorf("%s: %d lines tell %q, not %d and %q", name, n, told, lines, want)
	}
	if byWords, m := sessionByWords(text); byWords != want || m != lines {
		t.Errorf("%s: by words %d and %q", name, m, byWords)
	}
}

func TestSessionByHand(t *testing.T) {
	asksSession(t, "no text", "", "", 0)
	asksSession(t, "no byte 10", "show clock", "0 0 0\n", 1)
	asksSession(t, "a byte 10 at the end", "show clock\n", "0 0 0\n", 1)
	asksSession(t, "a byte 10 alone", "\n", "", 1)
	asksSession(t, "two of them", "\n\n", "", 2)
	asksSession(t, "several in a row", "\n\nfly\n\n\nfly\n\n", "at 0 0 high 100 steps 0\nat 0 0 high 100 steps 0\n", 7)
	asksSession(t, "one behind", "fly\nfly", "at 0 0 high 100 steps 0\nat 0 0 high 100 steps 0\n", 2)
	asksSession(t, "a blank", " ", "no\n", 1)
	asksSession(t, "a blank behind", "show clock\n ", "0 0 0\nno\n", 2)
	asksSession(t, "another end of a line", "fly\r\nfly\r", "no\nno\n", 2)
	asksSession(t, "other ends of lines", "fly\x0bfly\x0cfly\u2028fly\u0085fly", "no\n", 1)
	asksSession(t, "silent ones among others", "# a\n\nshow clock\n#\n\nno\n#b", "0 0 0\nno\n", 7)
	asksSession(t, "silent ones alone", "#\n\n# x", "", 3)
	asksSession(t, "bytes that are no text", "\xff\xfe\n\xc3\nshow clock\n\xe2\x82\n\xf0\x9f\x92\x99\nfly", "no\nno\n0 0 0\nno\nno\nat 0 0 high 100 steps 0\n", 6)
	asksSession(t, "a remark that is no text", "#\xff\xe2\x82\nfly\n#\xc3", "at 0 0 high 100 steps 0\n", 3)
	asksSession(t, "a remark longer than a line", "#"+strings.Repeat("x", 4000)+"\nfly", "at 0 0 high 100 steps 0\n", 2)
	asksSession(t, "a line longer than a line", "fly"+strings.Repeat(" ", 4000)+"\nfly", "no\nat 0 0 high 100 steps 0\n", 2)
}

func TestASessionOfAFlightAndItsPapers(t *testing.T) {
	text := "leg course e 3\nleg hold 1\nshow legs\nclimb -5\nfly\nshow legs\nkey 6 0\nkey 7 50\nkey 3 1200\nkey 2 0\ntick 5\ntick 5\n" +
		"find lamp 9\nfind lamp 3\nrelease\nfind seat 5\nfind seat 6\nrelease\nmend 6\ncycle 60\nrelease\ntask oil\ncycle 1\ndays 11\nrelease\nshow defects\nshow clock\nmend 9\nmend 3\nrelease\nfind oven 4\nrelease\ncycle 1"
	want := "ok\nok\ncourse e 3, hold 1\nok\nat 3 0 high 5 steps 19\nnothing\nvert 0 lat 0\nvert 0 lat 0\nvert 0 lat 0\nvert 2 lat 0\nhigh 1050 heading 0 off 5\nhigh 1075 heading 0 off 10\n" +
		"ok\nok\nyes\nok\nok\nmany seat\nok\nok\ntask oil\nok\nok\nok\nlate lamp\n3:lamp 5:seat 9:lamp\n61 2 11\nok\nok\nyes\nok\nlist oven\nno\n"
	asksSession(t, "a flight", text, want, 33)
}

func TestSessionAtItsBounds(t *testing.T) {
	remark := "#" + strings.Repeat("x", 98) + "\n"
	asksSession(t, "MaxText bytes", strings.Repeat(remark, 89)+"fly\n"+strings.Repeat(" ", 96), "at 0 0 high 100 steps 0\nno\n", 91)
	asksSession(t, "MaxText bytes", strings.Repeat(remark, 90), "", 90)
	asksSession(t, "one byte more", strings.Repeat(remark, 90)+"\n", "", -1)
	asksSession(t, "one byte more", "fly\n"+strings.Repeat("#", 8997), "", -1)
	asksSession(t, "MaxText bytes", "fly\n"+strings.Repeat("#", 8996), "at 0 0 high 100 steps 0\n", 2)
	asksSession(t, "MaxLines lines", strings.Repeat("show clock\n", 150), strings.Repeat("0 0 0\n", 150), 150)
	asksSession(t, "MaxLines lines, the last without an end", strings.Repeat("show clock\n", 149)+"x", strings.Repeat("0 0 0\n", 149)+"no\n", 150)
	asksSession(t, "one line more, without an end", strings.Repeat("show clock\n", 150)+"#", "", -2)
	asksSession(t, "one line more", strings.Repeat("show clock\n", 151), "", -2)
	asksSession(t, "MaxLines empty lines", strings.Repeat("\n", 150), "", 150)
	asksSession(t, "one empty line more", strings.Repeat("\n", 151), "", -2)
	asksSession(t, "one silent line more", strings.Repeat("#\n", 150)+"# x", "", -2)
	asksSession(t, "as many lines as bytes", strings.Repeat("\n", 9000), "", -2)
	asksSession(t, "both at once", strings.Repeat("\n", 9001), "", -1)
	asksSession(t, "both at once", strings.Repeat(remark, 151), "", -1)
	if told, n := impl.Session(strings.Repeat("fly\n", 5000000)); told != "" || n != -1 {
		t.Error("a very long text", n)
	}
}

func replays(t *testing.T, name string, d impl.Desk, lines []string, want impl.Desk, wantTold []string) {
	t.Helper()
	before, asked := copyOfDesk(d), slices.Clone(lines)
	got, told := impl.Replay(d, lines)
	if !sameDesk(got, want) || !slices.Equal(told, wantTold) {
		t.Errorf("%s: %+v and %q, not %+v and %q", name, got, told, want, wantTold)
	}
	if !sameDesk(d, before) || !slices.Equal(lines, asked) {
		t.Errorf("%s: an argument is changed", name)
	}
}

func TestReplayByHand(t *testing.T) {
	d := desk21()
	replays(t, "no line", d, nil, d, nil)
	replays(t, "no line", d, []string{}, d, nil)
	replays(t, "an empty line", d, []string{""}, d, []string{""})
	flown := withCraft(withLegs(d), craft(13, -18, 0, 500, 5))
	replays(t, "a few", d, []string{"fly", "", "drop 0", "# x", "show legs"}, flown, []string{"at 13 -18 high 500 steps 20", "", "no", "", "nothing"})
	replays(t, "a line is one, whatever stands in it", d, []string{"fly\nfly", "\n", "#\nfly"}, d, []string{"no", "no", ""})
	turns := strings.Split(strings.TrimSuffix(strings.Repeat("turn 1,", 149), ",")+",turn 6", ",")
	last := d
	last.Craft.Dir = 6
	replays(t, "MaxLines lines", d, turns, last, slices.Repeat([]string{"ok"}, 150))
	replays(t, "one line more", d, append(slices.Clone(turns), "turn 5"), d, nil)
	replays(t, "one empty line more", d, append(slices.Clone(turns), ""), d, nil)
	replays(t, "empty lines", d, make([]string, 150), d, make([]string, 150))
	replays(t, "one empty line more", d, make([]string, 151), d, nil)
	wrong := withLegs(d, slices.Repeat([]impl.Leg{legHold(1)}, 31)...)
	replays(t, "a desk that is not so stays", wrong, []string{"drop 0", "", "fly", "#", "show legs"}, wrong, []string{"no", "", "no", "", "no"})
	replays(t, "a desk that is not so, and one line more", wrong, make([]string, 151), wrong, nil)
}

// legWords draws the text of a leg that is most often near.
func legWords(r *rand.Rand) string {
	dir := eightNames[r.Intn(8)]
	return []string{
		fmt.Sprintf("to %d %d", r.Intn(81)-40, r.Intn(81)-40), fmt.Sprintf("course %s %d", dir, 1+r.Intn(40)), fmt.Sprint("climb ", r.Intn(300)),
		fmt.Sprint("hold ", 1+r.Intn(4)), "turn " + dir + " " + []string{"left", "right"}[r.Intn(2)], fmt.Sprint("to ", 500*(r.Intn(3)-1), 501*(r.Intn(3)-1)),
		fmt.Sprintf("course %s %d", dir, 500-r.Intn(3)), fmt.Sprint("climb ", 999+r.Intn(3)),
	}[r.Intn(8)]
}

// lineFrom draws a line that can most often be done on a desk.
func lineFrom(r *rand.Rand, d impl.Desk) string {
	item := 1 + r.Intn(14)
	if many := len(d.Fleet.Defects); many > 0 && r.Intn(2) == 0 {
		item = d.Fleet.Defects[r.Intn(many)].Item
	}
	name := append([]string{"check", "oil", "lamp", "seat"}, fewParts...)[r.Intn(4+len(fewParts))]
	if many := len(d.Fleet.Tasks); many > 0 && r.Intn(2) == 0 {
		name = d.Fleet.Tasks[r.Intn(many)].Name
	}
	switch r.Intn(18) {
	case 0:
		return fmt.Sprint("drop ", r.Intn(len(d.Legs)+2)-1)
	case 1:
		return "fly"
	case 2:
		return fmt.Sprint("turn ", r.Intn(10)-1)
	case 3:
		return fmt.Sprint("climb ", r.Intn(43)-21)
	case 4, 5:
		return fmt.Sprintf("key %d %d", r.Intn(9), manyFrom(r, d.Pilot))
	case 6:
		return fmt.Sprint("tick ", r.Intn(205)-102)
	case 7, 8:
		return fmt.Sprintf("find %s %d", name, item)
	case 9:
		return fmt.Sprint("mend ", item)
	case 10:
		return "task " + name
	case 11:
		return fmt.Sprint("days ", r.Intn(6)-1)
	case 12:
		return fmt.Sprint("cycle ", r.Intn(8)-1)
	case 13:
		return "release"
	case 14:
		return "show " + []string{"legs", "defects", "clock"}[r.Intn(3)]
	case 15:
		return []string{"", "#", "# a remark"}[r.Intn(3)]
	}
	return "leg " + legWords(r)
}

// spoiltLine puts in, takes out or changes one byte.
func spoiltLine(r *rand.Rand, line string) string {
	at := r.Intn(len(line) + 1)
	odd := " \t\n#-+0019azAZ_:,\x00\x7f\x80\xc3\xff"
	one := string([]byte{odd[r.Intn(len(odd))]})
	switch {
	case r.Intn(3) == 0 || at == len(line):
		return line[:at] + one + line[at:]
	case r.Intn(2) == 0:
		return line[:at] + line[at+1:]
	}
	return line[:at] + one + line[at+1:]
}

func deskFrom(r *rand.Rand) impl.Desk {
	if r.Intn(4) == 0 {
		return impl.NewDesk()
	}
	d := impl.Desk{Craft: craft(r.Intn(201)-100, r.Intn(201)-100, r.Intn(8), r.Intn(300), r.Intn(41)-20), Pilot: pilotFrom(r), Fleet: fleetFrom(r)}
	many := r.Intn(5)
	if r.Intn(6) == 0 {
		many = 28 + r.Intn(3)
	}
	for range many {
		if l, ok := legReadByWords(legWords(r)); ok {
			d.Legs = append(d.Legs, l)
		}
	}
	return d
}

// spoilDesk makes one part of a desk wrong, most often.
func spoilDesk(r *rand.Rand, d *impl.Desk) {
	switch r.Intn(5) {
	case 0:
		*[]*int{&d.Craft.X, &d.Craft.Y, &d.Craft.Dir, &d.Craft.Height, &d.Craft.Climb}[r.Intn(5)] = farNumbers[r.Intn(len(farNumbers))]
	case 1:
		d.Legs = slices.Insert(d.Legs, r.Intn(len(d.Legs)+1), wrongLegs[r.Intn(len(wrongLegs))])
	case 2:
		d.Legs = slices.Repeat([]impl.Leg{legHold(1)}, 31+r.Intn(3))
	case 3:
		d.Pilot = wrongPilots[r.Intn(len(wrongPilots))].pilot
	default:
		spoilFleet(r, &d.Fleet)
	}
}

// lineHolds asks for one line on one desk all that is promised of it: what the words say, that
// the desk stays in order, and that a no changes nothing. It tells the desk behind it.
func lineHolds(t *testing.T, d impl.Desk, line string) (impl.Desk, string) {
	t.Helper()
	got, told := impl.DoLine(d, line)
	want, wantTold := doLineByWords(d, line)
	if told != wantTold || !sameDesk(got, want) {
		t.Fatalf("%q on %+v: %+v and %q, not %+v and %q", line, d, got, told, want, wantTold)
	}
	if impl.DeskOk(d) != deskIsSo(d) || impl.DeskOk(got) != impl.DeskOk(d) {
		t.Fatalf("%q leads from %+v to %+v: DeskOk %v and %v", line, d, got, impl.DeskOk(d), impl.DeskOk(got))
	}
	if (told == "no" || told == "") && !sameDesk(got, d) {
		t.Fatalf("%q tells %q on %+v, and leaves %+v", line, told, d, got)
	}
	return got, told
}

func TestLinesAreAsTheWordsSay(t *testing.T) {
	r := rand.New(rand.NewSource(210))
	done, refused := map[string]int{}, map[string]int{}
	for range 3000 {
		d := deskFrom(r)
		if r.Intn(8) == 0 {
			spoilDesk(r, &d)
		}
		for range 20 {
			line := lineFrom(r, d)
			word := strings.SplitN(line, " ", 2)[0]
			if r.Intn(6) == 0 {
				line = spoiltLine(r, line)
			}
			behind, told := lineHolds(t, d, line)
			if told == "no" {
				refused[word]++
			} else {
				done[word]++
			}
			d = behind
		}
	}
	for _, word := range []string{"leg", "drop", "fly", "turn", "climb", "key", "tick", "find", "mend", "task", "days", "cycle", "release", "show"} {
		if done[word] < 200 || refused[word] < 100 {
			t.Error("too few were tried of", word, done[word], refused[word])
		}
	}
}

// Each right line with each byte put in, taken out or changed is as the words say.
func TestLinesWithOneByteChanged(t *testing.T) {
	d := desk21()
	for _, line := range rightLines {
		for at := range len(line) + 1 {
			for b := range 256 {
				one := string([]byte{byte(b)})
				lineHolds(t, d, line[:at]+one+line[at:])
				if at < len(line) {
					lineHolds(t, d, line[:at]+one+line[at+1:])
				}
			}
			if at < len(line) {
				lineHolds(t, d, line[:at]+line[at+1:])
			}
		}
	}
}

// Promise 21: a desk stays in order along lines, and one that tells no leaves it as it was.
func TestADeskStaysInOrder(t *testing.T) {
	r := rand.New(rand.NewSource(211))
	legs, defects, no := 0, 0, 0
	for range 400 {
		d := deskFrom(r)
		for range 150 {
			before := copyOfDesk(d)
			behind, told := impl.DoLine(d, lineFrom(r, d))
			if !impl.DeskOk(behind) || !deskIsSo(behind) {
				t.Fatalf("%+v is not in order behind %+v", behind, d)
			}
			if !sameDesk(d, before) {
				t.Fatal("the desk that was handed in is changed")
			}
			if told == "no" {
				no++
				if !sameDesk(behind, before) {
					t.Fatalf("a no changes %+v to %+v", before, behind)
				}
			}
			legs, defects, d = max(legs, len(behind.Legs)), max(defects, len(behind.Fleet.Defects)), behind
		}
	}
	if legs != 30 || defects != 20 || no < 5000 {
		t.Error("too little was tried:", legs, defects, no)
	}
}

// textFrom draws lines that go on from a new desk, now and then with a byte spoilt.
func textFrom(r *rand.Rand, many int) string {
	d, text := impl.NewDesk(), ""
	for i := range many {
		line := lineFrom(r, d)
		if r.Intn(10) == 0 {
			line = spoiltLine(r, line)
		}
		d, _ = doLineByWords(d, line)
		text += line
		if i < many-1 || r.Intn(2) == 0 {
			text += "\n"
		}
	}
	return text
}

// Promise 21: a session is the replay of its lines.
func TestASessionIsTheReplayOfItsLines(t *testing.T) {
	r := rand.New(rand.NewSource(212))
	refused, whole := 0, 0
	for range 1500 {
		text := textFrom(r, []int{r.Intn(12), r.Intn(60), 145 + r.Intn(8)}[r.Intn(3)])
		told, n := impl.Session(text)
		if want, lines := sessionByWords(text); told != want || n != lines {
			t.Fatalf("%q: %d and %q, not %d and %q", text, n, told, lines, want)
		}
		if n < 0 {
			refused++
			continue
		}
		lines := linesByWords(text)
		_, each := impl.Replay(impl.NewDesk(), lines)
		all := ""
		for _, one := range each {
			if one != "" {
				all += one + "\n"
			}
		}
		if told != all || n != len(lines) || len(each) != n {
			t.Fatalf("%q: the session tells %q of %d lines, the replay %q of %d", text, told, n, all, len(lines))
		}
		whole++
	}
	if refused < 100 || whole < 900 {
		t.Error("too few of a kind:", refused, whole)
	}
}

// A replay is its lines one after the other, and goes on from the middle as the whole.
func TestAReplayGoesOnFromTheMiddle(t *testing.T) {
	r := rand.New(rand.NewSource(213))
	for range 500 {
		d := deskFrom(r)
		if r.Intn(6) == 0 {
			spoilDesk(r, &d)
		}
		lines, at := []string{}, d
		for range r.Intn(60) {
			lines = append(lines, lineFrom(r, at))
			at, _ = doLineByWords(at, lines[len(lines)-1])
		}
		end, told := impl.Replay(d, lines)
		if want, wantTold := replayByWords(d, lines); !sameDesk(end, want) || !slices.Equal(told, wantTold) {
			t.Fatalf("%+v by %q: %+v and %q, not %+v and %q", d, lines, end, told, want, wantTold)
		}
		part := r.Intn(len(lines) + 1)
		middle, first := impl.Replay(d, lines[:part])
		last, second := impl.Replay(middle, lines[part:])
		if !sameDesk(last, end) || !slices.Equal(append(first, second...), told) {
			t.Fatalf("%q goes on otherwise from line %d", lines, part)
		}
	}
}

// A text of any bytes, with many ends of lines, has as many lines as the words say.
func TestSessionsOfAnyBytes(t *testing.T) {
	r := rand.New(rand.NewSource(214))
	few := "\n\n\n\n#fly \x00\x80\xc3\xe2\xf0\xff"
	for range 4000 {
		text := make([]byte, r.Intn(200))
		for i := range text {
			text[i] = byte(r.Intn(256))
			if r.Intn(2) == 0 {
				text[i] = few[r.Intn(len(few))]
			}
		}
		told, n := impl.Session(string(text))
		if want, lines := sessionByWords(string(text)); told != want || n != lines {
			t.Fatalf("%q: %d and %q, not %d and %q", text, n, told, lines, want)
		}
	}
}

func TestTheDeskSharesAndWritesNothing(t *testing.T) {
	r := rand.New(rand.NewSource(215))
	done, refused := 0, 0
	for range 1500 {
		d := deskFrom(r)
		if r.Intn(5) == 0 {
			spoilDesk(r, &d)
		}
		lines := []string{lineFrom(r, d), lineFrom(r, d), lineFrom(r, d)}
		answersAlone(t, asked{name: "DeskOk", of: impl.DeskOk}, valuesOf([]any{d}))
		answersAlone(t, asked{name: "DoLine", of: impl.DoLine}, valuesOf([]any{d, lines[0]}))
		for _, list := range [][]string{lines, lines[:0], nil, slices.Repeat(lines, 50), slices.Repeat(lines, 51)} {
			answersAlone(t, asked{name: "Replay", of: impl.Replay}, valuesOf([]any{d, list}))
		}
		if _, told := impl.DoLine(d, lines[0]); told == "no" {
			refused++
		} else {
			done++
		}
	}
	if done < 500 || refused < 300 {
		t.Error("too few of a kind were tried:", done, refused)
	}
	for _, line := range slices.Concat(rightLines, silentLines, []string{"no such", strings.Repeat("x", 101)}) {
		answersAlone(t, asked{name: "DoLine", of: impl.DoLine}, valuesOf([]any{desk21(), line}))
	}
}

// Calls beside each other tell what each tells alone, the first ones of all as well.
func TestSessionsOfManyAtOnce(t *testing.T) {
	r := rand.New(rand.NewSource(216))
	text := textFrom(r, 120)
	want, lines := sessionByWords(text)
	var all sync.WaitGroup
	wrong := make([]bool, 16)
	for i := range wrong {
		all.Go(func() {
			for range 20 {
				told, n := impl.Session(text)
				wrong[i] = wrong[i] || told != want || n != lines
			}
		})
	}
	all.Wait()
	if slices.Contains(wrong, true) {
		t.Error(wrong)
	}
}

func TestTheDeskAtTheEdgesOfNumbers(t *testing.T) {
	for _, far := range []int{math.MinInt, math.MinInt + 1, -1 << 32, math.MinInt32, math.MaxInt32, 1 << 32, math.MaxInt - 1, math.MaxInt} {
		for _, d := range []impl.Desk{
			withCraft(desk21(), craft(far, far, far, far, far)), withCraft(desk21(), craft(0, far, 0, 0, 0)), withCraft(desk21(), craft(0, 0, 0, 0, far)),
			withLegs(desk21(), impl.Leg{Kind: far, X: far, Y: far, Many: far}), withLegs(desk21(), legTo(far, 0)), withLegs(desk21(), legCourse(0, far)),
			withLegs(desk21(), legHold(far)), withLegs(desk21(), legTurn(0, far)), withLegs(desk21(), legClimb(far)),
			withPilot(desk21(), impl.Pilot{Vert: far, Lat: far, Height: far, Target: far, Rate: far, Heading: far, Wanted: far, Off: far}),
			withPilot(desk21(), impl.Pilot{Off: far}), withFleet(desk21(), withNow(fleet19(), clock19(far, far, far))),
			withFleet(desk21(), withDefects(fleet19(), defect19("a", far, far))), withFleet(desk21(), withTasks(fleet19(), task19("a", far, far, far))),
		} {
			refusesDesk(t, fmt.Sprint("far ", far), d)
		}
		for _, begin := range []string{"drop ", "turn ", "climb ", "tick ", "mend ", "days ", "cycle ", "find a ", "key 3 ", "key ", "leg to 0 ", "leg hold "} {
			refusesLine(t, "far", desk21(), begin+strconv.Itoa(far))
		}
	}
}

// onceOf tells the variables of a file that are a sync.Once, and the others.
func onceOf(file *ast.File) (once, others []string) {
	for _, d := range file.Decls {
		group, ok := d.(*ast.GenDecl)
		if !ok || group.Tok != token.VAR {
			continue
		}
		for _, spec := range group.Specs {
			one := spec.(*ast.ValueSpec)
			isOnce := false
			ast.Inspect(one, func(n ast.Node) bool {
				sel, ok := n.(*ast.SelectorExpr)
				isOnce = isOnce || ok && isNamed(sel.X, "sync") && sel.Sel.Name == "Once"
				return true
			})
			for _, name := range one.Names {
				if isOnce {
					once = append(once, name.Name)
				} else {
					others = append(others, name.Name)
				}
			}
		}
	}
	return once, others
}

// writtenOutside tells where a variable is written but in what a Once does.
func writtenOutside(file *ast.File, name, once string) bool {
	outside := false
	ast.Inspect(file, func(n ast.Node) bool {
		switch x := n.(type) {
		case *ast.CallExpr:
			sel, ok := x.Fun.(*ast.SelectorExpr)
			return !(ok && sel.Sel.Name == "Do" && isNamed(sel.X, once))
		case *ast.AssignStmt:
			for _, left := range x.Lhs {
				outside = outside || isNamed(left, name)
			}
		}
		return true
	})
	return outside
}

// rangesOverText tells whether a function with a text goes through it by a range.
func rangesOverText(f *ast.FuncDecl) bool {
	texts := map[string]bool{}
	for _, p := range f.Type.Params.List {
		for _, name := range p.Names {
			texts[name.Name] = isNamed(p.Type, "string")
		}
	}
	found := false
	ast.Inspect(f.Body, func(n ast.Node) bool {
		if loop, ok := n.(*ast.RangeStmt); ok {
			over, ok := loop.X.(*ast.Ident)
			found = found || ok && texts[over.Name]
		}
		return true
	})
	return found
}

// The way of this stage: commands in a registry made once, and a range over a session's text.
func TestTheDeskIsBuiltItsWay(t *testing.T) {
	file, err := parser.ParseFile(token.NewFileSet(), "../impl/l21_desk.go", nil, 0)
	if err != nil {
		t.Fatal(err)
	}
	once, kept := onceOf(file)
	if len(once) != 1 || len(kept) != 1 {
		t.Fatal("not one registry and its Once:", kept, once)
	}
	if writtenOutside(file, kept[0], once[0]) {
		t.Error("the registry is written elsewhere than once")
	}
	ranged, called := "", map[string]bool{}
	for _, d := range file.Decls {
		f, ok := d.(*ast.FuncDecl)
		if !ok {
			continue
		}
		if rangesOverText(f) {
			ranged = f.Name.Name
		}
		if f.Name.Name != "Session" {
			continue
		}
		ast.Inspect(f.Body, func(n ast.Node) bool {
			if call, ok := n.(*ast.CallExpr); ok {
				if name, ok := call.Fun.(*ast.Ident); ok {
					called[name.Name] = true
				}
			}
			return true
		})
	}
	if ranged == "" || ranged != "Session" && !called[ranged] {
		t.Errorf("a session does not go through its lines by a range over a text (%q)", ranged)
	}
}

// callsDo tells whether a function calls Do of a Once.
func callsDo(f *ast.FuncDecl, once string) bool {
	found := false
	ast.Inspect(f, func(n ast.Node) bool {
		if call, ok := n.(*ast.CallExpr); ok {
			sel, ok := call.Fun.(*ast.SelectorExpr)
			found = found || ok && sel.Sel.Name == "Do" && isNamed(sel.X, once)
		}
		return true
	})
	return found
}

// writtenIn counts how often a function, with the literals in it, gives a variable something.
func writtenIn(f *ast.FuncDecl, variable string) int {
	written := 0
	ast.Inspect(f, func(n ast.Node) bool {
		if given, ok := n.(*ast.AssignStmt); ok {
			for _, left := range given.Lhs {
				if isNamed(left, variable) {
					written++
				}
			}
		}
		return true
	})
	return written
}

// The registry and its Once stand in an exported function: made there and read there, thrown away, and named nowhere else, so that no answer hangs on them.
func TestTheRegistryDecidesNothing(t *testing.T) {
	file, err := parser.ParseFile(token.NewFileSet(), "../impl/l21_desk.go", nil, 0)
	if err != nil {
		t.Fatal(err)
	}
	once, kept := onceOf(file)
	if len(once) != 1 || len(kept) != 1 {
		t.Fatal("not one registry and its Once:", kept, once)
	}
	readByExported := 0
	for _, d := range file.Decls {
		f, ok := d.(*ast.FuncDecl)
		if !ok {
			continue
		}
		named, thrownAway := usesOf(f, kept[0])
		asked, _ := usesOf(f, once[0])
		if named == 0 && asked == 0 {
			continue
		}
		if !f.Name.IsExported() || f.Recv != nil {
			t.Error("names it inside:", f.Name.Name)
		}
		if named != thrownAway+writtenIn(f, kept[0]) {
			t.Error("decides by it:", f.Name.Name)
		}
		if asked != 1 || !callsDo(f, once[0]) {
			t.Error("reads what may not have been made yet, or asks its Once otherwise than by Do:", f.Name.Name)
		}
		readByExported += thrownAway
	}
	if readByExported == 0 {
		t.Error("no exported function reads it")
	}
}
