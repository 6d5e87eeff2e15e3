package tests

import (
	"fmt"
	"go/ast"
	"go/parser"
	"go/token"
	"math"
	"math/rand"
	"regexp"
	"slices"
	"strconv"
	"strings"
	"testing"

	"loop.example/g00063/impl"
)

var eightNames = []string{"n", "ne", "e", "se", "s", "sw", "w", "nw"}

// wildNumber stands where a kind names nothing.
const wildNumber = math.MinInt + 7

func legTo(x, y int) impl.Leg { return impl.Leg{Kind: 1, X: x, Y: y} }

func legCourse(dir, many int) impl.Leg { return impl.Leg{Kind: 2, X: dir, Many: many} }

func legClimb(many int) impl.Leg { return impl.Leg{Kind: 3, Many: many} }

func legHold(many int) impl.Leg { return impl.Leg{Kind: 4, Many: many} }

func legTurn(dir, side int) impl.Leg { return impl.Leg{Kind: 5, X: dir, Y: side} }

func craft(x, y, dir, height, climb int) impl.Craft {
	return impl.Craft{X: x, Y: y, Dir: dir, Height: height, Climb: climb}
}

// wildLeg fills what the leg's kind does not name.
func wildLeg(l impl.Leg) impl.Leg {
	switch l.Kind {
	case 1, 5:
		l.Many = wildNumber
	case 2:
		l.Y = wildNumber
	case 3, 4:
		l.X, l.Y = wildNumber, -wildNumber
	}
	return l
}

func legIsSo(l impl.Leg) bool {
	switch l.Kind {
	case 1:
		return allIn([]int{l.X, l.Y}, -500, 500)
	case 2:
		return allIn([]int{l.X}, 0, 7) && allIn([]int{l.Many}, 1, 500)
	case 3:
		return allIn([]int{l.Many}, 0, 1000)
	case 4:
		return allIn([]int{l.Many}, 1, 9)
	case 5:
		return allIn([]int{l.X}, 0, 7) && slices.Contains([]int{-1, 1}, l.Y)
	}
	return false
}

func craftIsSo(c impl.Craft) bool {
	return allIn([]int{c.X, c.Y}, -1000, 1000) && allIn([]int{c.Dir}, 0, 7) &&
		allIn([]int{c.Height}, 0, 2000) && allIn([]int{c.Climb}, -20, 20)
}

// legStepByWords goes by the letters of the direction's name.
func legStepByWords(c impl.Craft) impl.Craft {
	for _, letter := range eightNames[c.Dir] {
		switch letter {
		case 'n':
			c.Y++
		case 's':
			c.Y--
		case 'e':
			c.X++
		case 'w':
			c.X--
		}
	}
	c.Height += c.Climb
	if c.Height < 0 {
		c.Height = 0
	}
	if c.Height > 2000 {
		c.Height = 2000
	}
	return c
}

// nameToward is the direction's name from one place to another one, empty at it.
func nameToward(c impl.Craft, x, y int) string {
	name := ""
	switch {
	case y > c.Y:
		name = "n"
	case y < c.Y:
		name = "s"
	}
	switch {
	case x > c.X:
		name += "e"
	case x < c.X:
		name += "w"
	}
	return name
}

// trailByWords is every craft behind a step of the leg, and the one behind all.
func trailByWords(c impl.Craft, l impl.Leg) ([]impl.Craft, impl.Craft) {
	trail := []impl.Craft{}
	step := func() {
		c = legStepByWords(c)
		trail = append(trail, c)
	}
	switch l.Kind {
	case 1:
		for c.X != l.X || c.Y != l.Y {
			c.Dir = slices.Index(eightNames, nameToward(c, l.X, l.Y))
			step()
		}
	case 2:
		c.Dir = l.X
		for range l.Many {
			step()
		}
	case 3:
		for c.Height < l.Many {
			step()
		}
	case 4:
		for range l.Many {
			for range 8 {
				step()
				step()
				c.Dir = (c.Dir + 1) % 8
			}
		}
	case 5:
		for c.Dir != l.X {
			c.Dir = (c.Dir + 8 + l.Y) % 8
			step()
		}
	}
	return trail, c
}

func flyLegByWords(c impl.Craft, l impl.Leg) (impl.Craft, int, int) {
	if !craftIsSo(c) || !legIsSo(l) {
		return c, 0, 1
	}
	if l.Kind == 3 && c.Height < l.Many && c.Climb < 1 {
		return c, 0, 3
	}
	trail, end := trailByWords(c, l)
	for _, at := range trail {
		if !allIn([]int{at.X, at.Y}, -1000, 1000) {
			return c, 0, 2
		}
	}
	return end, len(trail), 0
}

func routeByWords(c impl.Craft, legs []impl.Leg) (impl.Craft, []int, int) {
	steps := []int{}
	if len(legs) > 30 {
		return c, steps, 1
	}
	for _, l := range legs {
		end, many, code := flyLegByWords(c, l)
		if code != 0 {
			return c, steps, code
		}
		if sumOfList(steps)+many > 2000 {
			return c, steps, 2
		}
		c, steps = end, append(steps, many)
	}
	return c, steps, 0
}

func legTextByWords(l impl.Leg) (string, bool) {
	if !legIsSo(l) {
		return "", false
	}
	switch l.Kind {
	case 1:
		return fmt.Sprintf("to %d %d", l.X, l.Y), true
	case 2:
		return fmt.Sprintf("course %s %d", eightNames[l.X], l.Many), true
	case 3:
		return fmt.Sprintf("climb %d", l.Many), true
	case 4:
		return fmt.Sprintf("hold %d", l.Many), true
	}
	return fmt.Sprintf("turn %s %s", eightNames[l.X], []string{"left", "", "right"}[l.Y+1]), true
}

var legForms = func() []*regexp.Regexp {
	number, dir := `(0|-?[1-9][0-9]{0,3})`, `(n|ne|e|se|s|sw|w|nw)`
	forms := []*regexp.Regexp{}
	for _, form := range []string{"to " + number + " " + number, "course " + dir + " " + number, "climb " + number, "hold " + number, "turn " + dir + " (left|right)"} {
		forms = append(forms, regexp.MustCompile(`\A`+form+`\z`))
	}
	return forms
}()

// legReadByWords knows each kind by a form of its own.
func legReadByWords(text string) (impl.Leg, bool) {
	for i, form := range legForms {
		found := form.FindStringSubmatch(text)
		if found == nil {
			continue
		}
		first, _ := strconv.Atoi(found[1])
		last, _ := strconv.Atoi(found[len(found)-1])
		dir := slices.Index(eightNames, found[1])
		side := 2*slices.Index([]string{"left", "right"}, found[len(found)-1]) - 1
		l := []impl.Leg{legTo(first, last), legCourse(dir, last), legClimb(last), legHold(last), legTurn(dir, side)}[i]
		if legIsSo(l) {
			return l, true
		}
	}
	return impl.Leg{}, false
}

func TestLimitsAndCodesOfLegs(t *testing.T) {
	got := []int{impl.MaxLegs, impl.MaxFly, impl.LegTo, impl.LegCourse, impl.LegClimb, impl.LegHold, impl.LegTurn,
		impl.FlyDone, impl.FlyBad, impl.FlyFar, impl.FlyNever}
	if want := []int{30, 2000, 1, 2, 3, 4, 5, 0, 1, 2, 3}; !slices.Equal(got, want) {
		t.Error(got, "not", want)
	}
}

var rightLegs = []impl.Leg{
	legTo(0, 0), legTo(-500, 0), legTo(500, 0), legTo(0, -500), legTo(0, 500), legTo(500, -500), legTo(-500, 500),
	legCourse(0, 1), legCourse(7, 1), legCourse(0, 500), legCourse(7, 500),
	legClimb(0), legClimb(1), legClimb(1000),
	legHold(1), legHold(9),
	legTurn(0, -1), legTurn(0, 1), legTurn(7, -1), legTurn(7, 1),
}

var wrongLegs = []impl.Leg{
	{}, {Kind: -1, X: 1, Y: 1, Many: 1}, {Kind: 0, X: 1, Y: 1, Many: 1}, {Kind: 6, X: 1, Y: 1, Many: 1},
	{Kind: math.MinInt, X: 1, Y: 1, Many: 1}, {Kind: math.MaxInt, X: 1, Y: 1, Many: 1},
	legTo(-501, 0), legTo(501, 0), legTo(0, -501), legTo(0, 501), legTo(math.MinInt, 0), legTo(0, math.MaxInt),
	legCourse(-1, 1), legCourse(8, 1), legCourse(0, 0), legCourse(0, -1), legCourse(7, 501), legCourse(math.MinInt, 1), legCourse(math.MaxInt, 1), legCourse(1, math.MinInt), legCourse(1, math.MaxInt),
	legClimb(-1), legClimb(1001), legClimb(math.MinInt), legClimb(math.MaxInt),
	legHold(0), legHold(-1), legHold(10), legHold(math.MinInt), legHold(math.MaxInt),
	legTurn(-1, 1), legTurn(8, 1), legTurn(8, -1), legTurn(0, 0), legTurn(0, 2), legTurn(0, -2), legTurn(math.MaxInt, 1), legTurn(1, math.MinInt), legTurn(1, math.MaxInt),
}

func TestLegOkAtItsEdges(t *testing.T) {
	for _, l := range rightLegs {
		if !impl.LegOk(l) || !impl.LegOk(wildLeg(l)) {
			t.Errorf("%+v is not so", l)
		}
	}
	for _, l := range wrongLegs {
		if impl.LegOk(l) || impl.LegOk(wildLeg(l)) {
			t.Errorf("%+v is so", l)
		}
	}
}

var rightCrafts = []impl.Craft{
	{}, craft(-1000, 0, 0, 0, 0), craft(1000, 0, 0, 0, 0), craft(0, -1000, 0, 0, 0), craft(0, 1000, 0, 0, 0),
	craft(0, 0, 7, 0, 0), craft(0, 0, 0, 2000, 0), craft(0, 0, 0, 0, -20), craft(0, 0, 0, 0, 20),
	craft(1000, 1000, 7, 2000, 20), craft(-1000, -1000, 0, 0, -20),
}

var wrongCrafts = []impl.Craft{
	craft(-1001, 0, 0, 0, 0), craft(1001, 0, 0, 0, 0), craft(0, -1001, 0, 0, 0), craft(0, 1001, 0, 0, 0),
	craft(0, 0, -1, 0, 0), craft(0, 0, 8, 0, 0), craft(0, 0, 0, -1, 0), craft(0, 0, 0, 2001, 0),
	craft(0, 0, 0, 0, -21), craft(0, 0, 0, 0, 21),
	craft(math.MinInt, 0, 0, 0, 0), craft(0, math.MaxInt, 0, 0, 0), craft(0, 0, math.MinInt, 0, 0),
	craft(0, 0, math.MaxInt, 0, 0), craft(0, 0, 0, math.MaxInt, 0), craft(0, 0, 0, 0, math.MinInt), craft(0, 0, 0, 0, math.MaxInt),
}

func TestCraftOkAtItsEdges(t *testing.T) {
	for _, c := range rightCrafts {
		if !impl.CraftOk(c) {
			t.Errorf("%+v is not so", c)
		}
	}
	for _, c := range wrongCrafts {
		if impl.CraftOk(c) {
			t.Errorf("%+v is so", c)
		}
	}
}

func refusesLeg(t *testing.T, c impl.Craft, l impl.Leg, code int) {
	t.Helper()
	if got, steps, told := impl.FlyLeg(c, l); got != c || steps != 0 || told != code {
		t.Errorf("%+v by %+v: %+v %d %d, not code %d", c, l, got, steps, told, code)
	}
}

func TestFlyLegRefusesWhatIsNotSo(t *testing.T) {
	for _, c := range wrongCrafts {
		for _, l := range append(slices.Clone(rightLegs), wrongLegs...) {
			refusesLeg(t, c, l, 1)
		}
	}
	for _, l := range wrongLegs {
		for _, c := range rightCrafts {
			refusesLeg(t, c, l, 1)
		}
	}
}

type legCase struct {
	name  string
	craft impl.Craft
	leg   impl.Leg
	want  impl.Craft
	steps int
}

func askLegs(t *testing.T, cases []legCase) {
	t.Helper()
	for _, c := range cases {
		for _, l := range []impl.Leg{c.leg, wildLeg(c.leg)} {
			if got, steps, code := impl.FlyLeg(c.craft, l); got != c.want || steps != c.steps || code != 0 {
				t.Errorf("%s: %+v by %+v: %+v %d %d, not %+v %d", c.name, c.craft, l, got, steps, code, c.want, c.steps)
			}
		}
	}
}

func TestLegsToAPlaceByHand(t *testing.T) {
	askLegs(t, []legCase{
		{"there already", craft(3, 4, 5, 6, 7), legTo(3, 4), craft(3, 4, 5, 6, 7), 0},
		{"there already, at a corner", craft(-500, 500, 1, 0, -7), legTo(-500, 500), craft(-500, 500, 1, 0, -7), 0},
		{"north", craft(0, 0, 4, 10, 1), legTo(0, 4), craft(0, 4, 0, 14, 1), 4},
		{"north-east", craft(0, 0, 4, 10, 1), legTo(4, 4), craft(4, 4, 1, 14, 1), 4},
		{"east", craft(0, 0, 4, 10, 1), legTo(4, 0), craft(4, 0, 2, 14, 1), 4},
		{"south-east", craft(0, 0, 4, 10, 1), legTo(4, -4), craft(4, -4, 3, 14, 1), 4},
		{"south", craft(0, 0, 0, 10, 1), legTo(0, -4), craft(0, -4, 4, 14, 1), 4},
		{"south-west", craft(0, 0, 4, 10, 1), legTo(-4, -4), craft(-4, -4, 5, 14, 1), 4},
		{"west", craft(0, 0, 4, 10, 1), legTo(-4, 0), craft(-4, 0, 6, 14, 1), 4},
		{"north-west", craft(0, 0, 4, 10, 1), legTo(-4, 4), craft(-4, 4, 7, 14, 1), 4},
		{"one step", craft(5, 5, 0, 0, 0), legTo(4, 6), craft(4, 6, 7, 0, 0), 1},
		{"slanting, then straight north", craft(0, 0, 6, 0, 2), legTo(2, 5), craft(2, 5, 0, 10, 2), 5},
		{"slanting, then straight east", craft(0, 0, 6, 0, 2), legTo(5, -2), craft(5, -2, 2, 10, 2), 5},
		{"slanting, then straight south", craft(0, 0, 6, 0, 2), legTo(-2, -5), craft(-2, -5, 4, 10, 2), 5},
		{"slanting, then straight west", craft(0, 0, 0, 0, 2), legTo(-5, 2), craft(-5, 2, 6, 10, 2), 5},
		{"as far as may be", craft(1000, 1000, 0, 0, 1), legTo(-500, 500), craft(-500, 500, 6, 1500, 1), 1500},
		{"as far as may be, slanting all the way", craft(-1000, -1000, 0, 2000, -1), legTo(500, 500), craft(500, 500, 1, 500, -1), 1500},
		{"along the bound", craft(1000, -1000, 2, 0, 0), legTo(500, -500), craft(500, -500, 7, 0, 0), 500},
	})
}

func TestCoursesByHand(t *testing.T) {
	askLegs(t, []legCase{
		{"one step", craft(0, 0, 0, 0, 0), legCourse(0, 1), craft(0, 1, 0, 0, 0), 1},
		{"one step into another direction", craft(7, 8, 3, 9, -4), legCourse(5, 1), craft(6, 7, 5, 5, -4), 1},
		{"500 steps", craft(0, 0, 0, 0, 1), legCourse(2, 500), craft(500, 0, 2, 500, 1), 500},
		{"500 steps, slanting", craft(500, 500, 0, 0, 0), legCourse(1, 500), craft(1000, 1000, 1, 0, 0), 500},
		{"two steps each way: n", craft(0, 0, 4, 5, -1), legCourse(0, 2), craft(0, 2, 0, 3, -1), 2},
		{"two steps each way: ne", craft(0, 0, 4, 5, -1), legCourse(1, 2), craft(2, 2, 1, 3, -1), 2},
		{"two steps each way: e", craft(0, 0, 4, 5, -1), legCourse(2, 2), craft(2, 0, 2, 3, -1), 2},
		{"two steps each way: se", craft(0, 0, 4, 5, -1), legCourse(3, 2), craft(2, -2, 3, 3, -1), 2},
		{"two steps each way: s", craft(0, 0, 0, 5, -1), legCourse(4, 2), craft(0, -2, 4, 3, -1), 2},
		{"two steps each way: sw", craft(0, 0, 4, 5, -1), legCourse(5, 2), craft(-2, -2, 5, 3, -1), 2},
		{"two steps each way: w", craft(0, 0, 4, 5, -1), legCourse(6, 2), craft(-2, 0, 6, 3, -1), 2},
		{"two steps each way: nw", craft(0, 0, 4, 5, -1), legCourse(7, 2), craft(-2, 2, 7, 3, -1), 2},
		{"the height is held at 2000", craft(0, 0, 0, 1985, 10), legCourse(0, 3), craft(0, 3, 0, 2000, 10), 3},
		{"the height comes to just 2000", craft(0, 0, 0, 1980, 10), legCourse(0, 2), craft(0, 2, 0, 2000, 10), 2},
		{"the height is held at 0", craft(0, 0, 0, 15, -10), legCourse(0, 3), craft(0, 3, 0, 0, -10), 3},
		{"the height comes to just 0", craft(0, 0, 0, 20, -10), legCourse(0, 2), craft(0, 2, 0, 0, -10), 2},
	})
}

func TestClimbingLegsByHand(t *testing.T) {
	askLegs(t, []legCase{
		{"just there", craft(1, 2, 3, 100, 5), legClimb(100), craft(1, 2, 3, 100, 5), 0},
		{"just there, without a climb", craft(1, 2, 3, 100, 0), legClimb(100), craft(1, 2, 3, 100, 0), 0},
		{"just there, with one down", craft(1, 2, 3, 100, -20), legClimb(100), craft(1, 2, 3, 100, -20), 0},
		{"above it, with one down", craft(1, 2, 3, 101, -20), legClimb(100), craft(1, 2, 3, 101, -20), 0},
		{"nothing to be climbed", craft(1, 2, 3, 0, 0), legClimb(0), craft(1, 2, 3, 0, 0), 0},
		{"1 below it", craft(0, 0, 2, 99, 1), legClimb(100), craft(1, 0, 2, 100, 1), 1},
		{"1 below it, beyond with one step", craft(0, 0, 2, 99, 20), legClimb(100), craft(1, 0, 2, 119, 20), 1},
		{"at it by the last step", craft(0, 0, 5, 70, 10), legClimb(100), craft(-3, -3, 5, 100, 10), 3},
		{"beyond it by the last step", craft(0, 0, 5, 71, 10), legClimb(100), craft(-3, -3, 5, 101, 10), 3},
		{"1 short of it by the last but one", craft(0, 0, 5, 69, 10), legClimb(100), craft(-4, -4, 5, 109, 10), 4},
		{"1000 steps, to the bound", craft(0, 0, 0, 0, 1), legClimb(1000), craft(0, 1000, 0, 1000, 1), 1000},
		{"as high as may be", craft(0, 0, 0, 2000, -1), legClimb(1000), craft(0, 0, 0, 2000, -1), 0},
	})
	for _, climb := range []int{0, -1, -20} {
		refusesLeg(t, craft(1, 2, 3, 99, climb), legClimb(100), 3)
		refusesLeg(t, craft(1, 2, 3, 0, climb), wildLeg(legClimb(1)), 3)
		refusesLeg(t, craft(1000, 1000, 1, 999, climb), legClimb(1000), 3)
	}
}

func TestHoldsByHand(t *testing.T) {
	askLegs(t, []legCase{
		{"one round", craft(0, 0, 0, 0, 0), legHold(1), craft(0, 0, 0, 0, 0), 16},
		{"nine rounds", craft(-4, 9, 6, 100, 1), legHold(9), craft(-4, 9, 6, 244, 1), 144},
		{"the height is held at 2000", craft(5, 5, 3, 1999, 20), legHold(1), craft(5, 5, 3, 2000, 20), 16},
		{"the height is held at 0", craft(5, 5, 7, 3, -20), legHold(2), craft(5, 5, 7, 0, -20), 32},
	})
}

func TestTurnsByHand(t *testing.T) {
	askLegs(t, []legCase{
		{"to its own, right", craft(1, 2, 3, 4, 5), legTurn(3, 1), craft(1, 2, 3, 4, 5), 0},
		{"to its own, left", craft(1, 2, 3, 4, 5), legTurn(3, -1), craft(1, 2, 3, 4, 5), 0},
		{"to the next one, right", craft(0, 0, 0, 4, 5), legTurn(1, 1), craft(1, 1, 1, 9, 5), 1},
		{"to the next one, left", craft(0, 0, 1, 4, 5), legTurn(0, -1), craft(0, 1, 0, 9, 5), 1},
		{"across north, right", craft(0, 0, 7, 4, 5), legTurn(0, 1), craft(0, 1, 0, 9, 5), 1},
		{"across north, left", craft(0, 0, 0, 4, 5), legTurn(7, -1), craft(-1, 1, 7, 9, 5), 1},
		{"to the next one left, by the right", craft(0, 0, 0, 0, 1), legTurn(7, 1), craft(0, -1, 7, 7, 1), 7},
		{"to the next one right, by the left", craft(0, 0, 0, 0, 1), legTurn(1, -1), craft(0, -1, 1, 7, 1), 7},
		{"to the other side, right", craft(0, 0, 0, 0, 0), legTurn(4, 1), craft(3, -1, 4, 0, 0), 4},
		{"to the other side, left", craft(0, 0, 0, 0, 0), legTurn(4, -1), craft(-3, -1, 4, 0, 0), 4},
		{"two to the left", craft(0, 0, 0, 0, 2), legTurn(6, -1), craft(-2, 1, 6, 4, 2), 2},
	})
}

// A step that leaves the bounds refuses the leg, be it come back from or not.
func TestPlacesAtTheBounds(t *testing.T) {
	askLegs(t, []legCase{
		{"north to 1000", craft(0, 997, 4, 0, 0), legCourse(0, 3), craft(0, 1000, 0, 0, 0), 3},
		{"east to 1000", craft(997, 0, 4, 0, 0), legCourse(2, 3), craft(1000, 0, 2, 0, 0), 3},
		{"south to -1000", craft(0, -997, 0, 0, 0), legCourse(4, 3), craft(0, -1000, 4, 0, 0), 3},
		{"west to -1000", craft(-997, 0, 4, 0, 0), legCourse(6, 3), craft(-1000, 0, 6, 0, 0), 3},
		{"slanting to 1000", craft(997, 990, 4, 0, 0), legCourse(1, 3), craft(1000, 993, 1, 0, 0), 3},
		{"along 1000", craft(1000, 0, 4, 0, 0), legCourse(0, 3), craft(1000, 3, 0, 0, 0), 3},
		{"a climb to 1000", craft(995, 0, 2, 95, 1), legClimb(100), craft(1000, 0, 2, 100, 1), 5},
		{"a hold that comes to 1000 in X", craft(994, 0, 0, 0, 0), legHold(1), craft(994, 0, 0, 0, 0), 16},
		{"a hold that comes to 1000 in Y", craft(0, 996, 0, 0, 0), legHold(1), craft(0, 996, 0, 0, 0), 16},
		{"a hold that comes to -1000 in Y", craft(0, -998, 0, 0, 0), legHold(1), craft(0, -998, 0, 0, 0), 16},
		{"a hold that comes to -1000 in X", craft(-1000, 0, 0, 0, 0), legHold(1), craft(-1000, 0, 0, 0, 0), 16},
		{"a turn that comes to 1000", craft(997, 0, 0, 0, 0), legTurn(4, 1), craft(1000, -1, 4, 0, 0), 4},
	})
	for _, c := range []struct {
		craft impl.Craft
		leg   impl.Leg
	}{
		{craft(0, 998, 4, 0, 0), legCourse(0, 3)}, {craft(998, 0, 4, 0, 0), legCourse(2, 3)},
		{craft(0, -998, 0, 0, 0), legCourse(4, 3)}, {craft(-998, 0, 4, 0, 0), legCourse(6, 3)},
		{craft(1000, 0, 0, 0, 0), legCourse(1, 1)}, {craft(0, -1000, 0, 0, 0), legCourse(5, 1)},
		{craft(1000, 1000, 0, 0, 0), legCourse(1, 500)},
		{craft(996, 0, 2, 95, 1), legClimb(100)}, {craft(0, 1, 0, 0, 1), legClimb(1000)},
		{craft(995, 0, 0, 5, 6), legHold(1)}, {craft(0, 997, 0, 5, 6), legHold(1)},
		{craft(0, -999, 0, 5, 6), legHold(9)}, {craft(-1000, 0, 7, 5, 6), legHold(9)},
		{craft(998, 0, 0, 0, 0), legTurn(6, 1)}, {craft(-998, 0, 0, 0, 0), legTurn(2, -1)},
	} {
		refusesLeg(t, c.craft, c.leg, 2)
	}
}

// legFrom tells legs of every kind, most of which are so.
func legFrom(r *rand.Rand) impl.Leg {
	l := impl.Leg{Kind: 1 + r.Intn(5), X: r.Intn(2001) - 1000, Y: r.Intn(2001) - 1000, Many: r.Intn(1003) - 1}
	switch l.Kind {
	case 1:
		l.X, l.Y = r.Intn(1004)-501, r.Intn(1004)-501
	case 2:
		l.X, l.Many = r.Intn(8), 1+r.Intn(1+r.Intn(501))
	case 4:
		l.Many = r.Intn(10)
	case 5:
		l.X, l.Y = r.Intn(8), 2*r.Intn(2)-1
	}
	if r.Intn(40) == 0 {
		*[]*int{&l.Kind, &l.X, &l.Y, &l.Many}[r.Intn(4)] = farNumbers[r.Intn(len(farNumbers))]
	}
	return l
}

// craftFrom tells crafts, many of which are near a bound.
func craftFrom(r *rand.Rand) impl.Craft {
	near := func(bound int) int {
		switch r.Intn(4) {
		case 0:
			return bound - r.Intn(12)
		case 1:
			return r.Intn(12) - bound
		}
		return r.Intn(2*bound+1) - bound
	}
	c := craft(near(1000), near(1000), r.Intn(8), r.Intn(2001), r.Intn(41)-20)
	if r.Intn(3) == 0 {
		c.Height = r.Intn(30)
	}
	if r.Intn(40) == 0 {
		*[]*int{&c.X, &c.Y, &c.Dir, &c.Height, &c.Climb}[r.Intn(5)] = farNumbers[r.Intn(len(farNumbers))]
	}
	return c
}

func TestLegsAreFlownAsTheWordsSay(t *testing.T) {
	r := rand.New(rand.NewSource(120))
	codes := map[[2]int]int{}
	for range 40000 {
		c, l := craftFrom(r), legFrom(r)
		got, steps, code := impl.FlyLeg(c, l)
		want, wantSteps, wantCode := flyLegByWords(c, l)
		if got != want || steps != wantSteps || code != wantCode {
			t.Fatalf("%+v by %+v: %+v %d %d, not %+v %d %d", c, l, got, steps, code, want, wantSteps, wantCode)
		}
		if impl.CraftOk(c) != craftIsSo(c) || impl.LegOk(l) != legIsSo(l) {
			t.Fatalf("%+v or %+v: %v %v", c, l, impl.CraftOk(c), impl.LegOk(l))
		}
		codes[[2]int{l.Kind, code}]++
	}
	for kind := 1; kind <= 5; kind++ {
		for code := 0; code <= 2; code++ {
			if kind == 1 && code == 2 {
				continue // No way to a place within leaves the bounds.
			}
			if codes[[2]int{kind, code}] < 100 {
				t.Error("too few of kind", kind, "with code", code, codes)
			}
		}
	}
	if codes[[2]int{3, 3}] < 100 || codes[[2]int{1, 2}] != 0 {
		t.Error(codes)
	}
}

// smallLegs has each place about x, y that may be gone to.
func smallLegs(x, y int) []impl.Leg {
	legs := []impl.Leg{legHold(1), legHold(2), legClimb(0), legClimb(3), legClimb(4), legClimb(5)}
	for dir := range 8 {
		legs = append(legs, legTurn(dir, -1), legTurn(dir, 1), legCourse(dir, 1), legCourse(dir, 6))
	}
	for east := -4; east <= 4; east++ {
		for north := -4; north <= 4; north++ {
			if l := legTo(x+east, y+north); legIsSo(l) {
				legs = append(legs, l)
			}
		}
	}
	return legs
}

func TestEverySmallLegIsAsTheWordsSay(t *testing.T) {
	for _, x := range []int{-1000, -996, -503, 0, 500, 996, 1000} {
		for _, y := range []int{-1000, -996, -500, 3, 502, 996, 1000} {
			for _, l := range smallLegs(x, y) {
				for dir := range 8 {
					for _, climb := range []int{-1, 0, 2} {
						c := craft(x, y, dir, 4, climb)
						got, steps, code := impl.FlyLeg(c, l)
						if want, wantSteps, wantCode := flyLegByWords(c, l); got != want || steps != wantSteps || code != wantCode {
							t.Fatalf("%+v by %+v: %+v %d %d, not %+v %d %d", c, l, got, steps, code, want, wantSteps, wantCode)
						}
					}
				}
			}
		}
	}
}

func TestEveryLegEndsWhereItShould(t *testing.T) {
	r := rand.New(rand.NewSource(121))
	ended := map[int]int{}
	for range 20000 {
		c, l := craftFrom(r), legFrom(r)
		end, steps, code := impl.FlyLeg(c, l)
		if code != 0 {
			continue
		}
		ended[l.Kind]++
		so := impl.CraftOk(end) && end.Climb == c.Climb
		switch l.Kind {
		case 1:
			so = so && end.X == l.X && end.Y == l.Y && steps == max(sizeByWords(l.X-c.X), sizeByWords(l.Y-c.Y))
		case 2:
			so = so && end.Dir == l.X && steps == l.Many
		case 3:
			so = so && end.Height >= l.Many && end.Dir == c.Dir && (steps == 0 || end.Height-c.Climb < l.Many)
		case 4:
			so = so && end.X == c.X && end.Y == c.Y && end.Dir == c.Dir && steps == 16*l.Many
		case 5:
			so = so && end.Dir == l.X && steps == ((l.X-c.Dir)*l.Y+8)%8
		}
		if !so {
			t.Fatalf("%+v by %+v ends at %+v behind %d", c, l, end, steps)
		}
	}
	for kind := 1; kind <= 5; kind++ {
		if ended[kind] < 500 {
			t.Error("too few ended:", ended)
		}
	}
}

func TestHoldsEndWhereTheyBegan(t *testing.T) {
	for dir := range 8 {
		for rounds := 1; rounds <= 9; rounds++ {
			c := craft(-17, 23, dir, 50, 0)
			if end, steps, code := impl.FlyLeg(c, legHold(rounds)); end != c || steps != 16*rounds || code != 0 {
				t.Error(dir, rounds, end, steps, code)
			}
		}
	}
}

func asksRoute(t *testing.T, name string, c impl.Craft, legs []impl.Leg, want impl.Craft, steps []int, code int) {
	t.Helper()
	got, told, gotCode := impl.FlyRoute(c, legs)
	if got != want || !slices.Equal(told, steps) || gotCode != code {
		t.Errorf("%s: %+v %v %d, not %+v %v %d", name, got, told, gotCode, want, steps, code)
	}
}

func TestRoutesByHand(t *testing.T) {
	c := craft(0, 0, 0, 0, 2)
	east, north := legCourse(2, 3), legCourse(0, 2)
	asksRoute(t, "no leg", c, nil, c, nil, 0)
	asksRoute(t, "no leg, an empty list", c, []impl.Leg{}, c, nil, 0)
	asksRoute(t, "one leg", c, []impl.Leg{east}, craft(3, 0, 2, 6, 2), []int{3}, 0)
	asksRoute(t, "two legs", c, []impl.Leg{east, north}, craft(3, 2, 0, 10, 2), []int{3, 2}, 0)
	asksRoute(t, "a climb by what the one ahead has climbed", c, []impl.Leg{east, legClimb(7)}, craft(4, 0, 2, 8, 2), []int{3, 1}, 0)
	asksRoute(t, "legs without steps are flown too", c, []impl.Leg{legTo(0, 0), legClimb(0), legTurn(0, 1), east}, craft(3, 0, 2, 6, 2), []int{0, 0, 0, 3}, 0)
	edge := craft(0, 990, 0, 0, 2)
	for _, bad := range []struct {
		leg  impl.Leg
		code int
	}{{legHold(0), 1}, {impl.Leg{}, 1}, {legCourse(2, 501), 1}, {legClimb(1000), 2}} {
		asksRoute(t, "a code at the first", edge, []impl.Leg{bad.leg, east, north}, edge, nil, bad.code)
		asksRoute(t, "a code in the middle", craft(990, 0, 2, 0, 1), []impl.Leg{east, bad.leg, north}, craft(993, 0, 2, 3, 1), []int{3}, bad.code)
		asksRoute(t, "a code at the last", craft(980, 990, 0, 0, 2), []impl.Leg{east, north, bad.leg}, craft(983, 992, 0, 10, 2), []int{3, 2}, bad.code)
		asksRoute(t, "a code alone", edge, []impl.Leg{bad.leg}, edge, nil, bad.code)
	}
	asksRoute(t, "never, at the first", craft(0, 0, 0, 5, 0), []impl.Leg{legClimb(6), legHold(0)}, craft(0, 0, 0, 5, 0), nil, 3)
	asksRoute(t, "never, in the middle", craft(0, 0, 0, 5, -1), []impl.Leg{north, legClimb(5), east}, craft(0, 2, 0, 3, -1), []int{2}, 3)
	asksRoute(t, "never, at the last", craft(0, 0, 0, 5, -1), []impl.Leg{legClimb(5), north, legClimb(5)}, craft(0, 2, 0, 3, -1), []int{0, 2}, 3)
	asksRoute(t, "the first of two codes", craft(0, 0, 0, 5, 0), []impl.Leg{north, legHold(10), legClimb(6)}, craft(0, 2, 0, 5, 0), []int{2}, 1)
	asksRoute(t, "the first of two other codes", craft(0, 0, 0, 5, 0), []impl.Leg{north, legClimb(6), legHold(10)}, craft(0, 2, 0, 5, 0), []int{2}, 3)
	for _, wrong := range wrongCrafts {
		asksRoute(t, "a wrong craft", wrong, []impl.Leg{east}, wrong, nil, 1)
		asksRoute(t, "a wrong craft, no leg that could tell", wrong, nil, wrong, nil, 0)
	}
}

func TestRoutesOfAsManyLegsAsMayBe(t *testing.T) {
	legs := slices.Repeat([]impl.Leg{legCourse(2, 4)}, 30)
	c := craft(0, 0, 0, 0, 1)
	asksRoute(t, "30 legs", c, legs, craft(120, 0, 2, 120, 1), slices.Repeat([]int{4}, 30), 0)
	asksRoute(t, "31 legs", c, append(slices.Clone(legs), legTo(120, 0)), c, nil, 1)
	asksRoute(t, "31 legs, the first never ends", craft(0, 0, 0, 0, 0), append([]impl.Leg{legClimb(1)}, legs...), craft(0, 0, 0, 0, 0), nil, 1)
	asksRoute(t, "300 legs", c, slices.Repeat(legs, 10), c, nil, 1)
	asksRoute(t, "31 legs of a wrong craft", wrongCrafts[0], slices.Repeat(legs, 2)[:31], wrongCrafts[0], nil, 1)
	legs[29] = legHold(10)
	asksRoute(t, "30 legs, the last not so", c, legs, craft(116, 0, 2, 116, 1), slices.Repeat([]int{4}, 29), 1)
}

func TestRoutesOfAsManyStepsAsMayBe(t *testing.T) {
	c, end := craft(-400, 0, 2, 0, 1), craft(-400, 0, 6, 2000, 1)
	forth, back := legCourse(2, 500), legCourse(6, 500)
	whole, four := []impl.Leg{forth, back, forth, back}, []int{500, 500, 500, 500}
	with := func(more ...impl.Leg) []impl.Leg { return append(slices.Clone(whole), more...) }
	asksRoute(t, "2000 steps", c, whole, end, four, 0)
	asksRoute(t, "2000 steps, and legs without any", c, with(legTo(-400, 0), legClimb(1000), legTurn(6, 1)), end, append(four[:4:4], 0, 0, 0), 0)
	asksRoute(t, "2001 steps", c, with(legCourse(2, 1)), end, four, 2)
	asksRoute(t, "2001 steps by a turn", c, with(legTurn(7, 1)), end, four, 2)
	asksRoute(t, "2001 steps, and a leg that is not so behind", c, with(legCourse(2, 1), legHold(0)), end, four, 2)
	asksRoute(t, "2001 steps, and a leg that is not so ahead", c, with(legHold(0), legCourse(2, 1)), end, four, 1)
	asksRoute(t, "2001 steps by a leg of many", c, []impl.Leg{forth, legCourse(0, 1), back, forth, back}, craft(100, 1, 2, 1501, 1), []int{500, 1, 500, 500}, 2)
	asksRoute(t, "2000 steps by a leg of many", c, []impl.Leg{forth, legCourse(0, 1), back, forth, legCourse(6, 499)}, craft(-399, 1, 6, 2000, 1), []int{500, 1, 500, 500, 499}, 0)
	asksRoute(t, "1500 steps, and 501 to a place", craft(1000, 1000, 0, 0, 0), []impl.Leg{legTo(-500, -500), legTo(1, 0)}, craft(-500, -500, 5, 0, 0), []int{1500}, 2)
	asksRoute(t, "1500 steps, and 500 to a place", craft(1000, 1000, 0, 0, 0), []impl.Leg{legTo(-500, -500), legTo(0, 0)}, craft(0, 0, 1, 0, 0), []int{1500, 500}, 0)
}

func TestRoutesAreFlownAsTheWordsSay(t *testing.T) {
	r := rand.New(rand.NewSource(122))
	codes, spent := map[int]int{}, 0
	for range 20000 {
		c := craftFrom(r)
		if r.Intn(2) == 0 {
			c.X, c.Y = c.X/3, c.Y/3
		}
		legs := make([]impl.Leg, r.Intn(1+r.Intn(33)))
		for i := range legs {
			legs[i] = legFrom(r)
		}
		got, steps, code := impl.FlyRoute(c, legs)
		want, wantSteps, wantCode := routeByWords(c, legs)
		if got != want || !slices.Equal(steps, wantSteps) || code != wantCode {
			t.Fatalf("%+v by %+v: %+v %v %d, not %+v %v %d", c, legs, got, steps, code, want, wantSteps, wantCode)
		}
		codes[code]++
		if code == 2 {
			if _, _, alone := flyLegByWords(got, legs[len(steps)]); alone == 0 {
				spent++
			}
		}
	}
	if min(codes[0], codes[1], codes[2], codes[3]) < 500 || spent < 50 {
		t.Error("too few of a kind:", codes, spent)
	}
}

func TestARouteIsItsLegsOneAfterTheOther(t *testing.T) {
	r := rand.New(rand.NewSource(123))
	flown := 0
	for range 3000 {
		c := craft(r.Intn(300), r.Intn(300), r.Intn(8), 900, r.Intn(9)-4)
		legs := []impl.Leg{legTo(r.Intn(200), r.Intn(200)), legHold(1 + r.Intn(9)), legTurn(r.Intn(8), 1), legCourse(r.Intn(8), 1+r.Intn(200))}
		whole, steps, code := impl.FlyRoute(c, legs)
		if code != 0 {
			continue
		}
		flown++
		cut := r.Intn(5)
		middle, first, _ := impl.FlyRoute(c, legs[:cut])
		end, second, code := impl.FlyRoute(middle, legs[cut:])
		if end != whole || code != 0 || !slices.Equal(append(first, second...), steps) {
			t.Fatalf("%+v by %+v, cut at %d: %+v %v", c, legs, cut, end, second)
		}
	}
	if flown < 2000 {
		t.Error("too few flown:", flown)
	}
}

var toldLegs = []struct {
	leg  impl.Leg
	text string
}{
	{legTo(0, 0), "to 0 0"}, {legTo(-500, 500), "to -500 500"}, {legTo(500, -500), "to 500 -500"}, {legTo(-1, -10), "to -1 -10"}, {legTo(7, 100), "to 7 100"},
	{legCourse(0, 1), "course n 1"}, {legCourse(1, 2), "course ne 2"}, {legCourse(2, 30), "course e 30"}, {legCourse(3, 44), "course se 44"},
	{legCourse(4, 500), "course s 500"}, {legCourse(5, 100), "course sw 100"}, {legCourse(6, 9), "course w 9"}, {legCourse(7, 12), "course nw 12"},
	{legClimb(0), "climb 0"}, {legClimb(10), "climb 10"}, {legClimb(1000), "climb 1000"},
	{legHold(1), "hold 1"}, {legHold(9), "hold 9"},
	{legTurn(0, -1), "turn n left"}, {legTurn(1, 1), "turn ne right"}, {legTurn(2, -1), "turn e left"}, {legTurn(3, 1), "turn se right"},
	{legTurn(4, 1), "turn s right"}, {legTurn(5, -1), "turn sw left"}, {legTurn(6, 1), "turn w right"}, {legTurn(7, -1), "turn nw left"},
}

func TestLegTextsByHand(t *testing.T) {
	for _, c := range toldLegs {
		for _, l := range []impl.Leg{c.leg, wildLeg(c.leg)} {
			if text, ok := impl.LegText(l); text != c.text || !ok {
				t.Errorf("%+v: %q %v, not %q", l, text, ok, c.text)
			}
		}
		if l, ok := impl.LegRead(c.text); l != c.leg || !ok {
			t.Errorf("%q: %+v %v, not %+v", c.text, l, ok, c.leg)
		}
	}
	for _, l := range wrongLegs {
		for _, wrong := range []impl.Leg{l, wildLeg(l)} {
			if text, ok := impl.LegText(wrong); text != "" || ok {
				t.Errorf("%+v: %q %v", wrong, text, ok)
			}
		}
	}
}

func refusesLegText(t *testing.T, text string) {
	t.Helper()
	if l, ok := impl.LegRead(text); l != (impl.Leg{}) || ok {
		t.Errorf("%q: %+v %v", text, l, ok)
	}
}

func TestLegReadRefusesWhatNoLegTells(t *testing.T) {
	for _, text := range []string{
		"", " ", "   ", "\n", "\x00", "to", "to ", "to 1", "to 1 ", "to  1", "to 1 2 3", "to 1 2 ", " to 1 2", "to  1 2", "to 1  2", "to1 2", "to 12", "to\t1 2", "to 1\t2", "to 1 2\n",
		"to +1 2", "to 1 +2", "to 01 2", "to 1 02", "to 00 0", "to -0 0", "to 0 -0", "to -01 2", "to - 2", "to 1 -", "to --1 2", "to 1- 2", "to -1- 2", "to 1 2-", "to 1,2", "to 1.0 2", "to 0x1 2", "to 1e1 2", "to 1_0 2", "to a b", "to n 1", "to 1 n",
		"to 501 0", "to -501 0", "to 0 501", "to 0 -501", "to 5000 0", "to 9223372036854775808 0", "to 18446744073709551616 0", "to 18446744073709551617 0", "to 0 -18446744073709551617", "to 99999999999999999999999999999999 0", "to 0 " + strings.Repeat("9", 5000), "to " + strings.Repeat("0", 5000) + " 0",
		"course", "course ", "course n", "course n ", "course 1", "course 0 1", "course n n", "course n 0", "course n -1", "course n 501", "course n 01", "course n +1", "course  n 1", "course n  1", "course n 1 ", "course n 1 2", "course n 1 left", "course nne 1", "course en 1", "course N 1", "course Ne 1", "course north 1", "course x 1", "course  1", "course 1 n", "course n 18446744073709551617", "coursen 1", "course n1",
		"climb", "climb ", "climb  1", "climb -1", "climb -0", "climb 1001", "climb 10000", "climb 01", "climb +1", "climb 1 2", "climb 1 ", "climb n", "climb n 1", "climb 1 1", "climb climb 1", "climb to 1", "climb 18446744073709551617", "climb1", "climb 1\x00",
		"hold", "hold ", "hold 0", "hold 10", "hold -1", "hold 01", "hold +1", "hold 1 1", "hold  1", "hold 1 ", "hold n", "hold n 1", "hold 18446744073709551617", "hold1",
		"turn", "turn ", "turn n", "turn left", "turn n 1", "turn n -1", "turn n Left", "turn n LEFT", "turn N left", "turn n lef", "turn n leftt", "turn n left ", "turn  n left", "turn n  left", "turn n left left", "turn x left", "turn 0 left", "turn left n", "turn n right 1", "turn n straight", "turnn left", "turn  left",
		"To 1 2", "TO 1 2", "COURSE n 1", "Climb 1", "HOLD 1", "Turn n left", "fly 1 2", "go", "too 1 2", "t 1 2", "o 1 2", "1", "1 2", "-", "n", "left",
		"to \u0661 2", "to \uff11 2", "to 1 \u00b2", "to\u00a01 2", "to 1\u20032", "to \u22121 2", "t\u043e 1 2", "climb \u0967", "hold 1\u0301", "course \u014b 1", "\ufeffhold 1", "hold 1\ufeff", "hold \ufffd", "hold \xff", "hold 1\xff", "\xffhold 1", "hold\xa01", "to \xf0\x9f 2", "\u00e9", "turn n \u0142eft",
	} {
		refusesLegText(t, text)
	}
}

// Of a right text no other one is left that is read, where a byte is taken out, doubled or
// changed, but those that tell another leg.
func TestTextsWithOneByteChanged(t *testing.T) {
	others, refused := 0, 0
	for _, c := range toldLegs {
		for at := range len(c.text) + 1 {
			texts := []string{c.text[:at]}
			for b := range 256 {
				texts = append(texts, c.text[:at]+string([]byte{byte(b)})+c.text[at:])
				if at < len(c.text) {
					texts = append(texts, c.text[:at]+string([]byte{byte(b)})+c.text[at+1:])
				}
			}
			if at < len(c.text) {
				texts = append(texts, c.text[:at]+c.text[at+1:], c.text[:at+1]+c.text[at:])
			}
			for _, text := range texts {
				l, ok := impl.LegRead(text)
				if want, wantOk := legReadByWords(text); l != want || ok != wantOk {
					t.Fatalf("%q: %+v %v, not %+v %v", text, l, ok, want, wantOk)
				}
				if ok {
					others++
				} else {
					refused++
				}
			}
		}
	}
	if others < 500 || refused < 50000 {
		t.Error("too few of a kind:", others, refused)
	}
}

func TestLegTextsAreAsTheWordsSay(t *testing.T) {
	r := rand.New(rand.NewSource(124))
	words := append([]string{"to", "course", "climb", "hold", "turn", "left", "right", "", "-", "+1", "00", "-0", "1000", "1001", "501"}, eightNames...)
	read := 0
	for range 200000 {
		chosen := []string{}
		for range 1 + r.Intn(4) {
			word := words[r.Intn(len(words))]
			switch r.Intn(3) {
			case 0:
				word = strconv.Itoa(r.Intn(1100) - 550)
			case 1:
				word = strconv.Itoa(r.Intn(12))
			}
			if len(chosen) == 0 {
				word = words[r.Intn(6)]
			}
			chosen = append(chosen, word)
		}
		text := strings.Join(chosen, " ")
		l, ok := impl.LegRead(text)
		if want, wantOk := legReadByWords(text); l != want || ok != wantOk {
			t.Fatalf("%q: %+v %v, not %+v %v", text, l, ok, want, wantOk)
		}
		if ok {
			read++
		}
	}
	if read < 8000 {
		t.Error("too few read:", read)
	}
}

func comesBack(t *testing.T, l impl.Leg) {
	t.Helper()
	text, ok := impl.LegText(wildLeg(l))
	if want, wantOk := legTextByWords(l); text != want || ok != wantOk {
		t.Fatalf("%+v: %q %v, not %q %v", l, text, ok, want, wantOk)
	}
	if back, read := impl.LegRead(text); ok && (back != l || !read) || !ok && read {
		t.Fatalf("%+v comes back from %q as %+v %v", l, text, back, read)
	}
}

func TestLegsComeBackFromTheirText(t *testing.T) {
	for x := -501; x <= 501; x++ {
		for _, y := range []int{-501, -500, -100, -1, 0, 1, 10, 499, 500, 501} {
			comesBack(t, legTo(x, y))
			comesBack(t, legTo(y, x))
		}
	}
	for dir := -1; dir <= 8; dir++ {
		for many := -1; many <= 502; many++ {
			comesBack(t, legCourse(dir, many))
		}
		for side := -2; side <= 2; side++ {
			comesBack(t, legTurn(dir, side))
		}
	}
	for many := -2; many <= 1002; many++ {
		comesBack(t, legClimb(many))
		comesBack(t, legHold(many))
	}
}

func TestLegsWriteIntoNoArgument(t *testing.T) {
	wild := impl.Leg{Kind: 1, X: math.MaxInt, Y: math.MinInt, Many: 5}
	r := rand.New(rand.NewSource(125))
	for range 2000 {
		legs := make([]impl.Leg, r.Intn(32))
		for i := range legs {
			legs[i] = legFrom(r)
		}
		wide := append(slices.Clone(legs), wild, wild)
		whole := slices.Clone(wide)
		c := craftFrom(r)
		got, steps, code := impl.FlyRoute(c, legs)
		again, wideSteps, wideCode := impl.FlyRoute(c, wide[:len(legs)])
		if got != again || !slices.Equal(steps, wideSteps) || code != wideCode {
			t.Fatal("what lies behind the legs is read:", steps, wideSteps)
		}
		if !slices.Equal(wide, whole) {
			t.Fatal("written into the legs")
		}
		for i := range steps {
			steps[i] = -1
		}
		if _, third, _ := impl.FlyRoute(c, legs); !slices.Equal(third, wideSteps) {
			t.Fatal("steps of one answer are those of another:", third)
		}
	}
}

// The document's 'Ways': a leg is a type behind an interface; whether it may climb is asked
// by an assertion to another one, with the comma-ok form; texts are read rune by rune.
func TestLegsAreBuiltTheirWay(t *testing.T) {
	file, err := parser.ParseFile(token.NewFileSet(), "../impl/l12_leg.go", nil, 0)
	if err != nil {
		t.Fatal(err)
	}
	interfaces := map[string]bool{}
	for _, d := range file.Decls {
		if g, ok := d.(*ast.GenDecl); ok && g.Tok == token.TYPE {
			for _, s := range g.Specs {
				spec := s.(*ast.TypeSpec)
				if _, ok := spec.Type.(*ast.InterfaceType); ok {
					interfaces[spec.Name.Name] = true
				}
			}
		}
	}
	found := map[string]bool{}
	ast.Inspect(file, func(n ast.Node) bool {
		switch x := n.(type) {
		case *ast.AssignStmt:
			if len(x.Rhs) != 1 || len(x.Lhs) != 2 {
				break
			}
			if a, ok := x.Rhs[0].(*ast.TypeAssertExpr); ok {
				if name, ok := a.Type.(*ast.Ident); ok && interfaces[name.Name] {
					found["an assertion to an interface, with its ok"] = true
				}
			}
		case *ast.RangeStmt:
			if isNamed(x.X, "text") || isNamed(x.X, "word") {
				found["a text read rune by rune"] = true
			}
		}
		return true
	})
	if len(interfaces) < 2 {
		t.Error("too few interfaces:", interfaces)
	}
	for _, way := range []string{"an assertion to an interface, with its ok", "a text read rune by rune"} {
		if !found[way] {
			t.Error("not there:", way)
		}
	}
}
