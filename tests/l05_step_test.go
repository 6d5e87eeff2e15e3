package tests

import (
	"go/ast"
	"go/parser"
	"go/token"
	"math"
	"math/rand"
	"slices"
	"testing"

	"loop.example/g00063/impl"
)

// NaNs of other bits than the one that math.NaN tells: what is missing is any of them.
var noNumbers = []float64{
	noNumber, turnedSign(noNumber), math.Float64frombits(0x7FF0000000000001), math.Float64frombits(0xFFF0000000000001),
	math.Float64frombits(0x7FFFFFFFFFFFFFFF), math.Float64frombits(0xFFFFFFFFFFFFFFFF),
}

func motion(speed, height, pitch, rate float64) impl.Motion {
	return impl.Motion{Speed: speed, Height: height, Pitch: pitch, Rate: rate}
}

func sameMotion(a, b impl.Motion) bool {
	return sameFloat(a.Speed, b.Speed) && sameFloat(a.Height, b.Height) && sameFloat(a.Pitch, b.Pitch) && sameFloat(a.Rate, b.Rate)
}

func lessExactly(x, y float64) float64 { return plusExactly(x, turnedSign(y)) }

func stepByWords(m impl.Motion, f impl.Forces, elevator, dt float64) impl.Motion {
	s := timesExactly(m.Speed, m.Speed)
	push := lessExactly(lessExactly(f.Thrust, timesExactly(f.Drag, s)), timesExactly(f.Weight, m.Pitch))
	turning := lessExactly(elevator, timesExactly(f.Damp, m.Rate))
	return motion(plusExactly(m.Speed, timesExactly(push, dt)),
		plusExactly(m.Height, timesExactly(timesExactly(m.Speed, m.Pitch), dt)),
		plusExactly(m.Pitch, timesExactly(m.Rate, dt)),
		plusExactly(m.Rate, timesExactly(turning, dt)))
}

func flyByWords(m impl.Motion, f impl.Forces, elevators []float64, dt float64) ([]impl.Motion, bool) {
	list := []impl.Motion{}
	if len(elevators) > 400 || math.IsNaN(dt) || dt <= 0 {
		return list, false
	}
	for _, elevator := range elevators {
		m = stepByWords(m, f, elevator, dt)
		list = append(list, m)
	}
	return list, true
}

func loadByWords(m impl.Motion, f impl.Forces) (float64, bool) {
	if math.IsNaN(f.Weight) || f.Weight <= 0 {
		return 0, false
	}
	load := overExactly(timesExactly(f.Lift, timesExactly(m.Speed, m.Speed)), f.Weight)
	if !isFinite(load) {
		return 0, false
	}
	return load, true
}

func present(list []float64) []float64 {
	return slices.DeleteFunc(slices.Clone(list), math.IsNaN)
}

func meanByWords(list []float64) (float64, int, bool) {
	there := present(list)
	if len(list) > 60 || len(there) == 0 {
		return 0, 0, false
	}
	sum := 0.0
	for _, x := range there {
		sum = plusExactly(sum, x)
	}
	return overExactly(sum, float64(len(there))), len(there), true
}

func smoothByWords(list []float64, part float64) ([]float64, bool) {
	if len(list) > 60 {
		return []float64{}, false
	}
	told := make([]float64, len(list))
	for i := range list {
		there := present(list[:i+1])
		if len(there) == 0 {
			told[i] = noNumber
			continue
		}
		y := there[0]
		for _, x := range there {
			y = plusExactly(y, timesExactly(lessExactly(x, y), part))
		}
		told[i] = y
	}
	return told, true
}

func nearByWords(a, b impl.Motion, far float64) bool {
	for _, d := range []float64{lessExactly(a.Speed, b.Speed), lessExactly(a.Height, b.Height), lessExactly(a.Pitch, b.Pitch), lessExactly(a.Rate, b.Rate)} {
		if math.IsNaN(d) || math.IsNaN(far) || d > far || d < turnedSign(far) {
			return false
		}
	}
	return true
}

func motionFrom(r *rand.Rand, part func(*rand.Rand) float64) impl.Motion {
	return motion(part(r), part(r), part(r), part(r))
}

func forcesFrom(r *rand.Rand, part func(*rand.Rand) float64) impl.Forces {
	return impl.Forces{Thrust: part(r), Drag: part(r), Lift: part(r), Damp: part(r), Weight: part(r)}
}

func floatsFrom(r *rand.Rand, many int, part func(*rand.Rand) float64) []float64 {
	list := make([]float64, many)
	for i := range list {
		list[i] = part(r)
	}
	return list
}

// gapped is a number, but for each third that is missing.
func gapped(part func(*rand.Rand) float64) func(*rand.Rand) float64 {
	return func(r *rand.Rand) float64 {
		if r.Intn(3) == 0 {
			return noNumbers[r.Intn(len(noNumbers))]
		}
		return part(r)
	}
}

func TestLimitsOfFlight(t *testing.T) {
	if impl.MaxSteps != 400 || impl.MaxSeen != 60 {
		t.Error("limits", impl.MaxSteps, impl.MaxSeen)
	}
}

func TestStepOnceByHand(t *testing.T) {
	all := impl.Forces{Thrust: 9, Drag: 1, Lift: 100, Damp: 0.5, Weight: 3}
	for _, c := range []struct {
		name         string
		m            impl.Motion
		f            impl.Forces
		elevator, dt float64
		want         impl.Motion
	}{
		// With the new Speed the Height would be 11.5, with the new Pitch 13; with the new Rate the Pitch would be 4.
		{"each from the old one", motion(2, 10, 1, 4), all, 6, 0.5, motion(3, 11, 3, 6)},
		{"at rest", impl.Motion{}, impl.Forces{}, 0, 1, impl.Motion{}},
		{"at rest, high and without forces", motion(0, 300, 0.25, 0), impl.Forces{}, 0, 0.1, motion(0, 300, 0.25, 0)},
		{"thrust alone", impl.Motion{}, impl.Forces{Thrust: 8}, 0, 0.25, motion(2, 0, 0, 0)},
		{"drag alone, by the square", motion(-3, 0, 0, 0), impl.Forces{Drag: 2}, 0, 0.5, motion(-12, 0, 0, 0)},
		{"weight alone, by the pitch", motion(0, 0, -0.5, 0), impl.Forces{Weight: 4}, 0, 0.5, motion(1, 0, -0.5, 0)},
		{"climb alone", motion(4, 7, 0.5, 0), impl.Forces{}, 0, 0.25, motion(4, 7.5, 0.5, 0)},
		{"rate alone", motion(0, 0, 1, -2), impl.Forces{}, 0, 0.25, motion(0, 0, 0.5, -2)},
		{"damp alone", motion(0, 0, 0, 2), impl.Forces{Damp: 3}, 0, 0.5, motion(0, 0, 1, -1)},
		{"elevator alone", impl.Motion{}, impl.Forces{}, -6, 0.5, motion(0, 0, 0, -3)},
		{"lift counts for nothing", motion(2, 10, 1, 4), impl.Forces{Lift: noNumber}, 0, 0.5, motion(2, 11, 3, 4)},
		{"a dt of 0", motion(2, 10, 1, 4), all, 6, 0, motion(2, 10, 1, 4)},
		{"a dt below 0", motion(2, 10, 1, 4), all, 6, -0.5, motion(1, 9, -1, 2)},
		{"no number as dt", motion(2, 10, 1, 4), all, 6, noNumber, motion(noNumber, noNumber, noNumber, noNumber)},
		{"no number as elevator", motion(2, 10, 1, 4), all, noNumber, 0.5, motion(3, 11, 3, noNumber)},
		{"no number as Height", motion(2, noNumber, 1, 4), all, 6, 0.5, motion(3, noNumber, 3, 6)},
		{"a square too great", motion(1e200, 0, 0, 0), impl.Forces{Drag: 1e-300}, 0, 1, motion(-infinite, 0, 0, 0)},
		{"a square too great by no drag", motion(1e200, 0, 0, 0), impl.Forces{}, 0, 1, motion(noNumber, 0, 0, 0)},
		{"-0 stays where -0 is put to it", motion(lessNought, lessNought, lessNought, lessNought),
			impl.Forces{Thrust: lessNought, Damp: lessNought, Weight: lessNought}, lessNought, 1,
			motion(lessNought, 0, lessNought, lessNought)},
		{"-0 and 0 is 0", motion(lessNought, lessNought, lessNought, 0), impl.Forces{}, lessNought, 1, impl.Motion{}},
	} {
		if got := impl.StepOnce(c.m, c.f, c.elevator, c.dt); !sameMotion(got, c.want) {
			t.Errorf("%s: %v, not %v", c.name, got, c.want)
		}
	}
}

// In each of these a product that is rounded meets its own rounded value; fused, what it was rounded by would be left over.
func TestStepOnceFusesNothing(t *testing.T) {
	const square = 0x1.47ae147ae147cp-7 // 0.1 by 0.1, rounded
	for _, c := range []struct {
		name         string
		m            impl.Motion
		f            impl.Forces
		elevator, dt float64
		want         impl.Motion
	}{
		{"drag", motion(3, 0, 0, 0), impl.Forces{Thrust: 0.9, Drag: 0.1}, 0, 0x1p70, motion(3, 0, 0, 0)},
		{"weight", motion(0, 0, 0.1, 0), impl.Forces{Thrust: square, Weight: 0.1}, 0, 1, motion(0, 0, 0.1, 0)},
		{"speed", motion(-square, 0, 0, 0), impl.Forces{Thrust: 0.1}, 0, 0.1, motion(0, 0, 0, 0)},
		{"height", motion(1, -square, 0.1, 0), impl.Forces{}, 0, 0.1, motion(1, 0, 0.1, 0)},
		{"pitch", motion(0, 0, -square, 0.1), impl.Forces{}, 0, 0.1, motion(0, 0, 0, 0.1)},
		{"damp", motion(0, 0, 0, 0.1), impl.Forces{Damp: 0.1}, square, 0x1p70, motion(0, 0, 0.1*0x1p70, 0.1)},
		{"rate", motion(0, 0, 0, -square), impl.Forces{}, 0.1, 0.1, motion(0, 0, -0x1.0624dd2f1a9fdp-10, 0)},
	} {
		if got := impl.StepOnce(c.m, c.f, c.elevator, c.dt); !sameMotion(got, c.want) {
			t.Errorf("%s: %v, not %v", c.name, got, c.want)
		}
	}
	eachProductIsRoundedByItself(t, "../impl/l05_step.go")
}

func reckons(op token.Token) bool {
	return op == token.ADD || op == token.SUB || op == token.MUL || op == token.QUO
}

// The document's ways ask for it: no operation takes another one's outcome on the spot.
func TestEachOutcomeOfFlightHasAVariable(t *testing.T) {
	file, err := parser.ParseFile(token.NewFileSet(), "../impl/l05_step.go", nil, parser.SkipObjectResolution)
	if err != nil {
		t.Fatal(err)
	}
	many := 0
	ast.Inspect(file, func(n ast.Node) bool {
		outer, ok := n.(*ast.BinaryExpr)
		if !ok || !reckons(outer.Op) {
			return true
		}
		many++
		for _, side := range []ast.Expr{outer.X, outer.Y} {
			ast.Inspect(side, func(n ast.Node) bool {
				if inner, ok := n.(*ast.BinaryExpr); ok && reckons(inner.Op) {
					t.Errorf("%s inside of %s", inner.Op, outer.Op)
				}
				return true
			})
		}
		return true
	})
	if many == 0 {
		t.Error("no operation")
	}
}

func TestFlyByHand(t *testing.T) {
	m, f := motion(2, 10, 1, 4), impl.Forces{Thrust: 9, Drag: 1, Damp: 0.5, Weight: 3}
	for _, c := range []struct {
		name      string
		elevators []float64
		dt        float64
		want      []impl.Motion
		ok        bool
	}{
		{"no elevator", nil, 0.5, []impl.Motion{}, true},
		{"one", []float64{6}, 0.5, []impl.Motion{motion(3, 11, 3, 6)}, true},
		{"two", []float64{6, 5}, 0.5, []impl.Motion{motion(3, 11, 3, 6), motion(-1.5, 15.5, 6, 7)}, true},
		{"two, turned about", []float64{5, 6}, 0.5, []impl.Motion{motion(3, 11, 3, 5.5), motion(-1.5, 15.5, 5.75, 7.125)}, true},
		{"a dt of 0", []float64{6}, 0, []impl.Motion{}, false},
		{"a dt of -0", []float64{6}, lessNought, []impl.Motion{}, false},
		{"a dt below 0", []float64{6}, -0.5, []impl.Motion{}, false},
		{"a dt just below 0", []float64{6}, -math.SmallestNonzeroFloat64, []impl.Motion{}, false},
		{"an infinite dt below 0", []float64{6}, -infinite, []impl.Motion{}, false},
		{"a dt that is no number", []float64{6}, noNumber, []impl.Motion{}, false},
		{"no elevator and a dt of 0", nil, 0, []impl.Motion{}, false},
		{"no elevator and a dt that is no number", nil, noNumber, []impl.Motion{}, false},
		{"a dt just above 0", []float64{6}, math.SmallestNonzeroFloat64, []impl.Motion{m}, true},
		{"an infinite dt", []float64{6}, infinite, []impl.Motion{motion(infinite, infinite, infinite, infinite)}, true},
		{"an elevator that is no number", []float64{noNumber, 6}, 0.5,
			[]impl.Motion{motion(3, 11, 3, noNumber), motion(-1.5, 15.5, noNumber, noNumber)}, true},
	} {
		if got, ok := impl.Fly(m, f, c.elevators, c.dt); !slices.EqualFunc(got, c.want, sameMotion) || ok != c.ok {
			t.Errorf("%s: %v %v, not %v %v", c.name, got, ok, c.want, c.ok)
		}
	}
}

func TestFlyOfTheMostSteps(t *testing.T) {
	one := []float64{1}
	got, ok := impl.Fly(impl.Motion{}, impl.Forces{}, slices.Repeat(one, 400), 1)
	if !ok || len(got) != 400 {
		t.Fatalf("%d steps, %v", len(got), ok)
	}
	for i, m := range got {
		if want := motion(0, 0, float64(i*(i+1)/2), float64(i+1)); !sameMotion(m, want) {
			t.Errorf("step %d: %v, not %v", i, m, want)
		}
	}
	for _, many := range []int{401, 402, 100000} {
		if got, ok := impl.Fly(impl.Motion{}, impl.Forces{}, slices.Repeat(one, many), 1); len(got) != 0 || ok {
			t.Errorf("%d elevators: %d steps, %v", many, len(got), ok)
		}
	}
}

func TestAtRestWithoutForcesNothingChanges(t *testing.T) {
	rest := motion(0, 250.5, -0.1, 0)
	got, ok := impl.Fly(rest, impl.Forces{}, make([]float64, 400), 0.1)
	if !ok || len(got) != 400 {
		t.Fatalf("%d steps, %v", len(got), ok)
	}
	for i, m := range got {
		if !sameMotion(m, rest) {
			t.Fatalf("step %d: %v, not %v", i, m, rest)
		}
	}
}

func TestWhatFliesOnFromTheMiddleFliesAsTheWhole(t *testing.T) {
	r := rand.New(rand.NewSource(50))
	for round := range 2000 {
		part := []func(*rand.Rand) float64{tameFloat, floatOf, smallWhole}[round%3]
		m, f, dt := motionFrom(r, part), forcesFrom(r, part), math.Abs(tameFloat(r))+0.01
		elevators := floatsFrom(r, 1+r.Intn(impl.MaxSteps), part)
		whole, ok := impl.Fly(m, f, elevators, dt)
		if !ok || len(whole) != len(elevators) {
			t.Fatalf("%d of %d steps, %v", len(whole), len(elevators), ok)
		}
		cut := r.Intn(len(elevators) + 1)
		ahead, ok := impl.Fly(m, f, elevators[:cut], dt)
		if !ok || !slices.EqualFunc(ahead, whole[:cut], sameMotion) {
			t.Fatalf("%v %v %v: the first %d of the whole are %v, not %v", m, f, dt, cut, whole[:cut], ahead)
		}
		middle := m
		if cut > 0 {
			middle = ahead[cut-1]
		}
		behind, ok := impl.Fly(middle, f, elevators[cut:], dt)
		if !ok || !slices.EqualFunc(behind, whole[cut:], sameMotion) {
			t.Fatalf("%v %v %v: behind %d the whole is %v, not %v", m, f, dt, cut, whole[cut:], behind)
		}
	}
}

func TestStepsAndFlightsAreAsTheWordsSay(t *testing.T) {
	r := rand.New(rand.NewSource(51))
	for range 20000 {
		m, f, elevator, dt := motionFrom(r, floatOf), forcesFrom(r, floatOf), floatOf(r), floatOf(r)
		if got, want := impl.StepOnce(m, f, elevator, dt), stepByWords(m, f, elevator, dt); !sameMotion(got, want) {
			t.Fatalf("StepOnce %v %v %v %v: %v, not %v", m, f, elevator, dt, got, want)
		}
	}
	flown := 0
	for round := range 300 {
		part := []func(*rand.Rand) float64{tameFloat, floatOf, smallWhole}[round%3]
		m, f, elevators, dt := motionFrom(r, part), forcesFrom(r, part), floatsFrom(r, r.Intn(450), part), part(r)
		got, ok := impl.Fly(m, f, elevators, dt)
		if want, wantOk := flyByWords(m, f, elevators, dt); !slices.EqualFunc(got, want, sameMotion) || ok != wantOk {
			t.Fatalf("Fly %v %v %v %v: %v %v, not %v %v", m, f, elevators, dt, got, ok, want, wantOk)
		}
		if ok {
			flown++
		}
	}
	if flown < 50 || flown > 250 {
		t.Fatalf("%d of 300 flown: too few to tell", flown)
	}
}

func TestLoad5ByHand(t *testing.T) {
	for _, c := range []struct {
		name                string
		speed, lift, weight float64
		want                float64
		ok                  bool
	}{
		{"ordinary", 4, 2, 8, 4, true},
		{"backwards", -4, 2, 8, 4, true},
		{"below 0", 4, -2, 8, -4, true},
		{"no lift", 4, 0, 8, 0, true},
		{"lift of -0", 4, lessNought, 8, lessNought, true},
		{"rounded", 1, 1, 3, 0x1.5555555555555p-2, true},
		{"a weight of 0", 4, 2, 0, 0, false},
		{"a weight of -0", 4, 2, lessNought, 0, false},
		{"no lift and a weight of 0", 4, 0, 0, 0, false},
		{"a weight below 0", 4, 2, -8, 0, false},
		{"a weight just below 0", 4, 2, -math.SmallestNonzeroFloat64, 0, false},
		{"no number as weight", 4, 2, noNumber, 0, false},
		{"an infinite weight below 0", 4, 2, -infinite, 0, false},
		{"a weight just above 0", 0x1p-537, 1, math.SmallestNonzeroFloat64, 1, true},
		{"an infinite weight", 4, 2, infinite, 0, true},
		{"the greatest that is finite", 1, math.MaxFloat64, 1, math.MaxFloat64, true},
		{"infinite by the weight alone", 1, math.MaxFloat64, 0.5, 0, false},
		{"infinite below 0", 1, -math.MaxFloat64, 0.5, 0, false},
		{"a square too great", 1e200, 1e-300, 1, 0, false},
		{"a square too great by no lift", 1e200, 0, 1, 0, false},
		{"infinite by infinite", infinite, 1, infinite, 0, false},
		// Were lift and speed multiplied ahead, it would be 1.
		{"the square first, too little", 0x1p-538, 0x1p1000, 1, 0, true},
		{"the square first, too great", 0x1p600, 0x1p-1000, 1, 0, false},
		{"no number as speed", noNumber, 2, 8, 0, false},
		{"no number as lift", 4, noNumber, 8, 0, false},
	} {
		m, f := impl.Motion{Speed: c.speed}, impl.Forces{Lift: c.lift, Weight: c.weight}
		if got, ok := impl.Load5(m, f); !sameFloat(got, c.want) || ok != c.ok {
			t.Errorf("%s: %v %v, not %v %v", c.name, got, ok, c.want, c.ok)
		}
	}
}

func TestLoad5IsAsTheWordsSay(t *testing.T) {
	r := rand.New(rand.NewSource(52))
	loads := 0
	for range 20000 {
		m, f := motionFrom(r, floatOf), forcesFrom(r, floatOf)
		got, ok := impl.Load5(m, f)
		if want, wantOk := loadByWords(m, f); !sameFloat(got, want) || ok != wantOk {
			t.Fatalf("Load5 %v %v: %v %v, not %v %v", m, f, got, ok, want, wantOk)
		}
		if ok {
			loads++
		}
	}
	if loads < 1000 || loads > 19000 {
		t.Fatalf("%d loads of 20000: too few to tell", loads)
	}
}

func TestMeanOfByHand(t *testing.T) {
	for _, c := range []struct {
		name string
		list []float64
		want float64
		many int
		ok   bool
	}{
		{"no number", nil, 0, 0, false},
		{"one", []float64{7.5}, 7.5, 1, true},
		{"two", []float64{1, 4}, 2.5, 2, true},
		{"in order", []float64{0x1p53, 1, 1, -0x1p53}, 0, 4, true},
		{"in order, turned about", []float64{1, 1, 0x1p53, -0x1p53}, 0.5, 4, true},
		{"from +0 on", []float64{lessNought}, 0, 1, true},
		{"a NaN at first", []float64{noNumber, 1, 4}, 2.5, 2, true},
		{"a NaN in between", []float64{1, noNumber, 4}, 2.5, 2, true},
		{"a NaN at the end", []float64{1, 4, noNumber}, 2.5, 2, true},
		{"every kind of NaN", append(slices.Clone(noNumbers), 6), 6, 1, true},
		{"nothing but NaNs", noNumbers, 0, 0, false},
		{"one NaN", []float64{noNumber}, 0, 0, false},
		{"infinite ones are not missing", []float64{infinite, 3}, infinite, 2, true},
		{"infinite ones below 0", []float64{3, -infinite}, -infinite, 2, true},
		{"what comes is no number", []float64{infinite, -infinite}, noNumber, 2, true},
		{"a sum too great", []float64{math.MaxFloat64, math.MaxFloat64}, infinite, 2, true},
		{"MaxSeen numbers", slices.Repeat([]float64{3}, 60), 3, 60, true},
		{"MaxSeen numbers, some missing", slices.Repeat([]float64{3, noNumber, 5}, 20), 4, 40, true},
		{"MaxSeen NaNs", slices.Repeat([]float64{noNumber}, 60), 0, 0, false},
		{"one too many", slices.Repeat([]float64{3}, 61), 0, 0, false},
		{"one too many, some missing", append(slices.Repeat([]float64{3, noNumber, 5}, 20), noNumber), 0, 0, false},
		{"far too many", slices.Repeat([]float64{3}, 100000), 0, 0, false},
	} {
		if got, many, ok := impl.MeanOf(c.list); !sameFloat(got, c.want) || many != c.many || ok != c.ok {
			t.Errorf("%s: %v %d %v, not %v %d %v", c.name, got, many, ok, c.want, c.many, c.ok)
		}
	}
}

func TestMeanOfAlikeWholeNumbersIsOneOfThem(t *testing.T) {
	for _, n := range []float64{0, 1, -1, 7, 1000003, -123456789, 1e12} {
		for many := 1; many <= impl.MaxSeen; many++ {
			if got, count, ok := impl.MeanOf(slices.Repeat([]float64{n}, many)); !sameFloat(got, n) || count != many || !ok {
				t.Errorf("%d times %v: %v %d %v", many, n, got, count, ok)
			}
		}
	}
}

func TestMeansLeaveOutWhatIsMissing(t *testing.T) {
	r := rand.New(rand.NewSource(53))
	for round := range 6000 {
		part := gapped([]func(*rand.Rand) float64{tameFloat, floatOf, smallWhole}[round%3])
		list := floatsFrom(r, r.Intn(impl.MaxSeen+3), part)
		got, many, ok := impl.MeanOf(list)
		if want, wantMany, wantOk := meanByWords(list); !sameFloat(got, want) || many != wantMany || ok != wantOk {
			t.Fatalf("MeanOf %v: %v %d %v, not %v %d %v", list, got, many, ok, want, wantMany, wantOk)
		}
		if len(list) > impl.MaxSeen {
			continue
		}
		if bare, bareMany, bareOk := impl.MeanOf(present(list)); !sameFloat(got, bare) || many != bareMany || ok != bareOk {
			t.Fatalf("MeanOf %v: %v %d %v, without what is missing %v %d %v", list, got, many, ok, bare, bareMany, bareOk)
		}
	}
}

func TestSmoothByHand(t *testing.T) {
	sixty := slices.Repeat([]float64{3}, 60)
	for _, c := range []struct {
		name string
		list []float64
		part float64
		want []float64
		ok   bool
	}{
		{"no number", nil, 0.5, []float64{}, true},
		{"one", []float64{4}, 0.5, []float64{4}, true},
		{"three", []float64{4, 8, 2}, 0.5, []float64{4, 6, 4}, true},
		{"a NaN at first", []float64{noNumber, noNumber, 4, 8}, 0.5, []float64{noNumber, noNumber, 4, 6}, true},
		{"a NaN in between", []float64{4, noNumber, 8}, 0.5, []float64{4, 4, 6}, true},
		{"a NaN at the end", []float64{4, 8, noNumber}, 0.5, []float64{4, 6, 6}, true},
		{"nothing but NaNs", noNumbers, 0.5, slices.Repeat([]float64{noNumber}, len(noNumbers)), true},
		{"every kind of NaN behind", append([]float64{4}, noNumbers...), 0.5, slices.Repeat([]float64{4}, 1+len(noNumbers)), true},
		{"a part of 0", []float64{4, 8, -3}, 0, []float64{4, 4, 4}, true},
		{"a part of 1", []float64{4, 8, -3}, 1, []float64{4, 8, -3}, true},
		{"a part of 1, rounded on the way", []float64{1e16, 1, noNumber, 0.1}, 1, []float64{1e16, 0, 0, 0.1}, true},
		{"a part of 2", []float64{4, 8, 2}, 2, []float64{4, 12, -8}, true},
		{"a part below 0", []float64{4, 8}, -0.5, []float64{4, 2}, true},
		{"a part that is no number", []float64{noNumber, 4, 8}, noNumber, []float64{noNumber, noNumber, noNumber}, true},
		// The first number, too, is gone through: its difference of 0 by an infinite part is no number.
		{"an infinite part", []float64{4, 8}, infinite, []float64{noNumber, noNumber}, true},
		{"an infinite first number", []float64{noNumber, infinite, 8}, 0.5, []float64{noNumber, noNumber, noNumber}, true},
		{"an infinite number later", []float64{4, infinite, 8, 2}, 0.5, []float64{4, infinite, noNumber, noNumber}, true},
		{"an infinite number and a part of 0", []float64{4, infinite}, 0, []float64{4, noNumber}, true},
		{"a -0 and 0 is 0", []float64{lessNought, noNumber}, 0.5, []float64{0, 0}, true},
		{"a -0 and -0", []float64{lessNought, noNumber}, -0.5, []float64{lessNought, lessNought}, true},
		// Fused, what 0.1 by 0.1 is rounded by would be left over.
		{"nothing fused", []float64{-0x1.47ae147ae147cp-7, 0x1.70a3d70a3d70bp-4}, 0.1, []float64{-0x1.47ae147ae147cp-7, 0}, true},
		{"MaxSeen numbers", sixty, 0.5, sixty, true},
		{"one too many", append(slices.Clone(sixty), 3), 0.5, []float64{}, false},
		{"one too many, a NaN", append(slices.Clone(sixty), noNumber), 0.5, []float64{}, false},
		{"far too many", slices.Repeat(sixty, 1000), 0.5, []float64{}, false},
	} {
		if got, ok := impl.Smooth(c.list, c.part); !slices.EqualFunc(got, c.want, sameFloat) || ok != c.ok {
			t.Errorf("%s: %v %v, not %v %v", c.name, got, ok, c.want, c.ok)
		}
	}
}

func TestSmoothIsAsTheWordsSay(t *testing.T) {
	r := rand.New(rand.NewSource(54))
	for round := range 3000 {
		part := []func(*rand.Rand) float64{tameFloat, floatOf, smallWhole}[round%3]
		list, by := floatsFrom(r, r.Intn(impl.MaxSeen+3), gapped(part)), part(r)
		got, ok := impl.Smooth(list, by)
		if want, wantOk := smoothByWords(list, by); !slices.EqualFunc(got, want, sameFloat) || ok != wantOk {
			t.Fatalf("Smooth %v %v: %v %v, not %v %v", list, by, got, ok, want, wantOk)
		}
	}
}

func TestFirstOverByHand(t *testing.T) {
	speeds := func(list ...float64) []impl.Motion {
		motions := []impl.Motion{}
		for _, speed := range list {
			// The other three are above every speed asked for.
			motions = append(motions, motion(speed, 1000, 1000, 1000))
		}
		return motions
	}
	for _, c := range []struct {
		name  string
		list  []impl.Motion
		speed float64
		want  int
	}{
		{"no motion", nil, 3, -1},
		{"none is above", speeds(1, 2, 3), 3, -1},
		{"the first of two", speeds(1, 4, 5), 3, 1},
		{"at first", speeds(4, 1), 3, 0},
		{"at the end", speeds(1, 3, 4), 3, 2},
		{"equal is not above", speeds(3, 3, 4), 3, 2},
		{"just above", speeds(3, math.Nextafter(3, 4)), 3, 1},
		{"-0 and 0 are equal", speeds(0, lessNought), lessNought, -1},
		{"no number is above none", speeds(noNumber, 4), 3, 1},
		{"nothing but no numbers", speeds(noNumbers...), -infinite, -1},
		{"above no number", speeds(4, infinite), noNumber, -1},
		{"above the infinite", speeds(4, infinite), infinite, -1},
		{"infinite", speeds(4, infinite), math.MaxFloat64, 1},
		{"below 0", speeds(-5, -3, -4), -4, 1},
		{"far down", append(speeds(slices.Repeat([]float64{1}, 5000)...), motion(4, 0, 0, 0)), 3, 5000},
	} {
		if got := impl.FirstOver(c.list, c.speed); got != c.want {
			t.Errorf("%s: %d, not %d", c.name, got, c.want)
		}
	}
}

func TestNear5ByHand(t *testing.T) {
	for _, c := range []struct {
		name      string
		a, b, far float64
		want      bool
	}{
		{"alike", 3, 3, 0, true},
		{"just far", 5, 3, 2, true},
		{"just far with its sign turned", 3, 5, 2, true},
		{"a bit further", math.Nextafter(5, 6), 3, 2, false},
		{"a bit further with its sign turned", 3, math.Nextafter(5, 6), 2, false},
		{"nearer", 4, 3, 2, true},
		{"far of 0", 4, 3, 0, false},
		{"far of -0", 3, 3, lessNought, true},
		{"far below 0", 3, 3, -1, false},
		{"far below 0, a difference as great", 2, 3, -1, false},
		{"no number", noNumber, 3, infinite, false},
		{"no number in b", 3, noNumber, infinite, false},
		{"no number in both", noNumber, noNumber, infinite, false},
		{"far is no number", 3, 3, noNumber, false},
		{"infinite both", infinite, infinite, infinite, false},
		{"infinite and far infinite", infinite, 3, infinite, true},
		{"infinite below 0 and far infinite", -infinite, 3, infinite, true},
		{"infinite", infinite, 3, math.MaxFloat64, false},
		{"a difference that is rounded", 0x1p53, -1, 0x1p53, true},
	} {
		for place := range 4 {
			a, b := [4]float64{1, 1, 1, 1}, [4]float64{1, 1, 1, 1}
			a[place], b[place] = c.a, c.b
			if got := impl.Near5(motion(a[0], a[1], a[2], a[3]), motion(b[0], b[1], b[2], b[3]), c.far); got != c.want {
				t.Errorf("%s, at %d: %v", c.name, place, got)
			}
		}
	}
}

func TestFirstOverAndNear5AreAsTheWordsSay(t *testing.T) {
	r := rand.New(rand.NewSource(55))
	near := 0
	for round := range 20000 {
		part := []func(*rand.Rand) float64{tameFloat, floatOf, smallWhole}[round%3]
		a, b, far := motionFrom(r, part), motionFrom(r, part), 2*part(r)
		got := impl.Near5(a, b, far)
		if want := nearByWords(a, b, far); got != want {
			t.Fatalf("Near5 %v %v %v: %v", a, b, far, got)
		}
		if got {
			near++
		}
		list := make([]impl.Motion, r.Intn(6))
		for i := range list {
			list[i] = motionFrom(r, part)
		}
		speed := part(r)
		want := slices.IndexFunc(list, func(m impl.Motion) bool { return m.Speed > speed })
		if got := impl.FirstOver(list, speed); got != want {
			t.Fatalf("FirstOver %v %v: %d, not %d", list, speed, got, want)
		}
	}
	if near < 500 {
		t.Fatalf("%d near: too few to tell", near)
	}
}

func TestFlightWritesIntoNoArgument(t *testing.T) {
	r := rand.New(rand.NewSource(56))
	for range 200 {
		list := append(floatsFrom(r, 1+r.Intn(50), gapped(tameFloat)), 77, 77)
		kept := slices.Clone(list)
		short := list[:len(list)-2]
		impl.MeanOf(short)
		flown, _ := impl.Fly(motion(1, 2, 3, 4), impl.Forces{Thrust: 1}, short, 0.5)
		again, _ := impl.Fly(motion(1, 2, 3, 4), impl.Forces{Thrust: 1}, short, 0.5)
		smooth, _ := impl.Smooth(short, 0.5)
		smoothAgain, _ := impl.Smooth(short, 0.5)
		wantFlown, wantSmooth := slices.Clone(again), slices.Clone(smoothAgain)
		for i := range short {
			flown[i], smooth[i] = impl.Motion{}, 99
		}
		if !slices.EqualFunc(list, kept, sameFloat) {
			t.Fatalf("written into: %v", list)
		}
		if !slices.EqualFunc(again, wantFlown, sameMotion) || !slices.EqualFunc(smoothAgain, wantSmooth, sameFloat) {
			t.Fatal("two answers share memory")
		}
	}
}
