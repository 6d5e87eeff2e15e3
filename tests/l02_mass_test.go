package tests

import (
	"math"
	"math/big"
	"math/rand"
	"reflect"
	"slices"
	"testing"

	"loop.example/g00063/impl"
)

func TestLimitsOfMass(t *testing.T) {
	if impl.MaxItems != 40 || impl.MaxCorners != 10 || impl.MaxBurns != 60 {
		t.Error("limits", impl.MaxItems, impl.MaxCorners, impl.MaxBurns)
	}
}

func TestSumOfAtItsEdges(t *testing.T) {
	many := func(n int, mass, arm int) []impl.Item {
		return slices.Repeat([]impl.Item{{Mass: mass, Arm: arm}}, n)
	}
	for _, c := range []struct {
		name string
		list []impl.Item
		want impl.Sum2
		ok   bool
	}{
		{"nil", nil, impl.Sum2{}, true},
		{"empty", []impl.Item{}, impl.Sum2{}, true},
		{"two", []impl.Item{{Mass: 10, Arm: 3}, {Mass: 5, Arm: -2}}, impl.Sum2{Mass: 15, Moment: 20}, true},
		{"no mass far out", []impl.Item{{Mass: 0, Arm: 1000}, {Mass: 0, Arm: -1000}}, impl.Sum2{}, true},
		{"mass at no arm", []impl.Item{{Mass: 10000, Arm: 0}}, impl.Sum2{Mass: 10000}, true},
		{"most aft", many(40, 10000, 1000), impl.Sum2{Mass: 400000, Moment: 400000000}, true},
		{"most fore", many(40, 10000, -1000), impl.Sum2{Mass: 400000, Moment: -400000000}, true},
		{"one too many", many(41, 1, 1), impl.Sum2{}, false},
		{"mass too little", []impl.Item{{Mass: 5, Arm: 5}, {Mass: -1, Arm: 5}}, impl.Sum2{}, false},
		{"mass too great", []impl.Item{{Mass: 10001, Arm: 5}, {Mass: 1, Arm: 5}}, impl.Sum2{}, false},
		{"arm too fore", []impl.Item{{Mass: 5, Arm: 5}, {Mass: 5, Arm: -1001}}, impl.Sum2{}, false},
		{"arm too aft", []impl.Item{{Mass: 0, Arm: 1001}}, impl.Sum2{}, false},
		{"far", []impl.Item{{Mass: math.MaxInt, Arm: math.MinInt}}, impl.Sum2{}, false},
	} {
		if got, ok := impl.SumOf(c.list); got != c.want || ok != c.ok {
			t.Errorf("%s: %v %v", c.name, got, ok)
		}
	}
}

func TestMassesAndMomentsAddUp(t *testing.T) {
	r := rand.New(rand.NewSource(20))
	for range 500 {
		list := make([]impl.Item, r.Intn(impl.MaxItems+1))
		var want impl.Sum2
		for i := range list {
			list[i] = impl.Item{Mass: r.Intn(10001), Arm: r.Intn(2001) - 1000}
			want.Mass += list[i].Mass
			want.Moment += list[i].Mass * list[i].Arm
		}
		whole, ok := impl.SumOf(list)
		if !ok || whole != want {
			t.Fatalf("SumOf %v: %v %v, not %v", list, whole, ok, want)
		}
		cut := r.Intn(len(list) + 1)
		ahead, _ := impl.SumOf(list[:cut])
		behind, _ := impl.SumOf(list[cut:])
		if (impl.Sum2{Mass: ahead.Mass + behind.Mass, Moment: ahead.Moment + behind.Moment}) != whole {
			t.Fatalf("SumOf %v cut at %d: %v and %v, not %v", list, cut, ahead, behind, whole)
		}
	}
}

// level is a right envelope of that many corners, a mass unit apart.
func level(corners, fore, aft int) impl.Envelope {
	var e impl.Envelope
	for i := range corners {
		e.Mass = append(e.Mass, i+1)
		e.Fore = append(e.Fore, fore)
		e.Aft = append(e.Aft, aft)
	}
	return e
}

// wide takes every mass that it can, and every arm.
func wide() impl.Envelope {
	return impl.Envelope{Mass: []int{0, 400000}, Fore: []int{-1000, -1000}, Aft: []int{1000, 1000}}
}

var envelopeEdges = []struct {
	name     string
	envelope impl.Envelope
	want     bool
}{
	{"nothing", impl.Envelope{}, false},
	{"one corner", level(1, 0, 0), false},
	{"two corners", level(2, 0, 0), true},
	{"as many corners as may be", level(10, -5, 5), true},
	{"one corner too many", level(11, -5, 5), false},
	{"a Fore too few", impl.Envelope{Mass: []int{1, 2, 3}, Fore: []int{0, 0}, Aft: []int{1, 1, 1}}, false},
	{"a Fore too many", impl.Envelope{Mass: []int{1, 2}, Fore: []int{0, 0, 0}, Aft: []int{1, 1}}, false},
	{"an Aft too few", impl.Envelope{Mass: []int{1, 2, 3}, Fore: []int{0, 0, 0}, Aft: []int{1, 1}}, false},
	{"an Aft too many", impl.Envelope{Mass: []int{1, 2}, Fore: []int{0, 0}, Aft: []int{1, 1, 1}}, false},
	{"no Fore", impl.Envelope{Mass: []int{1, 2}, Aft: []int{1, 1}}, false},
	{"no Aft", impl.Envelope{Mass: []int{1, 2}, Fore: []int{1, 1}}, false},
	{"no Mass", impl.Envelope{Fore: []int{1, 1}, Aft: []int{1, 1}}, false},
	{"all bounds met", wide(), true},
	{"two masses alike", impl.Envelope{Mass: []int{1, 1}, Fore: []int{0, 0}, Aft: []int{1, 1}}, false},
	{"masses falling", impl.Envelope{Mass: []int{1, 3, 2}, Fore: []int{0, 0, 0}, Aft: []int{1, 1, 1}}, false},
	{"mass too little", impl.Envelope{Mass: []int{-1, 3}, Fore: []int{0, 0}, Aft: []int{1, 1}}, false},
	{"mass too great", impl.Envelope{Mass: []int{1, 400001}, Fore: []int{0, 0}, Aft: []int{1, 1}}, false},
	{"Fore is Aft", impl.Envelope{Mass: []int{1, 2}, Fore: []int{4, -4}, Aft: []int{4, -4}}, true},
	{"Fore behind Aft first", impl.Envelope{Mass: []int{1, 2}, Fore: []int{1, 0}, Aft: []int{0, 0}}, false},
	{"Fore behind Aft last", impl.Envelope{Mass: []int{1, 2}, Fore: []int{0, 1}, Aft: []int{0, 0}}, false},
	{"Fore too low", impl.Envelope{Mass: []int{1, 2}, Fore: []int{0, -1001}, Aft: []int{0, 0}}, false},
	{"Aft too high", impl.Envelope{Mass: []int{1, 2}, Fore: []int{0, 0}, Aft: []int{1001, 0}}, false},
	{"both too low", impl.Envelope{Mass: []int{1, 2}, Fore: []int{-1001, 0}, Aft: []int{-1001, 0}}, false},
	{"both too high", impl.Envelope{Mass: []int{1, 2}, Fore: []int{1001, 0}, Aft: []int{1001, 0}}, false},
	{"far", impl.Envelope{Mass: []int{math.MinInt, math.MaxInt}, Fore: []int{math.MinInt, 0}, Aft: []int{math.MaxInt, 0}}, false},
}

func TestEnvelopeOkAtItsEdges(t *testing.T) {
	one := []impl.FuelTank{{Has: 1}}
	for _, c := range envelopeEdges {
		if got := impl.EnvelopeOk(c.envelope); got != c.want {
			t.Errorf("%s: EnvelopeOk is %v", c.name, got)
		}
		if c.want {
			continue
		}
		if impl.Inside(c.envelope, impl.Sum2{Mass: 2}) {
			t.Errorf("%s: something is Inside", c.name)
		}
		if at := impl.Leaves(c.envelope, impl.Sum2{Mass: 1}, one, nil); at != -2 {
			t.Errorf("%s: Leaves tells %d", c.name, at)
		}
		if plan, ok := impl.Order(c.envelope, impl.Sum2{Mass: 1}, one, 1); ok || len(plan) != 0 {
			t.Errorf("%s: Order tells %v %v", c.name, plan, ok)
		}
	}
}

func TestInsideByHand(t *testing.T) {
	e := impl.Envelope{Mass: []int{10, 30, 31}, Fore: []int{0, 2, -3}, Aft: []int{4, 4, 5}}
	third := impl.Envelope{Mass: []int{0, 3}, Fore: []int{0, 1}, Aft: []int{0, 1}}
	heavy := impl.Envelope{Mass: []int{100, 400000}, Fore: []int{-1000, -1000}, Aft: []int{1000, 1000}}
	for _, c := range []struct {
		name         string
		envelope     impl.Envelope
		mass, moment int
		want         bool
	}{
		{"below the first mass", e, 9, 9, false},
		{"at the first mass, at the fore bound", e, 10, 0, true},
		{"at the first mass, past the fore bound", e, 10, -1, false},
		{"at the first mass, at the aft bound", e, 10, 40, true},
		{"at the first mass, past the aft bound", e, 10, 41, false},
		{"between, at the fore bound", e, 20, 20, true},
		{"between, past the fore bound", e, 20, 19, false},
		{"between, at the aft bound", e, 20, 80, true},
		{"between, past the aft bound", e, 20, 81, false},
		{"at a middle mass, at the fore bound", e, 30, 60, true},
		{"at a middle mass, past the fore bound", e, 30, 59, false},
		{"at the last mass, at the fore bound", e, 31, -93, true},
		{"at the last mass, past the fore bound", e, 31, -94, false},
		{"at the last mass, at the aft bound", e, 31, 155, true},
		{"at the last mass, past the aft bound", e, 31, 156, false},
		{"above the last mass", e, 32, 32, false},
		{"a bound of a third is above nothing", third, 1, 0, false},
		{"a bound of a third is below one", third, 1, 1, false},
		{"a bound that is whole is met", third, 3, 3, true},
		{"no mass", third, 0, 0, false},
		{"no mass in a wide one", wide(), 0, 0, false},
		{"one in a wide one", wide(), 1, 1000, true},
		{"one past it", wide(), 1, 1001, false},
		{"a mass below 0", wide(), -1, 0, false},
		{"all that it takes", heavy, 400000, 400000000, true},
		{"all that it takes to the fore", heavy, 400000, -400000000, true},
		{"one more", heavy, 400000, 400000001, false},
		{"one more to the fore", heavy, 400000, -400000001, false},
		{"the greatest moment", heavy, 400000, 1000000000, false},
		{"mass far", heavy, math.MaxInt, 0, false},
		{"mass far below", heavy, math.MinInt, 0, false},
		{"moment far", heavy, 400000, math.MaxInt, false},
		{"moment far below", heavy, 400000, math.MinInt, false},
	} {
		if got := impl.Inside(c.envelope, impl.Sum2{Mass: c.mass, Moment: c.moment}); got != c.want {
			t.Errorf("%s: %v", c.name, got)
		}
	}
}

// A product of these would wrap round to a small number and seem to lie inside.
func TestInsideOfMomentsThatWouldWrapRound(t *testing.T) {
	for _, width := range []int{1, 2, 3, 64, 1000, 1 << 18, 400000} {
		e := impl.Envelope{Mass: []int{0, width}, Fore: []int{-1000, -1000}, Aft: []int{1000, 1000}}
		for shift := 30; shift < 63; shift++ {
			for _, moment := range []int{1 << shift, -1 << shift, 3 << shift} {
				if impl.Inside(e, impl.Sum2{Mass: width, Moment: moment}) {
					t.Errorf("%d at %d is Inside", moment, width)
				}
			}
		}
	}
}

func envelopeOf(r *rand.Rand, heavy, far int) impl.Envelope {
	corners := 2 + r.Intn(impl.MaxCorners-1)
	e := impl.Envelope{Mass: ascendingList(r, corners, 0, heavy), Fore: listOf(r, corners, -far, far), Aft: listOf(r, corners, -far, far)}
	for i := range e.Fore {
		e.Fore[i], e.Aft[i] = min(e.Fore[i], e.Aft[i]), max(e.Fore[i], e.Aft[i])
	}
	return e
}

// insideByWords is the document's sentence on a right envelope, in numbers that can't round or wrap.
func insideByWords(e impl.Envelope, s impl.Sum2) bool {
	if s.Mass <= 0 || s.Moment < -1000000000 || s.Moment > 1000000000 {
		return false
	}
	fore, ok := alongList(e.Mass, rats(e.Fore), s.Mass)
	aft, _ := alongList(e.Mass, rats(e.Aft), s.Mass)
	if !ok {
		return false
	}
	arm := big.NewRat(int64(s.Moment), int64(s.Mass))
	return fore.Cmp(arm) <= 0 && arm.Cmp(aft) <= 0
}

func TestInsideIsComparedExactly(t *testing.T) {
	r := rand.New(rand.NewSource(21))
	in, out := 0, 0
	for round := range 300 {
		e := envelopeOf(r, []int{12, 60, 400000}[round%3], []int{3, 40, 1000}[round/3%3])
		for range 60 {
			mass := e.Mass[0] - 1 + r.Intn(e.Mass[len(e.Mass)-1]-e.Mass[0]+3)
			if r.Intn(4) == 0 {
				mass = e.Mass[r.Intn(len(e.Mass))]
			}
			moments := []int{r.Intn(2001)*mass - 1000*mass}
			for _, bounds := range [][]int{e.Fore, e.Aft} {
				if bound, ok := alongList(e.Mass, rats(bounds), mass); ok {
					bound = new(big.Rat).Mul(bound, big.NewRat(int64(mass), 1))
					near := int(new(big.Int).Div(bound.Num(), bound.Denom()).Int64())
					moments = append(moments, near-1, near, near+1)
				}
			}
			for _, moment := range moments {
				s := impl.Sum2{Mass: mass, Moment: moment}
				want := insideByWords(e, s)
				if got := impl.Inside(e, s); got != want {
					t.Fatalf("Inside of %v at %v: %v", e, s, got)
				}
				if want {
					in++
				} else {
					out++
				}
			}
		}
	}
	if in < 1000 || out < 1000 {
		t.Fatalf("%d inside, %d outside: too few to tell", in, out)
	}
}

var wrongTanks = []struct {
	name  string
	tanks []impl.FuelTank
}{
	{"nine tanks", make([]impl.FuelTank, 9)},
	{"has too little", []impl.FuelTank{{Has: 1}, {Has: -1}}},
	{"has too much", []impl.FuelTank{{Has: 10001}, {Has: 1}}},
	{"arm too fore", []impl.FuelTank{{Has: 1, Arm: -1001}}},
	{"arm too aft", []impl.FuelTank{{Has: 1}, {Has: 0, Arm: 1001}}},
	{"far", []impl.FuelTank{{Has: math.MinInt, Arm: math.MaxInt}}},
}

func TestWrongTanks(t *testing.T) {
	for _, c := range wrongTanks {
		for _, plan := range [][]impl.Burn{nil, {{Tank: 0, Many: 1}}, {{Tank: 99, Many: 0}}} {
			if left, at := impl.Burnt(c.tanks, plan); len(left) != 0 || at != -2 {
				t.Errorf("%s: Burnt tells %v %d", c.name, left, at)
			}
			if at := impl.Leaves(wide(), impl.Sum2{Mass: 100}, c.tanks, plan); at != -2 {
				t.Errorf("%s: Leaves tells %d", c.name, at)
			}
		}
		if plan, ok := impl.Order(wide(), impl.Sum2{Mass: 100}, c.tanks, 1); ok || len(plan) != 0 {
			t.Errorf("%s: Order tells %v %v", c.name, plan, ok)
		}
	}
}

func burns(many, tank, each int) []impl.Burn {
	return slices.Repeat([]impl.Burn{{Tank: tank, Many: each}}, many)
}

func TestBurntAtItsEdges(t *testing.T) {
	tanks := []impl.FuelTank{{Has: 10000, Arm: 1000}, {Has: 6, Arm: -1000}, {Has: 0, Arm: 3}}
	eight := slices.Repeat([]impl.FuelTank{{Has: 3}}, 8)
	for _, c := range []struct {
		name  string
		tanks []impl.FuelTank
		plan  []impl.Burn
		has   []int
		at    int
	}{
		{"nothing at all", nil, nil, nil, -1},
		{"a burn of no tank", nil, burns(1, 0, 1), nil, 0},
		{"no burn", tanks, nil, []int{10000, 6, 0}, -1},
		{"the greatest burn", tanks, burns(1, 0, 10000), []int{0, 6, 0}, -1},
		{"just all of it", tanks, burns(2, 1, 3), []int{10000, 0, 0}, -1},
		{"one more than it has", tanks, []impl.Burn{{Tank: 1, Many: 3}, {Tank: 1, Many: 4}, {Tank: 0, Many: 9}}, []int{10000, 3, 0}, 1},
		{"of an empty tank", tanks, burns(1, 2, 1), []int{10000, 6, 0}, 0},
		{"of a tank emptied", tanks, []impl.Burn{{Tank: 1, Many: 6}, {Tank: 0, Many: 1}, {Tank: 1, Many: 1}}, []int{9999, 0, 0}, 2},
		{"many 0", tanks, []impl.Burn{{Tank: 0, Many: 1}, {Tank: 0, Many: 0}}, []int{9999, 6, 0}, 1},
		{"many below 0", tanks, []impl.Burn{{Tank: 0, Many: 1}, {Tank: 0, Many: -1}}, []int{9999, 6, 0}, 1},
		{"many too many", tanks, burns(1, 0, 10001), []int{10000, 6, 0}, 0},
		{"many far", tanks, burns(1, 0, math.MinInt), []int{10000, 6, 0}, 0},
		{"a place below 0", tanks, burns(1, -1, 1), []int{10000, 6, 0}, 0},
		{"a place past the end", tanks, burns(1, 3, 1), []int{10000, 6, 0}, 0},
		{"a place far", tanks, burns(1, math.MaxInt, 1), []int{10000, 6, 0}, 0},
		{"the last of eight tanks", eight, burns(1, 7, 3), []int{3, 3, 3, 3, 3, 3, 3, 0}, -1},
		{"as many burns as may be", tanks, burns(60, 0, 1), []int{9940, 6, 0}, -1},
		{"the last of them can't be done", tanks, append(burns(59, 0, 1), impl.Burn{Tank: 2, Many: 1}), []int{9941, 6, 0}, 59},
		{"one burn too many", tanks, burns(61, 0, 1), nil, -2},
		{"one burn too many, wrong ahead", tanks, burns(61, 9, 1), nil, -2},
	} {
		left, at := impl.Burnt(c.tanks, c.plan)
		if at != c.at || len(left) != len(c.has) {
			t.Errorf("%s: %v %d", c.name, left, at)
			continue
		}
		for i, tank := range left {
			if tank != (impl.FuelTank{Has: c.has[i], Arm: c.tanks[i].Arm}) {
				t.Errorf("%s: %v", c.name, left)
			}
		}
		want := len(c.plan)
		if c.at != -1 {
			want = -2
		}
		if got := impl.Leaves(wide(), impl.Sum2{Mass: 1}, c.tanks, c.plan); got != want {
			t.Errorf("%s: Leaves tells %d, not %d", c.name, got, want)
		}
	}
}

func TestLeavesByHand(t *testing.T) {
	e := impl.Envelope{Mass: []int{10, 30}, Fore: []int{0, 2}, Aft: []int{4, 4}}
	dry := impl.Sum2{Mass: 12, Moment: 20}
	tanks := []impl.FuelTank{{Has: 6, Arm: 0}, {Has: 4, Arm: 9}}
	heavy := impl.Envelope{Mass: []int{1, 400000}, Fore: []int{-1000, -1000}, Aft: []int{1000, 1000}}
	for _, c := range []struct {
		name     string
		envelope impl.Envelope
		dry      impl.Sum2
		tanks    []impl.FuelTank
		plan     []impl.Burn
		want     int
	}{
		{"stays inside", e, dry, tanks, []impl.Burn{{Tank: 0, Many: 3}, {Tank: 0, Many: 3}, {Tank: 1, Many: 4}}, 3},
		{"no burns, inside", e, dry, tanks, nil, 0},
		{"no tanks, inside", e, dry, nil, nil, 0},
		{"outside ahead of all", e, impl.Sum2{Mass: 12, Moment: 90}, tanks, nil, -1},
		{"outside ahead of all, inside behind", e, impl.Sum2{Mass: 12, Moment: 20}, []impl.FuelTank{{Has: 1, Arm: 40}}, burns(1, 0, 1), -1},
		{"outside ahead, inside, outside again", e, impl.Sum2{Mass: 9, Moment: 9}, []impl.FuelTank{{Has: 22}, {Has: 9, Arm: 3}},
			[]impl.Burn{{Tank: 0, Many: 22}, {Tank: 1, Many: 9}}, -1},
		{"leaves behind the first", e, impl.Sum2{Mass: 10}, []impl.FuelTank{{Has: 2, Arm: 10}}, burns(1, 0, 1), 1},
		{"leaves behind the second", e, impl.Sum2{Mass: 9, Moment: 9}, []impl.FuelTank{{Has: 2, Arm: 1}}, burns(2, 0, 1), 1},
		{"leaves and comes back", e, impl.Sum2{Mass: 20, Moment: 40}, []impl.FuelTank{{Has: 1, Arm: 50}, {Has: 1, Arm: -50}},
			[]impl.Burn{{Tank: 0, Many: 1}, {Tank: 1, Many: 1}}, 0},
		{"outside, yet the plan can't be done", e, impl.Sum2{Mass: 12, Moment: 90}, tanks, burns(2, 1, 3), -2},
		{"leaves ahead of what can't be done", e, impl.Sum2{Mass: 9, Moment: 9}, []impl.FuelTank{{Has: 1, Arm: 1}}, burns(2, 0, 1), -2},
		{"dry mass at 0", heavy, impl.Sum2{}, []impl.FuelTank{{Has: 2}}, burns(2, 0, 1), 1},
		{"dry mass at its greatest", heavy, impl.Sum2{Mass: 400000}, nil, nil, 0},
		{"dry mass at its greatest and fuel", heavy, impl.Sum2{Mass: 400000}, []impl.FuelTank{{Has: 1}}, burns(1, 0, 1), -1},
		{"dry mass too little", heavy, impl.Sum2{Mass: -1}, []impl.FuelTank{{Has: 9}}, nil, -2},
		{"dry mass too great", heavy, impl.Sum2{Mass: 400001}, nil, nil, -2},
		{"dry moment at its greatest", heavy, impl.Sum2{Mass: 100000, Moment: 100000000}, nil, nil, 0},
		{"dry moment at its least", heavy, impl.Sum2{Mass: 100000, Moment: -100000000}, nil, nil, 0},
		{"dry moment too great", heavy, impl.Sum2{Mass: 400000, Moment: 100000001}, nil, nil, -2},
		{"dry moment too little", heavy, impl.Sum2{Mass: 400000, Moment: -100000001}, nil, nil, -2},
		{"dry far", heavy, impl.Sum2{Mass: math.MaxInt, Moment: math.MinInt}, nil, nil, -2},
	} {
		if got := impl.Leaves(c.envelope, c.dry, c.tanks, c.plan); got != c.want {
			t.Errorf("%s: %d, not %d", c.name, got, c.want)
		}
	}
}

func TestOrderByHand(t *testing.T) {
	e := impl.Envelope{Mass: []int{10, 30}, Fore: []int{0, 2}, Aft: []int{4, 4}}
	flat := impl.Envelope{Mass: []int{10, 30}, Fore: []int{-1, -1}, Aft: []int{1, 1}}
	tanks := []impl.FuelTank{{Has: 6, Arm: 0}, {Has: 4, Arm: 9}}
	for _, c := range []struct {
		name     string
		envelope impl.Envelope
		dry      impl.Sum2
		tanks    []impl.FuelTank
		step     int
		want     []impl.Burn
		ok       bool
	}{
		{"in order", e, impl.Sum2{Mass: 12, Moment: 20}, tanks, 3,
			[]impl.Burn{{Tank: 0, Many: 3}, {Tank: 0, Many: 3}, {Tank: 1, Many: 3}, {Tank: 1, Many: 1}}, true},
		{"all at once", e, impl.Sum2{Mass: 12, Moment: 20}, tanks, 10000, []impl.Burn{{Tank: 0, Many: 6}, {Tank: 1, Many: 4}}, true},
		{"by turns, to keep the balance", flat, impl.Sum2{Mass: 12}, []impl.FuelTank{{Has: 2, Arm: 12}, {Has: 2, Arm: -12}}, 1,
			[]impl.Burn{{Tank: 0, Many: 1}, {Tank: 1, Many: 1}, {Tank: 0, Many: 1}, {Tank: 1, Many: 1}}, true},
		{"by turns, until neither can be taken", flat, impl.Sum2{Mass: 10}, []impl.FuelTank{{Has: 3, Arm: 12}, {Has: 3, Arm: -12}}, 1,
			[]impl.Burn{{Tank: 0, Many: 1}, {Tank: 1, Many: 1}, {Tank: 0, Many: 1}, {Tank: 1, Many: 1}}, false},
		{"the second first, then the first again", flat, impl.Sum2{Mass: 20, Moment: 10}, []impl.FuelTank{{Has: 1, Arm: -30}, {Has: 1, Arm: 20}}, 1,
			[]impl.Burn{{Tank: 1, Many: 1}, {Tank: 0, Many: 1}}, true},
		{"past an empty tank", flat, impl.Sum2{Mass: 20}, []impl.FuelTank{{Has: 0, Arm: 1}, {Has: 2}, {Has: 0}}, 2, burns(1, 1, 2), true},
		{"nothing to burn", e, impl.Sum2{Mass: 12, Moment: 20}, []impl.FuelTank{{Has: 0, Arm: 4}}, 3, nil, true},
		{"no tanks", e, impl.Sum2{Mass: 12, Moment: 20}, nil, 3, nil, true},
		{"nothing to burn, outside", e, impl.Sum2{Mass: 12, Moment: 90}, nil, 3, nil, false},
		{"outside ahead of the first burn", e, impl.Sum2{Mass: 12, Moment: 20}, []impl.FuelTank{{Has: 1, Arm: 40}}, 1, nil, false},
		{"none can be taken at all", flat, impl.Sum2{Mass: 9}, []impl.FuelTank{{Has: 2}}, 2, nil, false},
		{"stops ahead of the first mass", flat, impl.Sum2{Mass: 8}, []impl.FuelTank{{Has: 4}}, 1, burns(2, 0, 1), false},
		{"stops at no mass", wide(), impl.Sum2{}, []impl.FuelTank{{Has: 4}}, 2, burns(1, 0, 2), false},
		{"step at its least", flat, impl.Sum2{Mass: 10}, []impl.FuelTank{{Has: 1}}, 1, burns(1, 0, 1), true},
		{"step too little", flat, impl.Sum2{Mass: 10}, []impl.FuelTank{{Has: 1}}, 0, nil, false},
		{"step below 0", flat, impl.Sum2{Mass: 10}, []impl.FuelTank{{Has: 1}}, -1, nil, false},
		{"step too great", flat, impl.Sum2{Mass: 10}, []impl.FuelTank{{Has: 1}}, 10001, nil, false},
		{"step too little, nothing to burn", flat, impl.Sum2{Mass: 10}, nil, 0, nil, false},
		{"step far", flat, impl.Sum2{Mass: 10}, []impl.FuelTank{{Has: 1}}, math.MaxInt, nil, false},
		{"as many burns as may be", wide(), impl.Sum2{Mass: 1}, []impl.FuelTank{{Has: 60}}, 1, burns(60, 0, 1), true},
		{"one burn more is wanted", wide(), impl.Sum2{Mass: 1}, []impl.FuelTank{{Has: 61}}, 1, burns(60, 0, 1), false},
		{"the last burn takes the rest", wide(), impl.Sum2{Mass: 1}, []impl.FuelTank{{Has: 179}}, 3, append(burns(59, 0, 3), impl.Burn{Many: 2}), true},
		{"dry mass too great", wide(), impl.Sum2{Mass: 400001}, nil, 1, nil, false},
		{"dry mass too little", wide(), impl.Sum2{Mass: -1}, []impl.FuelTank{{Has: 9}}, 1, nil, false},
		{"dry moment at its greatest", wide(), impl.Sum2{Mass: 200000, Moment: 100000000}, []impl.FuelTank{{Has: 9}}, 9, burns(1, 0, 9), true},
		{"dry moment too great", wide(), impl.Sum2{Mass: 200000, Moment: 100000001}, []impl.FuelTank{{Has: 9}}, 9, nil, false},
		{"dry moment too little", wide(), impl.Sum2{Mass: 200000, Moment: -100000001}, []impl.FuelTank{{Has: 9}}, 9, nil, false},
	} {
		if plan, ok := impl.Order(c.envelope, c.dry, c.tanks, c.step); ok != c.ok || !slices.Equal(plan, c.want) {
			t.Errorf("%s: %v %v", c.name, plan, ok)
		}
	}
}

// loadedByWords is the sum of dry and the tanks, as the document adds.
func loadedByWords(dry impl.Sum2, tanks []impl.FuelTank) impl.Sum2 {
	for _, tank := range tanks {
		dry.Mass += tank.Has
		dry.Moment += tank.Has * tank.Arm
	}
	return dry
}

func leavesByWords(e impl.Envelope, dry impl.Sum2, tanks []impl.FuelTank, plan []impl.Burn) int {
	left := slices.Clone(tanks)
	for at := -1; at < len(plan); at++ {
		if at >= 0 {
			left[plan[at].Tank].Has -= plan[at].Many
		}
		if !insideByWords(e, loadedByWords(dry, left)) {
			return at
		}
	}
	return len(plan)
}

// orderByWords goes by the document's sentence, all sums made anew.
func orderByWords(e impl.Envelope, dry impl.Sum2, tanks []impl.FuelTank, step int) ([]impl.Burn, bool) {
	var plan []impl.Burn
	left := slices.Clone(tanks)
	if !insideByWords(e, loadedByWords(dry, left)) {
		return nil, false
	}
	for {
		if !slices.ContainsFunc(left, func(tank impl.FuelTank) bool { return tank.Has > 0 }) {
			return plan, true
		}
		if len(plan) == impl.MaxBurns {
			return plan, false
		}
		taken := false
		for i, tank := range left {
			many := min(step, tank.Has)
			if many == 0 {
				continue
			}
			left[i].Has -= many
			if insideByWords(e, loadedByWords(dry, left)) {
				plan = append(plan, impl.Burn{Tank: i, Many: many})
				taken = true
				break
			}
			left[i].Has += many
		}
		if !taken {
			return plan, false
		}
	}
}

// flightOf makes an envelope with room about the dry sum, so that plans end in every way.
func flightOf(r *rand.Rand) (impl.Envelope, impl.Sum2, []impl.FuelTank, int) {
	each := []int{4, 20, 300}[r.Intn(3)]
	tanks := make([]impl.FuelTank, r.Intn(9))
	for i := range tanks {
		tanks[i] = impl.FuelTank{Has: r.Intn(each + 1), Arm: r.Intn(81) - 40}
	}
	dry := impl.Sum2{Mass: 20 + r.Intn(200)}
	dry.Moment = dry.Mass * (r.Intn(7) - 3)
	full := loadedByWords(dry, tanks)
	low := max(0, dry.Mass-r.Intn(4))
	corners := 2 + r.Intn(3)
	e := impl.Envelope{Mass: ascendingList(r, corners, low, full.Mass+8), Fore: listOf(r, corners, -25, -3), Aft: listOf(r, corners, 3, 25)}
	if r.Intn(3) > 0 {
		e.Mass[0], e.Mass[corners-1] = low, full.Mass+8
	}
	return e, dry, tanks, 1 + r.Intn(each)
}

func TestPlansStayInsideAndBurnAll(t *testing.T) {
	r := rand.New(rand.NewSource(22))
	ends := map[string]int{}
	for range 6000 {
		e, dry, tanks, step := flightOf(r)
		plan, ok := impl.Order(e, dry, tanks, step)
		want, wantOk := orderByWords(e, dry, tanks, step)
		if ok != wantOk || !slices.Equal(plan, want) {
			t.Fatalf("Order of %v %v %v %d: %v %v, not %v %v", e, dry, tanks, step, plan, ok, want, wantOk)
		}
		left, at := impl.Burnt(tanks, plan)
		if at != -1 {
			t.Fatalf("the plan %v of %v can't be done at %d", plan, tanks, at)
		}
		burnt := make([]int, len(tanks))
		for _, b := range plan {
			burnt[b.Tank] += b.Many
		}
		for i, tank := range left {
			if tank.Has+burnt[i] != tanks[i].Has || tank.Arm != tanks[i].Arm {
				t.Fatalf("%d burnt of %v leaves %v", burnt[i], tanks[i], tank)
			}
			if ok && tank.Has != 0 {
				t.Fatalf("the plan %v of %v leaves %v", plan, tanks, left)
			}
		}
		leaves := impl.Leaves(e, dry, tanks, plan)
		if ok && leaves != len(plan) {
			t.Fatalf("the plan %v of %v %v %v leaves the envelope at %d", plan, e, dry, tanks, leaves)
		}
		switch {
		case ok && len(plan) > 0:
			ends["full"]++
		case ok:
			ends["nothing"]++
		case leaves == -1:
			ends["outside"]++
		case len(plan) == impl.MaxBurns:
			ends["many"]++
		default:
			ends["stuck"]++
		}
	}
	for _, end := range []string{"full", "nothing", "outside", "many", "stuck"} {
		if ends[end] < 20 {
			t.Errorf("only %d plans end so: %s", ends[end], end)
		}
	}
}

func TestLeavesAgainstItsWords(t *testing.T) {
	r := rand.New(rand.NewSource(23))
	ends := map[string]int{}
	for range 6000 {
		e, dry, tanks, step := flightOf(r)
		left := slices.Clone(tanks)
		var plan []impl.Burn
		for range r.Intn(12) {
			if len(tanks) == 0 {
				break
			}
			b := impl.Burn{Tank: r.Intn(len(tanks)), Many: step}
			b.Many = min(b.Many, left[b.Tank].Has)
			if b.Many > 0 {
				left[b.Tank].Has -= b.Many
				plan = append(plan, b)
			}
		}
		if got, at := impl.Burnt(tanks, plan); at != -1 || !slices.Equal(got, left) {
			t.Fatalf("Burnt of %v %v: %v %d, not %v", tanks, plan, got, at, left)
		}
		want := leavesByWords(e, dry, tanks, plan)
		if got := impl.Leaves(e, dry, tanks, plan); got != want {
			t.Fatalf("Leaves of %v %v %v %v: %d, not %d", e, dry, tanks, plan, got, want)
		}
		switch {
		case want == -1:
			ends["outside"]++
		case want < len(plan):
			ends["leaves"]++
		default:
			ends["stays"]++
		}
	}
	for _, end := range []string{"outside", "leaves", "stays"} {
		if ends[end] < 100 {
			t.Errorf("only %d plans end so: %s", ends[end], end)
		}
	}
}

func TestMassWritesIntoNoArgument(t *testing.T) {
	r := rand.New(rand.NewSource(24))
	mark := impl.FuelTank{Has: 77, Arm: 77}
	for range 300 {
		e, dry, tanks, step := flightOf(r)
		e2 := impl.Envelope{Mass: roomy(e.Mass), Fore: roomy(e.Fore), Aft: roomy(e.Aft)}
		tanks2 := append(slices.Clone(tanks), mark, mark, mark)[:len(tanks)]
		plan, _ := impl.Order(e2, dry, tanks2, step)
		plan2 := append(slices.Clone(plan), impl.Burn{Tank: 77}, impl.Burn{Tank: 77})[:len(plan)]
		left, _ := impl.Burnt(tanks2, plan2)
		impl.Leaves(e2, dry, tanks2, plan2)
		impl.Inside(e2, dry)
		// What is answered is new memory: writing into it, and behind it, is seen nowhere.
		for i := range left {
			left[i] = impl.FuelTank{Has: -5, Arm: -5}
		}
		_ = append(left, impl.FuelTank{Has: -5})
		if !slices.Equal(tanks2, tanks) || !slices.Equal(plan2, plan) || !reflect.DeepEqual(e2, e) {
			t.Fatalf("an argument was changed: %v %v %v", e2, tanks2, plan2)
		}
		for _, list := range [][]int{e2.Mass, e2.Fore, e2.Aft} {
			if !slices.Equal(list[len(list):len(list)+4], []int{77, 77, 77, 77}) {
				t.Fatalf("the room behind a list was changed: %v", list[:len(list)+4])
			}
		}
		if behind := tanks2[len(tanks) : len(tanks)+3]; !slices.Equal(behind, []impl.FuelTank{mark, mark, mark}) {
			t.Fatalf("the room behind the tanks was changed: %v", behind)
		}
		if behind := plan2[len(plan) : len(plan)+2]; !slices.Equal(behind, burns(2, 77, 0)) {
			t.Fatalf("the room behind the plan was changed: %v", behind)
		}
	}
	items := []impl.Item{{Mass: 1, Arm: 2}, {Mass: 3, Arm: 4}, {Mass: 77, Arm: 77}}
	impl.SumOf(items[:2])
	if !slices.Equal(items, []impl.Item{{Mass: 1, Arm: 2}, {Mass: 3, Arm: 4}, {Mass: 77, Arm: 77}}) {
		t.Errorf("the items were changed: %v", items)
	}
}

func TestMassAnswersAtFarNumbers(t *testing.T) {
	for _, a := range farNumbers {
		for _, b := range farNumbers {
			tanks := []impl.FuelTank{{Has: a, Arm: b}}
			if left, at := impl.Burnt(tanks, burns(1, a, b)); len(left) != 0 || at != -2 {
				t.Errorf("Burnt at %d %d: %v %d", a, b, left, at)
			}
			if left, at := impl.Burnt([]impl.FuelTank{{Has: 9}}, burns(1, a, b)); len(left) != 1 || at != 0 {
				t.Errorf("a burn of %d %d: %v %d", a, b, left, at)
			}
			if at := impl.Leaves(wide(), impl.Sum2{Mass: 5, Moment: 5}, []impl.FuelTank{{Has: 9}}, burns(1, a, b)); at != -2 {
				t.Errorf("Leaves of a burn of %d %d: %d", a, b, at)
			}
			if plan, ok := impl.Order(wide(), impl.Sum2{Mass: 5}, []impl.FuelTank{{Has: 9}}, a); ok && (a < 1 || a > 10000) || !ok && len(plan) > 0 {
				t.Errorf("Order by %d: %v %v", a, plan, ok)
			}
		}
	}
}
