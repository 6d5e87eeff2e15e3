package tests

import (
	"bytes"
	"go/ast"
	"go/parser"
	"go/token"
	"math"
	"math/big"
	"math/rand"
	"slices"
	"strconv"
	"strings"
	"testing"

	"loop.example/g00063/impl"
)

var (
	numberBounds    = bounded{"Number", 1, 1000000}
	serialBounds    = bounded{"Serial", 1, 1000000}
	loadNeedsBounds = bounded{"Needs", 0, 1000000}
)

// load18 fits every aircraft.
func load18(part string, number, needs int, data ...byte) impl.Load18 {
	return impl.Load18{Part: part, Number: number, Fits: impl.Fits{Least: 1, Most: 1000000}, Needs: needs, Data: data}
}

func fitFor(l impl.Load18, least, most int) impl.Load18 {
	l.Fits = impl.Fits{Least: least, Most: most}
	return l
}

func aboard(serial int, loads ...impl.Load18) impl.Aboard {
	return impl.Aboard{Serial: serial, Loads: loads}
}

// partNumber is a Part of its own for each number.
func partNumber(i int) string { return "p-" + strconv.Itoa(1000+i) }

// manyLoads has the Numbers 10, 20 and so on, each with a byte of its own.
func manyLoads(many int) []impl.Load18 {
	var loads []impl.Load18
	for i := range many {
		loads = append(loads, load18(partNumber(i), 10*(i+1), 0, byte(i)))
	}
	return loads
}

func sameLoad(a, b impl.Load18) bool {
	return a.Part == b.Part && a.Number == b.Number && a.Fits == b.Fits && a.Needs == b.Needs && bytes.Equal(a.Data, b.Data)
}

func sameAboard(a, b impl.Aboard) bool {
	return a.Serial == b.Serial && slices.EqualFunc(a.Loads, b.Loads, sameLoad)
}

func loadIsSo(l impl.Load18) bool {
	return isName(l.Part) && numberBounds.has(l.Number) && serialBounds.has(l.Fits.Least) && serialBounds.has(l.Fits.Most) &&
		l.Fits.Least <= l.Fits.Most && loadNeedsBounds.has(l.Needs) && len(l.Data) < 401
}

// sealByWords sums up the numbers times powers of 31, without a bound, and takes the rest last.
func sealByWords(l impl.Load18) (int, bool) {
	if !loadIsSo(l) {
		return 0, false
	}
	numbers := []int{7}
	for _, b := range []byte(l.Part) {
		numbers = append(numbers, int(b))
	}
	numbers = append(numbers, l.Number, l.Fits.Least, l.Fits.Most, l.Needs, len(l.Data))
	for _, b := range l.Data {
		numbers = append(numbers, int(b))
	}
	sum, power := new(big.Int), big.NewInt(1)
	for _, n := range slices.Backward(numbers) {
		sum.Add(sum, new(big.Int).Mul(power, big.NewInt(int64(n))))
		power.Mul(power, big.NewInt(31))
	}
	return int(sum.Mod(sum, big.NewInt(1000003)).Int64()), true
}

func mustSeal(l impl.Load18) int {
	seal, _ := sealByWords(l)
	return seal
}

// othersOf has the loads aboard without the one at a place.
func othersOf(a impl.Aboard, at int) []impl.Load18 {
	return slices.Delete(slices.Clone(a.Loads), at, at+1)
}

func oneHasNumber(loads []impl.Load18, number int) bool {
	return slices.ContainsFunc(loads, func(l impl.Load18) bool { return l.Number == number })
}

func aboardIsSo(a impl.Aboard) bool {
	for i, l := range a.Loads {
		if !loadIsSo(l) || a.Serial < l.Fits.Least || a.Serial > l.Fits.Most {
			return false
		}
		for _, later := range a.Loads[i+1:] {
			if l.Number >= later.Number || l.Part == later.Part {
				return false
			}
		}
		if l.Needs != 0 && !oneHasNumber(othersOf(a, i), l.Needs) {
			return false
		}
	}
	return serialBounds.has(a.Serial) && len(a.Loads) < 31
}

// codesOf has every code that would do, in the document's order.
func codesOf(a impl.Aboard, l impl.Load18, seal int) []int {
	if !aboardIsSo(a) || !loadIsSo(l) {
		return []int{impl.TakeBad}
	}
	var others, own []impl.Load18
	for _, one := range a.Loads {
		if one.Part == l.Part {
			own = append(own, one)
		} else {
			others = append(others, one)
		}
	}
	var codes []int
	add := func(so bool, code int) {
		if so {
			codes = append(codes, code)
		}
	}
	add(seal != mustSeal(l), impl.TakeSeal)
	add(a.Serial < l.Fits.Least || a.Serial > l.Fits.Most, impl.TakeFits)
	lacks := l.Needs != 0 && !oneHasNumber(others, l.Needs)
	breaks := len(own) == 1 && slices.ContainsFunc(others, func(o impl.Load18) bool { return o.Needs == own[0].Number })
	add(lacks || breaks, impl.TakeNeeds)
	add(len(own) == 1 && own[0].Number >= l.Number || oneHasNumber(others, l.Number), impl.TakeOld)
	add(len(own) == 0 && len(a.Loads) == 30, impl.TakeFull)
	return codes
}

// takeLoadByWords puts the load behind all, and sorts by Number then.
func takeLoadByWords(a impl.Aboard, l impl.Load18, seal int) (impl.Aboard, int) {
	if codes := codesOf(a, l, seal); len(codes) > 0 {
		return a, codes[0]
	}
	loads := []impl.Load18{l}
	for _, one := range a.Loads {
		if one.Part != l.Part {
			loads = append(loads, one)
		}
	}
	slices.SortFunc(loads, func(a, b impl.Load18) int { return a.Number - b.Number })
	return impl.Aboard{Serial: a.Serial, Loads: loads}, impl.TakeDone
}

func dropByWords(a impl.Aboard, number int) (impl.Aboard, bool) {
	if !aboardIsSo(a) {
		return a, false
	}
	for i, l := range a.Loads {
		others := impl.Aboard{Serial: a.Serial, Loads: othersOf(a, i)}
		// What is needed leaves others behind that lack it.
		if l.Number == number && aboardIsSo(others) {
			return others, true
		}
	}
	return a, false
}

func effectiveByWords(a impl.Aboard, loads []impl.Load18) ([]int, bool) {
	if !aboardIsSo(a) || len(loads) > 30 {
		return nil, false
	}
	var places []int
	for i, l := range loads {
		if !loadIsSo(l) {
			return nil, false
		}
		if len(codesOf(a, l, mustSeal(l))) == 0 {
			places = append(places, i)
		}
	}
	return places, true
}

func sealsLoad(t *testing.T, name string, l impl.Load18, want int) {
	t.Helper()
	if seal, ok := impl.Seal(l); seal != want || !ok {
		t.Errorf("%s: %d %v, not %d", name, seal, ok, want)
	}
}

// takesLoad wants the load at that place, and the others as they were, without the one put out.
func takesLoad(t *testing.T, name string, a impl.Aboard, l impl.Load18, want ...impl.Load18) {
	t.Helper()
	b, code := impl.Take18(a, l, mustSeal(l))
	if !sameAboard(b, aboard(a.Serial, want...)) || code != impl.TakeDone {
		t.Errorf("%s: %v %d, not %v", name, b, code, want)
	}
	if !impl.AboardOk(b) {
		t.Errorf("%s: what is aboard is not right: %v", name, b)
	}
}

func refusesSeal(t *testing.T, name string, a impl.Aboard, l impl.Load18, seal, want int) {
	t.Helper()
	if b, code := impl.Take18(a, l, seal); !sameAboard(b, a) || code != want {
		t.Errorf("%s: %v %d, not %d", name, b, code, want)
	}
}

func refusesLoad(t *testing.T, name string, a impl.Aboard, l impl.Load18, want int) {
	t.Helper()
	refusesSeal(t, name, a, l, mustSeal(l), want)
}

func drops(t *testing.T, name string, a impl.Aboard, number int, want ...impl.Load18) {
	t.Helper()
	if b, ok := impl.Drop18(a, number); !sameAboard(b, aboard(a.Serial, want...)) || !ok || !impl.AboardOk(b) {
		t.Errorf("%s: %v %v, not %v", name, b, ok, want)
	}
}

func refusesDrop(t *testing.T, name string, a impl.Aboard, number int) {
	t.Helper()
	if b, ok := impl.Drop18(a, number); !sameAboard(b, a) || ok {
		t.Errorf("%s: %v %v", name, b, ok)
	}
}

func isEffective(t *testing.T, name string, a impl.Aboard, loads []impl.Load18, want ...int) {
	t.Helper()
	if places, ok := impl.Effective(a, loads); !slices.Equal(places, want) || !ok {
		t.Errorf("%s: %v %v, not %v", name, places, ok, want)
	}
}

func refusesEffective(t *testing.T, name string, a impl.Aboard, loads []impl.Load18) {
	t.Helper()
	if places, ok := impl.Effective(a, loads); len(places) != 0 || ok {
		t.Errorf("%s: %v %v", name, places, ok)
	}
}

func TestLimitsAndCodesOfLoads(t *testing.T) {
	if impl.MaxLoads18 != 30 || impl.MaxBytes18 != 400 {
		t.Error(impl.MaxLoads18, impl.MaxBytes18)
	}
	codes := []int{impl.TakeDone, impl.TakeBad, impl.TakeSeal, impl.TakeFits, impl.TakeNeeds, impl.TakeOld, impl.TakeFull}
	if !slices.Equal(codes, []int{0, 1, 2, 3, 4, 5, 6}) {
		t.Error(codes)
	}
}

func numberOfLoad(l *impl.Load18, name string) *int {
	return map[string]*int{"Number": &l.Number, "Least": &l.Fits.Least, "Most": &l.Fits.Most, "Needs": &l.Needs}[name]
}

// wrongLoads hands out loads that are wrong in one thing.
func wrongLoads(use func(name string, l impl.Load18)) {
	use("nothing", impl.Load18{})
	for _, name := range wrongNames {
		use("the Part "+strconv.Quote(name), load18(name, 5, 0))
	}
	for _, b := range []bounded{numberBounds, {"Least", 1, 1000000}, {"Most", 1, 1000000}, loadNeedsBounds} {
		for _, n := range b.beyond() {
			l := load18("fan", 5, 0, 1, 2)
			*numberOfLoad(&l, b.name) = n
			use(b.name+" of "+strconv.Itoa(n), l)
		}
	}
	for _, f := range [][2]int{{2, 1}, {8, 7}, {1000000, 999999}, {1000000, 1}, {0, 0}, {1000001, 1000001}, {-5, -5}, {0, 1000001},
		{math.MinInt, math.MaxInt}, {math.MaxInt, math.MinInt}, {math.MaxInt, math.MaxInt}, {math.MinInt, math.MinInt}} {
		use("Fits", fitFor(load18("fan", 5, 0), f[0], f[1]))
	}
	for _, many := range []int{401, 402, 656, 800, 70000} {
		use(strconv.Itoa(many)+" bytes", load18("fan", 5, 0, make([]byte, many)...))
	}
}

func TestLoadOkAtItsEdges(t *testing.T) {
	right := func(name string, l impl.Load18) {
		t.Helper()
		if !impl.LoadOk(l) {
			t.Errorf("%s: %v is refused", name, l)
		}
		if _, ok := impl.Seal(l); !ok {
			t.Errorf("%s: %v has no seal", name, l)
		}
		l.Needs = 0
		takesLoad(t, name, aboard(l.Fits.Least), l, l)
	}
	for _, name := range rightNames {
		right("a Part", load18(name, 5, 0))
	}
	for _, n := range []int{1, 2, 6, 999999, 1000000} {
		right("Number", load18("fan", n, 0))
		right("Needs", load18("fan", 5, n))
		right("Fits for one", fitFor(load18("fan", 5, 0), n, n))
		right("Fits from the first", fitFor(load18("fan", 5, 0), 1, n))
		right("Fits to the last", fitFor(load18("fan", 5, 0), n, 1000000))
	}
	right("Least just below Most", fitFor(load18("fan", 5, 0), 7, 8))
	for _, many := range []int{0, 1, 2, 255, 256, 399, 400} {
		right("bytes", load18("fan", 5, 0, make([]byte, many)...))
	}
	right("no list of bytes", impl.Load18{Part: "a", Number: 1, Fits: impl.Fits{Least: 1, Most: 1}})
	wrongLoads(func(name string, l impl.Load18) {
		if impl.LoadOk(l) {
			t.Errorf("%s is taken", name)
		}
	})
}

func TestWrongLoadsAreRefusedEverywhere(t *testing.T) {
	a := aboard(50, load18("a", 2, 0), load18("b", 7, 2))
	wrongLoads(func(name string, l impl.Load18) {
		if seal, ok := impl.Seal(l); seal != 0 || ok {
			t.Errorf("%s: %d %v", name, seal, ok)
		}
		for _, seal := range []int{0, 7, -1, math.MinInt, math.MaxInt} {
			refusesSeal(t, name, a, l, seal, impl.TakeBad)
			refusesSeal(t, name, aboard(50), l, seal, impl.TakeBad)
		}
		for place := range 3 {
			good := []impl.Load18{load18("a", 3, 0), load18("c", 9, 0)}
			bad := slices.Insert(good, place, l)
			refusesEffective(t, name, a, bad)
		}
		refusesAboard(t, name, aboard(50, l))
		refusesAboard(t, name, aboard(50, load18("a", 2, 0), l))
		refusesAboard(t, name, aboard(50, l, load18("z", 1000000, 0)))
	})
}

// refusesAboard wants what is aboard refused by each function.
func refusesAboard(t *testing.T, name string, a impl.Aboard) {
	t.Helper()
	if impl.AboardOk(a) {
		t.Errorf("%s: %v is taken", name, a)
	}
	refusesLoad(t, name, a, load18("new", 999, 0), impl.TakeBad)
	refusesSeal(t, name, a, load18("new", 999, 0), -1, impl.TakeBad)
	refusesDrop(t, name, a, 2)
	for _, l := range a.Loads {
		refusesDrop(t, name, a, l.Number)
	}
	refusesEffective(t, name, a, nil)
	refusesEffective(t, name, a, []impl.Load18{load18("new", 999, 0)})
}

func TestSealByHand(t *testing.T) {
	// 7; by the Part 314; by Number, Least, Most and Needs 9736, 301817, 356309 and 45546; by how many
	// there are 411923 (of one 411924); by the byte 769608, or 255 more.
	sealsLoad(t, "no data", fitFor(load18("a", 2, 0), 1, 9), 411923)
	sealsLoad(t, "one byte of 0", fitFor(load18("a", 2, 0, 0), 1, 9), 769608)
	sealsLoad(t, "one byte of 255", fitFor(load18("a", 2, 0, 255), 1, 9), 769863)
	a := fitFor(load18("a", 2, 0, 1, 2, 255), 1, 9)
	for _, l := range []impl.Load18{a, load18("abcdefghijklmnopqrst", 1000000, 1000000, bytes.Repeat([]byte{255}, 400)...),
		load18("-", 1, 1), load18("Z9", 999999, 0, make([]byte, 400)...)} {
		sealsLoad(t, "as the words say", l, mustSeal(l))
	}
}

func TestSealsOfLoadsThatDiffer(t *testing.T) {
	base := fitFor(load18("fan", 20, 5, 10, 20, 255), 3, 90)
	others := map[string]impl.Load18{
		"Part":                 fitFor(load18("fam", 20, 5, 10, 20, 255), 3, 90),
		"Part, its order":      fitFor(load18("fna", 20, 5, 10, 20, 255), 3, 90),
		"Part, one byte more":  fitFor(load18("fan-", 20, 5, 10, 20, 255), 3, 90),
		"Number":               fitFor(load18("fan", 21, 5, 10, 20, 255), 3, 90),
		"Least":                fitFor(load18("fan", 20, 5, 10, 20, 255), 2, 90),
		"Most":                 fitFor(load18("fan", 20, 5, 10, 20, 255), 3, 91),
		"Least and Most":       fitFor(load18("fan", 20, 5, 10, 20, 255), 4, 89),
		"Needs":                fitFor(load18("fan", 20, 6, 10, 20, 255), 3, 90),
		"the first byte":       fitFor(load18("fan", 20, 5, 11, 20, 255), 3, 90),
		"the byte between":     fitFor(load18("fan", 20, 5, 10, 21, 255), 3, 90),
		"the byte 255":         fitFor(load18("fan", 20, 5, 10, 20, 0), 3, 90),
		"the order of bytes":   fitFor(load18("fan", 20, 5, 20, 10, 255), 3, 90),
		"one byte more":        fitFor(load18("fan", 20, 5, 10, 20, 255, 0), 3, 90),
		"one byte less":        fitFor(load18("fan", 20, 5, 10, 20), 3, 90),
		"one byte more, ahead": fitFor(load18("fan", 20, 5, 0, 10, 20, 255), 3, 90),
	}
	for name, l := range others {
		seal, ok := impl.Seal(l)
		if !ok || seal == mustSeal(base) || seal != mustSeal(l) {
			t.Errorf("%s: %d %v beside %d", name, seal, ok, mustSeal(base))
		}
		refusesSeal(t, name, aboard(50, load18("x", 5, 0), load18("y", 6, 0)), l, mustSeal(base), impl.TakeSeal)
	}
}

// Promise 18: loads that differ in one byte of data have unlike seals.
func TestLoadsThatDifferInOneByteHaveUnlikeSeals(t *testing.T) {
	r := rand.New(rand.NewSource(181))
	for _, many := range []int{1, 2, 3, 100, 399, 400} {
		l := load18("fan", 1+r.Intn(1000000), r.Intn(1000001), make([]byte, many)...)
		r.Read(l.Data)
		for _, at := range []int{0, many / 2, many - 1, r.Intn(many)} {
			seals, kept := map[int]int{}, l.Data[at]
			for b := range 256 {
				l.Data[at] = byte(b)
				seal, ok := impl.Seal(l)
				if before, twice := seals[seal]; twice || !ok || seal < 0 || seal >= 1000003 {
					t.Fatal("a seal twice, or none:", l, at, b, before, seal, ok)
				}
				seals[seal] = b
			}
			l.Data[at] = kept
		}
	}
}

func TestAboardOkAtItsEdges(t *testing.T) {
	chain := manyLoads(30)
	for i := range chain {
		chain[i].Needs = 10 * ((i+1)%30 + 1)
	}
	right := map[string]impl.Aboard{
		"no load":                      aboard(1),
		"a list without loads":         {Serial: 9, Loads: []impl.Load18{}},
		"the first serial":             aboard(1, load18("a", 1, 0)),
		"the last serial":              aboard(1000000, load18("a", 1, 0)),
		"29 loads":                     aboard(5, manyLoads(29)...),
		"30 loads":                     aboard(5, manyLoads(30)...),
		"the first and last numbers":   aboard(5, load18("a", 1, 0), load18("b", 1000000, 0)),
		"numbers one apart":            aboard(5, load18("a", 7, 0), load18("b", 8, 0)),
		"parts that go down":           aboard(5, load18("c", 7, 0), load18("b", 8, 0), load18("a", 9, 0)),
		"parts that differ by letters": aboard(5, load18("fan", 7, 0), load18("Fan", 8, 0), load18("fan-", 9, 0)),
		"just the Least":               aboard(5, fitFor(load18("a", 7, 0), 5, 9)),
		"just the Most":                aboard(5, fitFor(load18("a", 7, 0), 1, 5)),
		"fit for this one alone":       aboard(5, fitFor(load18("a", 7, 0), 5, 5)),
		"needs one ahead":              aboard(5, load18("a", 7, 0), load18("b", 8, 7)),
		"needs one behind":             aboard(5, load18("a", 7, 8), load18("b", 8, 0)),
		"needs one far ahead":          aboard(5, load18("a", 7, 0), load18("b", 8, 0), load18("c", 9, 7)),
		"need each other":              aboard(5, load18("a", 7, 8), load18("b", 8, 7)),
		"two need one":                 aboard(5, load18("a", 7, 8), load18("b", 8, 0), load18("c", 9, 8)),
		"30 in a ring":                 aboard(5, chain...),
	}
	for name, a := range right {
		if !impl.AboardOk(a) || !aboardIsSo(a) {
			t.Errorf("%s: %v is refused", name, a)
		}
	}
	wrong := map[string]impl.Aboard{
		"nothing":                        {},
		"a serial of 0":                  aboard(0),
		"one serial too great":           aboard(1000001),
		"31 loads":                       aboard(5, manyLoads(31)...),
		"60 loads":                       aboard(5, manyLoads(60)...),
		"numbers alike":                  aboard(5, load18("a", 7, 0), load18("b", 7, 0)),
		"numbers alike, not neighbours":  aboard(5, load18("a", 7, 0), load18("b", 8, 0), load18("c", 7, 0)),
		"numbers that go down":           aboard(5, load18("a", 8, 0), load18("b", 7, 0)),
		"numbers that go down at last":   aboard(5, load18("a", 7, 0), load18("b", 9, 0), load18("c", 8, 0)),
		"two of one Part":                aboard(5, load18("a", 7, 0), load18("a", 8, 0)),
		"two of one Part, first, last":   aboard(5, load18("a", 7, 0), load18("b", 8, 0), load18("a", 9, 0)),
		"one below the Least":            aboard(4, fitFor(load18("a", 7, 0), 5, 9)),
		"one above the Most":             aboard(10, fitFor(load18("a", 7, 0), 5, 9)),
		"the last one does not fit":      aboard(10, load18("a", 7, 0), fitFor(load18("b", 8, 0), 11, 12)),
		"the first one does not fit":     aboard(10, fitFor(load18("a", 7, 0), 1, 9), load18("b", 8, 0)),
		"needs what is not aboard":       aboard(5, load18("a", 7, 0), load18("b", 8, 9)),
		"needs one, and none is aboard":  aboard(5, load18("a", 7, 1)),
		"needs itself":                   aboard(5, load18("a", 7, 7)),
		"needs itself, others are there": aboard(5, load18("a", 6, 0), load18("b", 7, 7), load18("c", 8, 7)),
		"the last one lacks":             aboard(5, load18("a", 6, 7), load18("b", 7, 6), load18("c", 8, 5)),
		"the first one lacks":            aboard(5, load18("a", 6, 9), load18("b", 7, 6), load18("c", 8, 6)),
	}
	for name, a := range wrong {
		refusesAboard(t, name, a)
	}
	for _, serial := range serialBounds.beyond() {
		refusesAboard(t, "a serial", aboard(serial))
		refusesAboard(t, "a serial, with a load", aboard(serial, load18("a", 7, 0)))
	}
	for _, serial := range serialBounds.edges() {
		for _, least := range serialBounds.edges() {
			for _, most := range serialBounds.edges() {
				a := aboard(serial, fitFor(load18("a", 7, 0), least, most))
				if impl.AboardOk(a) != (least <= serial && serial <= most) {
					t.Error(a)
				}
			}
		}
	}
}

func TestTakesOfLoadsByHand(t *testing.T) {
	a, b, c := load18("a", 20, 0, 1, 2, 3), load18("b", 40, 20, 4), load18("c", 60, 0)
	all := aboard(50, a, b, c)
	first, middle, last := load18("new", 1, 0, 9), load18("new", 41, 0, 9), load18("new", 61, 0, 9)
	takesLoad(t, "into nothing", aboard(50), a, a)
	takesLoad(t, "first", all, first, first, a, b, c)
	takesLoad(t, "just ahead of the first", all, load18("new", 19, 0), load18("new", 19, 0), a, b, c)
	takesLoad(t, "just behind the first", all, load18("new", 21, 0), a, load18("new", 21, 0), b, c)
	takesLoad(t, "in the middle", all, middle, a, b, middle, c)
	takesLoad(t, "last", all, last, a, b, c, last)
	takesLoad(t, "the last number", all, load18("new", 1000000, 0), a, b, c, load18("new", 1000000, 0))
	takesLoad(t, "needs the first", all, load18("new", 41, 20), a, b, load18("new", 41, 20), c)
	takesLoad(t, "needs the last", all, load18("new", 1, 60), load18("new", 1, 60), a, b, c)
	takesLoad(t, "needs one that needs", all, load18("new", 41, 40), a, b, load18("new", 41, 40), c)

	takesLoad(t, "one greater", all, load18("b", 41, 20), a, load18("b", 41, 20), c)
	takesLoad(t, "one greater, other data, other needs", all, load18("b", 41, 60, 7), a, load18("b", 41, 60, 7), c)
	takesLoad(t, "goes behind all", all, load18("b", 61, 0), a, c, load18("b", 61, 0))
	takesLoad(t, "the last one, one greater", all, load18("c", 61, 0), a, b, load18("c", 61, 0))
	alone := aboard(50, a, c)
	takesLoad(t, "the first one goes to the middle of none", alone, load18("a", 59, 0), load18("a", 59, 0), c)
	takesLoad(t, "the first one goes last", alone, load18("a", 61, 0), c, load18("a", 61, 0))
	takesLoad(t, "needed by itself no more", aboard(50, load18("a", 20, 60), c), load18("a", 21, 0), load18("a", 21, 0), c)
	takesLoad(t, "alone", aboard(50, a), load18("a", 21, 0), load18("a", 21, 0))

	takesLoad(t, "just the Least", aboard(50), fitFor(a, 50, 90), fitFor(a, 50, 90))
	takesLoad(t, "just the Most", aboard(50), fitFor(a, 1, 50), fitFor(a, 1, 50))
	takesLoad(t, "fit for the first alone", aboard(1), fitFor(a, 1, 1), fitFor(a, 1, 1))
	takesLoad(t, "fit for the last alone", aboard(1000000), fitFor(a, 1000000, 1000000), fitFor(a, 1000000, 1000000))
	whole := load18("a", 1, 0, bytes.Repeat([]byte{255}, 400)...)
	takesLoad(t, "all bytes", aboard(50), whole, whole)
}

func TestFullListsOfLoadsByHand(t *testing.T) {
	full := aboard(50, manyLoads(30)...)
	fewer := aboard(50, manyLoads(29)...)
	refusesLoad(t, "full", full, load18("new", 1, 0), impl.TakeFull)
	refusesLoad(t, "full, needs one aboard", full, load18("new", 999, 10), impl.TakeFull)
	takesLoad(t, "one less than full", fewer, load18("new", 999, 0), append(manyLoads(29), load18("new", 999, 0))...)
	for i := range 30 {
		l := load18(partNumber(i), 301, 0, 77)
		takesLoad(t, "full, with one of its Part", full, l, append(othersOf(full, i), l)...)
	}
	refusesLoad(t, "full, and old", full, load18("new", 10, 0), impl.TakeOld)
	refusesLoad(t, "full, of its Part and old", full, load18(partNumber(3), 40, 0), impl.TakeOld)
	refusesLoad(t, "full, and lacks", full, load18("new", 1, 5), impl.TakeNeeds)
	refusesLoad(t, "full, and does not fit", full, fitFor(load18("new", 1, 0), 51, 60), impl.TakeFits)
	refusesSeal(t, "full, and wrongly sealed", full, load18("new", 1, 0), 5, impl.TakeSeal)
	refusesLoad(t, "full, and bad", full, load18("new", 0, 0), impl.TakeBad)
	refusesLoad(t, "more than full", aboard(50, manyLoads(31)...), load18("new", 1, 0), impl.TakeBad)
	refusesLoad(t, "more than full, of a Part", aboard(50, manyLoads(31)...), load18(partNumber(3), 999, 0), impl.TakeBad)
}

func TestRefusalsOfLoadsByHand(t *testing.T) {
	a, b, c := load18("a", 20, 0, 1, 2, 3), load18("b", 40, 20, 4), load18("c", 60, 0)
	all := aboard(50, a, b, c)
	fine := load18("new", 41, 0)
	for _, seal := range []int{0, mustSeal(fine) - 1, mustSeal(fine) + 1, -mustSeal(fine), mustSeal(fine) + 1000003,
		mustSeal(fine) - 1000003, math.MinInt, math.MaxInt, mustSeal(fine) + 1<<32} {
		refusesSeal(t, "seal", all, fine, seal, impl.TakeSeal)
	}
	refusesLoad(t, "one above its Most", all, fitFor(fine, 1, 49), impl.TakeFits)
	refusesLoad(t, "one below its Least", all, fitFor(fine, 51, 90), impl.TakeFits)
	refusesLoad(t, "needs what is not aboard", all, load18("new", 41, 39), impl.TakeNeeds)
	refusesLoad(t, "needs, and nothing is aboard", aboard(50), load18("new", 41, 20), impl.TakeNeeds)
	refusesLoad(t, "needs itself", all, load18("new", 41, 41), impl.TakeNeeds)
	refusesLoad(t, "needs the one that it puts out", all, load18("c", 61, 60), impl.TakeNeeds)
	refusesLoad(t, "needs the one that it puts out, alone", aboard(50, c), load18("c", 61, 60), impl.TakeNeeds)
	refusesLoad(t, "the one that it puts out is needed", all, load18("a", 21, 0), impl.TakeNeeds)
	refusesLoad(t, "the one that it puts out is needed, by one ahead", aboard(50, load18("a", 20, 60), c), load18("c", 61, 0), impl.TakeNeeds)
	refusesLoad(t, "the one that it puts out is needed by what it needs", all, load18("a", 21, 40), impl.TakeNeeds)
	refusesLoad(t, "both need each other", aboard(50, load18("a", 20, 60), load18("c", 60, 20)), load18("c", 61, 20), impl.TakeNeeds)
	refusesLoad(t, "just as great", all, load18("c", 60, 0), impl.TakeOld)
	refusesLoad(t, "just as great, other data", all, load18("c", 60, 0, 1), impl.TakeOld)
	refusesLoad(t, "one less", all, load18("c", 59, 0), impl.TakeOld)
	refusesLoad(t, "the least", all, load18("c", 1, 0), impl.TakeOld)
	refusesLoad(t, "the number of another one", all, load18("new", 40, 0), impl.TakeOld)
	refusesLoad(t, "the number of another one, greater than its own", all, load18("b", 60, 0), impl.TakeOld)
	refusesLoad(t, "the number of another one, less than its own", all, load18("c", 40, 0), impl.TakeOld)
	refusesLoad(t, "the number of the first", all, load18("new", 20, 0), impl.TakeOld)
	refusesLoad(t, "the number of the last", all, load18("new", 60, 0), impl.TakeOld)
	refusesLoad(t, "needs the one whose number it has", all, load18("new", 40, 40), impl.TakeOld)
}

func TestTheFirstCodeOfLoadsCounts(t *testing.T) {
	all := aboard(50, load18("a", 20, 0), load18("b", 40, 20), load18("c", 60, 0))
	outside := fitFor(load18("c", 1, 99), 51, 60)
	refusesSeal(t, "seal, fits, needs, old", all, outside, mustSeal(outside)+1, impl.TakeSeal)
	refusesLoad(t, "fits, needs, old", all, outside, impl.TakeFits)
	refusesLoad(t, "fits, needs", all, fitFor(load18("new", 1, 99), 1, 49), impl.TakeFits)
	refusesLoad(t, "fits, old", all, fitFor(load18("c", 1, 0), 1, 49), impl.TakeFits)
	refusesLoad(t, "lacks, old", all, load18("c", 1, 99), impl.TakeNeeds)
	refusesLoad(t, "lacks, the number of another", all, load18("new", 40, 99), impl.TakeNeeds)
	refusesLoad(t, "is needed, old", all, load18("a", 20, 0), impl.TakeNeeds)
	refusesLoad(t, "is needed, older", all, load18("a", 1, 0), impl.TakeNeeds)
	refusesLoad(t, "is needed, the number of another", all, load18("a", 60, 0), impl.TakeNeeds)
	refusesLoad(t, "lacks, is needed", all, load18("a", 21, 99), impl.TakeNeeds)
	refusesSeal(t, "seal, old", all, load18("c", 60, 0), 1, impl.TakeSeal)
	refusesSeal(t, "seal, needs", all, load18("new", 1, 99), 1, impl.TakeSeal)
	refusesSeal(t, "bad load, no seal", all, load18("", 1, 99), 0, impl.TakeBad)
	refusesSeal(t, "bad load, wrong seal", all, fitFor(load18("a", 0, 99), 60, 70), 9, impl.TakeBad)
	wrong := aboard(50, load18("a", 20, 21))
	refusesSeal(t, "bad aboard, wrong seal", wrong, load18("b", 21, 0), 9, impl.TakeBad)
	refusesLoad(t, "bad aboard, which the load would mend", wrong, load18("b", 21, 0), impl.TakeBad)
	refusesLoad(t, "bad aboard, which the load would put out", wrong, load18("a", 21, 0), impl.TakeBad)
}

func TestDropsByHand(t *testing.T) {
	a, b, c, d := load18("a", 20, 0, 1), load18("b", 40, 20, 2), load18("c", 60, 40, 3), load18("d", 80, 0, 4)
	all := aboard(50, a, b, c, d)
	drops(t, "the last", all, 80, a, b, c)
	drops(t, "one that needs", all, 60, a, b, d)
	refusesDrop(t, "one that is needed", all, 40)
	refusesDrop(t, "the first, which is needed", all, 20)
	drops(t, "the first", aboard(50, c0(20), c0(40)), 20, c0(40))
	drops(t, "the second", aboard(50, c0(20), c0(40)), 40, c0(20))
	drops(t, "the only one", aboard(50, a), 20)
	drops(t, "the first number", aboard(50, c0(1), c0(1000000)), 1, c0(1000000))
	drops(t, "the last number", aboard(50, c0(1), c0(1000000)), 1000000, c0(1))
	refusesDrop(t, "needed by one ahead", aboard(50, load18("a", 20, 40), load18("b", 40, 0)), 40)
	drops(t, "needs one behind", aboard(50, load18("a", 20, 40), load18("b", 40, 0)), 20, load18("b", 40, 0))
	ring := aboard(50, load18("a", 20, 40), load18("b", 40, 20))
	refusesDrop(t, "need each other, the first", ring, 20)
	refusesDrop(t, "need each other, the second", ring, 40)
	for _, number := range append([]int{0, -1, 1, 19, 21, 79, 81, 1000000, 1000001}, farNumbers...) {
		refusesDrop(t, "not aboard", all, number)
		refusesDrop(t, "nothing is aboard", aboard(50), number)
		refusesDrop(t, "not right", aboard(0, load18("a", 20, 0)), number)
	}
	full := aboard(50, manyLoads(30)...)
	for i := range 30 {
		drops(t, "of thirty", full, 10*(i+1), othersOf(full, i)...)
	}
}

// c0 is a load that needs none, with a Part of its own for each number.
func c0(number int) impl.Load18 { return load18(partNumber(number), number, 0, byte(number)) }

func TestEffectiveByHand(t *testing.T) {
	a := aboard(50, load18("a", 20, 0), load18("b", 40, 20), load18("c", 60, 0))
	fine := load18("new", 41, 0)
	isEffective(t, "none", a, nil)
	isEffective(t, "none, nothing aboard", aboard(1), []impl.Load18{})
	isEffective(t, "one", a, []impl.Load18{fine}, 0)
	isEffective(t, "one that is not", a, []impl.Load18{load18("c", 60, 0)})
	isEffective(t, "each code", a, []impl.Load18{
		fine, fitFor(fine, 51, 60), load18("new", 41, 99), load18("a", 21, 0), load18("c", 60, 0), load18("new", 40, 0),
		load18("c", 61, 60), load18("c", 61, 40), load18("b", 41, 0), load18("new", 41, 41)}, 0, 7, 8)
	isEffective(t, "not together: one Part", a, []impl.Load18{load18("n", 41, 0), load18("n", 41, 0), load18("n", 42, 0)}, 0, 1, 2)
	isEffective(t, "not together: one Number", a, []impl.Load18{load18("n", 41, 0), load18("m", 41, 0)}, 0, 1)
	isEffective(t, "not together: the second needs what the first puts out", a,
		[]impl.Load18{load18("c", 61, 0), load18("n", 70, 60)}, 0, 1)
	isEffective(t, "together alone: the second needs the first", a, []impl.Load18{load18("n", 41, 0), load18("m", 42, 41)}, 0)
	isEffective(t, "together alone: the first makes way", a, []impl.Load18{load18("b", 41, 0), load18("a", 21, 0)}, 0)
	fewer, full := aboard(50, manyLoads(29)...), aboard(50, manyLoads(30)...)
	isEffective(t, "not together: full", fewer, []impl.Load18{load18("n", 1, 0), load18("m", 2, 0)}, 0, 1)
	isEffective(t, "full", full, []impl.Load18{load18("n", 1, 0), load18(partNumber(4), 51, 0), load18("m", 2, 0)}, 1)
	var all []int
	for i := range 30 {
		all = append(all, i)
	}
	isEffective(t, "29 loads", aboard(50), manyLoads(29), all[:29]...)
	isEffective(t, "30 loads", aboard(50), manyLoads(30), all...)
	isEffective(t, "30 loads, which are aboard", full, manyLoads(30))
	refusesEffective(t, "31 loads", aboard(50), manyLoads(31))
	refusesEffective(t, "31 loads of one", a, slices.Repeat([]impl.Load18{fine}, 31))
	isEffective(t, "30 loads of one", a, slices.Repeat([]impl.Load18{fine}, 30), all...)
	for place := range 30 {
		loads := slices.Clone(manyLoads(30))
		loads[place].Fits.Least = 0
		refusesEffective(t, "one that is not right", aboard(50), loads)
	}
}

func TestLoadsAtTheEdgesOfNumbers(t *testing.T) {
	good := aboard(50, load18("a", 20, 0), load18("b", 40, 20))
	for _, x := range numberBounds.beyond() {
		for _, y := range numberBounds.beyond() {
			l := fitFor(load18("c", x, y), y, x)
			refusesSeal(t, "load", good, l, x, impl.TakeBad)
			refusesSeal(t, "seal", good, load18("c", 50, 0), x, impl.TakeSeal)
			refusesEffective(t, "load", good, []impl.Load18{l})
			refusesAboard(t, "aboard", aboard(x, l))
			refusesAboard(t, "number and needs", aboard(50, load18("a", x, 0), load18("b", y, x)))
			refusesDrop(t, "drop", aboard(x), y)
		}
	}
}

var fewParts = []string{"a", "b", "c", "d", "E", "-"}

// loadFrom draws a load whose numbers often meet those of others.
func loadFrom(r *rand.Rand, parts, numbers int) impl.Load18 {
	l := load18(fewParts[r.Intn(parts)], 1+r.Intn(numbers), 0)
	if r.Intn(2) == 0 {
		l.Needs = r.Intn(numbers + 1)
	}
	if r.Intn(3) == 0 {
		l.Fits.Least = 48 + r.Intn(4)
		l.Fits.Most = l.Fits.Least + r.Intn(4)
	}
	l.Data = make([]byte, []int{0, 1, 2, 3, 5, 8, 13, 30}[r.Intn(8)])
	r.Read(l.Data)
	return l
}

// aboardFrom takes loads in by the words until it has enough of them.
func aboardFrom(r *rand.Rand) impl.Aboard {
	a := aboard(48 + r.Intn(6))
	for range r.Intn(14) {
		l := loadFrom(r, 6, 12)
		a, _ = takeLoadByWords(a, l, mustSeal(l))
	}
	if r.Intn(8) == 0 {
		l := load18("x", 13, 0)
		for len(a.Loads) < 29+r.Intn(2) {
			l.Part, l.Number = "x"+strconv.Itoa(l.Number), l.Number+1
			a.Loads = append(slices.Clone(a.Loads), l)
		}
	}
	return a
}

func spoilLoad(r *rand.Rand, l *impl.Load18) {
	switch r.Intn(4) {
	case 0:
		l.Part = wrongNames[r.Intn(len(wrongNames))]
	case 1:
		*numberOfLoad(l, []string{"Number", "Least", "Most", "Needs"}[r.Intn(4)]) = farNumbers[r.Intn(len(farNumbers))]
	case 2:
		*numberOfLoad(l, []string{"Number", "Least", "Most", "Needs"}[r.Intn(4)]) = []int{-1, 0, 1, 1000000, 1000001}[r.Intn(5)]
	case 3:
		l.Data = make([]byte, 400+r.Intn(2))
	}
}

// spoilAboard leaves what is aboard mostly wrong, in one thing.
func spoilAboard(r *rand.Rand, a *impl.Aboard) {
	a.Loads = slices.Clone(a.Loads)
	if len(a.Loads) == 0 || r.Intn(6) == 0 {
		a.Serial = []int{0, 1000001, -50, math.MinInt, math.MaxInt, 47, 54}[r.Intn(7)]
		return
	}
	one, other := r.Intn(len(a.Loads)), r.Intn(len(a.Loads))
	switch r.Intn(6) {
	case 0:
		a.Loads[one], a.Loads[other] = a.Loads[other], a.Loads[one]
	case 1:
		a.Loads[one].Part = a.Loads[other].Part
	case 2:
		a.Loads[one].Number = a.Loads[other].Number
	case 3:
		a.Loads[one].Needs = []int{a.Loads[one].Number, a.Loads[other].Number, r.Intn(14)}[r.Intn(3)]
	case 4:
		a.Loads = slices.Delete(a.Loads, one, one+1)
	case 5:
		spoilLoad(r, &a.Loads[one])
	}
}

// loadsHold tells the code that Take18 told.
func loadsHold(t *testing.T, a impl.Aboard, l impl.Load18, seal int, loads []impl.Load18) int {
	t.Helper()
	if impl.LoadOk(l) != loadIsSo(l) || impl.AboardOk(a) != aboardIsSo(a) {
		t.Fatal(l, impl.LoadOk(l), a, impl.AboardOk(a))
	}
	got, ok := impl.Seal(l)
	if want, wantOk := sealByWords(l); got != want || ok != wantOk {
		t.Fatal(l, got, ok, want, wantOk)
	}
	b, code := impl.Take18(a, l, seal)
	if want, wantCode := takeLoadByWords(a, l, seal); !sameAboard(b, want) || code != wantCode {
		t.Fatal(a, l, seal, b, code, want, wantCode)
	}
	b, ok = impl.Drop18(a, l.Number)
	if want, wantOk := dropByWords(a, l.Number); !sameAboard(b, want) || ok != wantOk {
		t.Fatal(a, l.Number, b, ok, want, wantOk)
	}
	places, ok := impl.Effective(a, loads)
	if want, wantOk := effectiveByWords(a, loads); !slices.Equal(places, want) || ok != wantOk {
		t.Fatal(a, loads, places, ok, want, wantOk)
	}
	return code
}

func TestLoadsAreAsTheWordsSay(t *testing.T) {
	r := rand.New(rand.NewSource(182))
	told := map[int]int{}
	for range 20000 {
		a, l := aboardFrom(r), loadFrom(r, 6, 14)
		if r.Intn(5) == 0 {
			spoilAboard(r, &a)
		}
		if r.Intn(10) == 0 {
			l.Part, l.Needs, l.Number = "new", 0, 900
		}
		if r.Intn(15) == 0 {
			spoilLoad(r, &l)
		}
		seal := mustSeal(l)
		if r.Intn(12) == 0 {
			seal += r.Intn(5) - 2
		}
		var loads []impl.Load18
		for range r.Intn(6) {
			loads = append(loads, loadFrom(r, 6, 14))
		}
		if len(loads) > 0 && r.Intn(12) == 0 {
			spoilLoad(r, &loads[r.Intn(len(loads))])
		}
		told[loadsHold(t, a, l, seal, loads)]++
	}
	for code := impl.TakeDone; code <= impl.TakeFull; code++ {
		if told[code] < 150 {
			t.Error("too few of a kind were tried:", code, told)
		}
	}
}

// Every aircraft with at most three loads of three Parts and Numbers, and every load beside it.
func TestEverySmallAircraftIsAsTheWordsSay(t *testing.T) {
	var all []impl.Load18
	for _, part := range []string{"a", "b", "c"} {
		for number := 1; number <= 3; number++ {
			for needs := range 4 {
				all = append(all, load18(part, number, needs))
			}
		}
	}
	tried := 0
	var goOn func(loads []impl.Load18)
	goOn = func(loads []impl.Load18) {
		a := aboard(50, loads...)
		if impl.AboardOk(a) != aboardIsSo(a) {
			t.Fatal(a)
		}
		if impl.AboardOk(a) {
			tried++
			for _, l := range all {
				loadsHold(t, a, l, mustSeal(l), all[:30])
			}
		}
		if len(loads) == 3 {
			return
		}
		for _, l := range all {
			goOn(append(slices.Clone(loads), l))
		}
	}
	goOn(nil)
	if tried < 50 {
		t.Error("too few of a kind were tried:", tried)
	}
}

// Promise 18: what is aboard fits and has what it needs.
func TestWhatIsAboardFitsAndHasWhatItNeeds(t *testing.T) {
	r := rand.New(rand.NewSource(183))
	taken, dropped := 0, 0
	for range 300 {
		a := aboard(48 + r.Intn(6))
		for range 100 {
			l := loadFrom(r, 6, 40)
			if len(a.Loads) > 0 && r.Intn(2) == 0 {
				l.Needs = a.Loads[r.Intn(len(a.Loads))].Number
			}
			if r.Intn(6) == 0 {
				b, ok := impl.Drop18(a, l.Needs)
				if ok {
					dropped++
				}
				a = b
			} else {
				seal, _ := impl.Seal(l)
				b, code := impl.Take18(a, l, seal)
				if code == impl.TakeDone {
					taken++
				}
				a = b
			}
			if !impl.AboardOk(a) {
				t.Fatal("not right any more:", a, l)
			}
			standsByItself(t, a)
		}
	}
	if taken < 2000 || dropped < 200 {
		t.Error("too few of a kind were tried:", taken, dropped)
	}
}

func standsByItself(t *testing.T, a impl.Aboard) {
	t.Helper()
	for i, l := range a.Loads {
		if a.Serial < l.Fits.Least || a.Serial > l.Fits.Most || l.Needs != 0 && !oneHasNumber(othersOf(a, i), l.Needs) {
			t.Fatal("does not fit, or lacks what it needs:", a, l)
		}
	}
}

// Promise 18: a load is put in whole or not at all.
func TestALoadIsPutInWholeOrNotAtAll(t *testing.T) {
	r := rand.New(rand.NewSource(184))
	whole, not := 0, 0
	for range 5000 {
		a, l := aboardFrom(r), loadFrom(r, 6, 14)
		seal := mustSeal(l)
		if r.Intn(6) == 0 && len(l.Data) > 0 {
			l.Data[r.Intn(len(l.Data))] ^= byte(1 + r.Intn(255))
			refusesSeal(t, "a byte is another one", a, l, seal, impl.TakeSeal)
			continue
		}
		b, code := impl.Take18(a, l, seal)
		if code != impl.TakeDone {
			not++
			if !sameAboard(a, b) {
				t.Fatal("something is put in:", a, l, b, code)
			}
			continue
		}
		whole++
		if !slices.ContainsFunc(b.Loads, func(one impl.Load18) bool { return sameLoad(one, l) }) {
			t.Fatal("not whole:", a, l, b)
		}
		for _, one := range a.Loads {
			stays := slices.ContainsFunc(b.Loads, func(other impl.Load18) bool { return sameLoad(one, other) })
			if stays == (one.Part == l.Part) {
				t.Fatal("another one has changed, or the old one stays:", a, l, b)
			}
		}
		if places, ok := impl.Effective(a, []impl.Load18{l}); len(places) != 1 || !ok {
			t.Fatal("taken, but not effective:", a, l)
		}
		if _, code = impl.Take18(b, l, seal); code != impl.TakeOld && code != impl.TakeNeeds {
			t.Fatal("taken twice:", b, l, code)
		}
	}
	if whole < 500 || not < 500 {
		t.Error("too few of a kind were tried:", whole, not)
	}
}

func roomyLoad(l impl.Load18) impl.Load18 {
	l.Data = roomyBytes(l.Data)
	return l
}

// roomyLoads has loads behind its end that would change each answer.
func roomyLoads(loads []impl.Load18) []impl.Load18 {
	wide := make([]impl.Load18, 0, len(loads)+3)
	for _, l := range loads {
		wide = append(wide, roomyLoad(l))
	}
	return append(wide, load18("a", 14, 0, 1), load18("new", 1000000, 0, 2), impl.Load18{})[:len(loads)]
}

// allOfLoads tells all that a list of loads reaches, with what lies behind.
func allOfLoads(loads []impl.Load18) string {
	var all strings.Builder
	for _, l := range loads[:cap(loads)] {
		for _, n := range []int{l.Number, l.Fits.Least, l.Fits.Most, l.Needs, len(l.Data)} {
			all.WriteString(strconv.Itoa(n) + " ")
		}
		all.WriteString(l.Part + " ")
		all.Write(l.Data[:cap(l.Data)])
	}
	return all.String()
}

// markAboard writes over all of an answer, with its spare room.
func markAboard(a impl.Aboard, mark byte) {
	for i := range a.Loads[:cap(a.Loads)] {
		l := &a.Loads[:cap(a.Loads)][i]
		markBytes(l.Data, mark)
		*l = impl.Load18{Part: "marked", Number: int(mark), Data: l.Data}
	}
}

// markEachData writes a number of its own into the data of each load of an answer, and tells
// whether each still has it then.
func markEachData(a impl.Aboard) bool {
	for i, l := range a.Loads {
		markBytes(l.Data, byte(i+1))
	}
	for i, l := range a.Loads {
		for _, b := range l.Data {
			if b != byte(i+1) {
				return false
			}
		}
	}
	return true
}

// sharesNothing asks for an answer three times over, and spoils the first two of them.
func sharesNothing(t *testing.T, name string, ask func() impl.Aboard, want impl.Aboard, all func() string) {
	t.Helper()
	before := all()
	first, second, third := ask(), ask(), ask()
	if all() != before {
		t.Fatal(name, "an argument, or the room behind it, is written into:", want)
	}
	markAboard(first, 177)
	if !markEachData(second) {
		t.Fatal(name, "two lists of one answer share memory:", want)
	}
	if all() != before {
		t.Fatal(name, "an argument shares memory with an answer:", want)
	}
	if !sameAboard(third, want) || !sameAboard(ask(), want) {
		t.Fatal(name, "two answers share memory, or something is kept:", third, want)
	}
}

func TestLoadsShareAndWriteNothing(t *testing.T) {
	r := rand.New(rand.NewSource(185))
	done, refused := 0, 0
	for range 3000 {
		plain, l := aboardFrom(r), roomyLoad(loadFrom(r, 6, 14))
		if r.Intn(5) == 0 {
			spoilAboard(r, &plain)
		}
		a := impl.Aboard{Serial: plain.Serial, Loads: roomyLoads(plain.Loads)}
		loads := roomyLoads([]impl.Load18{loadFrom(r, 6, 14), l, loadFrom(r, 6, 14)})
		one := []impl.Load18{l}
		all := func() string { return allOfLoads(a.Loads) + allOfLoads(one) + allOfLoads(loads) }
		before, seal := all(), mustSeal(l)
		if loadsHold(t, a, l, seal, loads) == impl.TakeDone {
			done++
		} else {
			refused++
		}
		if all() != before {
			t.Fatal("an argument, or the room behind it, is written into:", a, l, loads)
		}
		want, _ := takeLoadByWords(plain, roomyLoad(l), seal)
		sharesNothing(t, "Take18", func() impl.Aboard { b, _ := impl.Take18(a, l, seal); return b }, want, all)
		want, _ = dropByWords(plain, l.Number)
		sharesNothing(t, "Drop18", func() impl.Aboard { b, _ := impl.Drop18(a, l.Number); return b }, want, all)
		places, _ := impl.Effective(a, loads)
		for i := range places[:cap(places)] {
			places[:cap(places)][i] = 99
		}
		if again, _ := impl.Effective(a, loads); slices.Contains(again, 99) {
			t.Fatal("two answers share memory:", a, loads)
		}
	}
	if done < 500 || refused < 500 {
		t.Error("too few of a kind were tried:", done, refused)
	}
}

// One list of bytes for the new load and for all aboard comes back as lists of their own.
func TestOneListOfBytesForAllLoads(t *testing.T) {
	data := []byte{1, 2, 3, 4, 5, 6}
	a := aboard(50, load18("a", 20, 0, data...), load18("b", 40, 20, data[:4]...), load18("c", 60, 0, data[2:]...))
	for i := range a.Loads {
		a.Loads[i].Data = data[:4+i%2]
	}
	l := impl.Load18{Part: "d", Number: 50, Fits: impl.Fits{Least: 1, Most: 90}, Data: data}
	wrong := a
	wrong.Serial = 0
	asked := map[string]func() (impl.Aboard, int){
		"taken":         func() (impl.Aboard, int) { return impl.Take18(a, l, mustSeal(l)) },
		"wrong seal":    func() (impl.Aboard, int) { return impl.Take18(a, l, 1) },
		"not right":     func() (impl.Aboard, int) { return impl.Take18(wrong, l, mustSeal(l)) },
		"dropped":       func() (impl.Aboard, int) { b, _ := impl.Drop18(a, 60); return b, 0 },
		"is needed":     func() (impl.Aboard, int) { b, _ := impl.Drop18(a, 20); return b, 0 },
		"drop of wrong": func() (impl.Aboard, int) { b, _ := impl.Drop18(wrong, 60); return b, 0 },
	}
	for name, ask := range asked {
		b, _ := ask()
		if !markEachData(b) || len(b.Loads) < 2 {
			t.Error(name, "two lists of one answer share memory:", b)
		}
		if !bytes.Equal(data, []byte{1, 2, 3, 4, 5, 6}) {
			t.Fatal(name, "an argument shares memory with an answer:", data)
		}
	}
}

// errorsOfLoads has the types of the file with a method Error.
func errorsOfLoads(file *ast.File) []string {
	var types []string
	for _, d := range file.Decls {
		f, ok := d.(*ast.FuncDecl)
		if !ok || f.Recv == nil || f.Name.Name != "Error" {
			continue
		}
		if id, ok := f.Recv.List[0].Type.(*ast.Ident); ok {
			types = append(types, id.Name)
		}
	}
	return types
}

// The document's 'Ways': what is refused is an error of a type of its own, asked for with
// errors.As; data are copied by copy.
func TestLoadsAreBuiltTheirWay(t *testing.T) {
	file, err := parser.ParseFile(token.NewFileSet(), "../impl/l18_load.go", nil, 0)
	if err != nil {
		t.Fatal(err)
	}
	types := errorsOfLoads(file)
	made, asked, copied := false, false, false
	ast.Inspect(file, func(n ast.Node) bool {
		switch x := n.(type) {
		case *ast.CompositeLit:
			made = made || slices.ContainsFunc(types, func(name string) bool { return isNamed(x.Type, name) })
		case *ast.CallExpr:
			chosen, ok := x.Fun.(*ast.SelectorExpr)
			asked = asked || ok && isNamed(chosen.X, "errors") && chosen.Sel.Name == "As"
			copied = copied || isNamed(x.Fun, "copy")
		}
		return true
	})
	if !made || !asked || !copied {
		t.Error("an error of a type of its own:", made, "asked for with errors.As:", asked, "copied by copy:", copied)
	}
}
