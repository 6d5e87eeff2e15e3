package tests

import (
	"cmp"
	"go/ast"
	"go/parser"
	"go/token"
	"math"
	"math/bits"
	"math/rand"
	"reflect"
	"slices"
	"testing"

	"loop.example/g00063/impl"
)

func source(bus, power int) impl.Source { return impl.Source{Bus: bus, Power: power, Works: true} }

func brokenSource(bus, power int) impl.Source { return impl.Source{Bus: bus, Power: power} }

func closed(a, b int) impl.Tie { return impl.Tie{A: a, B: b, Closed: true} }

func open(a, b int) impl.Tie { return impl.Tie{A: a, B: b} }

func use(bus, power, rank int) impl.Use { return impl.Use{Bus: bus, Power: power, Rank: rank} }

// chain ties each bus to the next one, from the last ones on.
func chain(buses int, isClosed bool) []impl.Tie {
	var ties []impl.Tie
	for b := buses - 1; b > 0; b-- {
		ties = append(ties, impl.Tie{A: b - 1, B: b, Closed: isClosed})
	}
	return ties
}

func battery(charge, most, loss int) impl.Battery {
	return impl.Battery{Charge: charge, Most: most, Loss: loss}
}

func pump(state, pressure, fault int) impl.Pump7 {
	return impl.Pump7{State: state, Pressure: pressure, Fault: fault}
}

func netIsSo(n impl.Net7) bool {
	isBus := func(bus int) bool { return bus >= 0 && bus < n.Buses }
	wrong := n.Buses < 1 || n.Buses > 8 || len(n.Sources) > 6 || len(n.Ties) > 16 || len(n.Uses) > 40
	for _, s := range n.Sources {
		wrong = wrong || !isBus(s.Bus) || s.Power < 0 || s.Power > 100000
	}
	for _, tie := range n.Ties {
		wrong = wrong || !isBus(tie.A) || !isBus(tie.B) || tie.A == tie.B
	}
	for _, u := range n.Uses {
		wrong = wrong || !isBus(u.Bus) || u.Power < 1 || u.Power > 100000 || u.Rank < 0 || u.Rank > 9
	}
	return !wrong
}

// islandsByWords spreads the least bus over closed ties as often as there are buses.
func islandsByWords(n impl.Net7) ([]int, bool) {
	if !netIsSo(n) {
		return nil, false
	}
	var least []int
	for b := range n.Buses {
		least = append(least, b)
	}
	for range n.Buses {
		for _, tie := range n.Ties {
			if tie.Closed {
				lesser := min(least[tie.A], least[tie.B])
				least[tie.A], least[tie.B] = lesser, lesser
			}
		}
	}
	return least, true
}

// givenByIsland is what working sources give, by the least bus of their island.
func givenByIsland(n impl.Net7, islands []int) map[int]int {
	given := map[int]int{}
	for _, s := range n.Sources {
		if s.Works {
			given[islands[s.Bus]] += s.Power
		}
	}
	return given
}

func placesByRank(n impl.Net7) []int {
	var places []int
	for place := range n.Uses {
		places = append(places, place)
	}
	slices.SortStableFunc(places, func(a, b int) int { return cmp.Compare(n.Uses[a].Rank, n.Uses[b].Rank) })
	return places
}

func shedByWords(n impl.Net7) ([]int, bool) {
	islands, ok := islandsByWords(n)
	if !ok {
		return nil, false
	}
	given := givenByIsland(n, islands)
	var shed []int
	for _, place := range placesByRank(n) {
		u := n.Uses[place]
		if given[islands[u.Bus]] < u.Power {
			shed = append(shed, place)
		} else {
			given[islands[u.Bus]] -= u.Power
		}
	}
	slices.Sort(shed)
	return shed, true
}

func withTiesClosed(n impl.Net7, places []int) impl.Net7 {
	n.Ties = slices.Clone(n.Ties)
	for _, place := range places {
		n.Ties[place].Closed = true
	}
	return n
}

func feedsRankNought(n impl.Net7) bool {
	shed, _ := shedByWords(n)
	return !slices.ContainsFunc(shed, func(place int) bool { return n.Uses[place].Rank == 0 })
}

// closeForByWords goes through all sets of ties, and keeps the best that suffices.
func closeForByWords(n impl.Net7, most int) ([]int, bool) {
	var best []int
	found := false
	if !netIsSo(n) || most < 0 || most > 3 {
		return nil, false
	}
	for set := range uint(1) << len(n.Ties) {
		if bits.OnesCount(set) > most {
			continue
		}
		var places []int
		for place, tie := range n.Ties {
			if set>>place&1 == 1 && !tie.Closed {
				places = append(places, place)
			}
		}
		better := !found || len(places) < len(best) || len(places) == len(best) && slices.Compare(places, best) < 0
		if len(places) == bits.OnesCount(set) && better && feedsRankNought(withTiesClosed(n, places)) {
			best, found = places, true
		}
	}
	return best, found
}

func lastsByWords(b impl.Battery, draws []int) (int, int, bool) {
	if b.Charge < 0 || b.Charge > b.Most || b.Most > 1000000 || b.Loss < 0 || b.Loss > 100 || len(draws) > 300 || !allIn(draws, -100000, 100000) {
		return 0, 0, false
	}
	charges := []int{b.Charge}
	for _, draw := range draws {
		charge := charges[len(charges)-1] - draw - b.Loss
		if charge > b.Most {
			charge = b.Most
		}
		if charge < 0 {
			break
		}
		charges = append(charges, charge)
	}
	return len(charges) - 1, charges[len(charges)-1], true
}

func pumpByWords(p impl.Pump7, want bool, leak int) (impl.Pump7, bool) {
	if p.State < 0 || p.State > 2 || p.Pressure < 0 || p.Pressure > 5000 || p.Fault < 0 || p.Fault > 5 || leak < 0 || leak > 500 {
		return impl.Pump7{}, false
	}
	was := p.State
	if was != 2 {
		p.State = map[bool]int{false: 0, true: 1}[want]
	}
	p.Pressure += map[int]int{1: 200}[p.State]
	p.Pressure -= leak
	if p.Pressure < 0 {
		p.Pressure = 0
	}
	if p.Pressure > 5000 {
		p.Pressure = 5000
	}
	if was == 2 {
		return p, true
	}
	if p.State == 1 && p.Pressure < 1000 {
		p.Fault++
	} else {
		p.Fault = 0
	}
	if p.Fault >= 5 {
		p.Fault, p.State = 5, 2
	}
	return p, true
}

func TestLimitsOfPower(t *testing.T) {
	if impl.MaxSources != 6 || impl.MaxBuses != 8 || impl.MaxUses != 40 || impl.MaxTies != 16 {
		t.Error("limits", impl.MaxSources, impl.MaxBuses, impl.MaxUses, impl.MaxTies)
	}
	if impl.PumpOff != 0 || impl.PumpOn != 1 || impl.PumpOut != 2 {
		t.Error("states", impl.PumpOff, impl.PumpOn, impl.PumpOut)
	}
}

var rightNets = []struct {
	name string
	net  impl.Net7
}{
	{"one bus alone", impl.Net7{Buses: 1}},
	{"eight buses alone", impl.Net7{Buses: 8}},
	{"one of all", impl.Net7{Buses: 2, Sources: []impl.Source{source(1, 5)}, Ties: []impl.Tie{open(1, 0)}, Uses: []impl.Use{use(0, 3, 2)}}},
	{"as many as may be", impl.Net7{Buses: 8, Sources: slices.Repeat([]impl.Source{source(7, 100000)}, 6), Ties: slices.Repeat([]impl.Tie{closed(7, 0)}, 16), Uses: slices.Repeat([]impl.Use{use(7, 100000, 9)}, 40)}},
	{"a source that gives nothing", impl.Net7{Buses: 1, Sources: []impl.Source{source(0, 0)}}},
	{"a source of 1", impl.Net7{Buses: 1, Sources: []impl.Source{source(0, 1)}}},
	{"the strongest source", impl.Net7{Buses: 1, Sources: []impl.Source{brokenSource(0, 100000)}}},
	{"the strongest source at the last place", impl.Net7{Buses: 1, Sources: append(slices.Repeat([]impl.Source{source(0, 0)}, 5), source(0, 100000))}},
	{"a use of 1", impl.Net7{Buses: 1, Uses: []impl.Use{use(0, 1, 0)}}},
	{"the strongest use", impl.Net7{Buses: 1, Uses: []impl.Use{use(0, 100000, 9)}}},
	{"a tie to the last bus", impl.Net7{Buses: 8, Ties: []impl.Tie{open(0, 7), closed(7, 0), open(0, 7)}}},
}

var wrongNets = []struct {
	name string
	net  impl.Net7
}{
	{"the zero value", impl.Net7{}},
	{"a bus below none", impl.Net7{Buses: -1}},
	{"nine buses", impl.Net7{Buses: 9}},
	{"far too many buses", impl.Net7{Buses: math.MaxInt}},
	{"far too few buses", impl.Net7{Buses: math.MinInt}},
	{"seven sources", impl.Net7{Buses: 1, Sources: slices.Repeat([]impl.Source{source(0, 1)}, 7)}},
	{"seven sources that do not work", impl.Net7{Buses: 1, Sources: slices.Repeat([]impl.Source{brokenSource(0, 0)}, 7)}},
	{"17 ties", impl.Net7{Buses: 2, Ties: slices.Repeat([]impl.Tie{open(0, 1)}, 17)}},
	{"41 uses", impl.Net7{Buses: 1, Uses: slices.Repeat([]impl.Use{use(0, 1, 0)}, 41)}},
	{"a source on the bus behind the last", impl.Net7{Buses: 7, Sources: []impl.Source{source(7, 1)}}},
	{"a source on bus -1", impl.Net7{Buses: 7, Sources: []impl.Source{source(-1, 1)}}},
	{"a broken source on no bus", impl.Net7{Buses: 7, Sources: []impl.Source{source(1, 1), brokenSource(7, 1)}}},
	{"a source of -1", impl.Net7{Buses: 7, Sources: []impl.Source{source(0, -1)}}},
	{"a source of 100001", impl.Net7{Buses: 7, Sources: []impl.Source{source(0, 100001)}}},
	{"a last source of 100001", impl.Net7{Buses: 7, Sources: append(slices.Repeat([]impl.Source{source(0, 1)}, 5), brokenSource(0, 100001))}},
	{"a far source", impl.Net7{Buses: 7, Sources: []impl.Source{source(math.MaxInt, math.MinInt)}}},
	{"a tie from the bus behind the last", impl.Net7{Buses: 7, Ties: []impl.Tie{open(7, 1)}}},
	{"a tie to the bus behind the last", impl.Net7{Buses: 7, Ties: []impl.Tie{closed(1, 7)}}},
	{"a tie from bus -1", impl.Net7{Buses: 7, Ties: []impl.Tie{closed(-1, 1)}}},
	{"a tie to bus -1", impl.Net7{Buses: 7, Ties: []impl.Tie{open(1, -1)}}},
	{"a tie of a bus with itself", impl.Net7{Buses: 7, Ties: []impl.Tie{open(0, 1), closed(3, 3)}}},
	{"an open tie of a bus with itself", impl.Net7{Buses: 7, Ties: []impl.Tie{open(0, 0)}}},
	{"a far tie", impl.Net7{Buses: 7, Ties: []impl.Tie{closed(math.MaxInt, math.MinInt)}}},
	{"a use on the bus behind the last", impl.Net7{Buses: 7, Uses: []impl.Use{use(7, 1, 1)}}},
	{"a use on bus -1", impl.Net7{Buses: 7, Uses: []impl.Use{use(-1, 1, 1)}}},
	{"a use of 0", impl.Net7{Buses: 7, Uses: []impl.Use{use(0, 0, 1)}}},
	{"a use of -1", impl.Net7{Buses: 7, Uses: []impl.Use{use(0, -1, 1)}}},
	{"a use of 100001", impl.Net7{Buses: 7, Uses: []impl.Use{use(0, 100001, 1)}}},
	{"a rank of -1", impl.Net7{Buses: 7, Uses: []impl.Use{use(0, 1, -1)}}},
	{"a rank of 10", impl.Net7{Buses: 7, Uses: []impl.Use{use(0, 1, 1), use(0, 1, 10)}}},
	{"a far use", impl.Net7{Buses: 7, Uses: []impl.Use{use(math.MinInt, math.MaxInt, math.MinInt)}}},
}

func TestNetOkAtItsEdges(t *testing.T) {
	for _, c := range rightNets {
		if !impl.NetOk(c.net) {
			t.Error("refused:", c.name)
		}
		if i, ok := impl.Islands(c.net); len(i) != c.net.Buses || !ok {
			t.Error("Islands:", c.name, i, ok)
		}
		if s, ok := impl.Shed(c.net); !ok {
			t.Error("Shed:", c.name, s, ok)
		}
	}
	for _, c := range wrongNets {
		if impl.NetOk(c.net) {
			t.Error("accepted:", c.name)
		}
		if i, ok := impl.Islands(c.net); len(i) != 0 || ok {
			t.Error("Islands:", c.name, i, ok)
		}
		if s, ok := impl.Shed(c.net); len(s) != 0 || ok {
			t.Error("Shed:", c.name, s, ok)
		}
		for most := range 4 {
			if p, ok := impl.CloseFor(c.net, most); len(p) != 0 || ok {
				t.Error("CloseFor:", c.name, p, ok)
			}
		}
	}
}

func TestIslandsByHand(t *testing.T) {
	for _, c := range []struct {
		name  string
		buses int
		ties  []impl.Tie
		want  []int
	}{
		{"one bus", 1, nil, []int{0}},
		{"no tie", 4, nil, []int{0, 1, 2, 3}},
		{"open ties alone", 4, chain(4, false), []int{0, 1, 2, 3}},
		{"a tie", 4, []impl.Tie{closed(1, 3)}, []int{0, 1, 2, 1}},
		{"a tie the other way", 4, []impl.Tie{closed(3, 1)}, []int{0, 1, 2, 1}},
		{"told twice", 4, []impl.Tie{closed(1, 3), closed(1, 3)}, []int{0, 1, 2, 1}},
		{"told both ways", 4, []impl.Tie{closed(1, 3), closed(3, 1)}, []int{0, 1, 2, 1}},
		{"told open and closed", 4, []impl.Tie{closed(1, 3), open(1, 3)}, []int{0, 1, 2, 1}},
		{"told closed behind open", 4, []impl.Tie{open(1, 3), closed(3, 1)}, []int{0, 1, 2, 1}},
		{"a row from the end", 8, chain(8, true), []int{0, 0, 0, 0, 0, 0, 0, 0}},
		{"a row from the beginning", 4, []impl.Tie{closed(0, 1), closed(1, 2), closed(2, 3)}, []int{0, 0, 0, 0}},
		{"a row that is not in order", 5, []impl.Tie{closed(4, 2), closed(3, 1), closed(2, 3)}, []int{0, 1, 1, 1, 1}},
		{"two rows that a last tie makes one", 6, []impl.Tie{closed(5, 4), closed(4, 3), closed(2, 1), closed(1, 0), closed(5, 2)}, []int{0, 0, 0, 0, 0, 0}},
		{"a row with an open tie within", 4, []impl.Tie{closed(0, 1), open(1, 2), closed(2, 3)}, []int{0, 0, 2, 2}},
		{"a ring", 4, []impl.Tie{closed(1, 2), closed(2, 3), closed(3, 1)}, []int{0, 1, 1, 1}},
		{"two islands", 6, []impl.Tie{closed(5, 0), closed(3, 4)}, []int{0, 1, 2, 3, 3, 0}},
		{"a star", 5, []impl.Tie{closed(4, 0), closed(4, 1), closed(4, 2), closed(4, 3)}, []int{0, 0, 0, 0, 0}},
		{"as many ties as may be", 3, slices.Repeat([]impl.Tie{closed(2, 1)}, 16), []int{0, 1, 1}},
		{"the last tie of 16 closed", 3, append(slices.Repeat([]impl.Tie{open(0, 1)}, 15), closed(2, 0)), []int{0, 1, 0}},
	} {
		if got, ok := impl.Islands(impl.Net7{Buses: c.buses, Ties: c.ties}); !slices.Equal(got, c.want) || !ok {
			t.Errorf("%s: %v %v", c.name, got, ok)
		}
	}
}

func TestShedByHand(t *testing.T) {
	for _, c := range []struct {
		name string
		net  impl.Net7
		want []int
	}{
		{"no use", impl.Net7{Buses: 1, Sources: []impl.Source{source(0, 5)}}, nil},
		{"no source", impl.Net7{Buses: 1, Uses: []impl.Use{use(0, 1, 0), use(0, 100000, 9)}}, []int{0, 1}},
		{"a source that gives nothing", impl.Net7{Buses: 1, Sources: []impl.Source{source(0, 0)}, Uses: []impl.Use{use(0, 1, 0)}}, []int{0}},
		{"a source that does not work", impl.Net7{Buses: 1, Sources: []impl.Source{brokenSource(0, 9)}, Uses: []impl.Use{use(0, 1, 0)}}, []int{0}},
		{"just fits", impl.Net7{Buses: 1, Sources: []impl.Source{source(0, 5)}, Uses: []impl.Use{use(0, 5, 4)}}, nil},
		{"one more than is left", impl.Net7{Buses: 1, Sources: []impl.Source{source(0, 5)}, Uses: []impl.Use{use(0, 6, 4)}}, []int{0}},
		{"the second just fits", impl.Net7{Buses: 1, Sources: []impl.Source{source(0, 9)}, Uses: []impl.Use{use(0, 4, 4), use(0, 5, 4)}}, nil},
		{"the second needs one more than is left", impl.Net7{Buses: 1, Sources: []impl.Source{source(0, 8)}, Uses: []impl.Use{use(0, 4, 4), use(0, 5, 4)}}, []int{1}},
		{"all behind it still may", impl.Net7{Buses: 1, Sources: []impl.Source{source(0, 10)}, Uses: []impl.Use{use(0, 7, 0), use(0, 4, 1), use(0, 3, 2), use(0, 1, 3)}}, []int{1, 3}},
		{"one of lesser need fits where one of more does not", impl.Net7{Buses: 1, Sources: []impl.Source{source(0, 3)}, Uses: []impl.Use{use(0, 4, 0), use(0, 3, 9)}}, []int{0}},
		{"equal ranks go by place", impl.Net7{Buses: 1, Sources: []impl.Source{source(0, 5)}, Uses: []impl.Use{use(0, 3, 5), use(0, 3, 5), use(0, 2, 5)}}, []int{1}},
		{"rank goes ahead of place", impl.Net7{Buses: 1, Sources: []impl.Source{source(0, 5)}, Uses: []impl.Use{use(0, 3, 9), use(0, 3, 8), use(0, 3, 0)}}, []int{0, 1}},
		{"told by place, not by rank", impl.Net7{Buses: 1, Sources: []impl.Source{source(0, 1)}, Uses: []impl.Use{use(0, 2, 9), use(0, 2, 5), use(0, 2, 7), use(0, 1, 9)}}, []int{0, 1, 2}},
		{"two sources together", impl.Net7{Buses: 1, Sources: []impl.Source{source(0, 2), source(0, 3)}, Uses: []impl.Use{use(0, 5, 0)}}, nil},
		{"a working source beside one that does not", impl.Net7{Buses: 1, Sources: []impl.Source{brokenSource(0, 9), source(0, 3)}, Uses: []impl.Use{use(0, 4, 0), use(0, 3, 0)}}, []int{0}},
		{"each island by itself", impl.Net7{Buses: 2, Sources: []impl.Source{source(0, 9), source(1, 2)}, Uses: []impl.Use{use(1, 3, 0), use(0, 9, 9), use(1, 2, 9)}}, []int{0}},
		{"over an open tie nothing goes", impl.Net7{Buses: 2, Sources: []impl.Source{source(0, 9)}, Ties: []impl.Tie{open(0, 1)}, Uses: []impl.Use{use(1, 1, 0), use(0, 9, 1)}}, []int{0}},
		{"over a closed tie it goes", impl.Net7{Buses: 2, Sources: []impl.Source{source(0, 9)}, Ties: []impl.Tie{closed(0, 1)}, Uses: []impl.Use{use(1, 1, 0), use(0, 9, 1)}}, []int{1}},
		{"over a row of closed ties", impl.Net7{Buses: 8, Sources: []impl.Source{source(7, 4), source(3, 5)}, Ties: chain(8, true), Uses: []impl.Use{use(0, 9, 1)}}, nil},
		{"the most of all", impl.Net7{Buses: 8, Sources: slices.Repeat([]impl.Source{source(7, 100000)}, 6), Ties: slices.Repeat([]impl.Tie{closed(7, 1)}, 16), Uses: append(slices.Repeat([]impl.Use{use(1, 100000, 9)}, 34), slices.Repeat([]impl.Use{use(7, 100000, 0)}, 6)...)}, numbersTo(34)},
		{"40 uses on one source", impl.Net7{Buses: 1, Sources: []impl.Source{source(0, 39)}, Uses: slices.Repeat([]impl.Use{use(0, 1, 3)}, 40)}, []int{39}},
	} {
		if got, ok := impl.Shed(c.net); !slices.Equal(got, c.want) || !ok {
			t.Errorf("%s: %v %v", c.name, got, ok)
		}
	}
}

func numbersTo(many int) []int {
	var list []int
	for i := range many {
		list = append(list, i)
	}
	return list
}

func TestCloseForByHand(t *testing.T) {
	fed := impl.Net7{Buses: 3, Sources: []impl.Source{source(0, 5)}, Ties: []impl.Tie{open(0, 1), open(1, 2)}, Uses: []impl.Use{use(0, 5, 0), use(2, 5, 1)}}
	row := impl.Net7{Buses: 4, Sources: []impl.Source{source(0, 5)}, Ties: []impl.Tie{open(2, 3), open(1, 2), open(0, 1)}, Uses: []impl.Use{use(3, 5, 0)}}
	longRow := impl.Net7{Buses: 5, Sources: []impl.Source{source(0, 5)}, Ties: chain(5, false), Uses: []impl.Use{use(4, 5, 0)}}
	alike := impl.Net7{Buses: 4, Sources: []impl.Source{source(3, 5)}, Ties: []impl.Tie{open(1, 2), open(0, 1), open(3, 1), open(3, 0), open(0, 3)}, Uses: []impl.Use{use(0, 5, 0)}}
	pairs := impl.Net7{Buses: 4, Sources: []impl.Source{source(3, 5)}, Ties: []impl.Tie{open(2, 3), open(1, 3), open(0, 1), open(0, 2)}, Uses: []impl.Use{use(0, 5, 0)}}
	halfClosed := impl.Net7{Buses: 4, Sources: []impl.Source{source(0, 5)}, Ties: []impl.Tie{closed(2, 3), open(1, 2), closed(0, 1)}, Uses: []impl.Use{use(3, 5, 0)}}
	weak := impl.Net7{Buses: 2, Sources: []impl.Source{source(0, 3), source(1, 3)}, Ties: []impl.Tie{open(0, 1)}, Uses: []impl.Use{use(0, 6, 0)}}
	tooWeak := impl.Net7{Buses: 2, Sources: []impl.Source{source(0, 3), brokenSource(1, 3)}, Ties: []impl.Tie{open(0, 1)}, Uses: []impl.Use{use(0, 4, 0)}}
	steals := impl.Net7{Buses: 3, Sources: []impl.Source{source(0, 5), source(2, 4)}, Ties: []impl.Tie{open(0, 1), open(2, 1)}, Uses: []impl.Use{use(0, 4, 0), use(1, 4, 0)}}
	bare := impl.Net7{Buses: 2, Sources: []impl.Source{source(0, 5)}, Uses: []impl.Use{use(1, 1, 0)}}
	last := impl.Net7{Buses: 2, Sources: []impl.Source{source(0, 5)}, Ties: slices.Repeat([]impl.Tie{open(0, 1)}, 16), Uses: []impl.Use{use(1, 1, 0)}}
	ends := impl.Net7{Buses: 8, Sources: []impl.Source{source(0, 3)}, Ties: append(slices.Repeat([]impl.Tie{open(6, 7)}, 13), open(0, 1), open(1, 2), open(2, 3)), Uses: []impl.Use{use(1, 1, 0), use(2, 1, 0), use(3, 1, 0)}}
	for _, c := range []struct {
		name string
		net  impl.Net7
		most int
		want []int
		ok   bool
	}{
		{"none needed", fed, 0, nil, true},
		{"none needed of three", fed, 3, nil, true},
		{"no use at all", impl.Net7{Buses: 1}, 0, nil, true},
		{"only uses of rank 1", impl.Net7{Buses: 1, Uses: []impl.Use{use(0, 9, 1)}}, 2, nil, true},
		{"a row of three", row, 3, []int{0, 1, 2}, true},
		{"a row of three with two", row, 2, nil, false},
		{"a row of three with none", row, 0, nil, false},
		{"a row of four with three", longRow, 3, nil, false},
		{"several of one tie", alike, 1, []int{3}, true},
		{"one tie of three that may be", alike, 3, []int{3}, true},
		{"several of two ties", pairs, 2, []int{0, 3}, true},
		{"several of two ties of three", pairs, 3, []int{0, 3}, true},
		{"several of two ties with one", pairs, 1, nil, false},
		{"those closed already are not told", halfClosed, 1, []int{1}, true},
		{"those closed already are not told of three", halfClosed, 3, []int{1}, true},
		{"closed already but one is needed", halfClosed, 0, nil, false},
		{"two weak sources together", weak, 1, []int{0}, true},
		{"two weak sources by themselves", weak, 0, nil, false},
		{"no ties can feed it", tooWeak, 3, nil, false},
		{"a tie that feeds one and starves another", steals, 1, []int{1}, true},
		{"no tie at all", bare, 3, nil, false},
		{"16 alike", last, 1, []int{0}, true},
		{"the last three of 16", ends, 3, []int{13, 14, 15}, true},
		{"the last three of 16 with two", ends, 2, nil, false},
		{"most of -1", fed, -1, nil, false},
		{"most of 4", fed, 4, nil, false},
		{"far too much", fed, math.MaxInt, nil, false},
		{"far too little", fed, math.MinInt, nil, false},
	} {
		if got, ok := impl.CloseFor(c.net, c.most); !slices.Equal(got, c.want) || ok != c.ok {
			t.Errorf("%s: %v %v", c.name, got, ok)
		}
	}
}

// netOf is small enough that sources and uses are often near each other.
func netOf(r *rand.Rand) impl.Net7 {
	n := impl.Net7{Buses: 1 + r.Intn(8)}
	for range r.Intn(7) {
		n.Sources = append(n.Sources, impl.Source{Bus: r.Intn(n.Buses), Power: r.Intn(12), Works: r.Intn(4) > 0})
	}
	shut := r.Intn(4)
	for range r.Intn(11) {
		a, b := r.Intn(n.Buses), r.Intn(n.Buses)
		if a != b {
			n.Ties = append(n.Ties, impl.Tie{A: a, B: b, Closed: r.Intn(4) < shut})
		}
	}
	for range r.Intn(12) {
		n.Uses = append(n.Uses, use(r.Intn(n.Buses), 1+r.Intn(6), r.Intn(4)))
	}
	return n
}

// starvedNetOf has a source or two and small uses of rank 0 far from them, so that ties are needed.
func starvedNetOf(r *rand.Rand) impl.Net7 {
	n := impl.Net7{Buses: 4 + r.Intn(5), Sources: []impl.Source{source(0, 2+r.Intn(6))}}
	if r.Intn(2) == 0 {
		n.Sources = append(n.Sources, source(r.Intn(n.Buses), 1+r.Intn(3)))
	}
	for range 4 + r.Intn(9) {
		a := r.Intn(n.Buses)
		n.Ties = append(n.Ties, impl.Tie{A: a, B: (a + 1 + r.Intn(n.Buses-1)) % n.Buses, Closed: r.Intn(6) == 0})
	}
	for range 1 + r.Intn(4) {
		n.Uses = append(n.Uses, use(r.Intn(n.Buses), 1+r.Intn(3), r.Intn(2)))
	}
	return n
}

// spoil makes a net wrong in one of its numbers, or leaves it as it is.
func spoil(r *rand.Rand, n *impl.Net7) {
	far := farNumbers[r.Intn(len(farNumbers))]
	switch kind := r.Intn(60); {
	case kind == 0:
		n.Buses = far
	case kind == 1 && len(n.Sources) > 0:
		n.Sources[r.Intn(len(n.Sources))].Bus = n.Buses
	case kind == 2 && len(n.Sources) > 0:
		n.Sources[r.Intn(len(n.Sources))].Power = far
	case kind == 3 && len(n.Ties) > 0:
		n.Ties[r.Intn(len(n.Ties))].A = -1
	case kind == 4 && len(n.Ties) > 0:
		tie := &n.Ties[r.Intn(len(n.Ties))]
		tie.A = tie.B
	case kind == 5 && len(n.Uses) > 0:
		n.Uses[r.Intn(len(n.Uses))].Rank = 10
	case kind == 6 && len(n.Uses) > 0:
		n.Uses[r.Intn(len(n.Uses))].Power = 0
	}
}

func TestNetsAreAsTheWordsSay(t *testing.T) {
	r := rand.New(rand.NewSource(71))
	for range 20000 {
		n := netOf(r)
		spoil(r, &n)
		if impl.NetOk(n) != netIsSo(n) {
			t.Fatalf("NetOk of %v", n)
		}
		want, wantOk := islandsByWords(n)
		if got, ok := impl.Islands(n); !slices.Equal(got, want) || ok != wantOk {
			t.Fatalf("Islands of %v: %v %v, not %v %v", n, got, ok, want, wantOk)
		}
		want, wantOk = shedByWords(n)
		if got, ok := impl.Shed(n); !slices.Equal(got, want) || ok != wantOk {
			t.Fatalf("Shed of %v: %v %v, not %v %v", n, got, ok, want, wantOk)
		}
	}
}

func TestCloseForIsAsTheWordsSay(t *testing.T) {
	r := rand.New(rand.NewSource(72))
	many := map[int]int{}
	for range 12000 {
		n := netOf(r)
		if r.Intn(2) == 0 {
			n = starvedNetOf(r)
		}
		spoil(r, &n)
		most := []int{-1, 0, 1, 2, 3, 3, 3, 4}[r.Intn(8)]
		want, wantOk := closeForByWords(n, most)
		if got, ok := impl.CloseFor(n, most); !slices.Equal(got, want) || ok != wantOk {
			t.Fatalf("CloseFor of %v, %d: %v %v, not %v %v", n, most, got, ok, want, wantOk)
		}
		if wantOk {
			many[len(want)]++
		}
	}
	for length := range 4 {
		if many[length] < 50 {
			t.Error("too few answers of that length", length, many[length])
		}
	}
}

// Promise 7, and what the chapter says of shedding.
func TestFedIsNoMoreThanGivenAndShedWouldNotHaveFitted(t *testing.T) {
	r := rand.New(rand.NewSource(73))
	for range 5000 {
		n := netOf(r)
		islands, _ := impl.Islands(n)
		shed, ok := impl.Shed(n)
		if !ok {
			t.Fatalf("Shed of %v", n)
		}
		given := givenByIsland(n, islands)
		fed := map[int]int{}
		for _, place := range placesByRank(n) {
			u := n.Uses[place]
			island := islands[u.Bus]
			if !slices.Contains(shed, place) {
				fed[island] += u.Power
			} else if fed[island]+u.Power <= given[island] {
				t.Fatalf("Shed of %v: %v, but %d fits", n, shed, place)
			}
		}
		for island, power := range fed {
			if power > given[island] {
				t.Fatalf("Shed of %v: %v, but %d are fed at %d of %d", n, shed, power, island, given[island])
			}
		}
		if !slices.IsSorted(shed) || len(slices.Compact(slices.Clone(shed))) != len(shed) {
			t.Fatalf("Shed of %v: %v is not ascending", n, shed)
		}
	}
}

func TestTiesThatAreToldSuffice(t *testing.T) {
	r := rand.New(rand.NewSource(74))
	for range 3000 {
		n := starvedNetOf(r)
		for most := range 4 {
			places, ok := impl.CloseFor(n, most)
			if !ok {
				continue
			}
			if len(places) > most || slices.ContainsFunc(places, func(p int) bool { return n.Ties[p].Closed }) {
				t.Fatalf("CloseFor of %v, %d: %v", n, most, places)
			}
			shed, _ := impl.Shed(withTiesClosed(n, places))
			for _, place := range shed {
				if n.Uses[place].Rank == 0 {
					t.Fatalf("CloseFor of %v, %d: %v leaves %d without power", n, most, places, place)
				}
			}
			if again, ok := impl.CloseFor(withTiesClosed(n, places), 0); len(again) != 0 || !ok {
				t.Fatalf("CloseFor of %v behind %v: %v %v", n, places, again, ok)
			}
			if more, ok := impl.CloseFor(n, 3); !slices.Equal(more, places) || !ok {
				t.Fatalf("CloseFor of %v: %v of %d, but %v of 3", n, places, most, more)
			}
		}
	}
}

func TestATieClosedMakesNoIslandSmaller(t *testing.T) {
	r := rand.New(rand.NewSource(75))
	for range 3000 {
		n := netOf(r)
		ahead, _ := impl.Islands(n)
		for place := range n.Ties {
			behind, ok := impl.Islands(withTiesClosed(n, []int{place}))
			if !ok || behind[n.Ties[place].A] != behind[n.Ties[place].B] {
				t.Fatalf("Islands of %v with %d closed: %v %v", n, place, behind, ok)
			}
			for a := range n.Buses {
				for b := range n.Buses {
					if ahead[a] == ahead[b] && behind[a] != behind[b] {
						t.Fatalf("Islands of %v with %d closed: %v, not one any more", n, place, behind)
					}
				}
			}
		}
	}
}

func TestLastsByHand(t *testing.T) {
	for _, c := range []struct {
		name   string
		b      impl.Battery
		draws  []int
		ticks  int
		charge int
		ok     bool
	}{
		{"no draw", battery(7, 9, 1), nil, 0, 7, true},
		{"no draw of nothing", battery(0, 0, 0), nil, 0, 0, true},
		{"one", battery(7, 9, 1), []int{2}, 1, 4, true},
		{"a draw of 0 loses still", battery(7, 9, 2), []int{0, 0}, 2, 3, true},
		{"just 0 at the end", battery(7, 9, 1), []int{6}, 1, 0, true},
		{"one below 0 at the end", battery(7, 9, 1), []int{7}, 0, 7, true},
		{"just 0, then nothing more", battery(7, 9, 1), []int{6, 0}, 1, 0, true},
		{"just 0, then charged as much as is lost", battery(7, 9, 1), []int{6, -1, -1}, 3, 0, true},
		{"the loss alone ends it", battery(1, 9, 2), []int{0}, 0, 1, true},
		{"empty without loss", battery(0, 9, 0), []int{0, 0, 0}, 3, 0, true},
		{"empty with a draw", battery(0, 9, 0), []int{1}, 0, 0, true},
		{"empty and charged", battery(0, 9, 1), []int{-5}, 1, 4, true},
		{"charged just to Most", battery(4, 9, 1), []int{-6}, 1, 9, true},
		{"charged above Most", battery(4, 9, 1), []int{-7, 3}, 2, 5, true},
		{"full and charged by the loss", battery(9, 9, 1), []int{-1}, 1, 9, true},
		{"full and charged", battery(9, 9, 0), []int{-100000, 9}, 2, 0, true},
		{"full, charged and then drawn too much", battery(9, 9, 0), []int{-100000, 10}, 1, 9, true},
		{"nothing is what it holds", battery(0, 0, 0), []int{-5, 0, 1}, 2, 0, true},
		{"what comes behind the end is not drawn", battery(5, 9, 0), []int{3, 4, -9, 1}, 1, 2, true},
		{"the greatest", battery(1000000, 1000000, 100), []int{100000, 100000}, 2, 799800, true},
		{"300 draws", battery(300, 300, 0), slices.Repeat([]int{1}, 300), 300, 0, true},
		{"300 draws that end at the last", battery(299, 300, 0), slices.Repeat([]int{1}, 300), 299, 0, true},
		{"301 draws", battery(300, 300, 0), slices.Repeat([]int{0}, 301), 0, 0, false},
		{"a draw of 100001", battery(5, 9, 0), []int{100001}, 0, 0, false},
		{"a draw of -100001", battery(5, 9, 0), []int{-100001}, 0, 0, false},
		{"a wrong draw behind the end", battery(5, 9, 0), []int{6, 100001}, 0, 0, false},
		{"a far draw", battery(5, 9, 0), []int{math.MinInt}, 0, 0, false},
		{"a charge of -1", battery(-1, 9, 0), nil, 0, 0, false},
		{"a charge of Most", battery(9, 9, 0), nil, 0, 9, true},
		{"a charge above Most", battery(10, 9, 0), nil, 0, 0, false},
		{"a Most of -1", battery(-1, -1, 0), nil, 0, 0, false},
		{"a Most of 1000001", battery(5, 1000001, 0), nil, 0, 0, false},
		{"a loss of 100", battery(100, 1000, 100), []int{0}, 1, 0, true},
		{"a loss of 101", battery(200, 1000, 101), []int{0}, 0, 0, false},
		{"a loss of -1", battery(5, 9, -1), []int{0}, 0, 0, false},
		{"far away", battery(math.MinInt, math.MaxInt, math.MinInt), []int{0}, 0, 0, false},
	} {
		if ticks, charge, ok := impl.Lasts(c.b, c.draws); ticks != c.ticks || charge != c.charge || ok != c.ok {
			t.Errorf("%s: %d %d %v", c.name, ticks, charge, ok)
		}
	}
}

func TestLastsIsAsTheWordsSay(t *testing.T) {
	r := rand.New(rand.NewSource(76))
	for range 20000 {
		b := battery(r.Intn(22)-1, r.Intn(22)-1, r.Intn(4))
		draws := listOf(r, r.Intn(12), -8, 9)
		if r.Intn(30) == 0 {
			draws = append(draws, farNumbers[r.Intn(len(farNumbers))])
		}
		wantTicks, wantCharge, wantOk := lastsByWords(b, draws)
		if ticks, charge, ok := impl.Lasts(b, draws); ticks != wantTicks || charge != wantCharge || ok != wantOk {
			t.Fatalf("Lasts of %v, %v: %d %d %v, not %d %d %v", b, draws, ticks, charge, ok, wantTicks, wantCharge, wantOk)
		}
	}
}

func TestPumpTickByHand(t *testing.T) {
	for _, c := range []struct {
		name string
		p    impl.Pump7
		want bool
		leak int
		next impl.Pump7
		ok   bool
	}{
		{"stays off", pump(0, 300, 0), false, 10, pump(0, 290, 0), true},
		{"is put on", pump(0, 3000, 0), true, 10, pump(1, 3190, 0), true},
		{"is put off", pump(1, 3000, 3), false, 10, pump(0, 2990, 0), true},
		{"is put off with little pressure", pump(1, 0, 4), false, 0, pump(0, 0, 0), true},
		{"is off with a fault", pump(0, 0, 5), false, 0, pump(0, 0, 0), true},
		{"just 1000", pump(1, 1000, 3), true, 200, pump(1, 1000, 0), true},
		{"just 1000 behind a rise", pump(1, 800, 4), true, 0, pump(1, 1000, 0), true},
		{"one below 1000", pump(1, 1000, 3), true, 201, pump(1, 999, 4), true},
		{"one below 1000 behind a rise", pump(1, 799, 0), true, 0, pump(1, 999, 1), true},
		{"off and on below 1000", pump(0, 500, 0), true, 200, pump(1, 500, 1), true},
		{"off and on with faults", pump(0, 500, 3), true, 200, pump(1, 500, 4), true},
		{"a fault of 4 becomes 5", pump(1, 100, 4), true, 250, pump(2, 50, 5), true},
		{"a fault of 4 becomes 5 from off", pump(0, 100, 4), true, 250, pump(2, 50, 5), true},
		{"a fault of 5 stays 5", pump(1, 100, 5), true, 0, pump(2, 300, 5), true},
		{"a fault of 5 with enough pressure", pump(1, 1000, 5), true, 0, pump(1, 1200, 0), true},
		{"a fault of 3 becomes 4", pump(1, 100, 3), true, 0, pump(1, 300, 4), true},
		{"held at 0", pump(1, 100, 0), true, 301, pump(1, 0, 1), true},
		{"held at 0 when off", pump(0, 100, 0), false, 101, pump(0, 0, 0), true},
		{"just 0", pump(0, 100, 0), false, 100, pump(0, 0, 0), true},
		{"the greatest leak", pump(1, 100, 0), true, 500, pump(1, 0, 1), true},
		{"held at 5000", pump(1, 4900, 0), true, 50, pump(1, 5000, 0), true},
		{"just 5000", pump(1, 4800, 0), true, 0, pump(1, 5000, 0), true},
		{"5000 with as much leak", pump(1, 5000, 0), true, 200, pump(1, 5000, 0), true},
		{"5000 with more leak", pump(1, 5000, 0), true, 201, pump(1, 4999, 0), true},
		{"out stays out", pump(2, 3000, 5), true, 10, pump(2, 2990, 5), true},
		{"out stays out unasked", pump(2, 3000, 5), false, 10, pump(2, 2990, 5), true},
		{"out with another fault", pump(2, 300, 2), true, 0, pump(2, 300, 2), true},
		{"out without a fault", pump(2, 300, 0), false, 500, pump(2, 0, 0), true},
		{"a state of -1", pump(-1, 300, 0), true, 0, pump(0, 0, 0), false},
		{"a state of 3", pump(3, 300, 0), true, 0, pump(0, 0, 0), false},
		{"a pressure of -1", pump(1, -1, 0), true, 0, pump(0, 0, 0), false},
		{"a pressure of 5001", pump(1, 5001, 0), true, 0, pump(0, 0, 0), false},
		{"a fault of -1", pump(1, 300, -1), true, 0, pump(0, 0, 0), false},
		{"a fault of 6", pump(2, 300, 6), true, 0, pump(0, 0, 0), false},
		{"a leak of -1", pump(1, 300, 0), true, -1, pump(0, 0, 0), false},
		{"a leak of 501", pump(2, 300, 0), true, 501, pump(0, 0, 0), false},
		{"far away", pump(math.MaxInt, math.MinInt, math.MaxInt), false, math.MinInt, pump(0, 0, 0), false},
	} {
		if next, ok := impl.PumpTick(c.p, c.want, c.leak); next != c.next || ok != c.ok {
			t.Errorf("%s: %v %v", c.name, next, ok)
		}
	}
}

func TestPumpTickIsAsTheWordsSay(t *testing.T) {
	for state := -1; state <= 3; state++ {
		for _, pressure := range []int{-1, 0, 1, 99, 100, 299, 300, 499, 500, 799, 800, 801, 999, 1000, 1001, 1300, 1499, 1500, 4799, 4800, 4801, 4999, 5000, 5001} {
			for fault := -1; fault <= 6; fault++ {
				for _, leak := range []int{-1, 0, 1, 199, 200, 201, 300, 499, 500, 501} {
					for _, asked := range []bool{false, true} {
						p := pump(state, pressure, fault)
						want, wantOk := pumpByWords(p, asked, leak)
						if got, ok := impl.PumpTick(p, asked, leak); got != want || ok != wantOk {
							t.Fatalf("PumpTick of %v, %v, %d: %v %v, not %v %v", p, asked, leak, got, ok, want, wantOk)
						}
					}
				}
			}
		}
	}
}

func TestAPumpThatLeaksIsOutBehindFiveTicks(t *testing.T) {
	p := pump(impl.PumpOff, 0, 0)
	for tick := 1; tick <= 8; tick++ {
		var ok bool
		p, ok = impl.PumpTick(p, true, 200)
		state := impl.PumpOn
		if tick >= 5 {
			state = impl.PumpOut
		}
		if p != pump(state, 0, min(tick, 5)) || !ok {
			t.Fatal("tick", tick, p, ok)
		}
	}
}

func TestPowerWritesIntoNoArgument(t *testing.T) {
	sources := append(make([]impl.Source, 0, 9), source(0, 5), source(1, 2))
	ties := append(make([]impl.Tie, 0, 9), open(1, 2), closed(0, 1), open(2, 3))
	uses := append(make([]impl.Use, 0, 9), use(3, 4, 9), use(2, 3, 0), use(3, 4, 0), use(0, 1, 5))
	sources[:9][2] = source(3, 9)
	ties[:9][3] = closed(0, 3)
	uses[:9][4] = use(0, 7, 0)
	draws := roomy([]int{3, -20, 8, 9})
	n := impl.Net7{Buses: 4, Sources: sources, Ties: ties, Uses: uses}
	copies := []any{slices.Clone(sources[:9]), slices.Clone(ties[:9]), slices.Clone(uses[:9]), slices.Clone(draws[:cap(draws)])}
	for range 2 {
		if !impl.NetOk(n) {
			t.Error("NetOk")
		}
		islands, ok := impl.Islands(n)
		if !ok || !slices.Equal(islands, []int{0, 0, 2, 3}) {
			t.Error("Islands", islands, ok)
		}
		shed, ok := impl.Shed(n)
		if !ok || !slices.Equal(shed, []int{0, 1, 2}) {
			t.Error("Shed", shed, ok)
		}
		places, ok := impl.CloseFor(n, 3)
		if !ok || !slices.Equal(places, []int{0, 2}) {
			t.Error("CloseFor", places, ok)
		}
		if ticks, charge, ok := impl.Lasts(battery(10, 12, 1), draws); ticks != 3 || charge != 3 || !ok {
			t.Error("Lasts", ticks, charge, ok)
		}
		clear(islands)
		clear(shed)
		clear(places)
	}
	now := []any{sources[:9], ties[:9], uses[:9], draws[:cap(draws)]}
	if !reflect.DeepEqual(now, copies) {
		t.Errorf("written into: %v, not %v", now, copies)
	}
}

// The document's 'Ways': buses point towards the least one of theirs, and what sources register is filled at start-up.
func TestPowerIsBuiltItsWay(t *testing.T) {
	file, err := parser.ParseFile(token.NewFileSet(), "../impl/l07_power.go", nil, 0)
	if err != nil {
		t.Fatal(err)
	}
	found := map[string]bool{}
	ast.Inspect(file, func(n ast.Node) bool {
		switch x := n.(type) {
		case *ast.FuncDecl:
			if x.Recv == nil && x.Name.Name == "init" {
				found["init"] = true
			}
		case *ast.TypeSpec:
			pointsToItsOwnKind(x, found)
		}
		return true
	})
	for _, way := range []string{"init", "pointer to its own kind"} {
		if !found[way] {
			t.Error("no", way)
		}
	}
}

// What sources registered is read by an exported function, thrown away there, and read nowhere else: no answer hangs on it.
func TestWhatSourcesRegisteredDecidesNothing(t *testing.T) {
	file, err := parser.ParseFile(token.NewFileSet(), "../impl/l07_power.go", nil, 0)
	if err != nil {
		t.Fatal(err)
	}
	readByExported := 0
	for _, d := range file.Decls {
		f, ok := d.(*ast.FuncDecl)
		if !ok {
			continue
		}
		named, thrownAway := usesOf(f, "powerAt")
		switch {
		case f.Name.Name == "init":
			if named == 0 {
				t.Error("init registers nothing")
			}
		case named != thrownAway:
			t.Error("decides by it:", f.Name.Name)
		case f.Name.IsExported():
			readByExported += named
		case named > 0:
			t.Error("reads it inside:", f.Name.Name)
		}
	}
	if readByExported == 0 {
		t.Error("no exported function reads it")
	}
}

// usesOf counts how often a function names a variable, and how often as what is given to the blank.
func usesOf(f *ast.FuncDecl, variable string) (int, int) {
	named, thrownAway := 0, 0
	ast.Inspect(f, func(n ast.Node) bool {
		switch x := n.(type) {
		case *ast.Ident:
			if x.Name == variable {
				named++
			}
		case *ast.AssignStmt:
			if len(x.Lhs) == 1 && isNamed(x.Lhs[0], "_") && isNamed(x.Rhs[0], variable) {
				thrownAway++
			}
		}
		return true
	})
	return named, thrownAway
}

func isNamed(e ast.Expr, name string) bool {
	id, ok := e.(*ast.Ident)
	return ok && id.Name == name
}

func pointsToItsOwnKind(spec *ast.TypeSpec, found map[string]bool) {
	fields, ok := spec.Type.(*ast.StructType)
	if !ok {
		return
	}
	for _, field := range fields.Fields.List {
		if star, ok := field.Type.(*ast.StarExpr); ok {
			if to, ok := star.X.(*ast.Ident); ok && to.Name == spec.Name.Name {
				found["pointer to its own kind"] = true
			}
		}
	}
}
