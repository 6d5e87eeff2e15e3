package tests

import (
	"go/ast"
	"go/parser"
	"go/token"
	"math"
	"math/rand"
	"reflect"
	"slices"
	"strconv"
	"strings"
	"testing"

	"loop.example/g00063/impl"
)

// panel has three lists, each told as names with blanks between.
func panel(active, latched, taken string) impl.Panel {
	return impl.Panel{Active: strings.Fields(active), Latched: strings.Fields(latched), Taken: strings.Fields(taken)}
}

func samePanel(a, b impl.Panel) bool {
	return slices.Equal(a.Active, b.Active) && slices.Equal(a.Latched, b.Latched) && slices.Equal(a.Taken, b.Taken)
}

func isEmptyPanel(p impl.Panel) bool { return len(p.Active)+len(p.Latched)+len(p.Taken) == 0 }

// planeRules has rules of each Rank, with and without Latch, Quiet and Needs.
func planeRules() []impl.WarnRule {
	return []impl.WarnRule{
		{Name: "door", Rank: 1},
		{Name: "fire", Rank: 3, Latch: true},
		{Name: "fuel", Rank: 2, Quiet: []int{0, 4}},
		{Name: "gear", Rank: 2, Needs: "fire"},
		{Name: "ice", Rank: 1, Quiet: []int{9}, Latch: true},
		{Name: "oil", Rank: 3, Quiet: []int{4}, Latch: true, Needs: "fire"},
		{Name: "seat", Rank: 2, Latch: true},
	}
}

// manyRules has names that ascend, of Ranks that go round.
func manyRules(many int) []impl.WarnRule {
	var rules []impl.WarnRule
	for i := range many {
		rules = append(rules, impl.WarnRule{Name: "r-" + strconv.Itoa(1000+i), Rank: 1 + i%3, Latch: i%2 == 0})
	}
	return rules
}

func ruleNames(rules []impl.WarnRule) []string {
	var names []string
	for _, r := range rules {
		names = append(names, r.Name)
	}
	return names
}

// namesAscend holds each name against all behind it.
func namesAscend(names []string) bool {
	for i := range names {
		for _, later := range names[i+1:] {
			if strings.Compare(names[i], later) >= 0 {
				return false
			}
		}
	}
	return true
}

func quietIsSo(quiet []int) bool {
	for i, phase := range quiet {
		if phase < 0 || phase > 9 || slices.Max(quiet[:i+1]) != phase || slices.Contains(quiet[:i], phase) {
			return false
		}
	}
	return true
}

func needsAreSo(rules []impl.WarnRule, at int) bool {
	needs := rules[at].Needs
	if needs == "" {
		return true
	}
	for i, other := range rules {
		if i != at && other.Name == needs {
			return other.Needs == ""
		}
	}
	return false
}

func rulesAreSo(rules []impl.WarnRule) bool {
	for i, r := range rules {
		if !isName(r.Name) || !slices.Contains([]int{1, 2, 3}, r.Rank) || !quietIsSo(r.Quiet) || !needsAreSo(rules, i) {
			return false
		}
	}
	return len(rules) < 31 && namesAscend(ruleNames(rules))
}

func namesAreSo(rules []impl.WarnRule, names []string) bool {
	for _, name := range names {
		if !slices.Contains(ruleNames(rules), name) {
			return false
		}
	}
	return namesAscend(names)
}

func panelIsSo(rules []impl.WarnRule, p impl.Panel) bool {
	return namesAreSo(rules, p.Active) && namesAreSo(rules, p.Latched) && namesAreSo(rules, p.Taken)
}

// inBoth has what is in both lists, in the order of the first one.
func inBoth(a, b []string) []string {
	var both []string
	for _, name := range a {
		if slices.Contains(b, name) {
			both = append(both, name)
		}
	}
	return both
}

// together has what is in one of both lists or in both, ascending.
func together(a, b []string) []string {
	all := slices.Concat(a, b)
	slices.Sort(all)
	return slices.Compact(all)
}

func toldByWords(rules []impl.WarnRule, latched, taken []string, phase int, active []string) []string {
	var told []string
	for _, rank := range []int{3, 2, 1} {
		for _, r := range rules {
			if r.Rank != rank || !slices.Contains(active, r.Name) && !slices.Contains(latched, r.Name) {
				continue
			}
			if slices.Contains(taken, r.Name) || slices.Contains(r.Quiet, phase) || r.Needs != "" && slices.Contains(active, r.Needs) {
				continue
			}
			told = append(told, r.Name)
		}
	}
	return told
}

func updateByWords(rules []impl.WarnRule, p impl.Panel, phase int, active []string) (impl.Panel, []string, bool) {
	if !rulesAreSo(rules) || !panelIsSo(rules, p) || !namesAreSo(rules, active) || phase < 0 || phase > 9 {
		return impl.Panel{}, nil, false
	}
	taken := inBoth(p.Taken, active)
	told := toldByWords(rules, p.Latched, taken, phase, active)
	var latches []string
	for _, r := range rules {
		if r.Latch && slices.Contains(active, r.Name) && slices.Contains(told, r.Name) {
			latches = append(latches, r.Name)
		}
	}
	return impl.Panel{Active: active, Latched: together(p.Latched, latches), Taken: taken}, told, true
}

func takeByWords(rules []impl.WarnRule, p impl.Panel, name string) (impl.Panel, bool) {
	isLatched, isActive := slices.Contains(p.Latched, name), slices.Contains(p.Active, name)
	if !rulesAreSo(rules) || !panelIsSo(rules, p) || !isLatched && !isActive {
		return p, false
	}
	var latched, taken []string
	for _, other := range p.Latched {
		if other != name {
			latched = append(latched, other)
		}
	}
	if isActive {
		taken = []string{name}
	}
	return impl.Panel{Active: p.Active, Latched: latched, Taken: together(p.Taken, taken)}, true
}

func inhibitedByWords(rules []impl.WarnRule, phase int) ([]string, bool) {
	if !rulesAreSo(rules) || phase < 0 || phase > 9 {
		return nil, false
	}
	var quiet []string
	for _, r := range rules {
		if slices.Contains(r.Quiet, phase) {
			quiet = append(quiet, r.Name)
		}
	}
	return quiet, true
}

func loudestByWords(rules []impl.WarnRule, told []string) (int, bool) {
	if !rulesAreSo(rules) || len(told) > 30 {
		return 0, false
	}
	for rank := 3; rank > 0; rank-- {
		for _, r := range rules {
			if r.Rank == rank && slices.Contains(told, r.Name) {
				return rank, true
			}
		}
	}
	return 0, true
}

func updates(t *testing.T, name string, rules []impl.WarnRule, p impl.Panel, phase int, active []string, want impl.Panel, told []string) {
	t.Helper()
	got, gotTold, ok := impl.Update14(rules, p, phase, active)
	if !samePanel(got, want) || !slices.Equal(gotTold, told) || !ok {
		t.Errorf("Update14: %s: %v %v at %d with %q: %v %q %v, not %v %q", name, rules, p, phase, active, got, gotTold, ok, want, told)
	}
}

func refusesUpdate(t *testing.T, name string, rules []impl.WarnRule, p impl.Panel, phase int, active []string) {
	t.Helper()
	if got, told, ok := impl.Update14(rules, p, phase, active); !isEmptyPanel(got) || len(told) != 0 || ok {
		t.Errorf("Update14: %s: %v %v at %d with %q: %v %q %v", name, rules, p, phase, active, got, told, ok)
	}
}

func takes(t *testing.T, name string, rules []impl.WarnRule, p impl.Panel, taken string, want impl.Panel) {
	t.Helper()
	if got, ok := impl.Take14(rules, p, taken); !samePanel(got, want) || !ok {
		t.Errorf("Take14: %s: %v of %q: %v %v, not %v", name, p, taken, got, ok, want)
	}
}

func refusesTake(t *testing.T, name string, rules []impl.WarnRule, p impl.Panel, taken string) {
	t.Helper()
	if got, ok := impl.Take14(rules, p, taken); !samePanel(got, p) || ok {
		t.Errorf("Take14: %s: %v of %q: %v %v", name, p, taken, got, ok)
	}
}

func refusesInhibited(t *testing.T, name string, rules []impl.WarnRule, phase int) {
	t.Helper()
	if got, ok := impl.Inhibited(rules, phase); len(got) != 0 || ok {
		t.Errorf("Inhibited: %s: %v at %d: %q %v", name, rules, phase, got, ok)
	}
}

func isLoudest(t *testing.T, name string, rules []impl.WarnRule, told []string, want int) {
	t.Helper()
	if got, ok := impl.Loudest(rules, told); got != want || !ok {
		t.Errorf("Loudest: %s: %q: %d %v, not %d", name, told, got, ok, want)
	}
}

func refusesLoudest(t *testing.T, name string, rules []impl.WarnRule, told []string) {
	t.Helper()
	if got, ok := impl.Loudest(rules, told); got != 0 || ok {
		t.Errorf("Loudest: %s: %v, %q: %d %v", name, rules, told, got, ok)
	}
}

func TestLimitOfRules(t *testing.T) {
	if impl.MaxRules != 30 {
		t.Error("MaxRules", impl.MaxRules)
	}
}

var rightRules = []struct {
	name  string
	rules []impl.WarnRule
}{
	{"nil", nil},
	{"no rule", []impl.WarnRule{}},
	{"29 rules", manyRules(29)},
	{"30 rules", manyRules(30)},
	{"a Rank of 1", []impl.WarnRule{{Name: "a", Rank: 1}}},
	{"a Rank of 2", []impl.WarnRule{{Name: "a", Rank: 2}}},
	{"a Rank of 3", []impl.WarnRule{{Name: "a", Rank: 3}}},
	{"an empty Quiet", []impl.WarnRule{{Name: "a", Rank: 3, Quiet: []int{}}}},
	{"a Quiet of all ten phases", []impl.WarnRule{{Name: "a", Rank: 3, Quiet: []int{0, 1, 2, 3, 4, 5, 6, 7, 8, 9}}}},
	{"a Quiet of 0", []impl.WarnRule{{Name: "a", Rank: 3, Quiet: []int{0}}}},
	{"a Quiet of 9", []impl.WarnRule{{Name: "a", Rank: 3, Quiet: []int{9}}}},
	{"a Quiet of 0 and 9", []impl.WarnRule{{Name: "a", Rank: 3, Quiet: []int{0, 9}}}},
	{"a Latch", []impl.WarnRule{{Name: "a", Rank: 3, Latch: true}}},
	{"Needs of one ahead", []impl.WarnRule{{Name: "a", Rank: 3}, {Name: "b", Rank: 1, Needs: "a"}}},
	{"Needs of one behind", []impl.WarnRule{{Name: "a", Rank: 3, Needs: "b"}, {Name: "b", Rank: 1}}},
	{"two that need one", []impl.WarnRule{{Name: "a", Rank: 3, Needs: "b"}, {Name: "b", Rank: 1}, {Name: "c", Rank: 1, Needs: "b"}}},
	{"two that need two", []impl.WarnRule{{Name: "a", Rank: 3, Needs: "d"}, {Name: "b", Rank: 1}, {Name: "c", Rank: 1, Needs: "b"}, {Name: "d", Rank: 1}}},
	{"a beginning ahead of the whole", []impl.WarnRule{{Name: "fire", Rank: 3}, {Name: "fire-", Rank: 3}, {Name: "fire-2", Rank: 3}}},
	{"names by their bytes", []impl.WarnRule{{Name: "-", Rank: 3}, {Name: "0", Rank: 3}, {Name: "9", Rank: 3}, {Name: "A", Rank: 3}, {Name: "Z", Rank: 3}, {Name: "a", Rank: 3}, {Name: "z", Rank: 3}}},
	{"digits by their bytes", []impl.WarnRule{{Name: "r10", Rank: 1}, {Name: "r2", Rank: 1}}},
	{"names of 20 bytes", []impl.WarnRule{{Name: "aaaaaaaaaaaaaaaaaaaa", Rank: 1}, {Name: "aaaaaaaaaaaaaaaaaaab", Rank: 1}}},
	{"those of a plane", planeRules()},
}

func TestRulesOkAtItsEdges(t *testing.T) {
	for _, c := range rightRules {
		if !impl.RulesOk(c.rules) {
			t.Errorf("%s: %v are not so", c.name, c.rules)
		}
		updates(t, c.name, c.rules, impl.Panel{}, 0, nil, impl.Panel{}, nil)
	}
	for _, name := range rightNames {
		if !impl.RulesOk([]impl.WarnRule{{Name: name, Rank: 1}}) {
			t.Errorf("%q is no name", name)
		}
	}
}

// ruleLists are not so by more than one rule alone.
var ruleLists = []struct {
	name  string
	rules []impl.WarnRule
}{
	{"31 rules", manyRules(31)},
	{"300 rules", manyRules(300)},
	{"two alike", []impl.WarnRule{{Name: "a", Rank: 1}, {Name: "a", Rank: 1}}},
	{"two alike, but for all else", []impl.WarnRule{{Name: "a", Rank: 1}, {Name: "a", Rank: 2, Latch: true, Quiet: []int{3}}}},
	{"two alike at the last", []impl.WarnRule{{Name: "a", Rank: 1}, {Name: "b", Rank: 1}, {Name: "b", Rank: 1}}},
	{"names that fall", []impl.WarnRule{{Name: "b", Rank: 1}, {Name: "a", Rank: 1}}},
	{"names that fall at the last", []impl.WarnRule{{Name: "a", Rank: 1}, {Name: "c", Rank: 1}, {Name: "b", Rank: 1}}},
	{"a whole ahead of its beginning", []impl.WarnRule{{Name: "fire-", Rank: 1}, {Name: "fire", Rank: 1}}},
	{"small letters ahead of great ones", []impl.WarnRule{{Name: "a", Rank: 1}, {Name: "B", Rank: 1}}},
	{"digits by their number", []impl.WarnRule{{Name: "r2", Rank: 1}, {Name: "r10", Rank: 1}}},
	{"Needs of one that needs another", []impl.WarnRule{{Name: "a", Rank: 1}, {Name: "b", Rank: 1, Needs: "a"}, {Name: "c", Rank: 1, Needs: "b"}}},
	{"Needs of one behind that needs another", []impl.WarnRule{{Name: "a", Rank: 1, Needs: "b"}, {Name: "b", Rank: 1, Needs: "c"}, {Name: "c", Rank: 1}}},
	{"two that need each other", []impl.WarnRule{{Name: "a", Rank: 1, Needs: "b"}, {Name: "b", Rank: 1, Needs: "a"}}},
	{"three that need each other round", []impl.WarnRule{{Name: "a", Rank: 1, Needs: "b"}, {Name: "b", Rank: 1, Needs: "c"}, {Name: "c", Rank: 1, Needs: "a"}}},
	{"Needs of one that needs itself", []impl.WarnRule{{Name: "a", Rank: 1, Needs: "b"}, {Name: "b", Rank: 1, Needs: "b"}}},
}

// wrongRules are not so, whichever of the rules in withWrongRules stand beside them.
func wrongRules() map[string]impl.WarnRule {
	wrong := map[string]impl.WarnRule{
		"Needs of itself":                    {Name: "m", Rank: 1, Needs: "m"},
		"Needs of no rule":                   {Name: "m", Rank: 1, Needs: "x"},
		"Needs of a rule's beginning":        {Name: "mm", Rank: 1, Needs: "m"},
		"Needs of a blank":                   {Name: "m", Rank: 1, Needs: " "},
		"Needs of a rule and a blank":        {Name: "m", Rank: 1, Needs: "a "},
		"Needs of a rule in great letters":   {Name: "m", Rank: 1, Needs: "A"},
		"a Quiet of 4 twice":                 {Name: "m", Rank: 1, Quiet: []int{4, 4}},
		"a Quiet of 0 twice":                 {Name: "m", Rank: 1, Quiet: []int{0, 0}},
		"a Quiet that falls":                 {Name: "m", Rank: 1, Quiet: []int{5, 4}},
		"a Quiet that falls at the last":     {Name: "m", Rank: 1, Quiet: []int{0, 5, 9, 8}},
		"a Quiet of 0 to 10":                 {Name: "m", Rank: 1, Quiet: []int{0, 1, 2, 3, 4, 5, 6, 7, 8, 9, 10}},
		"a Quiet of -1 to 9":                 {Name: "m", Rank: 1, Quiet: []int{-1, 0, 1, 2, 3, 4, 5, 6, 7, 8, 9}},
		"a Quiet of a phase twice among ten": {Name: "m", Rank: 1, Quiet: []int{0, 1, 2, 3, 4, 5, 6, 7, 8, 9, 9}},
		"a Quiet of the least and greatest":  {Name: "m", Rank: 1, Quiet: []int{math.MinInt, 3, math.MaxInt}},
	}
	for _, rank := range append([]int{-3, -1, 0, 4, 5, 10}, farNumbers...) {
		wrong["a Rank of "+strconv.Itoa(rank)] = impl.WarnRule{Name: "m", Rank: rank}
	}
	for _, phase := range append([]int{-1, 10, 11, -9}, farNumbers...) {
		wrong["a Quiet of "+strconv.Itoa(phase)] = impl.WarnRule{Name: "m", Rank: 1, Quiet: []int{phase}}
	}
	for _, name := range wrongNames {
		wrong["the name "+strconv.Quote(name)] = impl.WarnRule{Name: name, Rank: 1}
	}
	return wrong
}

// withWrongRules has lists of each wrong rule alone, at the first, a middle and the last place.
func withWrongRules() map[string][]impl.WarnRule {
	lists := map[string][]impl.WarnRule{}
	for _, c := range ruleLists {
		lists[c.name] = c.rules
	}
	for name, r := range wrongRules() {
		lists[name+", alone"] = []impl.WarnRule{r}
		lists[name+", at the first"] = []impl.WarnRule{r, {Name: "o", Rank: 1}, {Name: "p", Rank: 1}}
		lists[name+", in the middle"] = []impl.WarnRule{{Name: "a", Rank: 1}, r, {Name: "o", Rank: 1}}
		lists[name+", at the last"] = []impl.WarnRule{{Name: "a", Rank: 1}, {Name: "b", Rank: 1}, r}
	}
	return lists
}

func TestWrongRulesAreRefused(t *testing.T) {
	for name, rules := range withWrongRules() {
		if impl.RulesOk(rules) {
			t.Errorf("%s: %v are so", name, rules)
		}
		first := rules[0].Name
		one := impl.Panel{Active: []string{first}, Latched: []string{first}}
		for _, p := range []impl.Panel{{}, one, panel("a", "a b", "a"), panel("z b a", "x", "a a")} {
			refusesUpdate(t, name, rules, p, 3, nil)
			refusesUpdate(t, name, rules, p, 3, []string{first})
			refusesUpdate(t, name, rules, p, -1, []string{"z", "z"})
			refusesTake(t, name, rules, p, first)
			refusesTake(t, name, rules, p, "a")
			refusesTake(t, name, rules, p, "")
		}
		for _, phase := range []int{0, 3, 9, -1, 10} {
			refusesInhibited(t, name, rules, phase)
		}
		for _, told := range [][]string{nil, {first}, {"a", "b"}, slices.Repeat([]string{"a"}, 31)} {
			refusesLoudest(t, name, rules, told)
		}
	}
}

func TestUpdatesByHand(t *testing.T) {
	for _, c := range []struct {
		name   string
		panel  impl.Panel
		phase  int
		active string
		want   impl.Panel
		told   string
	}{
		{"nothing at all", panel("", "", ""), 5, "", panel("", "", ""), ""},
		{"told by one without Latch", panel("", "", ""), 5, "door", panel("door", "", ""), "door"},
		{"told by one with Latch", panel("", "", ""), 5, "fire", panel("fire", "fire", ""), "fire"},
		{"active again", panel("fire", "fire", ""), 5, "fire", panel("fire", "fire", ""), "fire"},
		{"latched and no longer active", panel("fire", "fire", ""), 5, "", panel("", "fire", ""), "fire"},
		{"latched and not active for long", panel("", "fire", ""), 5, "", panel("", "fire", ""), "fire"},
		{"no Latch and no longer active", panel("door", "", ""), 5, "", panel("", "", ""), ""},
		{"latched without a Latch of its rule", panel("", "door", ""), 5, "", panel("", "door", ""), "door"},
		{"active and taken", panel("door", "", "door"), 5, "door", panel("door", "", "door"), ""},
		{"active with Latch and taken", panel("fire", "", "fire"), 5, "fire", panel("fire", "", "fire"), ""},
		{"active, latched and taken", panel("fire", "fire", "fire"), 5, "fire", panel("fire", "fire", "fire"), ""},
		{"latched and taken, no longer active", panel("fire", "fire", "fire"), 5, "", panel("", "fire", ""), "fire"},
		{"taken and no longer active", panel("fire", "", "fire"), 5, "", panel("", "", ""), ""},
		{"taken, with another one active", panel("door fire", "", "door fire"), 5, "fire ice", panel("fire ice", "ice", "fire"), "ice"},
		{"taken without being active, and comes", panel("", "", "fire"), 5, "fire", panel("fire", "", "fire"), ""},
		{"held back by its Quiet", panel("", "", ""), 4, "fuel", panel("fuel", "", ""), ""},
		{"held back by the other phase of its Quiet", panel("", "", ""), 0, "fuel", panel("fuel", "", ""), ""},
		{"a phase between those of its Quiet", panel("", "", ""), 3, "fuel", panel("fuel", "", ""), "fuel"},
		{"not latched for it is held back by its Quiet", panel("", "", ""), 9, "ice", panel("ice", "", ""), ""},
		{"latched as soon as its phase is over", panel("ice", "", ""), 8, "ice", panel("ice", "ice", ""), "ice"},
		{"latched and held back by the phase", panel("ice", "ice", ""), 9, "", panel("", "ice", ""), ""},
		{"latched, active and held back by the phase", panel("ice", "ice", ""), 9, "ice", panel("ice", "ice", ""), ""},
		{"held back by its Needs", panel("", "", ""), 5, "fire gear", panel("fire gear", "fire", ""), "fire"},
		{"not latched for it is held back by its Needs", panel("", "", ""), 5, "fire oil", panel("fire oil", "fire", ""), "fire"},
		{"latched and held back by its Needs", panel("oil", "oil", ""), 5, "fire", panel("fire", "fire oil", ""), "fire"},
		{"held back by its Needs that is taken", panel("fire", "", "fire"), 5, "fire gear", panel("fire gear", "", "fire"), ""},
		{"its Needs is latched only", panel("", "fire", ""), 5, "gear", panel("gear", "fire", ""), "fire gear"},
		{"its Needs was active only", panel("fire", "", ""), 5, "gear oil", panel("gear oil", "oil", ""), "oil gear"},
		{"its Needs was active and taken", panel("fire", "", "fire"), 5, "oil", panel("oil", "oil", ""), "oil"},
		{"its Needs stands in its own way alone", panel("", "", ""), 4, "fire oil", panel("fire oil", "fire", ""), "fire"},
		{"one Rank by Name", panel("", "", ""), 5, "fuel gear seat", panel("fuel gear seat", "seat", ""), "fuel gear seat"},
		{"three Ranks at once", panel("", "", ""), 5, "door fuel gear ice oil", panel("door fuel gear ice oil", "ice oil", ""), "oil fuel gear door ice"},
		{"latched ones among active ones by Rank and Name", panel("", "ice oil seat", ""), 5, "door fuel", panel("door fuel", "ice oil seat", ""), "oil fuel seat door ice"},
		{"all at once", panel("", "", ""), 5, "door fire fuel gear ice oil seat", panel("door fire fuel gear ice oil seat", "fire ice seat", ""), "fire fuel seat door ice"},
		{"all latched", panel("", "door fire fuel gear ice oil seat", ""), 5, "", panel("", "door fire fuel gear ice oil seat", ""), "fire oil fuel gear seat door ice"},
		{"all taken", panel("door fire fuel gear ice oil seat", "", "door fire fuel gear ice oil seat"), 5, "door fire fuel gear ice oil seat", panel("door fire fuel gear ice oil seat", "", "door fire fuel gear ice oil seat"), ""},
		{"another one latched already", panel("", "seat", ""), 5, "fire", panel("fire", "fire seat", ""), "fire seat"},
	} {
		updates(t, c.name, planeRules(), c.panel, c.phase, strings.Fields(c.active), c.want, strings.Fields(c.told))
	}
}

func TestUpdatesOfManyRules(t *testing.T) {
	rules := manyRules(30)
	var told, latches []string
	for _, rank := range []int{3, 2, 1} {
		for i := rank - 1; i < 30; i += 3 {
			told = append(told, "r-"+strconv.Itoa(1000+i))
		}
	}
	for i := 0; i < 30; i += 2 {
		latches = append(latches, "r-"+strconv.Itoa(1000+i))
	}
	names := ruleNames(rules)
	updates(t, "30 rules", rules, impl.Panel{}, 0, names, impl.Panel{Active: names, Latched: latches}, told)
	updates(t, "30 latched", rules, impl.Panel{Latched: names}, 9, nil, impl.Panel{Latched: names}, told)
	updates(t, "30 taken", rules, impl.Panel{Taken: names}, 9, names, impl.Panel{Active: names, Taken: names}, nil)
}

func TestUpdatesAtEachPhase(t *testing.T) {
	for quiet := range 10 {
		rules := []impl.WarnRule{{Name: "a", Rank: 1, Latch: true, Quiet: []int{quiet}}, {Name: "b", Rank: 1, Latch: true}}
		for phase := range 10 {
			latched, told := "a b", "a b"
			if phase == quiet {
				latched, told = "b", "b"
			}
			updates(t, "one phase", rules, impl.Panel{}, phase, []string{"a", "b"}, panel("a b", latched, ""), strings.Fields(told))
			updates(t, "one phase, latched", rules, panel("", "a b", ""), phase, nil, panel("", "a b", ""), strings.Fields(told))
		}
	}
}

var wrongLists = []struct {
	name string
	list []string
}{
	{"not ascending", []string{"fuel", "fire"}},
	{"not ascending at the last", []string{"door", "fuel", "fire"}},
	{"a name twice", []string{"fire", "fire"}},
	{"a name twice, not side by side", []string{"fire", "fuel", "fire"}},
	{"a name of no rule", []string{"x"}},
	{"a name of no rule among others", []string{"door", "egg", "fire"}},
	{"a name of no rule at the last", []string{"door", "fire", "x"}},
	{"a beginning of a rule's name", []string{"fir"}},
	{"more than a rule's name", []string{"fire-"}},
	{"a name in great letters", []string{"FIRE"}},
	{"an empty name", []string{""}},
	{"an empty name ahead of others", []string{"", "fire"}},
	{"a blank", []string{" "}},
	{"two names in one", []string{"door fire"}},
	{"a name too long", []string{strings.Repeat("z", 300)}},
	{"31 names", slices.Repeat([]string{"fire"}, 31)},
	{"bytes of no text", []string{"\xff"}},
}

func TestWrongListsAreRefused(t *testing.T) {
	rules := planeRules()
	for _, c := range wrongLists {
		for name, p := range map[string]impl.Panel{
			"Active":        {Active: c.list, Latched: []string{"fire"}, Taken: []string{"fire"}},
			"Latched":       {Active: []string{"fire"}, Latched: c.list, Taken: []string{"fire"}},
			"Taken":         {Active: []string{"fire"}, Latched: []string{"fire"}, Taken: c.list},
			"Active alone":  {Active: c.list},
			"Latched alone": {Latched: c.list},
			"Taken alone":   {Taken: c.list},
			"all three":     {Active: c.list, Latched: c.list, Taken: c.list},
		} {
			refusesUpdate(t, c.name+" in "+name, rules, p, 5, nil)
			refusesUpdate(t, c.name+" in "+name, rules, p, 5, []string{"fire"})
			refusesUpdate(t, c.name+" in "+name, rules, p, -1, c.list)
			for _, taken := range append([]string{"fire", "door", "", "x"}, c.list[0]) {
				refusesTake(t, c.name+" in "+name, rules, p, taken)
			}
		}
		refusesUpdate(t, c.name+" in active", rules, impl.Panel{}, 5, c.list)
		refusesUpdate(t, c.name+" in active", rules, panel("fire", "fire", "fire"), 5, c.list)
	}
}

func TestWrongPhasesOfWarnings(t *testing.T) {
	for _, phase := range append([]int{-1, 10, 11, -9, 100}, farNumbers...) {
		for _, rules := range [][]impl.WarnRule{nil, planeRules(), manyRules(30)} {
			refusesUpdate(t, "a wrong phase", rules, impl.Panel{}, phase, nil)
			refusesUpdate(t, "a wrong phase", rules, impl.Panel{Latched: ruleNames(rules)}, phase, ruleNames(rules))
			refusesInhibited(t, "a wrong phase", rules, phase)
		}
	}
}

func TestTakesByHand(t *testing.T) {
	rules := planeRules()
	for _, c := range []struct {
		name  string
		panel impl.Panel
		taken string
		want  impl.Panel
	}{
		{"latched alone", panel("", "fire", ""), "fire", panel("", "", "")},
		{"latched alone among others", panel("door", "fire ice seat", ""), "ice", panel("door", "fire seat", "")},
		{"the first latched", panel("", "fire ice seat", ""), "fire", panel("", "ice seat", "")},
		{"the last latched", panel("", "fire ice seat", ""), "seat", panel("", "fire ice", "")},
		{"active alone", panel("door", "", ""), "door", panel("door", "", "door")},
		{"active alone among others", panel("door fuel gear", "ice", "door gear"), "fuel", panel("door fuel gear", "ice", "door fuel gear")},
		{"active ahead of those taken", panel("door fuel gear", "", "fuel gear"), "door", panel("door fuel gear", "", "door fuel gear")},
		{"active behind those taken", panel("door fuel gear", "", "door fuel"), "gear", panel("door fuel gear", "", "door fuel gear")},
		{"active and latched", panel("fire", "fire", ""), "fire", panel("fire", "", "fire")},
		{"active and latched among others", panel("door fire ice", "fire ice", "door"), "fire", panel("door fire ice", "ice", "door fire")},
		{"taken already", panel("fire", "", "fire"), "fire", panel("fire", "", "fire")},
		{"taken already, and latched", panel("fire", "fire", "fire"), "fire", panel("fire", "", "fire")},
		{"latched and taken, but not active", panel("", "fire", "fire"), "fire", panel("", "", "fire")},
		{"held back by its Needs", panel("fire gear", "fire", ""), "gear", panel("fire gear", "fire", "gear")},
	} {
		takes(t, c.name, rules, c.panel, c.taken, c.want)
	}
	for _, c := range []struct {
		name  string
		panel impl.Panel
		taken string
	}{
		{"an empty panel", panel("", "", ""), "fire"},
		{"in neither", panel("door", "ice", ""), "fire"},
		{"in Taken alone", panel("door", "ice", "fire"), "fire"},
		{"no rule", panel("door", "ice", ""), "x"},
		{"an empty name", panel("door", "ice", ""), ""},
		{"a beginning", panel("door", "ice", ""), "doo"},
		{"more than the name", panel("door", "ice", ""), "door "},
		{"great letters", panel("door", "ice", ""), "DOOR"},
	} {
		refusesTake(t, c.name, rules, c.panel, c.taken)
	}
	refusesTake(t, "no rules", nil, impl.Panel{}, "")
	refusesTake(t, "no rules", nil, panel("door", "door", ""), "door")
}

func TestInhibitedByHand(t *testing.T) {
	all := []int{0, 1, 2, 3, 4, 5, 6, 7, 8, 9}
	allQuiet := []impl.WarnRule{{Name: "-", Rank: 1, Quiet: all}, {Name: "Z", Rank: 3, Quiet: all}, {Name: "a", Rank: 2, Quiet: all, Needs: "-"}, {Name: "aa", Rank: 3, Quiet: all}}
	for _, c := range []struct {
		name  string
		rules []impl.WarnRule
		phase int
		want  string
	}{
		{"no rule at 0", nil, 0, ""},
		{"no rule at 9", nil, 9, ""},
		{"at 0", planeRules(), 0, "fuel"},
		{"at 9", planeRules(), 9, "ice"},
		{"two by Name, not by Rank", planeRules(), 4, "fuel oil"},
		{"none is held back", planeRules(), 5, ""},
		{"none has a Quiet, at 0", manyRules(30), 0, ""},
		{"none has a Quiet, at 9", manyRules(30), 9, ""},
		{"all are held back at 0", allQuiet, 0, "- Z a aa"},
		{"all are held back at 5", allQuiet, 5, "- Z a aa"},
		{"all are held back at 9", allQuiet, 9, "- Z a aa"},
	} {
		if got, ok := impl.Inhibited(c.rules, c.phase); !slices.Equal(got, strings.Fields(c.want)) || !ok {
			t.Errorf("%s: %q %v, not %q", c.name, got, ok, c.want)
		}
	}
	many := manyRules(30)
	for i := range many {
		many[i].Quiet = []int{i % 10}
	}
	for phase := range 10 {
		want := []string{"r-" + strconv.Itoa(1000+phase), "r-" + strconv.Itoa(1010+phase), "r-" + strconv.Itoa(1020+phase)}
		if got, ok := impl.Inhibited(many, phase); !slices.Equal(got, want) || !ok {
			t.Errorf("phase %d of many: %q %v, not %q", phase, got, ok, want)
		}
	}
}

func TestLoudestByHand(t *testing.T) {
	rules := planeRules()
	for _, c := range []struct {
		name string
		told []string
		want int
	}{
		{"nil", nil, 0},
		{"no name", []string{}, 0},
		{"a note", []string{"door"}, 1},
		{"one of Rank 2", []string{"gear"}, 2},
		{"a warning", []string{"oil"}, 3},
		{"falling", []string{"oil", "gear", "door"}, 3},
		{"growing", []string{"door", "gear", "oil"}, 3},
		{"the loudest in the middle", []string{"door", "fire", "ice"}, 3},
		{"two of Rank 2, not by Name", []string{"seat", "door", "fuel"}, 2},
		{"one name twice", []string{"door", "door"}, 1},
		{"one name twice among others", []string{"fuel", "door", "fuel", "ice", "fuel"}, 2},
		{"a name of no rule", []string{"x"}, 0},
		{"names of no rule and one", []string{"x", "fir", "door", "FIRE", "fire ", ""}, 1},
		{"what is no name", []string{"", " ", "\xff", strings.Repeat("z", 300)}, 0},
		{"29 names", append(slices.Repeat([]string{"door"}, 28), "fire"), 3},
		{"30 names", append(slices.Repeat([]string{"door"}, 29), "fire"), 3},
		{"30 names, the loudest at the first", append([]string{"fire"}, slices.Repeat([]string{"door"}, 29)...), 3},
		{"30 names of no rule", slices.Repeat([]string{"x"}, 30), 0},
	} {
		isLoudest(t, c.name, rules, c.told, c.want)
	}
	isLoudest(t, "of 30 rules", manyRules(30), ruleNames(manyRules(30)), 3)
	isLoudest(t, "of no rule", nil, []string{"a"}, 0)
	refusesLoudest(t, "31 names", rules, slices.Repeat([]string{"fire"}, 31))
	refusesLoudest(t, "31 names of no rule", rules, slices.Repeat([]string{"x"}, 31))
	refusesLoudest(t, "31 names of no rules", nil, slices.Repeat([]string{""}, 31))
	refusesLoudest(t, "31 names of 30 rules", manyRules(30), append(ruleNames(manyRules(30)), "x"))
	refusesLoudest(t, "300 names", rules, slices.Repeat([]string{"fire"}, 300))
}

// rulesFrom has as many rules as asked for, of which some need one that needs none.
func rulesFrom(r *rand.Rand, many int) []impl.WarnRule {
	rules := manyRules(many)
	free := r.Intn(many + 1)
	for i := range rules {
		rules[i] = impl.WarnRule{Name: rules[i].Name, Rank: 1 + r.Intn(3), Quiet: ascendingList(r, r.Intn(4), 0, 9), Latch: r.Intn(2) == 0}
	}
	for _, at := range r.Perm(many)[free:] {
		rules[at].Needs = "r-" + strconv.Itoa(1000+r.Intn(many))
	}
	for i := range rules {
		if !needsAreSo(rules, i) && r.Intn(20) > 0 {
			rules[i].Needs = ""
		}
	}
	return rules
}

// someOf has each name perhaps, and seldom a list that is not so.
func someOf(r *rand.Rand, rules []impl.WarnRule) []string {
	var some []string
	for _, rule := range rules {
		if r.Intn(3) > 0 {
			some = append(some, rule.Name)
		}
	}
	if r.Intn(60) == 0 {
		some = append(some, []string{"", "r-1000", "x", "~"}[r.Intn(4)])
	}
	if r.Intn(60) == 0 {
		r.Shuffle(len(some), func(i, j int) { some[i], some[j] = some[j], some[i] })
	}
	return some
}

func panelFrom(r *rand.Rand, rules []impl.WarnRule) impl.Panel {
	return impl.Panel{Active: someOf(r, rules), Latched: someOf(r, rules), Taken: someOf(r, rules)}
}

func asWordsSay(t *testing.T, rules []impl.WarnRule, p impl.Panel, phase int, active []string) {
	t.Helper()
	got, told, ok := impl.Update14(rules, p, phase, active)
	want, wantTold, wantOk := updateByWords(rules, p, phase, active)
	if !samePanel(got, want) || !slices.Equal(told, wantTold) || ok != wantOk {
		t.Fatalf("Update14 of %v %v at %d with %q: %v %q %v, not %v %q %v", rules, p, phase, active, got, told, ok, want, wantTold, wantOk)
	}
}

func TestWarningsAreAsTheWordsSay(t *testing.T) {
	r := rand.New(rand.NewSource(141))
	right := 0
	for range 30000 {
		rules := rulesFrom(r, r.Intn(9))
		if r.Intn(100) == 0 {
			rules = rulesFrom(r, 28+r.Intn(4))
		}
		p, phase := panelFrom(r, rules), r.Intn(10)
		if r.Intn(30) == 0 {
			phase = []int{-1, 10}[r.Intn(2)]
		}
		asWordsSay(t, rules, p, phase, someOf(r, rules))
		if ok := impl.RulesOk(rules); ok != rulesAreSo(rules) {
			t.Fatalf("RulesOk of %v: %v", rules, ok)
		} else if ok {
			right++
		}
		name := "r-" + strconv.Itoa(999+r.Intn(11))
		got, ok := impl.Take14(rules, p, name)
		if want, wantOk := takeByWords(rules, p, name); !samePanel(got, want) || ok != wantOk {
			t.Fatalf("Take14 of %v %v with %q: %v %v, not %v %v", rules, p, name, got, ok, want, wantOk)
		}
		quiet, ok := impl.Inhibited(rules, phase)
		if want, wantOk := inhibitedByWords(rules, phase); !slices.Equal(quiet, want) || ok != wantOk {
			t.Fatalf("Inhibited of %v at %d: %q %v, not %q %v", rules, phase, quiet, ok, want, wantOk)
		}
		told := someOf(r, rules)
		r.Shuffle(len(told), func(i, j int) { told[i], told[j] = told[j], told[i] })
		loudest, ok := impl.Loudest(rules, told)
		if want, wantOk := loudestByWords(rules, told); loudest != want || ok != wantOk {
			t.Fatalf("Loudest of %v with %q: %d %v, not %d %v", rules, told, loudest, ok, want, wantOk)
		}
	}
	if right < 15000 {
		t.Error("too few right rules:", right)
	}
}

// Three rules in every way that counts, and every panel of them.
func TestEverySmallPanelIsAsTheWordsSay(t *testing.T) {
	lists := [][]string{}
	for bits := range 8 {
		list := []string{}
		for i, name := range []string{"a", "b", "c"} {
			if bits>>i&1 == 1 {
				list = append(list, name)
			}
		}
		lists = append(lists, list)
	}
	for bits := range 64 {
		has := func(bit int) bool { return bits>>bit&1 == 1 }
		rules := []impl.WarnRule{{Name: "a", Rank: 1, Latch: has(0)}, {Name: "b", Rank: 2, Latch: has(1)}, {Name: "c", Rank: 2, Latch: has(0)}}
		if has(2) {
			rules[0].Quiet = []int{1, 5, 8}
		}
		if has(3) {
			rules[1].Quiet = []int{5}
		}
		if has(4) {
			rules[1].Needs = "a"
		}
		if has(5) {
			rules[2].Needs = "a"
		}
		for _, active := range lists {
			for _, latched := range lists {
				for _, taken := range lists {
					asWordsSay(t, rules, impl.Panel{Active: taken, Latched: latched, Taken: taken}, 5, active)
				}
			}
		}
	}
}

// warnFlight is a flight of many updates, with what the crew may rely on.
type warnFlight struct {
	rules []impl.WarnRule
	panel impl.Panel
	// What was told with Latch and is not taken yet, and what was taken and has been active since.
	mustStay, mustRest map[string]bool
}

// goesOn has mostly what was active, and some new ones.
func (f *warnFlight) goesOn(r *rand.Rand) []string {
	var active []string
	for _, rule := range f.rules {
		if slices.Contains(f.panel.Active, rule.Name) && r.Intn(3) > 0 || r.Intn(4) == 0 {
			active = append(active, rule.Name)
		}
	}
	return active
}

// update tells how many rules were held back.
func (f *warnFlight) update(t *testing.T, phase int, active []string) int {
	p, told, ok := impl.Update14(f.rules, f.panel, phase, active)
	if !ok {
		t.Fatalf("%v %v at %d with %q is refused", f.rules, f.panel, phase, active)
	}
	f.panel = p
	heldBack := 0
	for _, rule := range f.rules {
		name := rule.Name
		isHeld := slices.Contains(rule.Quiet, phase) || slices.Contains(active, rule.Needs)
		isTold := slices.Contains(told, name)
		if !slices.Contains(active, name) {
			delete(f.mustRest, name)
		}
		switch {
		case isHeld && isTold:
			t.Fatalf("%q is held back and told: %q at %d", name, told, phase)
		case f.mustRest[name] && isTold:
			t.Fatalf("%q is taken and told: %q", name, told)
		case f.mustStay[name] && !slices.Contains(p.Latched, name):
			t.Fatalf("%q was latched and is no more: %v", name, p)
		case f.mustStay[name] && !isTold && !isHeld:
			t.Fatalf("%q is latched and not told: %q", name, told)
		}
		if isTold && rule.Latch {
			f.mustStay[name] = true
		}
		if isHeld {
			heldBack++
		}
	}
	return heldBack
}

func (f *warnFlight) take(name string) {
	p, ok := impl.Take14(f.rules, f.panel, name)
	if !ok {
		return
	}
	f.panel = p
	delete(f.mustStay, name)
	if slices.Contains(p.Active, name) {
		f.mustRest[name] = true
	}
}

// Promise 14, over flights in which the crew takes what it likes.
func TestPromiseOfWarnings(t *testing.T) {
	r := rand.New(rand.NewSource(142))
	latched, taken, heldBack := 0, 0, 0
	for range 400 {
		rules := rulesFrom(r, 1+r.Intn(8))
		if !impl.RulesOk(rules) {
			continue
		}
		f := &warnFlight{rules: rules, mustStay: map[string]bool{}, mustRest: map[string]bool{}}
		for range 60 {
			heldBack += f.update(t, r.Intn(10), f.goesOn(r))
			latched, taken = latched+len(f.mustStay), taken+len(f.mustRest)
			if r.Intn(2) == 0 {
				f.take(rules[r.Intn(len(rules))].Name)
			}
		}
	}
	if latched < 1000 || taken < 1000 || heldBack < 1000 {
		t.Error("too little was seen:", latched, taken, heldBack)
	}
}

func TestWhatIsTakenComesAgainLater(t *testing.T) {
	rules := planeRules()
	p, told, _ := impl.Update14(rules, impl.Panel{}, 5, []string{"fire"})
	if !slices.Equal(told, []string{"fire"}) {
		t.Error("at first", told)
	}
	p, ok := impl.Take14(rules, p, "fire")
	if !ok || !samePanel(p, panel("fire", "", "fire")) {
		t.Error("taken", p, ok)
	}
	for range 3 {
		if p, told, _ = impl.Update14(rules, p, 5, []string{"fire"}); len(told) != 0 || !samePanel(p, panel("fire", "", "fire")) {
			t.Error("still active", p, told)
		}
	}
	if p, told, _ = impl.Update14(rules, p, 5, nil); len(told) != 0 || !isEmptyPanel(p) {
		t.Error("no longer active", p, told)
	}
	if p, told, _ = impl.Update14(rules, p, 5, []string{"fire"}); !slices.Equal(told, []string{"fire"}) || !samePanel(p, panel("fire", "fire", "")) {
		t.Error("active again", p, told)
	}
}

// A second call with what the first one told changes nothing where nothing new is active.
func TestAnUpdateOnceMoreIsTheSame(t *testing.T) {
	r := rand.New(rand.NewSource(143))
	for range 3000 {
		rules := rulesFrom(r, r.Intn(8))
		phase, active := r.Intn(10), someOf(r, rules)
		p, told, ok := impl.Update14(rules, panelFrom(r, rules), phase, active)
		if !ok {
			continue
		}
		updates(t, "once more", rules, p, phase, active, p, told)
		rank, _ := impl.Loudest(rules, told)
		for _, rule := range rules {
			if slices.Contains(told, rule.Name) && rule.Rank > rank || len(told) > 0 && rule.Name == told[0] && rule.Rank != rank {
				t.Fatalf("%v are told %q, the loudest is %d", rules, told, rank)
			}
		}
	}
}

// roomyNames has marks behind the length of the list.
func roomyNames(list []string) []string {
	return append(slices.Clone(list), "zz", "zz", "zz")[:len(list)]
}

func roomyPanel(p impl.Panel) impl.Panel {
	return impl.Panel{Active: roomyNames(p.Active), Latched: roomyNames(p.Latched), Taken: roomyNames(p.Taken)}
}

func roomyRules(rules []impl.WarnRule) []impl.WarnRule {
	wide := slices.Clone(rules)
	for i := range wide {
		wide[i].Quiet = roomy(wide[i].Quiet)
	}
	return append(wide, impl.WarnRule{Name: "!", Rank: 9})[:len(rules)]
}

// allOfWarnings has all that is handed in, with what lies behind each list.
func allOfWarnings(rules []impl.WarnRule, p impl.Panel, lists ...[]string) []any {
	all := []any{slices.Clone(rules[:len(rules)+1])}
	for _, r := range rules {
		all = append(all, slices.Clone(r.Quiet[:len(r.Quiet)+4]))
	}
	for _, list := range append([][]string{p.Active, p.Latched, p.Taken}, lists...) {
		all = append(all, slices.Clone(list[:len(list)+3]))
	}
	return all
}

// writeOver marks each list up to its capacity, and asks that none of the others sees it.
func writeOver(t *testing.T, lists ...[]string) {
	t.Helper()
	for i, list := range lists {
		mark := "mark-" + strconv.Itoa(i)
		for at := range list[:cap(list)] {
			list[:cap(list)][at] = mark
		}
		for _, later := range lists[i+1:] {
			if slices.Contains(later[:cap(later)], mark) {
				t.Fatal("two lists of one answer share memory")
			}
		}
	}
}

func TestWarningsWriteIntoNoArgument(t *testing.T) {
	r := rand.New(rand.NewSource(144))
	for range 3000 {
		rules := roomyRules(rulesFrom(r, r.Intn(9)))
		p, active, phase := roomyPanel(panelFrom(r, rules)), roomyNames(someOf(r, rules)), r.Intn(11)
		before := allOfWarnings(rules, p, active)
		want, wantTold, _ := updateByWords(rules, p, phase, active)
		want = roomyPanel(want)
		for range 2 {
			got, told, _ := impl.Update14(rules, p, phase, active)
			if !samePanel(got, want) || !slices.Equal(told, wantTold) {
				t.Fatalf("Update14 with room behind: %v %q, not %v %q", got, told, want, wantTold)
			}
			writeOver(t, got.Active, got.Latched, got.Taken, told)
			for _, name := range []string{"r-1000", "r-1003", "x"} {
				wantTaken, _ := takeByWords(rules, p, name)
				wantTaken = roomyPanel(wantTaken)
				taken, _ := impl.Take14(rules, p, name)
				if !samePanel(taken, wantTaken) {
					t.Fatalf("Take14 with room behind: %v, not %v", taken, wantTaken)
				}
				writeOver(t, taken.Active, taken.Latched, taken.Taken)
			}
			quiet, _ := impl.Inhibited(rules, phase)
			writeOver(t, quiet)
			impl.Loudest(rules, active)
			impl.RulesOk(rules)
		}
		if after := allOfWarnings(rules, p, active); !reflect.DeepEqual(after, before) {
			t.Fatalf("written into: %v, not %v", after, before)
		}
	}
}

// One list that is handed in for all of a panel comes back as lists of their own.
func TestOneListForAllOfAPanel(t *testing.T) {
	rules := planeRules()
	for _, list := range [][]string{{"door", "fire"}, {"x", "x"}} {
		kept := slices.Clone(list)
		got, told, _ := impl.Update14(rules, impl.Panel{Active: list, Latched: list, Taken: list}, 5, list)
		writeOver(t, got.Active, got.Latched, got.Taken, told)
		taken, _ := impl.Take14(rules, impl.Panel{Active: list, Latched: list, Taken: list}, "door")
		writeOver(t, taken.Active, taken.Latched, taken.Taken)
		taken, _ = impl.Take14(rules, impl.Panel{Active: list, Latched: list, Taken: list}, "ice")
		writeOver(t, taken.Active, taken.Latched, taken.Taken)
		if !slices.Equal(list, kept) {
			t.Error("written into", list)
		}
	}
}

// The document's 'Ways': rules are in a map, from the set of what is latched is deleted, and panels are emptied by clear.
func TestWarningsAreBuiltTheirWay(t *testing.T) {
	file, err := parser.ParseFile(token.NewFileSet(), "../impl/l14_warn.go", nil, 0)
	if err != nil {
		t.Fatal(err)
	}
	found := map[string]bool{}
	ast.Inspect(file, func(n ast.Node) bool {
		switch x := n.(type) {
		case *ast.MapType:
			if isNamed(x.Value, "WarnRule") {
				found["a map of rules"] = true
			}
		case *ast.CallExpr:
			if len(x.Args) == 0 {
				return true
			}
			set, ok := x.Args[0].(*ast.SelectorExpr)
			if f, named := x.Fun.(*ast.Ident); ok && named {
				found[f.Name+" "+set.Sel.Name] = true
			}
		}
		return true
	})
	for _, way := range []string{"a map of rules", "delete latched", "clear active", "clear latched", "clear taken"} {
		if !found[way] {
			t.Error("missing:", way)
		}
	}
}
