package tests

import (
	"go/ast"
	"go/parser"
	"go/token"
	"math"
	"math/rand"
	"reflect"
	"slices"
	"sort"
	"testing"

	"loop.example/g00063/impl"
)

// voter has a lane for each number of odd; the lanes named behind it are out.
func voter(near, hold int, odd []int, out ...int) impl.Voter {
	v := impl.Voter{Near: near, Hold: hold, Out: make([]bool, len(odd)), Odd: slices.Clone(odd)}
	for _, lane := range out {
		v.Out[lane] = true
	}
	return v
}

func voterCopy(v impl.Voter) impl.Voter {
	return impl.Voter{Near: v.Near, Hold: v.Hold, Out: slices.Clone(v.Out), Odd: slices.Clone(v.Odd)}
}

// sameVoter takes an empty list and nil as the same.
func sameVoter(a, b impl.Voter) bool {
	return a.Near == b.Near && a.Hold == b.Hold && slices.Equal(a.Out, b.Out) && slices.Equal(a.Odd, b.Odd)
}

func voterIsSo(v impl.Voter) bool {
	if v.Near < 0 || v.Near > 1000 || v.Hold < 1 || v.Hold > 20 {
		return false
	}
	if len(v.Out) < 1 || len(v.Out) > 5 || len(v.Odd) != len(v.Out) {
		return false
	}
	for _, odd := range v.Odd {
		if odd < 0 || odd > v.Hold {
			return false
		}
	}
	return true
}

func roundIsSo(v impl.Voter, seen []int) bool {
	if !voterIsSo(v) || len(seen) != len(v.Out) {
		return false
	}
	for _, n := range seen {
		if n < -1000000 || n > 1000000 {
			return false
		}
	}
	return true
}

func halfDown(sum int) int { return int(math.Floor(float64(sum) / 2)) }

// valueByWords takes each count of lanes by itself.
func valueByWords(v impl.Voter, seen []int) (int, int) {
	var heard []int
	for lane, out := range v.Out {
		if !out {
			heard = append(heard, seen[lane])
		}
	}
	sort.Ints(heard)
	switch len(heard) {
	case 0:
		return 0, 0
	case 1:
		return heard[0], 1
	case 2:
		return halfDown(heard[0] + heard[1]), 2
	case 3:
		return heard[1], 3
	case 4:
		return halfDown(heard[1] + heard[2]), 3
	}
	return heard[2], 3
}

func voteByWords(v impl.Voter, seen []int) (impl.Voter, int, int) {
	v = voterCopy(v)
	if !roundIsSo(v, seen) {
		return v, 0, 0
	}
	value, how := valueByWords(v, seen)
	for lane, out := range v.Out {
		if out || how != 3 {
			continue
		}
		if away := seen[lane] - value; away > v.Near || -away > v.Near {
			v.Odd[lane] = min(v.Odd[lane]+1, v.Hold)
		} else {
			v.Odd[lane] = 0
		}
		v.Out[lane] = v.Odd[lane] == v.Hold
	}
	return v, value, how
}

func votesByWords(v impl.Voter, rounds [][]int) (impl.Voter, []int) {
	if len(rounds) > 200 {
		return v, nil
	}
	var values []int
	for _, seen := range rounds {
		after, value, _ := voteByWords(v, seen)
		v, values = after, append(values, value)
	}
	return v, values
}

func twoAlikeByWords(v impl.Voter, seen []int) bool {
	if !roundIsSo(v, seen) {
		return false
	}
	least, greatest, many := math.MaxInt, math.MinInt, 0
	for lane, out := range v.Out {
		if !out {
			least, greatest, many = min(least, seen[lane]), max(greatest, seen[lane]), many+1
		}
	}
	return many == 2 && greatest-least > v.Near
}

func fightByWords(pushes []int, bound int) (int, int) {
	if len(pushes) < 1 || len(pushes) > 5 || bound < 0 || bound > 20000 {
		return 0, 0
	}
	sum, force := 0, 0
	for _, a := range pushes {
		if a < -10000 || a > 10000 {
			return 0, 0
		}
		sum += a
		for _, b := range pushes {
			if a-b > bound {
				force = 1
			}
		}
	}
	return sum, force
}

// monitorByWords looks at the whole row that ends at each place.
func monitorByWords(list []int, low, high, hold int) (int, bool) {
	if len(list) > 500 || low > high || hold < 1 || hold > 100 {
		return -1, false
	}
	for last := hold - 1; last < len(list); last++ {
		inside := slices.ContainsFunc(list[last-hold+1:last+1], func(n int) bool { return n >= low && n <= high })
		if !inside {
			return last, true
		}
	}
	return -1, false
}

func TestLimitsOfVotes(t *testing.T) {
	if impl.MaxLanes != 5 || impl.MaxRounds8 != 200 {
		t.Error("limits", impl.MaxLanes, impl.MaxRounds8)
	}
	if impl.VoteNone != 0 || impl.VoteOne != 1 || impl.VoteTwo != 2 || impl.VoteMid != 3 {
		t.Error("votes", impl.VoteNone, impl.VoteOne, impl.VoteTwo, impl.VoteMid)
	}
	if impl.ForceNone != 0 || impl.ForceFight != 1 {
		t.Error("forces", impl.ForceNone, impl.ForceFight)
	}
}

var rightVoters = []struct {
	name  string
	voter impl.Voter
}{
	{"one lane", voter(5, 2, []int{0})},
	{"five lanes", voter(5, 2, []int{0, 1, 2, 1, 0})},
	{"all out", voter(5, 2, []int{0, 1, 2}, 0, 1, 2)},
	{"near of 0", voter(0, 2, []int{0, 0})},
	{"near of 1000", voter(1000, 2, []int{0, 0})},
	{"hold of 1", voter(5, 1, []int{0, 1})},
	{"hold of 20", voter(5, 20, []int{0, 20})},
	{"odd of hold and heard", voter(5, 3, []int{3, 3, 3})},
	{"out and not odd", voter(5, 3, []int{0, 0, 0}, 1)},
}

var wrongVoters = []struct {
	name  string
	voter impl.Voter
}{
	{"the zero value", impl.Voter{}},
	{"no lane", voter(5, 2, []int{})},
	{"six lanes", voter(5, 2, make([]int, 6))},
	{"far too many lanes", voter(5, 2, make([]int, 1000), 0, 999)},
	{"fewer odd than out", impl.Voter{Near: 5, Hold: 2, Out: []bool{false, true, false}, Odd: []int{1, 0}}},
	{"more odd than out", impl.Voter{Near: 5, Hold: 2, Out: []bool{false, true}, Odd: []int{1, 0, 1}}},
	{"no odd", impl.Voter{Near: 5, Hold: 2, Out: []bool{false, true}}},
	{"no out", impl.Voter{Near: 5, Hold: 2, Odd: []int{0, 1}}},
	{"near of -1", voter(-1, 2, []int{0, 0})},
	{"near of 1001", voter(1001, 2, []int{0, 0})},
	{"hold of 0", voter(5, 0, []int{0, 0})},
	{"hold of -1", voter(5, -1, []int{0, 0})},
	{"hold of 21", voter(5, 21, []int{0, 0})},
	{"odd of -1", voter(5, 2, []int{0, -1, 0})},
	{"odd above hold", voter(5, 2, []int{0, 0, 3})},
	{"odd above hold of one that is out", voter(5, 2, []int{0, 0, 3}, 2)},
	{"a far near", voter(math.MaxInt, 2, []int{0, 0})},
	{"a far hold", voter(5, math.MinInt, []int{0, 0})},
	{"a far odd", voter(5, 2, []int{math.MinInt, math.MaxInt})},
}

// refusesRound asks all that hears for an answer to what is not so.
func refusesRound(t *testing.T, name string, v impl.Voter, seen []int) {
	t.Helper()
	if after, value, how := impl.Vote(v, seen); !sameVoter(after, v) || value != 0 || how != impl.VoteNone {
		t.Error("Vote:", name, after, value, how)
	}
	if after, values := impl.Votes(v, [][]int{seen, seen}); !sameVoter(after, v) || !slices.Equal(values, []int{0, 0}) {
		t.Error("Votes:", name, after, values)
	}
	if impl.TwoAlike(v, seen) {
		t.Error("TwoAlike:", name)
	}
}

func TestVoterOkAtItsEdges(t *testing.T) {
	for _, c := range rightVoters {
		if !impl.VoterOk(c.voter) {
			t.Error("refused:", c.name)
		}
	}
	for _, c := range wrongVoters {
		if impl.VoterOk(c.voter) {
			t.Error("accepted:", c.name)
		}
		refusesRound(t, c.name, c.voter, []int{900, -900})
		refusesRound(t, c.name, c.voter, make([]int, len(c.voter.Out)))
		refusesRound(t, c.name, c.voter, make([]int, len(c.voter.Odd)))
	}
}

func TestFreshAtItsEdges(t *testing.T) {
	for _, c := range []struct{ lanes, near, hold int }{{1, 0, 1}, {2, 1, 2}, {3, 1000, 20}, {4, 999, 19}, {5, 7, 3}} {
		v, ok := impl.Fresh(c.lanes, c.near, c.hold)
		if !ok || !sameVoter(v, voter(c.near, c.hold, make([]int, c.lanes))) || !impl.VoterOk(v) {
			t.Error("refused:", c, v, ok)
		}
	}
	wrong := []struct{ lanes, near, hold int }{{0, 5, 2}, {-1, 5, 2}, {6, 5, 2}, {3, -1, 2}, {3, 1001, 2}, {3, 5, 0}, {3, 5, -1}, {3, 5, 21}}
	for _, far := range farNumbers {
		wrong = append(wrong, []struct{ lanes, near, hold int }{{far, 5, 2}, {3, far, 2}, {3, 5, far}}...)
	}
	for _, c := range wrong {
		if v, ok := impl.Fresh(c.lanes, c.near, c.hold); ok || !reflect.DeepEqual(v, impl.Voter{}) {
			t.Error("accepted:", c, v, ok)
		}
	}
}

func TestVoteByHand(t *testing.T) {
	for _, c := range []struct {
		name   string
		before impl.Voter
		seen   []int
		after  impl.Voter
		value  int
		how    int
	}{
		{"none is heard", voter(5, 2, []int{2, 1}, 0, 1), []int{7, 9}, voter(5, 2, []int{2, 1}, 0, 1), 0, 0},
		{"the only lane", voter(5, 2, []int{1}), []int{-7}, voter(5, 2, []int{1}), -7, 1},
		{"the only lane that is out", voter(5, 2, []int{0}, 0), []int{7}, voter(5, 2, []int{0}, 0), 0, 0},
		{"one of three is heard", voter(0, 1, []int{0, 1, 0}, 0, 2), []int{3, 8, 5}, voter(0, 1, []int{0, 1, 0}, 0, 2), 8, 1},
		{"two, an even sum", voter(5, 2, []int{0, 0}), []int{4, 8}, voter(5, 2, []int{0, 0}), 6, 2},
		{"two, an odd sum", voter(5, 2, []int{0, 0}), []int{8, 3}, voter(5, 2, []int{0, 0}), 5, 2},
		{"two, an odd sum below 0", voter(5, 2, []int{0, 0}), []int{-8, -3}, voter(5, 2, []int{0, 0}), -6, 2},
		{"two, a sum of -1", voter(5, 2, []int{0, 0}), []int{-1, 0}, voter(5, 2, []int{0, 0}), -1, 2},
		{"two, a sum of 1", voter(5, 2, []int{0, 0}), []int{1, 0}, voter(5, 2, []int{0, 0}), 0, 2},
		{"two about 0", voter(5, 2, []int{0, 0}), []int{-4, 1}, voter(5, 2, []int{0, 0}), -2, 2},
		{"two that are far apart stay as odd as they were", voter(5, 3, []int{1, 2}), []int{1000000, -1000000}, voter(5, 3, []int{1, 2}), 0, 2},
		{"two that are alike stay as odd as they were", voter(5, 3, []int{1, 3}), []int{4, 4}, voter(5, 3, []int{1, 3}), 4, 2},
		{"two of five", voter(5, 3, []int{1, 2, 3, 0, 1}, 0, 2, 3), []int{90, 9, 80, 70, 2}, voter(5, 3, []int{1, 2, 3, 0, 1}, 0, 2, 3), 5, 2},
		{"three", voter(5, 3, []int{0, 0, 0}), []int{5, 1, 3}, voter(5, 3, []int{0, 0, 0}), 3, 3},
		{"three alike", voter(0, 1, []int{0, 0, 0}), []int{-6, -6, -6}, voter(0, 1, []int{0, 0, 0}), -6, 3},
		{"two of three alike", voter(0, 3, []int{2, 1, 1}), []int{7, 9, 7}, voter(0, 3, []int{0, 2, 0}), 7, 3},
		{"three far apart", voter(5, 3, []int{0, 0, 0}), []int{1000000, 0, -1000000}, voter(5, 3, []int{1, 0, 1}), 0, 3},
		{"two at one end", voter(1000, 3, []int{0, 0, 0}), []int{-1000000, 1000000, -1000000}, voter(1000, 3, []int{0, 1, 0}), -1000000, 3},
		{"two at the other end", voter(1000, 3, []int{0, 0, 0}), []int{1000000, -1000000, 1000000}, voter(1000, 3, []int{0, 1, 0}), 1000000, 3},
		{"four, an even sum in the middle", voter(9, 3, []int{0, 0, 0, 0}), []int{9, 2, 4, 1}, voter(9, 3, []int{0, 0, 0, 0}), 3, 3},
		{"four, an odd sum in the middle", voter(9, 3, []int{0, 0, 0, 0}), []int{9, 2, 5, 1}, voter(9, 3, []int{0, 0, 0, 0}), 3, 3},
		{"four, an odd sum below 0 in the middle", voter(9, 3, []int{0, 0, 0, 0}), []int{-9, -2, -5, -1}, voter(9, 3, []int{0, 0, 0, 0}), -4, 3},
		{"four, a sum of -1 in the middle", voter(0, 3, []int{0, 0, 0, 0}), []int{-1, 0, -1, 0}, voter(0, 3, []int{0, 1, 0, 1}), -1, 3},
		{"four of five", voter(1, 3, []int{0, 3, 0, 0, 0}, 1), []int{10, 99, 20, 30, 41}, voter(1, 3, []int{1, 3, 1, 1, 1}, 1), 25, 3},
		{"five", voter(2, 3, []int{0, 1, 2, 2, 1}), []int{5, 1, 4, 2, 3}, voter(2, 3, []int{0, 0, 0, 0, 0}), 3, 3},
		{"three of five", voter(2, 3, []int{0, 1, 2, 2, 1}, 1, 3), []int{5, 1, 4, 2, 3}, voter(2, 3, []int{0, 1, 0, 2, 0}, 1, 3), 4, 3},
		{"just near away", voter(5, 3, []int{1, 1, 1}), []int{10, 15, 5}, voter(5, 3, []int{0, 0, 0}), 10, 3},
		{"one further above", voter(5, 3, []int{1, 1, 1}), []int{10, 16, 5}, voter(5, 3, []int{0, 2, 0}), 10, 3},
		{"one further below", voter(5, 3, []int{1, 1, 1}), []int{10, 15, 4}, voter(5, 3, []int{0, 0, 2}), 10, 3},
		{"near of 0, one away", voter(0, 3, []int{0, 0, 0}), []int{10, 11, 9}, voter(0, 3, []int{0, 1, 1}), 10, 3},
		{"near of 1000, just near away", voter(1000, 3, []int{0, 0, 0}), []int{0, 1000, -1000}, voter(1000, 3, []int{0, 0, 0}), 0, 3},
		{"near of 1000, one further", voter(1000, 3, []int{0, 0, 0}), []int{0, 1001, -1001}, voter(1000, 3, []int{0, 1, 1}), 0, 3},
		{"hold of 1 puts out at once", voter(5, 1, []int{0, 0, 0}), []int{10, 16, 5}, voter(5, 1, []int{0, 1, 0}, 1), 10, 3},
		{"one less than hold becomes hold", voter(5, 3, []int{0, 2, 1}), []int{10, 16, 4}, voter(5, 3, []int{0, 3, 2}, 1), 10, 3},
		{"hold of 20", voter(5, 20, []int{0, 19, 18}), []int{10, 16, 4}, voter(5, 20, []int{0, 20, 19}, 1), 10, 3},
		{"two at once are out", voter(5, 3, []int{0, 2, 2}), []int{10, 16, 4}, voter(5, 3, []int{0, 3, 3}, 1, 2), 10, 3},
		{"odd of hold and heard, odd again", voter(5, 3, []int{0, 3, 0}), []int{10, 16, 10}, voter(5, 3, []int{0, 3, 0}, 1), 10, 3},
		{"odd of hold and heard, not odd", voter(5, 3, []int{0, 3, 0}), []int{10, 15, 10}, voter(5, 3, []int{0, 0, 0}), 10, 3},
		{"one that is out stays, odd or not", voter(5, 3, []int{0, 1, 0, 3, 0}, 1, 3), []int{10, 90, 10, 10, 10}, voter(5, 3, []int{0, 1, 0, 3, 0}, 1, 3), 10, 3},
	} {
		after, value, how := impl.Vote(c.before, c.seen)
		if !sameVoter(after, c.after) || value != c.value || how != c.how {
			t.Errorf("%s: %v %d %d, not %v %d %d", c.name, after, value, how, c.after, c.value, c.how)
		}
	}
}

func TestRoundsThatAreNotSo(t *testing.T) {
	v := voter(5, 1, []int{1, 0, 0})
	for _, c := range []struct {
		name string
		seen []int
	}{
		{"no number", nil},
		{"one too few", []int{50, 1}},
		{"one too many", []int{50, 1, 1, 1}},
		{"above the bound", []int{1, 1000001, 1}},
		{"below the bound", []int{1, 1, -1000001}},
		{"far above", []int{math.MaxInt, 1, 1}},
		{"far below", []int{1, math.MinInt, 1}},
	} {
		refusesRound(t, c.name, v, c.seen)
		refusesRound(t, c.name+", two heard", voter(5, 1, []int{0, 0, 0}, 1), c.seen)
	}
	refusesRound(t, "a wrong number of a lane that is out", voter(5, 1, []int{1, 0, 0}, 1), []int{900, 1000001, 1})
	refusesRound(t, "a wrong number where all are out", voter(5, 1, []int{1, 0}, 0, 1), []int{900, -1000001})
	if _, value, how := impl.Vote(v, []int{1000000, 1000000, 1000000}); value != 1000000 || how != impl.VoteMid {
		t.Error("at the bound above", value, how)
	}
	if _, value, how := impl.Vote(v, []int{-1000000, -1000000, -1000000}); value != -1000000 || how != impl.VoteMid {
		t.Error("at the bound below", value, how)
	}
}

func TestVotesByHand(t *testing.T) {
	for _, c := range []struct {
		name   string
		before impl.Voter
		rounds [][]int
		after  impl.Voter
		values []int
	}{
		{"no round", voter(5, 2, []int{1, 0, 2}, 2), nil, voter(5, 2, []int{1, 0, 2}, 2), nil},
		{"no round, a wrong voter", voter(5, 0, []int{7}, 0), [][]int{}, voter(5, 0, []int{7}, 0), nil},
		{"a lane lies", voter(2, 2, []int{0, 0, 0}), [][]int{{10, 11, 50}, {10, 12, 50}, {10, 13, 50}}, voter(2, 2, []int{0, 0, 2}, 2), []int{11, 12, 11}},
		{"odd and not odd in turn", voter(2, 2, []int{0, 0, 0}), [][]int{{10, 11, 50}, {10, 12, 13}, {10, 13, 50}}, voter(2, 2, []int{1, 0, 1}), []int{11, 12, 13}},
		{"a round that is not so between", voter(2, 2, []int{0, 0, 0}), [][]int{{10, 11, 50}, {10, 12}, {10, 10, 50}}, voter(2, 2, []int{0, 0, 2}, 2), []int{11, 0, 10}},
		{"two out at once, then one", voter(2, 1, []int{0, 0, 0}), [][]int{{0, 9, -9}, {7, 1, 1}}, voter(2, 1, []int{0, 1, 1}, 1, 2), []int{0, 7}},
		{"five become three", voter(2, 1, make([]int, 5)), [][]int{{0, 9, -9, 1, 2}, {5, 1, 1, 6, 9}}, voter(2, 1, []int{0, 1, 1, 0, 1}, 1, 2, 4), []int{1, 6}},
	} {
		after, values := impl.Votes(c.before, c.rounds)
		if !sameVoter(after, c.after) || !slices.Equal(values, c.values) {
			t.Errorf("%s: %v %v, not %v %v", c.name, after, values, c.after, c.values)
		}
	}
}

func TestVotesOfAsManyRoundsAsMayBe(t *testing.T) {
	v := voter(5, 20, []int{0, 0, 0})
	rounds := slices.Repeat([][]int{{10, 16, 10}}, 200)
	if after, values := impl.Votes(v, rounds); !sameVoter(after, voter(5, 20, []int{0, 20, 0}, 1)) || !slices.Equal(values, slices.Repeat([]int{10}, 200)) {
		t.Error("200 rounds", after, values)
	}
	for _, many := range []int{201, 202, 5000} {
		if after, values := impl.Votes(v, slices.Repeat([][]int{{10, 16, 10}}, many)); !sameVoter(after, v) || len(values) != 0 {
			t.Error("too many rounds", many, after, values)
		}
		if after, values := impl.Votes(v, make([][]int, many)); !sameVoter(after, v) || len(values) != 0 {
			t.Error("too many wrong rounds", many, after, values)
		}
	}
	for _, c := range wrongVoters {
		if after, values := impl.Votes(c.voter, make([][]int, 201)); !sameVoter(after, c.voter) || len(values) != 0 {
			t.Error("too many rounds:", c.name, after, values)
		}
		if after, values := impl.Votes(c.voter, rounds); !sameVoter(after, c.voter) || !slices.Equal(values, make([]int, 200)) {
			t.Error("200 rounds:", c.name, after, values)
		}
	}
}

func TestTwoAlikeByHand(t *testing.T) {
	for _, c := range []struct {
		name  string
		voter impl.Voter
		seen  []int
		want  bool
	}{
		{"alike", voter(0, 1, []int{0, 0}), []int{3, 3}, false},
		{"one apart, near of 0", voter(0, 1, []int{0, 0}), []int{3, 4}, true},
		{"just near apart", voter(5, 1, []int{0, 0}), []int{-2, 3}, false},
		{"just near apart the other way", voter(5, 1, []int{0, 0}), []int{3, -2}, false},
		{"one more", voter(5, 1, []int{0, 0}), []int{-3, 3}, true},
		{"one more the other way", voter(5, 1, []int{0, 0}), []int{3, -3}, true},
		{"near of 1000", voter(1000, 1, []int{0, 0}), []int{-400, 600}, false},
		{"one more than 1000", voter(1000, 1, []int{0, 0}), []int{-400, 601}, true},
		{"as far as may be", voter(1000, 20, []int{0, 0}), []int{-1000000, 1000000}, true},
		{"two of five", voter(5, 2, []int{0, 2, 2, 0, 1}, 1, 2, 4), []int{1, 90, -90, 7, 50}, true},
		{"two of five that are near", voter(5, 2, []int{0, 2, 2, 0, 1}, 1, 2, 4), []int{2, 90, -90, 7, 50}, false},
		{"three heard", voter(5, 2, []int{0, 0, 0}), []int{-90, 0, 90}, false},
		{"four heard", voter(5, 2, []int{0, 0, 0, 0}), []int{-90, 0, 90, 80}, false},
		{"one heard", voter(5, 2, []int{0, 0}, 0), []int{-90, 90}, false},
		{"one lane", voter(5, 2, []int{0}), []int{-90}, false},
		{"none heard", voter(5, 2, []int{0, 0}, 0, 1), []int{-90, 90}, false},
	} {
		if got := impl.TwoAlike(c.voter, c.seen); got != c.want {
			t.Error(c.name, got)
		}
	}
}

func TestFightByHand(t *testing.T) {
	for _, c := range []struct {
		name   string
		pushes []int
		bound  int
		sum    int
		force  int
	}{
		{"one actuator", []int{-7}, 0, -7, 0},
		{"one that pushes nothing", []int{0}, 0, 0, 0},
		{"alike", []int{4, 4, 4}, 0, 12, 0},
		{"one more than a bound of 0", []int{4, 4, 5}, 0, 13, 1},
		{"just the bound", []int{5, -5, 1}, 10, 1, 0},
		{"one more than the bound", []int{5, -6, 1}, 10, 0, 1},
		{"the least first", []int{-6, 1, 5}, 10, 0, 1},
		{"the middle far from none", []int{1, 2, 3, 4, 5}, 3, 15, 1},
		{"five of the strongest", []int{10000, 10000, 10000, 10000, 10000}, 0, 50000, 0},
		{"five the other way", []int{-10000, -10000, -10000, -10000, -10000}, 0, -50000, 0},
		{"as far apart as may be", []int{-10000, 10000}, 20000, 0, 0},
		{"as far apart as may be, and one between", []int{-10000, 3, 10000}, 20000, 3, 0},
		{"one more than a bound of 19999", []int{-10000, 10000}, 19999, 0, 1},
		{"no actuator", nil, 5, 0, 0},
		{"six", []int{1, 2, 3, 4, 5, 60}, 5, 0, 0},
		{"a push too strong", []int{1, 10001}, 5, 0, 0},
		{"a push too strong the other way", []int{-10001, 1}, 5, 0, 0},
		{"a bound of -1", []int{1, 2}, -1, 0, 0},
		{"a bound of 20001", []int{1, 2}, 20001, 0, 0},
		{"far pushes", []int{math.MinInt, math.MaxInt}, 5, 0, 0},
		{"a far bound", []int{1, 2}, math.MinInt, 0, 0},
		{"a far bound above", []int{1, 2}, math.MaxInt, 0, 0},
	} {
		if sum, force := impl.Fight(c.pushes, c.bound); sum != c.sum || force != c.force {
			t.Error(c.name, sum, force)
		}
	}
}

func TestMonitorByHand(t *testing.T) {
	for _, c := range []struct {
		name  string
		list  []int
		low   int
		high  int
		hold  int
		place int
		ok    bool
	}{
		{"no number", nil, 0, 5, 1, -1, false},
		{"the first", []int{6}, 0, 5, 1, 0, true},
		{"just high", []int{5, 0}, 0, 5, 1, -1, false},
		{"just above", []int{5, 6, 7}, 0, 5, 1, 1, true},
		{"just below", []int{0, -1}, 0, 5, 1, 1, true},
		{"a row of above and below", []int{9, -1, 3}, 0, 5, 2, 1, true},
		{"a row one too short", []int{3, 9, 9, 3}, 0, 5, 3, -1, false},
		{"a row one too short at the end", []int{3, 9, 9}, 0, 5, 3, -1, false},
		{"a row that ends the list", []int{3, 9, 9, 9}, 0, 5, 3, 3, true},
		{"a row broken off", []int{9, 9, 3, 9, 9, 3}, 0, 5, 3, -1, false},
		{"a row broken off, then a whole one", []int{9, 9, 3, 9, 9, 9, 9}, 0, 5, 3, 5, true},
		{"low that is high", []int{4, 4, 5, 4, 3, 5}, 4, 4, 2, 5, true},
		{"low that is high, in", []int{4, 4}, 4, 4, 1, -1, false},
		{"low above high", []int{9, 9, 9}, 5, 4, 1, -1, false},
		{"all numbers are in", []int{math.MinInt, math.MaxInt}, math.MinInt, math.MaxInt, 1, -1, false},
		{"far out", []int{0, math.MinInt, math.MaxInt}, 0, 5, 2, 2, true},
		{"bounds far apart the wrong way", []int{1, 2}, math.MaxInt, math.MinInt, 1, -1, false},
		{"a hold of 0", []int{9, 9}, 0, 5, 0, -1, false},
		{"a hold of -1", []int{9, 9}, 0, 5, -1, -1, false},
		{"a hold of 100", slices.Repeat([]int{9}, 100), 0, 5, 100, 99, true},
		{"a hold of 100, 99 numbers", slices.Repeat([]int{9}, 99), 0, 5, 100, -1, false},
		{"a hold of 101", slices.Repeat([]int{9}, 200), 0, 5, 101, -1, false},
		{"a far hold", slices.Repeat([]int{9}, 200), 0, 5, math.MinInt, -1, false},
		{"500 numbers", append(make([]int, 499), 9), 0, 5, 1, 499, true},
		{"501 numbers", append([]int{9}, make([]int, 500)...), 0, 5, 1, -1, false},
	} {
		if place, ok := impl.Monitor(c.list, c.low, c.high, c.hold); place != c.place || ok != c.ok {
			t.Error(c.name, place, ok)
		}
	}
}

// voterFrom draws its numbers small, so that lanes are often odd, out, or just Near away.
func voterFrom(r *rand.Rand) impl.Voter {
	hold := 1 + r.Intn(4)
	v := voter(r.Intn(6), hold, listOf(r, 1+r.Intn(5), 0, hold))
	if r.Intn(4) == 0 {
		v.Near, v.Hold = 1000, 20
	}
	for lane := range v.Out {
		v.Out[lane] = r.Intn(4) == 0
	}
	return v
}

func seenFrom(r *rand.Rand, lanes int) []int {
	switch r.Intn(4) {
	case 0:
		return listOf(r, lanes, -1000000, 1000000)
	case 1:
		return listOf(r, lanes, -1500, 1500)
	}
	return listOf(r, lanes, -9, 9)
}

// spoilRound makes a voter or a round wrong now and then.
func spoilRound(r *rand.Rand, v *impl.Voter, seen *[]int) {
	switch r.Intn(14) {
	case 0:
		v.Near = []int{-1, 1001}[r.Intn(2)]
	case 1:
		v.Hold = []int{-1, 0, 21}[r.Intn(3)]
	case 2:
		v.Odd[r.Intn(len(v.Odd))] = []int{-1, v.Hold + 1}[r.Intn(2)]
	case 3:
		v.Odd = append(v.Odd, 0)
	case 4:
		*seen = append(*seen, 0)
	case 5:
		*seen = (*seen)[1:]
	case 6:
		(*seen)[r.Intn(len(*seen))] = []int{-1000001, 1000001}[r.Intn(2)]
	}
}

func TestVotesAreAsTheWordsSay(t *testing.T) {
	r := rand.New(rand.NewSource(80))
	hows, alike := [4]int{}, 0
	for range 40000 {
		v := voterFrom(r)
		seen := seenFrom(r, len(v.Out))
		spoilRound(r, &v, &seen)
		if impl.VoterOk(v) != voterIsSo(v) {
			t.Fatalf("VoterOk of %v: %v", v, impl.VoterOk(v))
		}
		after, value, how := impl.Vote(v, seen)
		if wantAfter, wantValue, wantHow := voteByWords(v, seen); !sameVoter(after, wantAfter) || value != wantValue || how != wantHow {
			t.Fatalf("Vote of %v, %v: %v %d %d, not %v %d %d", v, seen, after, value, how, wantAfter, wantValue, wantHow)
		}
		if got, want := impl.TwoAlike(v, seen), twoAlikeByWords(v, seen); got != want {
			t.Fatalf("TwoAlike of %v, %v: %v", v, seen, got)
		}
		hows[how]++
		if impl.TwoAlike(v, seen) {
			alike++
		}
	}
	if slices.Min(hows[:]) < 500 || alike < 500 {
		t.Error("too few of a kind were tried:", hows, alike)
	}
}

func TestRoundsInARowAreAsTheWordsSay(t *testing.T) {
	r := rand.New(rand.NewSource(81))
	for range 2000 {
		v := voterFrom(r)
		var rounds [][]int
		for range r.Intn(12) {
			rounds = append(rounds, seenFrom(r, len(v.Out)))
		}
		if len(rounds) > 0 && r.Intn(3) == 0 {
			spoilRound(r, &v, &rounds[r.Intn(len(rounds))])
		}
		after, values := impl.Votes(v, rounds)
		if wantAfter, wantValues := votesByWords(v, rounds); !sameVoter(after, wantAfter) || !slices.Equal(values, wantValues) {
			t.Fatalf("Votes of %v, %v: %v %v, not %v %v", v, rounds, after, values, wantAfter, wantValues)
		}
		cut := r.Intn(len(rounds) + 1)
		half, first := impl.Votes(v, rounds[:cut])
		whole, second := impl.Votes(half, rounds[cut:])
		if !sameVoter(whole, after) || !slices.Equal(append(first, second...), values) {
			t.Fatalf("Votes of %v, %v in two: %v %v %v", v, rounds, whole, first, second)
		}
	}
}

// Promise 8, its first half: whatever the third lane says, the value lies between any two.
func TestOfThreeLanesTheValueIsWithinAnyTwo(t *testing.T) {
	r := rand.New(rand.NewSource(82))
	try := func(lanes int, heard []int, seen []int) {
		v := voter(r.Intn(1001), 1+r.Intn(20), make([]int, lanes))
		for lane := range v.Out {
			v.Out[lane] = !slices.Contains(heard, lane)
		}
		_, value, how := impl.Vote(v, seen)
		if how != impl.VoteMid {
			t.Fatal("how", v, seen, how)
		}
		for i, a := range heard {
			b := heard[(i+1)%3]
			if value < min(seen[a], seen[b]) || value > max(seen[a], seen[b]) {
				t.Fatalf("%d is outside %d and %d: %v %v", value, seen[a], seen[b], v, seen)
			}
		}
	}
	for a := -3; a <= 3; a++ {
		for b := -3; b <= 3; b++ {
			for c := -3; c <= 3; c++ {
				try(3, []int{0, 1, 2}, []int{a, b, c})
			}
		}
	}
	for range 5000 {
		lanes := 3 + r.Intn(3)
		try(lanes, r.Perm(lanes)[:3], seenFrom(r, lanes))
	}
}

// Promise 8, its second half: a lane far from two that are near each other is out after Hold rounds, and not ahead of that.
func TestALaneThatLiesIsOutAfterHoldRounds(t *testing.T) {
	r := rand.New(rand.NewSource(83))
	for range 3000 {
		near, hold, liar := r.Intn(1001), 1+r.Intn(20), r.Intn(3)
		v, _ := impl.Fresh(3, near, hold)
		for round := 1; round <= hold; round++ {
			one := r.Intn(1000001) - 500000
			other := one - near + r.Intn(2*near+1)
			away := near + 1 + r.Intn(400000)
			lie := max(one, other) + away
			if r.Intn(2) == 0 {
				lie = min(one, other) - away
			}
			seen := slices.Insert([]int{one, other}, liar, lie)
			after, value, how := impl.Vote(v, seen)
			if how != impl.VoteMid || value != one && value != other {
				t.Fatalf("%v, %v: %d %d", v, seen, value, how)
			}
			for lane, out := range after.Out {
				if out != (lane == liar && round == hold) {
					t.Fatalf("round %d of %d, %v, %v: %v", round, hold, v, seen, after)
				}
			}
			v = after
		}
		if _, value, how := impl.Vote(v, slices.Insert([]int{3, 4}, liar, 1000000)); value != 3 || how != impl.VoteTwo {
			t.Fatal("the lane that lies is still heard:", value, how)
		}
	}
}

func TestLanesMayBeTurnedAbout(t *testing.T) {
	r := rand.New(rand.NewSource(84))
	for range 5000 {
		v := voterFrom(r)
		seen := seenFrom(r, len(v.Out))
		turned, turnedSeen := voterCopy(v), slices.Clone(seen)
		order := r.Perm(len(seen))
		for to, from := range order {
			turned.Out[to], turned.Odd[to], turnedSeen[to] = v.Out[from], v.Odd[from], seen[from]
		}
		after, value, how := impl.Vote(v, seen)
		turnedAfter, turnedValue, turnedHow := impl.Vote(turned, turnedSeen)
		if turnedValue != value || turnedHow != how || impl.TwoAlike(turned, turnedSeen) != impl.TwoAlike(v, seen) {
			t.Fatalf("%v, %v: %d %d, turned %d %d", v, seen, value, how, turnedValue, turnedHow)
		}
		for to, from := range order {
			if turnedAfter.Out[to] != after.Out[from] || turnedAfter.Odd[to] != after.Odd[from] {
				t.Fatalf("%v, %v: %v, turned %v", v, seen, after, turnedAfter)
			}
		}
		if !impl.VoterOk(after) {
			t.Fatalf("%v, %v: left %v", v, seen, after)
		}
	}
}

func TestFightAndMonitorAreAsTheWordsSay(t *testing.T) {
	r := rand.New(rand.NewSource(85))
	for range 20000 {
		pushes, bound := listOf(r, r.Intn(7), -10, 10), r.Intn(22)-1
		if r.Intn(3) == 0 {
			pushes, bound = listOf(r, r.Intn(7), -10001, 10001), r.Intn(20003)-1
		}
		sum, force := impl.Fight(pushes, bound)
		if wantSum, wantForce := fightByWords(pushes, bound); sum != wantSum || force != wantForce {
			t.Fatalf("Fight of %v, %d: %d %d, not %d %d", pushes, bound, sum, force, wantSum, wantForce)
		}
		list := listOf(r, r.Intn(30), -6, 6)
		low, high, hold := r.Intn(9)-5, r.Intn(9)-3, r.Intn(6)
		place, ok := impl.Monitor(list, low, high, hold)
		if wantPlace, wantOk := monitorByWords(list, low, high, hold); place != wantPlace || ok != wantOk {
			t.Fatalf("Monitor of %v, %d %d %d: %d %v, not %d %v", list, low, high, hold, place, ok, wantPlace, wantOk)
		}
	}
}

// roomyVoter has marks behind the lengths of its lists.
func roomyVoter(v impl.Voter) impl.Voter {
	v.Odd = roomy(v.Odd)
	v.Out = append(slices.Clone(v.Out), true, true, true)[:len(v.Out)]
	return v
}

func allOf(v impl.Voter) []any {
	return []any{v.Near, v.Hold, slices.Clone(v.Out[:cap(v.Out)]), slices.Clone(v.Odd[:cap(v.Odd)])}
}

func overwrite(v impl.Voter) {
	for lane := range v.Out[:cap(v.Out)] {
		v.Out[:cap(v.Out)][lane] = !v.Out[:cap(v.Out)][lane]
	}
	for lane := range v.Odd[:cap(v.Odd)] {
		v.Odd[:cap(v.Odd)][lane] = 55
	}
}

func TestVotesWriteIntoNoArgument(t *testing.T) {
	for _, v := range []impl.Voter{
		roomyVoter(voter(5, 1, []int{0, 1, 0, 0, 1}, 4)),
		roomyVoter(voter(5, 1, []int{0, 1, 0, 0, 1}, 0, 1, 2)),
		roomyVoter(voter(5, 1, []int{0, 1, 0, 0, 1}, 0, 1, 2, 4)),
		roomyVoter(voter(5, 1, []int{0, 1, 0, 0, 1}, 0, 1, 2, 3, 4)),
		roomyVoter(voter(5, 0, []int{0, 1, 0, 0, 1}, 4)),
		roomyVoter(voter(5, 1, []int{0, 1, 0, 0, 1, 1, 1}, 4)),
		roomyVoter(voter(5, 1, nil)),
	} {
		seen, short, pushes := roomy([]int{10, 2, 11, 90, 12}), roomy([]int{1, 2}), roomy([]int{3, 1, 2})
		rounds := append(make([][]int, 0, 4), seen, short, seen)
		rounds[:4][3] = pushes
		many := slices.Repeat([][]int{seen}, 201)
		before := [][]any{allOf(v), {slices.Clone(seen[:9]), slices.Clone(short[:6]), slices.Clone(pushes[:7])}}
		for range 2 {
			after, _, _ := impl.Vote(v, seen)
			overwrite(after)
			after, _, _ = impl.Vote(v, short)
			overwrite(after)
			after, values := impl.Votes(v, rounds)
			overwrite(after)
			clear(values)
			after, _ = impl.Votes(v, rounds[:0])
			overwrite(after)
			after, _ = impl.Votes(v, many)
			overwrite(after)
			impl.VoterOk(v)
			impl.TwoAlike(v, seen)
			impl.Fight(pushes, 1)
			impl.Monitor(seen, 0, 5, 2)
		}
		now := [][]any{allOf(v), {seen[:9], short[:6], pushes[:7]}}
		if !reflect.DeepEqual(now, before) || len(rounds) != 3 || !slices.Equal(rounds[:4][3], pushes) {
			t.Errorf("written into: %v, not %v", now, before)
		}
	}
}

// The document's 'Ways': lanes are an array, and voters values of a generic type that has it.
func TestVotesAreBuiltTheirWay(t *testing.T) {
	file, err := parser.ParseFile(token.NewFileSet(), "../impl/l08_vote.go", nil, 0)
	if err != nil {
		t.Fatal(err)
	}
	found := false
	ast.Inspect(file, func(n ast.Node) bool {
		if spec, ok := n.(*ast.TypeSpec); ok && spec.TypeParams != nil {
			found = found || hasArray(spec)
		}
		return true
	})
	if !found {
		t.Error("no generic type with an array of lanes")
	}
}

func hasArray(spec *ast.TypeSpec) bool {
	fields, ok := spec.Type.(*ast.StructType)
	if !ok {
		return false
	}
	return slices.ContainsFunc(fields.Fields.List, func(field *ast.Field) bool {
		array, ok := field.Type.(*ast.ArrayType)
		return ok && array.Len != nil
	})
}
