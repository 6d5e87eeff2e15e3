package tests

import (
	"fmt"
	"go/ast"
	"go/parser"
	"go/token"
	"maps"
	"math"
	"math/rand"
	"path/filepath"
	"reflect"
	"runtime"
	"slices"
	"strings"
	"testing"
	"time"
)

// Promise 22: every function of all chapters answers at any arguments, and writes into none.
//
// Each function stands below with arguments that it takes. Of these, one number, text or list
// after the other is made wrong, and then many at once.

// asked is a function with arguments that it takes. A place in them is told by a path: the
// number of the argument, then fields, with [] for each element of a list. A path that ends in
// a * stands for all that begin so.
type asked struct {
	name    string
	of      any
	right   []any
	refuses []any          // What it answers where one of them is not so.
	most    map[string]int // How long each list may be.
	empty   string         // Lists that may be empty.
	free    string         // Numbers, texts and lists that may be anything, or of which the answer hangs on the place.
}

// given stands, in what a function answers, for the argument of that number.
type given int

// bound is for a function with one list, or with two that are as long.
func bound(most int, paths ...string) map[string]int {
	bounds := map[string]int{}
	for _, path := range paths {
		bounds[path] = most
	}
	return bounds
}

func joined(all ...map[string]int) map[string]int {
	bounds := map[string]int{}
	for _, one := range all {
		maps.Copy(bounds, one)
	}
	return bounds
}

func isAmong(paths, path string) bool {
	return slices.ContainsFunc(strings.Fields(paths), func(one string) bool {
		begin, all := strings.CutSuffix(one, "*")
		return one == path || all && strings.HasPrefix(path, begin)
	})
}

// deepCopy copies all lists within, each with so many elements more behind its end.
func deepCopy(v reflect.Value, more int) reflect.Value {
	out := reflect.New(v.Type()).Elem()
	out.Set(v)
	switch v.Kind() {
	case reflect.Struct:
		for i := range v.NumField() {
			out.Field(i).Set(deepCopy(v.Field(i), more))
		}
	case reflect.Slice:
		if v.IsNil() {
			return out
		}
		out = reflect.New(v.Type()).Elem()
		out.Set(reflect.MakeSlice(v.Type(), v.Len()+more, v.Len()+more))
		for i := range v.Len() + more {
			if v.Len() > 0 {
				out.Index(i).Set(deepCopy(v.Index(min(i, v.Len()-1)), more))
			}
		}
		out.Set(out.Slice(0, v.Len()))
	}
	return out
}

// tellAll tells all of a value, to the end of its lists or to that of the room behind them.
func tellAll(text *strings.Builder, v reflect.Value, withRoom bool) {
	switch v.Kind() {
	case reflect.Struct:
		text.WriteString("{ ")
		for i := range v.NumField() {
			tellAll(text, v.Field(i), withRoom)
		}
		text.WriteString("} ")
	case reflect.Slice:
		if withRoom {
			v = v.Slice(0, v.Cap())
		}
		text.WriteString("[ ")
		for i := range v.Len() {
			tellAll(text, v.Index(i), withRoom)
		}
		text.WriteString("] ")
	case reflect.Float32, reflect.Float64:
		bits := math.Float64bits(v.Float())
		if math.IsNaN(v.Float()) {
			bits = math.Float64bits(math.NaN())
		}
		fmt.Fprintf(text, "%x ", bits)
	default:
		fmt.Fprintf(text, "%#v ", v.Interface())
	}
}

func everythingIn(v reflect.Value) string { return everythingOf([]reflect.Value{v}, false) }

func everythingOf(list []reflect.Value, withRoom bool) string {
	var text strings.Builder
	for _, v := range list {
		tellAll(&text, v, withRoom)
	}
	return text.String()
}

// stretch is the memory of a list, from its first byte to the end of its room.
type stretch struct{ from, to uintptr }

func memoryOf(v reflect.Value) []stretch {
	found := []stretch{}
	switch v.Kind() {
	case reflect.Struct:
		for i := range v.NumField() {
			found = append(found, memoryOf(v.Field(i))...)
		}
	case reflect.Slice:
		if v.Cap() > 0 {
			found = append(found, stretch{v.Pointer(), v.Pointer() + uintptr(v.Cap())*v.Type().Elem().Size()})
		}
		for i := range v.Len() {
			found = append(found, memoryOf(v.Index(i))...)
		}
	}
	return found
}

func memoryOfList(list []reflect.Value) []stretch {
	found := []stretch{}
	for _, v := range list {
		found = append(found, memoryOf(v)...)
	}
	return found
}

func anyShared(a, b []stretch) bool {
	return slices.ContainsFunc(a, func(x stretch) bool {
		return slices.ContainsFunc(b, func(y stretch) bool { return x.from < y.to && y.from < x.to })
	})
}

// called is what a function answers; a panic is told as a text.
func called(of any, args []reflect.Value) (answers []reflect.Value, panicked string) {
	defer func() {
		if p := recover(); p != nil {
			panicked = fmt.Sprint("panic: ", p)
		}
	}()
	return reflect.ValueOf(of).Call(args), ""
}

func copyOfArgs(args []reflect.Value, more int) []reflect.Value {
	list := []reflect.Value{}
	for _, v := range args {
		list = append(list, deepCopy(v, more))
	}
	return list
}

func valuesOf(list []any) []reflect.Value {
	values := []reflect.Value{}
	for _, one := range list {
		values = append(values, reflect.ValueOf(one))
	}
	return copyOfArgs(values, 0)
}

// answersAlone asks a function twice, once with room behind each list. It tells the answer, and
// fails where one panics, writes, shares memory, or looks behind a list.
func answersAlone(t *testing.T, a asked, args []reflect.Value) string {
	t.Helper()
	roomy := copyOfArgs(args, 3)
	before := everythingOf(roomy, true)
	answers, panicked := called(a.of, roomy)
	if panicked != "" {
		t.Fatalf("%s of %s: %s", a.name, before, panicked)
	}
	if everythingOf(roomy, true) != before {
		t.Fatalf("%s of %s writes into an argument, or into the room behind it", a.name, before)
	}
	memory := memoryOfList(answers)
	if anyShared(memory, memoryOfList(roomy)) {
		t.Fatalf("%s of %s: an answer shares memory with an argument", a.name, before)
	}
	for i := range memory {
		if anyShared(memory[:i], memory[i:i+1]) {
			t.Fatalf("%s of %s: two lists of an answer share memory", a.name, before)
		}
	}
	again, panicked := called(a.of, copyOfArgs(args, 0))
	if told := everythingOf(answers, false); panicked != "" || everythingOf(again, false) != told {
		t.Fatalf("%s of %s tells %s, and again %s %s", a.name, before, told, everythingOf(again, false), panicked)
	}
	if anyShared(memory, memoryOfList(again)) {
		t.Fatalf("%s of %s: two answers share memory", a.name, before)
	}
	return everythingOf(answers, false)
}

// refusal is what the function answers where an argument is not so, of these arguments.
func (a asked) refusal(args []reflect.Value) string {
	list := []reflect.Value{}
	for i, one := range a.refuses {
		if n, ok := one.(given); ok {
			list = append(list, args[n])
		} else if one == nil {
			list = append(list, reflect.Zero(reflect.TypeOf(a.of).Out(i)))
		} else {
			list = append(list, reflect.ValueOf(one).Convert(reflect.TypeOf(a.of).Out(i)))
		}
	}
	return everythingOf(list, false)
}

// eachPlace goes through all numbers, texts, flags and lists within.
func eachPlace(v reflect.Value, path string, use func(path string, at reflect.Value)) {
	switch v.Kind() {
	case reflect.Struct:
		for i := range v.NumField() {
			eachPlace(v.Field(i), path+"."+v.Type().Field(i).Name, use)
		}
	case reflect.Slice:
		for i := range v.Len() {
			eachPlace(v.Index(i), path+"[]", use)
		}
		use(path, v)
	default:
		use(path, v)
	}
}

type placed struct {
	path string
	at   reflect.Value
}

func placesOf(args []reflect.Value) []placed {
	found := []placed{}
	for i, v := range args {
		eachPlace(v, fmt.Sprint(i), func(path string, at reflect.Value) { found = append(found, placed{path, at}) })
	}
	return found
}

// longer repeats a list's last element until there are so many.
func longer(list reflect.Value, many int) reflect.Value {
	out := reflect.MakeSlice(list.Type(), 0, many)
	for i := range many {
		if list.Len() == 0 {
			out = reflect.Append(out, reflect.Zero(list.Type().Elem()))
		} else {
			out = reflect.Append(out, deepCopy(list.Index(min(i, list.Len()-1)), 0))
		}
	}
	return out
}

var (
	leastAndGreatest = []int{math.MinInt, math.MinInt + 1, math.MaxInt - 1, math.MaxInt}
	oddTexts         = []string{"", strings.Repeat("x", 21), "a_b", "\xff", " ", "a\x00"}
	oddFloats        = []float64{math.NaN(), math.Inf(1), math.Inf(-1), math.MaxFloat64, -math.MaxFloat64, math.SmallestNonzeroFloat64, math.Copysign(0, -1), 0}
)

// wrongAt tells what may stand at a place and is not so, and what else may stand there.
func (a asked) wrongAt(t *testing.T, p placed) (wrong, others []reflect.Value) {
	t.Helper()
	kind := p.at.Type()
	switch p.at.Kind() {
	case reflect.Int:
		for _, n := range leastAndGreatest {
			wrong = append(wrong, reflect.ValueOf(n))
		}
	case reflect.String:
		for _, text := range oddTexts {
			wrong = append(wrong, reflect.ValueOf(text))
		}
	case reflect.Slice:
		most, bounded := a.most[p.path]
		if !bounded && !isAmong(a.free, p.path) {
			t.Errorf("%s: no bound is told for the list %s", a.name, p.path)
		}
		if bounded {
			wrong = append(wrong, longer(p.at, most+1))
		}
		none := []reflect.Value{reflect.Zero(kind), reflect.MakeSlice(kind, 0, 0)}
		if isAmong(a.empty, p.path) {
			others = append(others, none...)
		} else {
			wrong = append(wrong, none...)
		}
		others = append(others, longer(p.at, 1000))
	case reflect.Float32, reflect.Float64:
		for _, f := range oddFloats {
			others = append(others, reflect.ValueOf(f).Convert(kind))
		}
	case reflect.Uint8:
		others = append(others, reflect.ValueOf(byte(0)), reflect.ValueOf(byte(255)))
	case reflect.Bool:
		others = append(others, reflect.ValueOf(!p.at.Bool()))
	default:
		t.Errorf("%s: nothing is known of %s, a %s", a.name, p.path, kind)
	}
	if isAmong(a.free, p.path) {
		return nil, append(wrong, others...)
	}
	return wrong, others
}

// refusesOneByOne makes one place after the other wrong, and tells how many were.
func refusesOneByOne(t *testing.T, a asked) int {
	t.Helper()
	right := valuesOf(a.right)
	refused := 0
	for n, p := range placesOf(right) {
		wrong, others := a.wrongAt(t, p)
		put := func(value reflect.Value) []reflect.Value {
			args := copyOfArgs(right, 0)
			placesOf(args)[n].at.Set(value)
			return args
		}
		for _, value := range others {
			answersAlone(t, a, put(value))
		}
		for _, value := range wrong {
			args := put(value)
			if told := answersAlone(t, a, args); told != a.refusal(args) {
				t.Errorf("%s with %s at %s: %s, not %s", a.name, everythingIn(value), p.path, told, a.refusal(args))
			}
			refused++
		}
	}
	return refused
}

// oddAt draws something for a place, most often something wrong.
func oddAt(r *rand.Rand, p placed) reflect.Value {
	kind := p.at.Type()
	switch p.at.Kind() {
	case reflect.Int:
		return reflect.ValueOf(append([]int{-1, 0, 1, 2, 256, 1000, 1000000}, leastAndGreatest...)[r.Intn(11)])
	case reflect.String:
		return reflect.ValueOf(append([]string{"a", "b", strings.Repeat("x", 9001)}, oddTexts...)[r.Intn(9)])
	case reflect.Slice:
		return []reflect.Value{reflect.Zero(kind), longer(p.at, r.Intn(4)), longer(p.at, r.Intn(500))}[r.Intn(3)]
	case reflect.Bool:
		return reflect.ValueOf(r.Intn(2) == 0)
	case reflect.Uint8:
		return reflect.ValueOf(byte(r.Intn(256)))
	}
	return reflect.ValueOf(oddFloats[r.Intn(len(oddFloats))]).Convert(kind)
}

// answersAtAnyArguments makes many places wrong at once, each list after what stands in it.
func answersAtAnyArguments(t *testing.T, r *rand.Rand, a asked) {
	t.Helper()
	right := valuesOf(a.right)
	zero := []reflect.Value{}
	for _, v := range right {
		zero = append(zero, reflect.New(v.Type()).Elem())
	}
	answersAlone(t, a, zero)
	for _, n := range leastAndGreatest {
		args := copyOfArgs(right, 0)
		for _, p := range placesOf(args) {
			if p.at.Kind() == reflect.Int {
				p.at.SetInt(int64(n))
			}
		}
		answersAlone(t, a, args)
	}
	for range 60 {
		args := copyOfArgs(right, 0)
		one := 1 + r.Intn(6)
		for _, p := range placesOf(args) {
			if r.Intn(one) == 0 {
				p.at.Set(oddAt(r, p))
			}
		}
		answersAlone(t, a, args)
	}
}

func everyFunction() []asked {
	return slices.Concat(
		askedOfAir(), askedOfMass(), askedOfRunways(), askedOfModes(), askedOfSteps(), askedOfStructure(), askedOfPower(),
		askedOfVotes(), askedOfLaws(), askedOfThePilot(), askedOfNavigation(), askedOfLegs(), askedOfProfiles(), askedOfWarnings(),
		askedOfKeepingApart(), askedOfBuses(), askedOfPartitions(), askedOfLoads(), askedOfMaintenance(), askedOfRecords(), askedOfTheDesk(),
	)
}

func TestEveryFunctionIsAsked(t *testing.T) {
	files, err := filepath.Glob("../impl/*.go")
	if err != nil || len(files) != 21 {
		t.Fatal("not a file a chapter:", files, err)
	}
	declared := map[string]int{}
	for _, name := range files {
		file, err := parser.ParseFile(token.NewFileSet(), name, nil, 0)
		if err != nil {
			t.Fatal(err)
		}
		for _, d := range file.Decls {
			if f, ok := d.(*ast.FuncDecl); ok && f.Recv == nil && f.Name.IsExported() {
				declared[f.Name.Name]++
			}
		}
	}
	for _, a := range everyFunction() {
		if called := runtime.FuncForPC(reflect.ValueOf(a.of).Pointer()).Name(); !strings.HasSuffix(called, "/impl."+a.name) {
			t.Error(a.name, "is", called)
		}
		if reflect.TypeOf(a.of).NumIn() != len(a.right) {
			t.Error(a.name, "takes another number of arguments")
		}
		declared[a.name]--
	}
	for name, many := range declared {
		if many != 0 {
			t.Error(name, "is not asked just once:", many)
		}
	}
}

func TestEveryFunctionTakesItsRightArguments(t *testing.T) {
	for _, a := range everyFunction() {
		args := valuesOf(a.right)
		if told := answersAlone(t, a, args); a.refuses != nil && told == a.refusal(args) {
			t.Errorf("%s refuses: %s", a.name, told)
		}
	}
}

func TestEveryFunctionRefusesWhatIsNotSo(t *testing.T) {
	all := 0
	for _, a := range everyFunction() {
		refused := refusesOneByOne(t, a)
		if refused == 0 && a.refuses != nil {
			t.Error(a.name, "refused nothing")
		}
		all += refused
	}
	if all < 4000 {
		t.Error("too little was tried:", all)
	}
}

func TestEveryFunctionAnswersAtAnyArguments(t *testing.T) {
	r := rand.New(rand.NewSource(220))
	for _, a := range everyFunction() {
		answersAtAnyArguments(t, r, a)
	}
}

func TestNoFunctionLeavesSomethingRunning(t *testing.T) {
	before := runtime.NumGoroutine()
	for _, a := range everyFunction() {
		for range 5 {
			called(a.of, valuesOf(a.right))
		}
	}
	// One that has told its last may be counted for a moment still.
	for range 100 {
		if runtime.NumGoroutine() <= before {
			return
		}
		time.Sleep(10 * time.Millisecond)
	}
	t.Error("running ahead:", before, "behind:", runtime.NumGoroutine())
}
