package tests

import (
	"go/ast"
	"go/parser"
	"go/token"
	"math"
	"math/big"
	"math/rand"
	"slices"
	"testing"

	"loop.example/g00063/impl"
)

var (
	infinite = math.Inf(1)
	noNumber = math.NaN()
	// A constant can't have it: -0.0 is +0.
	lessNought = math.Copysign(0, -1)
)

var edgeFloats = []float64{
	0, lessNought, 1, -1, 0.1, -0.3, 3, 1e-160, 1e160, 1e-200, 1e200, math.MaxFloat32, -math.MaxFloat32,
	math.MaxFloat64, -math.MaxFloat64, math.SmallestNonzeroFloat32, math.SmallestNonzeroFloat64,
	-math.SmallestNonzeroFloat64, 0x1p-1022, infinite, -infinite, noNumber,
}

func cx(re, im float64) impl.Cx { return impl.Cx{Re: re, Im: im} }

func sharp(re, im float32) impl.Sharp { return impl.Sharp{Re: re, Im: im} }

func isFinite(x float64) bool { return !math.IsNaN(x) && !math.IsInf(x, 0) }

// sameFloat is the document's 'the same': by bits, but all NaNs are one.
func sameFloat(x, y float64) bool {
	return math.Float64bits(x) == math.Float64bits(y) || math.IsNaN(x) && math.IsNaN(y)
}

func sameFloat32(x, y float32) bool {
	return math.Float32bits(x) == math.Float32bits(y) || x != x && y != y
}

func sameCx(a, b impl.Cx) bool { return sameFloat(a.Re, b.Re) && sameFloat(a.Im, b.Im) }

func sameSharp(a, b impl.Sharp) bool { return sameFloat32(a.Re, b.Re) && sameFloat32(a.Im, b.Im) }

func turnedSign(x float64) float64 { return math.Float64frombits(math.Float64bits(x) ^ 1<<63) }

// The operations below are worked out exactly and then rounded once, so that they can't be fused. What is not finite goes by the language's own single operation.

func timesExactly(x, y float64) float64 {
	if !isFinite(x) || !isFinite(y) {
		return x * y
	}
	p, _ := new(big.Float).SetPrec(200).Mul(big.NewFloat(x), big.NewFloat(y)).Float64()
	return p
}

func plusExactly(x, y float64) float64 {
	if !isFinite(x) || !isFinite(y) {
		return x + y
	}
	// From the least bit of all to the greatest there are about 2100.
	s, _ := new(big.Float).SetPrec(2200).Add(big.NewFloat(x), big.NewFloat(y)).Float64()
	return s
}

func overExactly(x, y float64) float64 {
	if !isFinite(x) || !isFinite(y) || y == 0 {
		return x / y
	}
	q, _ := new(big.Rat).Quo(new(big.Rat).SetFloat64(math.Abs(x)), new(big.Rat).SetFloat64(math.Abs(y))).Float64()
	if math.Signbit(x) != math.Signbit(y) {
		return turnedSign(q)
	}
	return q
}

func sharperExactly(x float64) float32 {
	if math.IsNaN(x) {
		return float32(x)
	}
	f, _ := big.NewFloat(x).Float32()
	return f
}

func addByWords(a, b impl.Cx) impl.Cx {
	return cx(plusExactly(a.Re, b.Re), plusExactly(a.Im, b.Im))
}

func lessByWords(a, b impl.Cx) impl.Cx {
	return addByWords(a, cx(turnedSign(b.Re), turnedSign(b.Im)))
}

func timesByWords(a, b impl.Cx) impl.Cx {
	return cx(plusExactly(timesExactly(a.Re, b.Re), turnedSign(timesExactly(a.Im, b.Im))),
		plusExactly(timesExactly(a.Re, b.Im), timesExactly(a.Im, b.Re)))
}

func overByWords(a, b impl.Cx) (impl.Cx, bool) {
	for _, x := range []float64{a.Re, a.Im, b.Re, b.Im} {
		if !isFinite(x) {
			return impl.Cx{}, false
		}
	}
	s := plusExactly(timesExactly(b.Re, b.Re), timesExactly(b.Im, b.Im))
	if s == 0 || !isFinite(s) {
		return impl.Cx{}, false
	}
	p := timesByWords(a, cx(b.Re, turnedSign(b.Im)))
	return cx(overExactly(p.Re, s), overExactly(p.Im, s)), true
}

func polyByWords(list []impl.Cx, z impl.Cx) impl.Cx {
	value := cx(0, 0)
	for _, c := range list {
		value = addByWords(timesByWords(value, z), c)
	}
	return value
}

func fromRootsByWords(roots []impl.Cx) []impl.Cx {
	list := []impl.Cx{cx(1, 0)}
	for _, root := range roots {
		n := len(list)
		longer := []impl.Cx{list[0]}
		for i := 1; i <= n-1; i++ {
			longer = append(longer, lessByWords(list[i], timesByWords(list[i-1], root)))
		}
		list = append(longer, lessByWords(cx(0, 0), timesByWords(list[n-1], root)))
	}
	return list
}

func stepsByWords(z impl.Cx, n int) []impl.Sharp {
	list := []impl.Sharp{}
	power := cx(1, 0)
	for i := 0; i <= n; i++ {
		list = append(list, sharp(sharperExactly(power.Re), sharperExactly(power.Im)))
		power = timesByWords(power, z)
	}
	return list
}

// floatOf is now an edge, now a small whole number, now a number that rounds in each product, now any bits at all.
func floatOf(r *rand.Rand) float64 {
	switch r.Intn(5) {
	case 0:
		return edgeFloats[r.Intn(len(edgeFloats))]
	case 1:
		return float64(r.Intn(19) - 9)
	case 2:
		return math.Float64frombits(r.Uint64())
	}
	return tameFloat(r)
}

// tameFloat is not far from 1, so that what is made from it stays finite and most of it is rounded.
func tameFloat(r *rand.Rand) float64 { return 2*r.Float64() - 1 }

func cxFrom(r *rand.Rand, part func(*rand.Rand) float64) impl.Cx { return cx(part(r), part(r)) }

func cxListOf(r *rand.Rand, most int, part func(*rand.Rand) float64) []impl.Cx {
	list := make([]impl.Cx, r.Intn(most+1))
	for i := range list {
		list[i] = cxFrom(r, part)
	}
	return list
}

func smallWhole(r *rand.Rand) float64 { return float64(r.Intn(7) - 3) }

func TestLimitsOfModes(t *testing.T) {
	if impl.MaxRoots != 12 {
		t.Error("limits", impl.MaxRoots)
	}
}

func TestWiderByHand(t *testing.T) {
	for _, c := range []struct {
		from impl.Sharp
		want impl.Cx
	}{
		{impl.Sharp{}, impl.Cx{}},
		{sharp(0.1, -2.5), cx(0x1.99999ap-4, -2.5)},
		{sharp(float32(lessNought), 0), cx(lessNought, 0)},
		{sharp(0, float32(lessNought)), cx(0, lessNought)},
		{sharp(math.MaxFloat32, math.SmallestNonzeroFloat32), cx(math.MaxFloat32, 0x1p-149)},
		{sharp(float32(infinite), float32(-infinite)), cx(infinite, -infinite)},
		{sharp(float32(noNumber), 3), cx(noNumber, 3)},
	} {
		if got := impl.Wider(c.from); !sameCx(got, c.want) {
			t.Errorf("Wider %v: %v, not %v", c.from, got, c.want)
		}
	}
}

func TestSharperByHand(t *testing.T) {
	for _, c := range []struct {
		name string
		from float64
		want float32
	}{
		{"0", 0, 0},
		{"-0", lessNought, float32(lessNought)},
		{"a tie below, to the even one", 0x1.000001p0, 1},
		{"a tie above, to the even one", 0x1.000003p0, 0x1.000004p0},
		{"a bit above a tie", 0x1.0000010000001p0, 0x1.000002p0},
		{"a bit below a tie", 0x1.0000030000000p0 - 0x1p-52, 0x1.000002p0},
		{"the greatest", math.MaxFloat32, math.MaxFloat32},
		{"a bit below what is too great", 0x1.fffffefffffffp127, math.MaxFloat32},
		{"too great", 0x1.ffffffp127, float32(infinite)},
		{"far too great, below 0", -math.MaxFloat64, float32(-infinite)},
		{"the least", 0x1p-149, math.SmallestNonzeroFloat32},
		{"half the least", 0x1p-150, 0},
		{"half the least, below 0", -0x1p-150, float32(lessNought)},
		{"a bit above half the least", 0x1.0000000000001p-150, math.SmallestNonzeroFloat32},
		{"the least of all", math.SmallestNonzeroFloat64, 0},
		{"infinite", infinite, float32(infinite)},
		{"infinite below 0", -infinite, float32(-infinite)},
		{"no number", noNumber, float32(noNumber)},
	} {
		if got := impl.Sharper(cx(c.from, 7)); !sameSharp(got, sharp(c.want, 7)) {
			t.Errorf("%s: as Re %v", c.name, got)
		}
		if got := impl.Sharper(cx(7, c.from)); !sameSharp(got, sharp(7, c.want)) {
			t.Errorf("%s: as Im %v", c.name, got)
		}
	}
}

func TestSharperOfWiderIsWhatItWas(t *testing.T) {
	r := rand.New(rand.NewSource(40))
	for range 20000 {
		a := sharp(math.Float32frombits(r.Uint32()), float32(floatOf(r)))
		if got := impl.Sharper(impl.Wider(a)); !sameSharp(got, a) {
			t.Fatalf("%v: %v", a, got)
		}
	}
}

func TestSumsAndDifferencesByHand(t *testing.T) {
	for _, c := range []struct {
		a, b, sum, less impl.Cx
	}{
		{cx(3, 4), cx(1, -2), cx(4, 2), cx(2, 6)},
		{cx(0, lessNought), cx(lessNought, lessNought), cx(0, lessNought), cx(0, 0)},
		{cx(lessNought, 0), cx(0, 0), cx(0, 0), cx(lessNought, 0)},
		{cx(0.1, 0x1p53), cx(0.2, 1), cx(0x1.3333333333334p-2, 0x1p53), cx(-0.1, 0x1p53-1)},
		{cx(infinite, infinite), cx(infinite, -infinite), cx(infinite, noNumber), cx(noNumber, infinite)},
		{cx(noNumber, 1), cx(1, 1), cx(noNumber, 2), cx(noNumber, 0)},
		{cx(math.MaxFloat64, 0), cx(math.MaxFloat64, 0), cx(infinite, 0), cx(0, 0)},
	} {
		if got := impl.CxAdd(c.a, c.b); !sameCx(got, c.sum) {
			t.Errorf("%v and %v: %v, not %v", c.a, c.b, got, c.sum)
		}
		if got := impl.CxLess(c.a, c.b); !sameCx(got, c.less) {
			t.Errorf("%v less %v: %v, not %v", c.a, c.b, got, c.less)
		}
	}
}

func TestProductsByHand(t *testing.T) {
	for _, c := range []struct {
		name       string
		a, b, want impl.Cx
	}{
		{"small whole ones", cx(3, 4), cx(5, -2), cx(23, 14)},
		{"by i", cx(3, 4), cx(0, 1), cx(-4, 3)},
		// Fused, what each product is rounded by would be left over.
		{"Re rounds to 0", cx(0.1, 0.1), cx(0.1, 0.1), cx(0, 2*0x1.47ae147ae147cp-7)},
		{"Im rounds to 0", cx(0.1, -0.1), cx(0.1, 0.1), cx(2*0x1.47ae147ae147cp-7, 0)},
		{"the signs of 0", cx(lessNought, 0), cx(1, 0), cx(lessNought, 0)},
		{"-0 less 0", cx(lessNought, 1), cx(1, 0), cx(lessNought, 1)},
		{"-0 and -0", cx(1, lessNought), cx(1, lessNought), cx(1, lessNought)},
		{"-0 and 0", cx(1, lessNought), cx(1, 0), cx(1, 0)},
		{"too great", cx(1e200, 0), cx(1e200, 0), cx(infinite, 0)},
		{"too great twice", cx(1e200, 1e200), cx(1e200, 1e200), cx(noNumber, infinite)},
		{"too little", cx(-1e-200, 0), cx(1e-200, 0), cx(lessNought, 0)},
		{"infinite by 0", cx(infinite, 0), cx(1, 0), cx(infinite, noNumber)},
		{"infinite by infinite", cx(infinite, infinite), cx(1, 1), cx(noNumber, infinite)},
		{"no number", cx(noNumber, 0), cx(1, 1), cx(noNumber, noNumber)},
		{"no number as Im", cx(1, 1), cx(0, noNumber), cx(noNumber, noNumber)},
	} {
		if got := impl.CxTimes(c.a, c.b); !sameCx(got, c.want) {
			t.Errorf("%s: %v, not %v", c.name, got, c.want)
		}
	}
}

// Whether a machine fuses is its own affair, so the text must show that it may not: each product of such a chapter's file stands alone in a conversion.
func eachProductIsRoundedByItself(t *testing.T, name string) {
	file, err := parser.ParseFile(token.NewFileSet(), name, nil, parser.SkipObjectResolution)
	if err != nil {
		t.Fatal(err)
	}
	products, rounded := 0, 0
	ast.Inspect(file, func(n ast.Node) bool {
		switch x := n.(type) {
		case *ast.AssignStmt:
			if x.Tok == token.MUL_ASSIGN {
				products++
			}
		case *ast.BinaryExpr:
			if x.Op == token.MUL {
				products++
			}
		case *ast.CallExpr:
			id, ok := x.Fun.(*ast.Ident)
			if !ok || id.Name != "float64" {
				break
			}
			if y, ok := x.Args[0].(*ast.BinaryExpr); ok && y.Op == token.MUL {
				rounded++
			}
		}
		return true
	})
	if products == 0 || products != rounded {
		t.Errorf("%s: %d products, %d of them rounded by themselves", name, products, rounded)
	}
}

func TestEachProductOfModesIsRoundedByItself(t *testing.T) {
	eachProductIsRoundedByItself(t, "../impl/l04_mode.go")
}

func TestQuotientsByHand(t *testing.T) {
	for _, c := range []struct {
		name       string
		a, b, want impl.Cx
		ok         bool
	}{
		{"small whole ones", cx(3, 4), cx(1, 2), cx(2.2, -0.4), true},
		{"by itself", cx(3, 4), cx(3, 4), cx(1, 0), true},
		{"0 by 1", cx(0, 0), cx(1, 0), cx(0, 0), true},
		// The 0 below has its sign turned; left as it is, the -0 would be 0.
		{"a turned 0 in Re", cx(lessNought, -1), cx(1, 0), cx(lessNought, -1), true},
		{"a turned 0 in Im", cx(1, lessNought), cx(1, 0), cx(1, lessNought), true},
		{"a -0 turned in Re", cx(lessNought, 1), cx(1, lessNought), cx(lessNought, 1), true},
		{"a -0 turned in Im", cx(-1, lessNought), cx(1, lessNought), cx(-1, lessNought), true},
		{"a -0 turned to 0", cx(1, lessNought), cx(1, lessNought), cx(1, 0), true},
		{"the part is too great, the quotient not", cx(math.MaxFloat64, 0), cx(2, 0), cx(infinite, 0), true},
		{"what comes is no number", cx(math.MaxFloat64, math.MaxFloat64), cx(2, 2), cx(infinite, noNumber), true},
		{"squares together just finite", cx(1, 0), cx(0x1p511, 0x1p511), cx(0x1p-512, -0x1p-512), true},
		{"squares together just above 0", cx(0x1p-537, 0), cx(0x1p-537, 0), cx(1, 0), true},
		{"squares that round to 0", cx(1, 1), cx(0x1p-538, 0), impl.Cx{}, false},
		{"by 0", cx(3, 4), cx(0, 0), impl.Cx{}, false},
		{"by -0", cx(3, 4), cx(lessNought, lessNought), impl.Cx{}, false},
		{"0 by 0", cx(0, 0), cx(0, 0), impl.Cx{}, false},
		{"squares far too little", cx(1, 1), cx(1e-200, -1e-200), impl.Cx{}, false},
		{"a square too great", cx(1, 1), cx(1e200, 0), impl.Cx{}, false},
		{"squares too great only together", cx(1, 1), cx(0x1p511*1.5, 0x1p511*1.5), impl.Cx{}, false},
		{"infinite over", cx(infinite, 0), cx(1, 0), impl.Cx{}, false},
		{"infinite over, Im", cx(0, -infinite), cx(1, 0), impl.Cx{}, false},
		{"infinite under", cx(1, 0), cx(-infinite, 0), impl.Cx{}, false},
		{"infinite under, Im", cx(1, 0), cx(0, infinite), impl.Cx{}, false},
		{"no number over", cx(noNumber, 0), cx(1, 0), impl.Cx{}, false},
		{"no number over, Im", cx(0, noNumber), cx(1, 0), impl.Cx{}, false},
		{"no number under", cx(1, 0), cx(noNumber, 0), impl.Cx{}, false},
		{"no number under, Im", cx(1, 0), cx(1, noNumber), impl.Cx{}, false},
	} {
		if got, ok := impl.CxOver(c.a, c.b); !sameCx(got, c.want) || ok != c.ok {
			t.Errorf("%s: %v %v, not %v %v", c.name, got, ok, c.want, c.ok)
		}
	}
}

func TestCxSameByHand(t *testing.T) {
	for _, c := range []struct {
		a, b impl.Cx
		want bool
	}{
		{cx(1, 2), cx(1, 2), true},
		{cx(1, 2), cx(1, 3), false},
		{cx(1, 2), cx(3, 2), false},
		{cx(1, 2), cx(2, 1), false},
		{cx(0, lessNought), cx(lessNought, 0), true},
		{cx(infinite, -infinite), cx(infinite, -infinite), true},
		{cx(infinite, 0), cx(-infinite, 0), false},
		{cx(noNumber, 0), cx(noNumber, 0), false},
		{cx(0, noNumber), cx(0, noNumber), false},
		{cx(0.1, 0), cx(math.Nextafter(0.1, 1), 0), false},
		{cx(0, math.SmallestNonzeroFloat64), cx(0, 0), false},
	} {
		if got := impl.CxSame(c.a, c.b); got != c.want {
			t.Errorf("%v and %v: %v", c.a, c.b, got)
		}
	}
}

func TestOperationsAreAsTheWordsSay(t *testing.T) {
	r := rand.New(rand.NewSource(41))
	over, not := 0, 0
	for range 20000 {
		a, b := cxFrom(r, floatOf), cxFrom(r, floatOf)
		if got, want := impl.Sharper(a), sharp(sharperExactly(a.Re), sharperExactly(a.Im)); !sameSharp(got, want) {
			t.Fatalf("Sharper %v: %v, not %v", a, got, want)
		}
		if got, want := impl.CxAdd(a, b), addByWords(a, b); !sameCx(got, want) {
			t.Fatalf("%v and %v: %v, not %v", a, b, got, want)
		}
		if got, want := impl.CxLess(a, b), lessByWords(a, b); !sameCx(got, want) {
			t.Fatalf("%v less %v: %v, not %v", a, b, got, want)
		}
		if got, want := impl.CxTimes(a, b), timesByWords(a, b); !sameCx(got, want) {
			t.Fatalf("%v times %v: %v, not %v", a, b, got, want)
		}
		got, ok := impl.CxOver(a, b)
		if want, wantOk := overByWords(a, b); !sameCx(got, want) || ok != wantOk {
			t.Fatalf("%v over %v: %v %v, not %v %v", a, b, got, ok, want, wantOk)
		}
		if got, want := impl.CxSame(a, b), a.Re == b.Re && a.Im == b.Im; got != want {
			t.Fatalf("%v the same as %v: %v", a, b, got)
		}
		if ok {
			over++
		} else {
			not++
		}
	}
	if over < 1000 || not < 1000 {
		t.Fatalf("%d divided, %d not: too few to tell", over, not)
	}
}

func TestProductsAndSumsMayBeTurnedAbout(t *testing.T) {
	r := rand.New(rand.NewSource(42))
	for range 20000 {
		a, b := cxFrom(r, floatOf), cxFrom(r, floatOf)
		if p, q := impl.CxTimes(a, b), impl.CxTimes(b, a); !sameCx(p, q) {
			t.Fatalf("%v times %v: %v, turned about %v", a, b, p, q)
		}
		if p, q := impl.CxAdd(a, b), impl.CxAdd(b, a); !sameCx(p, q) {
			t.Fatalf("%v and %v: %v, turned about %v", a, b, p, q)
		}
	}
}

func TestDivisionUndoesWhatRoundsNothing(t *testing.T) {
	r := rand.New(rand.NewSource(43))
	whole := func(r *rand.Rand) float64 { return float64(r.Intn(2001) - 1000) }
	for range 20000 {
		a, b := cxFrom(r, whole), cxFrom(r, whole)
		if b == cx(0, 0) {
			b = cx(0, 1)
		}
		if got, ok := impl.CxOver(impl.CxTimes(a, b), b); !ok || !impl.CxSame(got, a) {
			t.Fatalf("%v times and over %v: %v %v", a, b, got, ok)
		}
	}
}

func TestPolyByHand(t *testing.T) {
	ones := func(n int) []impl.Cx { return slices.Repeat([]impl.Cx{cx(1, 0)}, n) }
	for _, c := range []struct {
		name string
		list []impl.Cx
		z    impl.Cx
		want impl.Cx
		ok   bool
	}{
		{"no coefficient", nil, cx(3, 4), cx(0, 0), true},
		{"no coefficient at no number", nil, cx(noNumber, 4), cx(0, 0), true},
		{"one", []impl.Cx{cx(5, 6)}, cx(3, 4), cx(5, 6), true},
		{"one that is -0, put to what there is", []impl.Cx{cx(lessNought, lessNought)}, cx(3, 4), cx(0, 0), true},
		{"one that is -0, put to a 0 and to a -0", []impl.Cx{cx(lessNought, lessNought)}, cx(-3, -4), cx(0, lessNought), true},
		{"one at infinity", []impl.Cx{cx(5, 6)}, cx(infinite, 0), cx(noNumber, noNumber), true},
		{"the highest power first", []impl.Cx{cx(1, 0), cx(2, 0), cx(3, 0)}, cx(10, 0), cx(123, 0), true},
		{"at i", []impl.Cx{cx(1, 0), cx(0, 0), cx(1, 0)}, cx(0, 1), cx(0, 0), true},
		{"MaxRoots coefficients", ones(12), cx(2, 0), cx(4095, 0), true},
		{"one too many", ones(13), cx(2, 0), impl.Cx{}, false},
		{"far too many", ones(4000), cx(2, 0), impl.Cx{}, false},
		{"a coefficient that is no number", []impl.Cx{cx(1, noNumber)}, cx(0, 0), cx(1, noNumber), true},
	} {
		if got, ok := impl.Poly(c.list, c.z); !sameCx(got, c.want) || ok != c.ok {
			t.Errorf("%s: %v %v, not %v %v", c.name, got, ok, c.want, c.ok)
		}
	}
}

func TestFromRootsByHand(t *testing.T) {
	many := func(n int) []impl.Cx { return slices.Repeat([]impl.Cx{cx(1, 0)}, n) }
	for _, c := range []struct {
		name  string
		roots []impl.Cx
		want  []impl.Cx
		ok    bool
	}{
		{"no root", nil, []impl.Cx{cx(1, 0)}, true},
		{"one", []impl.Cx{cx(3, 4)}, []impl.Cx{cx(1, 0), cx(-3, -4)}, true},
		{"a 0 less a 0 is +0", []impl.Cx{cx(0, 0)}, []impl.Cx{cx(1, 0), cx(0, 0)}, true},
		{"a 0 less a -0 is +0", []impl.Cx{cx(lessNought, lessNought)}, []impl.Cx{cx(1, 0), cx(0, 0)}, true},
		{"two", []impl.Cx{cx(1, 0), cx(2, 0)}, []impl.Cx{cx(1, 0), cx(-3, 0), cx(2, 0)}, true},
		{"i and -i", []impl.Cx{cx(0, 1), cx(0, -1)}, []impl.Cx{cx(1, 0), cx(0, 0), cx(1, 0)}, true},
		{"MaxRoots - 1 roots", many(11), []impl.Cx{cx(1, 0), cx(-11, 0), cx(55, 0), cx(-165, 0), cx(330, 0), cx(-462, 0),
			cx(462, 0), cx(-330, 0), cx(165, 0), cx(-55, 0), cx(11, 0), cx(-1, 0)}, true},
		{"one too many", many(12), []impl.Cx{}, false},
		{"far too many", many(4000), []impl.Cx{}, false},
		{"no number", []impl.Cx{cx(noNumber, 0)}, []impl.Cx{cx(1, 0), cx(noNumber, noNumber)}, true},
		{"infinite", []impl.Cx{cx(infinite, 0)}, []impl.Cx{cx(1, 0), cx(-infinite, noNumber)}, true},
	} {
		if got, ok := impl.FromRoots(c.roots); !slices.EqualFunc(got, c.want, sameCx) || ok != c.ok {
			t.Errorf("%s: %v %v, not %v %v", c.name, got, ok, c.want, c.ok)
		}
	}
}

func TestRootsAreZerosOfWhatIsMadeFromThem(t *testing.T) {
	r := rand.New(rand.NewSource(44))
	for range 2000 {
		roots := cxListOf(r, impl.MaxRoots-1, smallWhole)
		list, ok := impl.FromRoots(roots)
		if !ok || len(list) != len(roots)+1 {
			t.Fatalf("FromRoots %v: %v %v", roots, list, ok)
		}
		for _, root := range roots {
			if got, ok := impl.Poly(list, root); !ok || !impl.CxSame(got, cx(0, 0)) {
				t.Fatalf("Poly of the roots %v at %v: %v %v", roots, root, got, ok)
			}
		}
		// Elsewhere it is the product of what lies between, which is no 0.
		at, want := cx(5, 7), cx(1, 0)
		for _, root := range roots {
			want = impl.CxTimes(want, impl.CxLess(at, root))
		}
		if got, ok := impl.Poly(list, at); !ok || !impl.CxSame(got, want) {
			t.Fatalf("Poly of the roots %v at %v: %v %v, not %v", roots, at, got, ok, want)
		}
	}
}

func TestPolyAndFromRootsAreAsTheWordsSay(t *testing.T) {
	r := rand.New(rand.NewSource(45))
	for round := range 3000 {
		part := []func(*rand.Rand) float64{tameFloat, floatOf, smallWhole}[round%3]
		list, z := cxListOf(r, impl.MaxRoots, part), cxFrom(r, part)
		if got, ok := impl.Poly(list, z); !ok || !sameCx(got, polyByWords(list, z)) {
			t.Fatalf("Poly %v %v: %v %v, not %v", list, z, got, ok, polyByWords(list, z))
		}
		roots := cxListOf(r, impl.MaxRoots-1, part)
		if got, ok := impl.FromRoots(roots); !ok || !slices.EqualFunc(got, fromRootsByWords(roots), sameCx) {
			t.Fatalf("FromRoots %v: %v %v, not %v", roots, got, ok, fromRootsByWords(roots))
		}
	}
}

func TestSteps4ByHand(t *testing.T) {
	for _, c := range []struct {
		name string
		z    impl.Cx
		n    int
		want []impl.Sharp
		ok   bool
	}{
		{"n of 0", cx(3, 4), 0, []impl.Sharp{sharp(1, 0)}, true},
		{"n of 0 of no number", cx(noNumber, noNumber), 0, []impl.Sharp{sharp(1, 0)}, true},
		{"n of 1", cx(3, 4), 1, []impl.Sharp{sharp(1, 0), sharp(3, 4)}, true},
		{"i", cx(0, 1), 4, []impl.Sharp{sharp(1, 0), sharp(0, 1), sharp(-1, 0), sharp(float32(lessNought), -1), sharp(1, float32(lessNought))}, true},
		{"too great for the small size, gone on with", cx(0x1p100, 0), 2, []impl.Sharp{sharp(1, 0), sharp(0x1p100, 0), sharp(float32(infinite), 0)}, true},
		{"too little for the small size, gone on with", cx(0x1p-100, 0), 2, []impl.Sharp{sharp(1, 0), sharp(0x1p-100, 0), sharp(0, 0)}, true},
		// Were it gone on with as told, 1 + 2^-24 would be 1 for good.
		{"not gone on with as told", cx(0x1.000001p0, 0), 2, []impl.Sharp{sharp(1, 0), sharp(1, 0), sharp(0x1.000002p0, 0)}, true},
		{"infinite", cx(infinite, 0), 2, []impl.Sharp{sharp(1, 0), sharp(float32(infinite), float32(noNumber)), sharp(float32(noNumber), float32(noNumber))}, true},
		{"n below 0", cx(3, 4), -1, []impl.Sharp{}, false},
		{"n above 200", cx(3, 4), 201, []impl.Sharp{}, false},
	} {
		if got, ok := impl.Steps4(c.z, c.n); !slices.EqualFunc(got, c.want, sameSharp) || ok != c.ok {
			t.Errorf("%s: %v %v, not %v %v", c.name, got, ok, c.want, c.ok)
		}
	}
	for _, n := range farNumbers {
		if got, ok := impl.Steps4(cx(1, 0), n); len(got) != 0 || ok {
			t.Errorf("n of %d: %v %v", n, got, ok)
		}
	}
}

func TestSteps4OfTheGreatestN(t *testing.T) {
	got, ok := impl.Steps4(cx(2, 0), 200)
	if !ok || len(got) != 201 {
		t.Fatalf("%d steps, %v", len(got), ok)
	}
	for i, p := range got {
		if want := sharp(float32(math.Ldexp(1, i)), 0); !sameSharp(p, want) {
			t.Errorf("2 to the power of %d: %v, not %v", i, p, want)
		}
	}
}

func TestSteps4AreAsTheWordsSay(t *testing.T) {
	r := rand.New(rand.NewSource(46))
	for round := range 300 {
		part := []func(*rand.Rand) float64{tameFloat, floatOf, smallWhole}[round%3]
		z, n := cxFrom(r, part), r.Intn(201)
		if got, ok := impl.Steps4(z, n); !ok || !slices.EqualFunc(got, stepsByWords(z, n), sameSharp) {
			t.Fatalf("Steps4 %v %d: %v %v, not %v", z, n, got, ok, stepsByWords(z, n))
		}
	}
}

func TestDampedByHand(t *testing.T) {
	many := func(n int) []impl.Cx { return slices.Repeat([]impl.Cx{cx(-1, 5)}, n) }
	for _, c := range []struct {
		name  string
		roots []impl.Cx
		want  int
		ok    bool
	}{
		{"no root", nil, 0, true},
		{"below 0, above 0 and 0", []impl.Cx{cx(-1, 0), cx(2, 0), cx(0, 3)}, 1, true},
		{"-0 is not below 0", []impl.Cx{cx(lessNought, -1)}, 0, true},
		{"Im does not count", []impl.Cx{cx(1, -1), cx(-1, 1)}, 1, true},
		{"as little as may be", []impl.Cx{cx(-math.SmallestNonzeroFloat64, 0), cx(math.SmallestNonzeroFloat64, 0)}, 1, true},
		{"infinite", []impl.Cx{cx(-infinite, infinite), cx(infinite, -infinite)}, 1, true},
		{"MaxRoots roots", many(12), 12, true},
		{"one too many", many(13), 0, false},
		{"far too many", many(4000), 0, false},
		{"no number as Re", []impl.Cx{cx(-1, 0), cx(noNumber, 0)}, 0, false},
		{"no number as Im", []impl.Cx{cx(-1, noNumber), cx(-1, 0)}, 0, false},
		{"no number as the last", append(many(11), cx(3, noNumber)), 0, false},
	} {
		if got, ok := impl.Damped(c.roots); got != c.want || ok != c.ok {
			t.Errorf("%s: %d %v, not %d %v", c.name, got, ok, c.want, c.ok)
		}
	}
}

func TestFlutterIsAsTheWordsSay(t *testing.T) {
	if d, s := impl.Flutter(cx(1, 1), cx(2, 0), cx(0, 3), cx(4, -1)); !sameCx(d, cx(5, -3)) || !sameCx(s, cx(5, 0)) {
		t.Errorf("by hand: %v %v", d, s)
	}
	// Both products are rounded whole ahead of the difference.
	if d, _ := impl.Flutter(cx(0.1, 0), cx(0.1, 0), cx(0.1, 0), cx(0.1, 0)); !sameCx(d, cx(0, 0)) {
		t.Errorf("rounded: %v", d)
	}
	r := rand.New(rand.NewSource(47))
	for range 10000 {
		a, b, c, d := cxFrom(r, floatOf), cxFrom(r, floatOf), cxFrom(r, floatOf), cxFrom(r, floatOf)
		det, trace := impl.Flutter(a, b, c, d)
		if want := lessByWords(timesByWords(a, d), timesByWords(b, c)); !sameCx(det, want) {
			t.Fatalf("Flutter %v %v %v %v: %v, not %v", a, b, c, d, det, want)
		}
		if want := addByWords(a, d); !sameCx(trace, want) {
			t.Fatalf("Flutter %v %v %v %v: the trace %v, not %v", a, b, c, d, trace, want)
		}
	}
}

func TestModesWriteIntoNoArgument(t *testing.T) {
	r := rand.New(rand.NewSource(48))
	mark := cx(77, 77)
	for range 200 {
		list := append(cxListOf(r, impl.MaxRoots-1, tameFloat), mark, mark)
		kept := slices.Clone(list)
		short := list[:len(list)-2]
		impl.Poly(short, cx(2, 3))
		impl.Damped(short)
		first, _ := impl.FromRoots(short)
		second, _ := impl.FromRoots(short)
		want := slices.Clone(second)
		for i := range first {
			first[i] = mark
		}
		if !slices.Equal(list, kept) {
			t.Fatalf("written into: %v", list)
		}
		if !slices.Equal(second, want) {
			t.Fatal("two answers share memory")
		}
	}
}
