package tests

import (
	"fmt"
	"math"
	"math/big"
	"math/rand"
	"slices"
	"testing"

	"loop.example/g00543/impl"
)

const modBits = 14

// largestModulus is that of MulMod and PowMod; a circuit has only moduli that are less.
const largestModulus = 1 << modBits

const maxExponent = 63

// modelMulMod computes with unbounded numbers.
func modelMulMod(a, b, m int) (int, bool) {
	if m > largestModulus || min(a, b) < 0 || max(a, b) >= m {
		return 0, false
	}
	product := new(big.Int).Mul(bigOf(a), bigOf(b))
	return int(product.Mod(product, bigOf(m)).Int64()), true
}

// modelPowMod computes the power before the remainder.
func modelPowMod(a, n, m int) (int, bool) {
	if m > largestModulus || a < 0 || a >= m || n < 0 || n > maxExponent {
		return 0, false
	}
	power := new(big.Int).Exp(bigOf(a), bigOf(n), nil)
	return int(power.Mod(power, bigOf(m)).Int64()), true
}

// moduli are valid without a circuit.
func moduli() []int {
	l := []int{97, 100, 127, 128, 255, 256, 1000, 8191, 8192, 8193, 9973, 12345, 16381, 16382, 16383, 16384}
	for m := range 20 {
		l = append(l, m+1)
	}
	return l
}

// extremes are not less than any modulus, or negative.
var extremes = []int{
	largestModulus, largestModulus + 1, prime - 1, prime, prime + 1, 1 << 32, 1<<32 + 1, 1 << 62, math.MaxInt - 1, math.MaxInt,
	-1, -2, -largestModulus, -prime, -1 << 32, math.MinInt + 1, math.MinInt,
}

// wrongModuli are not valid without a circuit.
var wrongModuli = []int{
	0, -1, -2, -5, -largestModulus, -prime, -1 << 32, math.MinInt + 1, math.MinInt,
	largestModulus + 1, largestModulus + 2, 2 * largestModulus, prime, 1 << 31, 1 << 32, 1<<32 + 5, math.MaxInt - 1, math.MaxInt,
}

var wrongExponents = []int{
	-1, -2, -63, -64, -1 << 32, math.MinInt, math.MinInt + 1, 64, 65, 127, 128, 1000, prime, 1 << 32, 1<<32 + 1, 1 << 62, math.MaxInt - 1, math.MaxInt,
}

func expectRest(t *testing.T, what string, got int, ok bool, want int, fine bool, args ...int) {
	t.Helper()
	if got != want || ok != fine {
		t.Errorf("%s%v is %d, %v, want %d, %v", what, args, got, ok, want, fine)
	}
}

func expectMulMod(t *testing.T, a, b, m int) {
	t.Helper()
	got, ok := impl.MulMod(a, b, m)
	want, fine := modelMulMod(a, b, m)
	expectRest(t, "MulMod", got, ok, want, fine, a, b, m)
}

func expectPowMod(t *testing.T, a, n, m int) {
	t.Helper()
	got, ok := impl.PowMod(a, n, m)
	want, fine := modelPowMod(a, n, m)
	expectRest(t, "PowMod", got, ok, want, fine, a, n, m)
}

func TestModBits(t *testing.T) { expectInt(t, "ModBits", impl.ModBits, 14) }

func TestMulModExamples(t *testing.T) {
	for _, c := range []struct {
		a, b, m, want int
		ok            bool
	}{
		{90, 80, 97, 22, true}, {96, 96, 97, 1, true}, {0, 96, 97, 0, true}, {96, 0, 97, 0, true}, {1, 96, 97, 96, true}, {6, 7, 42, 0, true}, {5, 7, 12, 11, true},
		{0, 0, 1, 0, true}, {1, 1, 2, 1, true}, {16383, 16383, 16384, 1, true}, {16382, 16382, 16383, 1, true}, {8192, 2, 16384, 0, true}, {16383, 2, 16384, 16382, true},
		{97, 1, 97, 0, false}, {1, 97, 97, 0, false}, {97, 97, 97, 0, false}, {-1, 1, 97, 0, false}, {1, -1, 97, 0, false}, {-1, -1, 97, 0, false},
		{0, 0, 0, 0, false}, {1, 1, 0, 0, false}, {0, 1, 1, 0, false}, {1, 0, 1, 0, false}, {0, 0, -1, 0, false}, {-2, -3, -1, 0, false}, {-1, -1, -5, 0, false},
		{16384, 1, 16384, 0, false}, {1, 16384, 16384, 0, false}, {0, 0, 16385, 0, false}, {3, 5, 16385, 0, false}, {3, 5, math.MaxInt, 0, false}, {3, 5, math.MinInt, 0, false},
	} {
		got, ok := impl.MulMod(c.a, c.b, c.m)
		expectRest(t, "MulMod", got, ok, c.want, c.ok, c.a, c.b, c.m)
	}
}

func TestPowModExamples(t *testing.T) {
	for _, c := range []struct {
		a, n, m, want int
		ok            bool
	}{
		{3, 5, 100, 43, true}, {2, 10, 1000, 24, true}, {2, 13, 16384, 8192, true}, {2, 14, 16384, 0, true}, {2, 63, 16384, 0, true}, {2, 63, 16383, 128, true},
		{96, 63, 97, 96, true}, {96, 62, 97, 1, true}, {5, 1, 7, 5, true}, {5, 0, 7, 1, true}, {0, 0, 7, 1, true}, {0, 1, 7, 0, true}, {0, 63, 7, 0, true}, {1, 63, 7, 1, true},
		{0, 0, 1, 0, true}, {0, 1, 1, 0, true}, {0, 63, 1, 0, true}, {16383, 63, 16384, 16383, true}, {16382, 63, 16383, 16382, true}, {0, 0, 2, 1, true}, {1, 0, 2, 1, true},
		{7, 0, 7, 0, false}, {7, 5, 7, 0, false}, {8, 5, 7, 0, false}, {-1, 2, 7, 0, false}, {5, -1, 7, 0, false}, {5, 64, 7, 0, false}, {5, math.MinInt, 7, 0, false},
		{0, 0, 0, 0, false}, {0, 1, 0, 0, false}, {1, 0, 1, 0, false}, {0, 0, -1, 0, false}, {-2, 1, -1, 0, false}, {0, 0, 16385, 0, false}, {2, 3, 16385, 0, false},
		{16384, 1, 16384, 0, false}, {2, 3, math.MaxInt, 0, false}, {2, 3, math.MinInt, 0, false}, {0, 64, 1, 0, false}, {0, -1, 1, 0, false},
	} {
		got, ok := impl.PowMod(c.a, c.n, c.m)
		expectRest(t, "PowMod", got, ok, c.want, c.ok, c.a, c.n, c.m)
	}
}

func TestMulModOfAllSmallNumbers(t *testing.T) {
	for m := -3; m <= 24; m++ {
		for a := -3; a <= 27; a++ {
			for b := -3; b <= 27; b++ {
				expectMulMod(t, a, b, m)
			}
		}
	}
}

// around returns numbers below, at and above m, and at the ends of the range 0 .. m - 1.
func around(m int) []int {
	return []int{-m, -2, -1, 0, 1, 2, m / 2, m/2 + 1, m - 3, m - 2, m - 1, m, m + 1, 2*m - 1, 2 * m}
}

func TestMulModAtTheEdges(t *testing.T) {
	for _, m := range moduli() {
		for _, a := range slices.Concat(around(m), extremes) {
			for _, b := range slices.Concat(around(m), extremes) {
				expectMulMod(t, a, b, m)
			}
		}
	}
}

func TestRemaindersOfRandomProducts(t *testing.T) {
	r := rand.New(rand.NewSource(70))
	for range 20000 {
		m := 1 + r.Intn(largestModulus)
		a, b := r.Intn(m), r.Intn(m)
		got, ok := impl.MulMod(a, b, m)
		if !ok || got < 0 || got >= m || (a*b-got)%m != 0 {
			t.Errorf("MulMod of %d, %d and %d is %d, %v", a, b, m, got, ok)
		}
		other, _ := impl.MulMod(b, a, m)
		expectInt(t, "MulMod in the other order", other, got, a, b, m)
		expectMulMod(t, a, b, m)
	}
}

func TestPowModOfAllExponents(t *testing.T) {
	for _, m := range moduli() {
		for _, a := range around(m) {
			for n := -3; n <= maxExponent+3; n++ {
				expectPowMod(t, a, n, m)
			}
		}
	}
}

func TestPowersAreProducts(t *testing.T) {
	r := rand.New(rand.NewSource(71))
	for i := range 1000 {
		m := 1 + r.Intn(largestModulus)
		if i < len(moduli()) {
			m = moduli()[i]
		}
		a := r.Intn(m)
		power := 1 % m
		for n := range maxExponent + 1 {
			got, ok := impl.PowMod(a, n, m)
			expectRest(t, "PowMod", got, ok, power, true, a, n, m)
			power, ok = impl.MulMod(power, a, m)
			expectBool(t, "MulMod of a power", ok, true, a, n, m)
			first := r.Intn(n + 1)
			x, _ := impl.PowMod(a, first, m)
			y, _ := impl.PowMod(a, n-first, m)
			product, _ := impl.MulMod(x, y, m)
			expectInt(t, "the product of two powers", product, got, a, n, first, m)
		}
	}
}

func TestWrongModuli(t *testing.T) {
	for _, m := range wrongModuli {
		for _, a := range slices.Concat([]int{0, 1, 2, 5, 96, m}, extremes) {
			for _, b := range []int{0, 1, 7, a, m, math.MaxInt, math.MinInt} {
				got, ok := impl.MulMod(a, b, m)
				expectRest(t, "MulMod", got, ok, 0, false, a, b, m)
				got, ok = impl.MulMod(b, a, m)
				expectRest(t, "MulMod", got, ok, 0, false, b, a, m)
			}
			for _, n := range []int{-1, 0, 1, 2, 63, 64, math.MaxInt, math.MinInt} {
				got, ok := impl.PowMod(a, n, m)
				expectRest(t, "PowMod", got, ok, 0, false, a, n, m)
			}
		}
	}
}

func TestPowModOfWrongArguments(t *testing.T) {
	for _, m := range moduli() {
		for _, n := range wrongExponents {
			for _, a := range slices.Concat(around(m), extremes) {
				got, ok := impl.PowMod(a, n, m)
				expectRest(t, "PowMod", got, ok, 0, false, a, n, m)
			}
		}
		for _, a := range append(slices.Clone(extremes), m, m+1) {
			for _, n := range []int{0, 1, 2, 62, 63} {
				got, ok := impl.PowMod(a, n, m)
				expectRest(t, "PowMod", got, ok, 0, false, a, n, m)
			}
		}
	}
}

func (p *plan) equal(a, b impl.Lin) { p.con(weighted(1, a, -1, b), lin(0, 1), lin()) }

func (p *plan) less(a, b impl.Lin, n int) impl.Lin {
	bits := p.bits(weighted(1, weighted(1, a, -1, b), 1<<n, lin(0, 1)), n+1)
	return weighted(1, lin(0, 1), -1, bits[n])
}

func (p *plan) below(a, m impl.Lin) {
	p.bits(a, modBits)
	p.equal(p.less(a, m, modBits), lin(0, 1))
}

func (p *plan) rest(a, b, m impl.Lin) impl.Lin {
	product := p.product(a, b)
	quotient := p.hint(impl.HtQuo, product, m, 0)
	rest := weighted(1, product, -1, p.product(quotient, m))
	p.bits(quotient, modBits)
	p.bits(rest, modBits)
	p.equal(p.less(rest, m, modBits), lin(0, 1))
	return rest
}

// mulGate is AddMulMod of a, b and m.
func mulGate() gate {
	return gate{"AddMulMod", 3, 0,
		func(s impl.Sys, l []impl.Lin, _ int) outcome { return one(impl.AddMulMod(s, l[0], l[1], l[2])) },
		func(p *plan, l []impl.Lin, _ int) []impl.Lin {
			p.bits(l[2], modBits)
			p.below(l[0], l[2])
			p.below(l[1], l[2])
			return []impl.Lin{p.rest(l[0], l[1], l[2])}
		},
	}
}

// powGate is AddPowMod of a and m with the exponent n.
func powGate(n int) gate {
	return gate{fmt.Sprint("AddPowMod by ", n), 2, 0,
		func(s impl.Sys, l []impl.Lin, _ int) outcome { return one(impl.AddPowMod(s, l[0], n, l[1])) },
		func(p *plan, l []impl.Lin, _ int) []impl.Lin {
			p.bits(l[1], modBits)
			p.below(l[0], l[1])
			rest := weighted(1, lin(0, 1), -1, p.zero(weighted(1, l[1], -1, lin(0, 1))))
			for _, digit := range fmt.Sprintf("%06b", n) {
				rest = p.rest(rest, rest, l[1])
				if digit == '1' {
					rest = p.rest(rest, l[0], l[1])
				}
			}
			return []impl.Lin{rest}
		},
	}
}

// rangeGate is AddRange with n bits.
func rangeGate(n int) gate {
	return gate{fmt.Sprint("AddRange with ", n), 1, 0,
		func(s impl.Sys, l []impl.Lin, _ int) outcome { return plain(impl.AddRange(s, l[0], n)) },
		func(p *plan, l []impl.Lin, _ int) []impl.Lin {
			p.bits(l[0], n)
			return nil
		},
	}
}

// numberGates are the circuits with all n.
func numberGates() []gate {
	l := []gate{mulGate()}
	for n := range maxExponent + 1 {
		l = append(l, powGate(n))
	}
	for n := range 30 {
		l = append(l, rangeGate(n+1))
	}
	return l
}

// someNumberGates are few.
func someNumberGates() []gate {
	return []gate{mulGate(), powGate(0), powGate(1), powGate(32), powGate(21), powGate(maxExponent), rangeGate(1), rangeGate(8), rangeGate(30)}
}

// bitsText is the sum of n bits from the variable v on, as LinText formats it.
func bitsText(v, n int) string {
	text := ""
	for i := range n {
		if i == 0 {
			text = fmt.Sprint("+v", v)
		} else {
			text += fmt.Sprint("+", 1<<i, "*v", v+i)
		}
	}
	return text
}

// expectBits expects n hints from the index h on and n + 1 constraints from c on: the bits of a, the first of which is the variable v.
// The text difference is what precedes the bits in the last constraint.
func expectBits(t *testing.T, hints, cons []string, h, c, v, n int, a, difference string) {
	t.Helper()
	for i := range n {
		expectLines(t, "hint", hints, h+i, fmt.Sprint("1 ", a, " 0 ", i))
		expectLines(t, "constraint", cons, c+i, fmt.Sprintf("v%d -1+v%d 0", v+i, v+i))
	}
	expectLines(t, "constraint", cons, c+n, difference+bitsText(v, n)+" 1 0")
}

// TestAddMulModExample has the factors v1 and v2 and the modulus v3.
func TestAddMulModExample(t *testing.T) {
	s, rest, ok := impl.AddMulMod(impl.Sys{Ins: 3}, lin(1, 1), lin(2, 1), lin(3, 1))
	hints, cons := lines(s)
	if !ok || len(hints) != 118 || len(cons) != 128 {
		t.Fatal(len(hints), len(cons), ok)
	}
	expectBits(t, hints, cons, 0, 0, 4, 14, "v3", "-v3")
	expectBits(t, hints, cons, 14, 15, 18, 14, "v1", "-v1")
	expectBits(t, hints, cons, 28, 30, 32, 15, "16384+v1-v3", "-16384-v1+v3")
	expectLines(t, "constraint", cons, 46, "-v46 1 0")
	expectBits(t, hints, cons, 43, 47, 47, 14, "v2", "-v2")
	expectBits(t, hints, cons, 57, 62, 61, 15, "16384+v2-v3", "-16384-v2+v3")
	expectLines(t, "constraint", cons, 78, "-v75 1 0")
	expectLines(t, "hint", hints, 72, "0 v1 v2 0\n3 v76 v3 0\n0 v77 v3 0")
	expectLines(t, "constraint", cons, 79, "v1 v2 v76\nv77 v3 v78")
	expectBits(t, hints, cons, 75, 81, 79, 14, "v77", "-v77")
	expectBits(t, hints, cons, 89, 96, 93, 14, "v76-v78", "-v76+v78")
	expectBits(t, hints, cons, 103, 111, 107, 15, "16384-v3+v76-v78", "-16384+v3-v76+v78")
	expectLines(t, "constraint", cons, 127, "-v121 1 0")
	expectText(t, "the remainder", rest, "v76-v78")
}

// TestAddPowModExample has the base v1 and the modulus v2; the variable 47 is 1, or 0 if the modulus is 1.
func TestAddPowModExample(t *testing.T) {
	s, rest, ok := impl.AddPowMod(impl.Sys{Ins: 2}, lin(1, 1), 33, lin(2, 1))
	hints, cons := lines(s)
	if !ok || len(hints) != 45+8*46 || len(cons) != 49+8*49 {
		t.Fatal(len(hints), len(cons), ok)
	}
	expectBits(t, hints, cons, 0, 0, 3, 14, "v2", "-v2")
	expectBits(t, hints, cons, 14, 15, 17, 14, "v1", "-v1")
	expectBits(t, hints, cons, 28, 30, 31, 15, "16384+v1-v2", "-16384-v1+v2")
	expectLines(t, "constraint", cons, 46, "-v45 1 0")
	expectLines(t, "hint", hints, 43, "2 -1+v2 0 0\n0 -1+v2 v46 0\n0 v47 v47 0\n3 v48 v2 0\n0 v49 v2 0")
	expectLines(t, "constraint", cons, 47, "-1+v2 v46 v47\n-1+v2 1-v47 0\nv47 v47 v48\nv49 v2 v50")
	expectBits(t, hints, cons, 48, 51, 51, 14, "v49", "-v49")
	expectBits(t, hints, cons, 62, 66, 65, 14, "v48-v50", "-v48+v50")
	expectBits(t, hints, cons, 76, 81, 79, 15, "16384-v2+v48-v50", "-16384+v2-v48+v50")
	expectLines(t, "constraint", cons, 97, "-v93 1 0\nv48-v50 v1 v94\nv95 v2 v96")
	// Only the first and the last bit are 1.
	expectLines(t, "hint", hints, 91, "0 v48-v50 v1 0\n3 v94 v2 0\n0 v95 v2 0")
	for i := range 5 {
		p := 94 + 46*i
		before := fmt.Sprintf("v%d-v%d", p, p+2)
		expectLines(t, "hint", hints, 137+46*i, fmt.Sprintf("0 %s %s 0\n3 v%d v2 0\n0 v%d v2 0", before, before, p+46, p+47))
		expectLines(t, "constraint", cons, 147+49*i, fmt.Sprintf("%s %s v%d\nv%d v2 v%d", before, before, p+46, p+47, p+48))
	}
	expectLines(t, "hint", hints, 367, "0 v324-v326 v1 0\n3 v370 v2 0\n0 v371 v2 0")
	expectLines(t, "constraint", cons, 392, "v324-v326 v1 v370\nv371 v2 v372")
	expectText(t, "the power", rest, "v370-v372")

	_, rest, _ = impl.AddPowMod(impl.Sys{Ins: 2}, lin(1, 1), 0, lin(2, 1))
	expectText(t, "the power by 0", rest, "v278-v280")
}

func TestAddRangeExample(t *testing.T) {
	s, ok := impl.AddRange(impl.Sys{Ins: 2}, lin(0, 5, 2, 3), 2)
	hints, cons := lines(s)
	if !ok || len(hints) != 2 || len(cons) != 3 || len(s.Outs) != 0 {
		t.Fatal(len(hints), len(cons), ok)
	}
	expectLines(t, "hint", hints, 0, "1 5+3*v2 0 0\n1 5+3*v2 0 1")
	expectLines(t, "constraint", cons, 0, "v3 -1+v3 0\nv4 -1+v4 0\n-5-3*v2+v3+2*v4 1 0")
}

func TestSizesOfNumberCircuits(t *testing.T) {
	expect := func(g gate, hints, cons int) {
		t.Helper()
		o := g.add(impl.Sys{}, make([]impl.Lin, g.args), 0)
		if !o.ok || len(o.s.Hints) != hints || len(o.s.Cons) != cons {
			t.Errorf("%s: %d, %d, %v", g.name, len(o.s.Hints), len(o.s.Cons), o.ok)
		}
	}
	expect(mulGate(), 118, 128)
	for n := range maxExponent + 1 {
		count := 6
		for _, bit := range bitsOf(n, 6) {
			count += bit
		}
		expect(powGate(n), 45+46*count, 49+49*count)
	}
	for n := 1; n <= 30; n++ {
		expect(rangeGate(n), n, n+1)
	}
}

func TestWhatNumbersAdd(t *testing.T) {
	for _, g := range numberGates() {
		for i := range 3 {
			expectAdded(t, g, sample(), chosenFrom(combinations(), g.args, i), 0)
		}
	}
	for _, g := range someNumberGates() {
		for _, l := range g.lists(combinations()) {
			expectAdded(t, g, sample(), l, 0)
		}
	}
}

func TestWhatNumbersAddToEachSystem(t *testing.T) { expectEachSystem(t, someNumberGates()) }

func TestWhatNumbersAddToRandomSystems(t *testing.T) {
	r := rand.New(rand.NewSource(72))
	all := numberGates()
	for range 300 {
		s, g := randomSys(r), all[r.Intn(len(all))]
		var l []impl.Lin
		for range g.args {
			l = append(l, smallLin(r, 1+s.Ins+len(s.Hints)))
		}
		expectAdded(t, g, s, l, 0)
	}
}

// TestRangesAreBits compares AddRange with AddBits, for all n.
func TestRangesAreBits(t *testing.T) {
	for n := -2; n <= 33; n++ {
		for _, s := range append(anySystems(), systemWithRoom(3, 10, 20), systemWithRoom(3, 20, 11)) {
			for _, a := range []impl.Lin{lin(), lin(0, 7), lin(1, 1), lin(6, 3), lin(7, 1), lin(0, 0)} {
				got, ok := impl.AddRange(s, a, n)
				want, _, fine := impl.AddBits(s, a, n)
				if ok != fine || !sameSys(got, want) {
					t.Errorf("AddRange(%s, %v, %d) is %s, %v, want %s, %v", about(s), a, n, about(got), ok, about(want), fine)
				}
			}
		}
	}
}

func TestRangesOfAssignments(t *testing.T) {
	for _, shift := range shifts {
		s, x, _ := withInputs(t, shift)
		for n := 1; n <= 30; n++ {
			o := rangeGate(n).add(s, []impl.Lin{x}, 0)
			for _, a := range []int{0, 1, 2, 5, 1<<n - 1, 1<<n - 2, 1 << (n - 1)} {
				if a < 1<<n {
					expectMeaning(t, "AddRange", o, inputsFor(shift, a, 7), []int{})
				}
			}
			for _, a := range []int{1 << n, 1<<n + 1, 1<<30 + 1, prime / 2, prime - 1, prime - 2, prime - 1<<(n-1)} {
				if a >= 1<<n && a < prime {
					expectMeaning(t, "AddRange", o, inputsFor(shift, a, 7), nil)
				}
			}
		}
	}
}

// restOf is nil if there is no remainder in a circuit.
func restOf(rest, m int, ok bool) []int {
	if !ok || m == largestModulus {
		return nil
	}
	return []int{rest}
}

// mulOf and powOf are what mulGate and powGate are to compute.
func mulOf(l []impl.Lin) func(ins []int) []int {
	return func(ins []int) []int {
		v := valuesOf(l, ins)
		rest, ok := modelMulMod(v[0], v[1], v[2])
		return restOf(rest, v[2], ok)
	}
}

func powOf(n int, l []impl.Lin) func(ins []int) []int {
	return func(ins []int) []int {
		v := valuesOf(l, ins)
		rest, ok := modelPowMod(v[0], n, v[1])
		return restOf(rest, v[1], ok)
	}
}

// circuitModuli are field elements; some of them are no moduli of a circuit.
func circuitModuli() []int {
	return []int{0, 1, 2, 3, 7, 97, 100, 8191, 8192, 16381, 16382, 16383, 16384, 16385, 32768, 1 << 30, prime - 16384, prime - 2, prime - 1}
}

// valuesAround are field elements that are less than m or not.
func valuesAround(m int) []int {
	var l []int
	for _, a := range []int{0, 1, 2, m / 2, m - 2, m - 1, m, m + 1, 2 * m, 16383, 16384, m + 16384, prime - 1, prime - 2, m - 16384, m - 16385} {
		l = append(l, mod(bigOf(a)))
	}
	slices.Sort(l)
	return slices.Compact(l)
}

func TestProductsByModuliOfAssignments(t *testing.T) {
	x := inputVars(3)
	o := mulGate().add(impl.Sys{Ins: 3}, x, 0)
	for _, m := range circuitModuli() {
		for _, a := range valuesAround(m) {
			for _, b := range valuesAround(m) {
				expectComputes(t, "AddMulMod", o, []int{a, b, m}, mulOf(x), nil)
			}
		}
	}
	r := rand.New(rand.NewSource(73))
	for range 1000 {
		m := 1 + r.Intn(largestModulus-1)
		ins := []int{r.Intn(m), r.Intn(m), m}
		expectComputes(t, "AddMulMod", o, ins, mulOf(x), nil)
		w, _ := impl.Solve(o.s, ins)
		rest, ok := impl.MulMod(ins[0], ins[1], m)
		expectBool(t, "MulMod", ok, true, ins)
		expectInt(t, "MulMod", rest, modelValue(o.lins[0], w), ins)
	}
}

func TestPowersByModuliOfAssignments(t *testing.T) {
	r := rand.New(rand.NewSource(74))
	x := inputVars(2)
	for n := range maxExponent + 1 {
		o := powGate(n).add(impl.Sys{Ins: 2}, x, 0)
		for range 10 {
			m := 1 + r.Intn(largestModulus-1)
			ins := []int{r.Intn(m), m}
			expectComputes(t, "AddPowMod", o, ins, powOf(n, x), nil)
			w, _ := impl.Solve(o.s, ins)
			power, ok := impl.PowMod(ins[0], n, m)
			expectBool(t, "PowMod", ok, true, ins)
			expectInt(t, "PowMod", power, modelValue(o.lins[0], w), ins)
		}
		for _, ins := range [][]int{{0, 1}, {0, 2}, {1, 2}, {0, 16383}, {16382, 16383}, {16383, 16383}, {1, 1}, {0, 0}, {0, 16384}, {5, 16384}, {7, 7}, {8, 7}} {
			expectComputes(t, "AddPowMod", o, ins, powOf(n, x), nil)
		}
	}
	for _, n := range []int{0, 1, 2, 42, 63} {
		o := powGate(n).add(impl.Sys{Ins: 2}, x, 0)
		for _, m := range circuitModuli() {
			for _, a := range valuesAround(m) {
				expectComputes(t, "AddPowMod", o, []int{a, m}, powOf(n, x), nil)
			}
		}
	}
}

// TestChangedAssignmentsOfProducts changes each variable in turn.
func TestChangedAssignmentsOfProducts(t *testing.T) {
	x := inputVars(3)
	o := mulGate().add(impl.Sys{Ins: 3}, x, 0)
	vars := 4 + len(o.s.Hints)
	var all []int
	for v := 1; v < vars; v++ {
		all = append(all, v)
	}
	for _, ins := range [][]int{
		{90, 80, 97}, {16382, 16382, 16383}, {0, 0, 1}, {0, 5, 7}, {6, 7, 42}, {1, 1, 2}, {4096, 4, 16383},
		{97, 80, 97}, {80, 97, 97}, {98, 1, 97}, {1, 98, 97}, {0, 0, 0}, {1, 0, 1}, {16384, 1, 16383}, {5, 6, 16384}, {prime - 1, 3, 97}, {3, prime - 1, 97}, {3, 5, prime - 1},
	} {
		expectComputes(t, "AddMulMod", o, ins, mulOf(x), all)
	}
}

func TestChangedAssignmentsOfPowers(t *testing.T) {
	r := rand.New(rand.NewSource(75))
	x := inputVars(2)
	for _, n := range []int{0, 1, 5, 32, 63} {
		o := powGate(n).add(impl.Sys{Ins: 2}, x, 0)
		vars := 3 + len(o.s.Hints)
		// The first remainders begin with the variable 48, after those for the start.
		first := []int{1, 2, 3, 16, 17, 30, 31, 45, 46, 47, 48, 49, 50}
		for _, ins := range [][]int{{3, 100}, {16382, 16383}, {0, 1}, {0, 7}, {1, 2}, {100, 100}, {101, 100}, {0, 0}, {1, 1}, {5, 16384}, {prime - 1, 100}} {
			expectComputes(t, "AddPowMod", o, ins, powOf(n, x), append(someOf(r, vars, 12), first...))
		}
	}
	o := powGate(0).add(impl.Sys{Ins: 2}, x, 0)
	for _, m := range []int{1, 2, 50} {
		expectComputes(t, "AddPowMod", o, []int{0, m}, powOf(0, x), someOf(r, 3+len(o.s.Hints), maxVars))
	}
}

// claimed is w with other values of the bits of x, the first of which is the variable v.
func claimed(w []int, v, n, x int) []int {
	c := slices.Clone(w)
	copy(c[v:], bitsOf(x, n))
	return c
}

// TestOtherQuotients claims for a product each quotient that fits to another remainder, modulo P.
func TestOtherQuotients(t *testing.T) {
	o := mulGate().add(impl.Sys{Ins: 3}, inputVars(3), 0)
	for _, ins := range [][]int{{90, 80, 97}, {1, 1, 2}, {0, 0, 1}, {16382, 16381, 16383}, {0, 40, 12345}, {100, 200, 16383}} {
		w := modelSolve(o.s, ins)
		m := ins[2]
		right := w[76] - w[78]
		inverse := new(big.Int).ModInverse(bigOf(m), bigOf(prime))
		for _, rest := range slices.Concat(around(m), []int{right, right + m, right - m, right + 2*m, right + 1, right - 1, 16383, 16384, prime - 1}) {
			quotient := mod(new(big.Int).Mul(inverse, bigOf(w[76]-rest)))
			c := recomputed(o.s, with(w, 77, quotient), 78)
			expectBool(t, "Check of another quotient", impl.Check(o.s, c), rest == right, ins, rest)
			if rest >= 0 {
				// Bits of the quotient and of the remainder that fit as far as there are enough of them.
				c = claimed(claimed(c, 79, modBits, quotient), 93, modBits, rest)
				expectBool(t, "Check of other bits", impl.Check(o.s, c), rest == right, ins, rest)
			}
		}
	}
}

// TestEachQuotient tries all quotients of modBits bits, and those modulo P that lead to a remainder of modBits bits.
func TestEachQuotient(t *testing.T) {
	o := mulGate().add(impl.Sys{Ins: 3}, inputVars(3), 0)
	for _, ins := range [][]int{{90, 80, 97}, {7000, 9001, 16001}} {
		w := modelSolve(o.s, ins)
		inverse := new(big.Int).ModInverse(bigOf(ins[2]), bigOf(prime))
		for x := range largestModulus {
			for _, quotient := range []int{x, mod(new(big.Int).Mul(inverse, bigOf(w[76]-x)))} {
				c := recomputed(o.s, with(w, 77, quotient), 78)
				if impl.Check(o.s, c) != (quotient == w[77]) {
					t.Errorf("Check for the quotient %d of %v", quotient, ins)
				}
			}
		}
	}
}

// TestInverseOfZero has the modulus 1, for which the variable of the inverse may have any value, and the power is 0 for each of them.
func TestInverseOfZero(t *testing.T) {
	x := inputVars(2)
	for _, n := range []int{0, 1, 63} {
		o := powGate(n).add(impl.Sys{Ins: 2}, x, 0)
		w := modelSolve(o.s, []int{0, 1})
		for _, v := range elements() {
			c := with(w, 46, v)
			if !impl.Check(o.s, c) || modelValue(o.lins[0], c) != 0 {
				t.Errorf("%d is not allowed as the inverse of 0", v)
			}
			c = recomputed(o.s, with(c, 47, 1), 48)
			expectBool(t, "Check of another start", impl.Check(o.s, c), false, n, v)
		}
	}
}

// TestNumbersOfCombinations uses arguments and moduli that are constants, without terms, and sums of several inputs.
func TestNumbersOfCombinations(t *testing.T) {
	r := rand.New(rand.NewSource(76))
	l := []impl.Lin{
		lin(), lin(0, 96), lin(1, 1, 2, 1), lin(0, 96, 1, minus1), lin(2, 2), lin(1, 1, 3, 30), lin(3, 96), lin(1, 1, 2, minus1), lin(0, 97), lin(0, minus1, 3, 1),
	}
	m := []impl.Lin{
		lin(0, 97), lin(0, 97, 1, 1), lin(1, 1, 2, 1, 3, 1), lin(0, 16383), lin(0, 16000, 2, 3, 3, 1), lin(0, 16384), lin(), lin(0, 1), lin(3, 1), lin(0, 2), lin(1, 300), lin(0, minus1),
	}
	for i := range 120 {
		ins := []int{40 + r.Intn(30), r.Intn(20), r.Intn(2)}
		args := append(chosenFrom(l, 2, i), m[(i/3)%len(m)])
		expectComputes(t, "AddMulMod", mulGate().add(impl.Sys{Ins: 3}, args, 0), ins, mulOf(args), []int{1, 2, 3})
		n := i * 7 % 64
		expectComputes(t, "AddPowMod", powGate(n).add(impl.Sys{Ins: 3}, args[1:], 0), ins, powOf(n, args[1:]), []int{1, 2, 3})
	}
	x := lin(1, 1)
	for _, a := range []int{0, 1, 2, 96, 16382, 16383, 16384, prime - 1} {
		// The same combination in each place: a is never less than itself.
		for _, g := range []gate{mulGate(), powGate(0), powGate(3)} {
			args := slices.Repeat([]impl.Lin{x}, g.args)
			expectComputes(t, g.name, g.add(impl.Sys{Ins: 1}, args, 0), []int{a}, func([]int) []int { return nil }, []int{1})
		}
		square := []impl.Lin{x, x, lin(0, 1, 1, 1)}
		expectComputes(t, "AddMulMod", mulGate().add(impl.Sys{Ins: 1}, square, 0), []int{a}, mulOf(square), []int{1})
	}
}

func TestNumbersOfConstants(t *testing.T) {
	for _, m := range []int{0, 1, 2, 97, 16383, 16384, prime - 1} {
		for _, a := range valuesAround(m) {
			args := []impl.Lin{constant(a), constant(1), constant(m)}
			expectComputes(t, "AddMulMod", mulGate().add(impl.Sys{}, args, 0), nil, mulOf(args), nil)
			args = []impl.Lin{constant(a), constant(m)}
			for _, n := range []int{0, 1, 6, 63} {
				expectComputes(t, "AddPowMod", powGate(n).add(impl.Sys{}, args, 0), nil, powOf(n, args), nil)
			}
		}
	}
}

// TestRemaindersOfRemainders uses the results of one circuit as arguments of the next one, and results as moduli.
func TestRemaindersOfRemainders(t *testing.T) {
	s, ok := impl.SysNew(3)
	s, product, fine := impl.AddMulMod(s, lin(1, 1), lin(2, 1), lin(3, 1))
	s, power, good := impl.AddPowMod(s, product, 11, lin(3, 1))
	s, last, well := impl.AddMulMod(s, lin(0, 3), power, weighted(1, power, 4, lin(0, 1)))
	if !ok || !fine || !good || !well {
		t.Fatal(ok, fine, good, well)
	}
	r := rand.New(rand.NewSource(77))
	for range 200 {
		m := 1 + r.Intn(16000)
		ins := []int{r.Intn(m), r.Intn(m), m}
		x, _ := modelMulMod(ins[0], ins[1], m)
		y, _ := modelPowMod(x, 11, m)
		z, _ := modelMulMod(3, y, y+4)
		w, ok := impl.Solve(s, ins)
		if !ok {
			t.Fatalf("%v is not solved", ins)
		}
		got := []int{modelValue(product, w), modelValue(power, w), modelValue(last, w)}
		expectInts(t, "the results", got, []int{x, y, z}, ins)
	}
}

func TestAddPowModOfOtherExponents(t *testing.T) {
	for _, s := range append(anySystems(), systemWithRoom(9, 0, 0)) {
		for _, n := range wrongExponents {
			for _, a := range []impl.Lin{lin(), lin(0, 1), lin(0, 5), lin(0, 0)} {
				expectNothing(t, fmt.Sprint("AddPowMod by ", n), one(impl.AddPowMod(s, a, n, lin(0, 7))))
				expectNothing(t, fmt.Sprint("AddPowMod by ", n), one(impl.AddPowMod(s, lin(0, 1), n, a)))
			}
		}
	}
	for _, n := range []int{0, 1, 62, 63} {
		expectAdded(t, powGate(n), sample(), []impl.Lin{lin(1, 1), lin(2, 1)}, 0)
	}
}

func TestAddRangeOfOtherNumbers(t *testing.T) {
	for _, s := range append(anySystems(), systemWithRoom(9, 0, 0)) {
		for _, n := range []int{0, -1, -2, -30, 31, 32, 62, 63, 64, 100, prime, 1<<32 + 1, math.MaxInt, math.MinInt} {
			for _, a := range []impl.Lin{lin(), lin(0, 1), lin(0, 0)} {
				expectNothing(t, fmt.Sprint("AddRange with ", n), plain(impl.AddRange(s, a, n)))
			}
		}
	}
	for _, n := range []int{1, 2, 29, 30} {
		expectAdded(t, rangeGate(n), sample(), []impl.Lin{lin(1, 1)}, 0)
	}
}

func TestNumbersOfCombinationsThatAreNotInTheSystem(t *testing.T) {
	expectOwnVariables(t, someNumberGates())
}

func TestNumbersOfInvalidSystems(t *testing.T) { expectInvalidSystemsRefused(t, someNumberGates()) }

func TestNumbersUpToTheLimits(t *testing.T) { expectLimits(t, someNumberGates()) }

// TestNumbersBelowTheLimits has room for each smaller number of hints or constraints.
func TestNumbersBelowTheLimits(t *testing.T) {
	for _, g := range []gate{mulGate(), powGate(0), rangeGate(30)} {
		l := slices.Repeat([]impl.Lin{lin(0, 1)}, g.args)
		p, _ := g.planned(0, l, 0)
		for h := range len(p.hints) {
			if h%7 == 0 || h > len(p.hints)-20 {
				expectFull(t, g, systemWithRoom(3, h, maxCons), l, 0)
			}
		}
		for c := range len(p.cons) {
			if c%7 == 0 || c > len(p.cons)-20 {
				expectFull(t, g, systemWithRoom(3, 2000, c), l, 0)
			}
		}
	}
}

func TestNumbersOfTheLastVariables(t *testing.T) { expectLastVariables(t, someNumberGates()) }

func TestNumberCircuitsNeitherChangeNorShareMemory(t *testing.T) {
	expectOwnMemory(t, someNumberGates())
}

func TestNumberCircuitsOfSharedMemory(t *testing.T) {
	x := impl.Lin{L: spare([]impl.Term{{Var: 0, K: 7}, {Var: 2, K: 1}}, impl.Term{Var: 3, K: 1})}
	s := impl.Sys{Ins: 2, Outs: []impl.Lin{x, x}, Hints: []impl.Hint{{A: x, B: x}}, Cons: []impl.Con{{A: x, B: x, C: x}}}
	for _, g := range someNumberGates() {
		l := slices.Repeat([]impl.Lin{x}, g.args)
		args := distinct(append(spansOf(s), spansOf(impl.Sys{Outs: l})...))
		expectApart(t, append(args, spansOfOutcome(g.add(s, l, 0))...))
		expectAdded(t, g, s, l, 0)
	}
}

func TestNumbersDoNotDependOnEarlierCalls(t *testing.T) {
	full := systemWithRoom(10, 0, 0)
	for range 3 {
		for _, g := range someNumberGates() {
			l := slices.Repeat([]impl.Lin{lin(1, 1)}, g.args)
			expectAdded(t, g, sample(), l, 0)
			expectFull(t, g, full, l, 0)
			expectRefused(t, g, sample(), slices.Repeat([]impl.Lin{lin(7, 1)}, g.args), 0, "a variable that does not exist")
		}
		expectMulMod(t, 90, 80, 97)
		expectMulMod(t, 97, 80, 97)
		expectMulMod(t, 9, 8, 10)
		expectPowMod(t, 3, 5, 100)
		expectPowMod(t, 0, 0, 1)
		expectPowMod(t, 3, 64, 100)
	}
}
