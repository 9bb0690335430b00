package tests

import (
	"math"
	"math/big"
	"math/rand"
	"slices"
	"strings"
	"testing"

	"loop.example/g00543/impl"
)

const maxVars = 3000

// lin builds a combination from variables and factors in turn, valid or not, without the help of the package.
func lin(numbers ...int) impl.Lin {
	var a impl.Lin
	for i := 0; i+1 < len(numbers); i += 2 {
		a.L = append(a.L, impl.Term{Var: numbers[i], K: numbers[i+1]})
	}
	return a
}

// fullLin contains every variable.
func fullLin(factor func(v int) int) impl.Lin {
	var a impl.Lin
	for v := range maxVars {
		a.L = append(a.L, impl.Term{Var: v, K: factor(v)})
	}
	return a
}

func validLins() []impl.Lin {
	return []impl.Lin{
		lin(), {L: []impl.Term{}},
		lin(0, 1), lin(0, 2), lin(0, prime-1), lin(0, prime/2), lin(0, prime/2+1),
		lin(1, 1), lin(1, prime-1), lin(3, 5), lin(maxVars-1, 1), lin(maxVars-1, prime-1),
		lin(0, prime-2, 3, 5), lin(0, 2, 3, prime-5), lin(0, 1, 1, 1, 2, 1), lin(0, prime-1, 1, prime-1, 2, prime-1),
		lin(1, 7, 4, 9, 5, prime-9), lin(2, 3, 4, prime-9, 6, 1), lin(0, 12345, maxVars-2, 1<<30, maxVars-1, 1<<30+1),
		fullLin(func(v int) int { return v + 1 }), fullLin(func(v int) int { return prime - 1 - v%7 }),
	}
}

func invalidLins() []impl.Lin {
	beyond := fullLin(func(int) int { return 1 })
	beyond.L = append(beyond.L, impl.Term{Var: maxVars, K: 1})
	return []impl.Lin{
		lin(0, 0), lin(1, 0), lin(1, -1), lin(0, prime), lin(1, prime), lin(1, prime+1), lin(1, -prime), lin(1, math.MaxInt), lin(1, math.MinInt),
		lin(-1, 1), lin(-2, 1), lin(maxVars, 1), lin(maxVars+1, 1), lin(math.MaxInt, 1), lin(math.MinInt, 1),
		lin(1, 1, 1, 1), lin(0, 1, 0, 2), lin(1, 3, 1, prime-3), lin(2, 1, 1, 1), lin(1, 1, 0, 1), lin(1, 1, 3, 1, 2, 1), lin(0, 1, 2, 1, 2, 1),
		lin(0, 1, 1, 0), lin(0, 0, 1, 1), lin(0, 1, 1, prime, 2, 1), lin(0, 1, maxVars, 1), lin(-1, 1, 0, 1), lin(1, 1, -1, 1), lin(maxVars-1, 1, maxVars-1, 1),
		beyond,
	}
}

// randomLin has few enough variables that two of them often have some in common, and factors that often cancel.
func randomLin(r *rand.Rand) impl.Lin {
	factors := []int{1, 2, prime - 1, prime - 2, prime / 2, prime/2 + 1, 12345}
	var a impl.Lin
	for v := range 12 {
		if r.Intn(2) == 0 {
			k := factors[r.Intn(len(factors))]
			if r.Intn(3) == 0 {
				k = 1 + r.Intn(prime-1)
			}
			a.L = append(a.L, impl.Term{Var: v, K: k})
		}
	}
	return a
}

func randomAssignment(r *rand.Rand, n int) []int {
	w := []int{1}
	for len(w) < n {
		w = append(w, r.Intn(prime))
	}
	return w
}

// modelCombined computes a + k * b with unbounded numbers, variable by variable, independently of the package.
func modelCombined(a, b impl.Lin, k int) impl.Lin {
	var sums [maxVars]big.Int
	for _, t := range a.L {
		sums[t.Var].Add(&sums[t.Var], bigOf(t.K))
	}
	for _, t := range b.L {
		sums[t.Var].Add(&sums[t.Var], new(big.Int).Mul(bigOf(t.K), bigOf(k)))
	}
	var c impl.Lin
	for v := range sums {
		if n := mod(&sums[v]); n != 0 {
			c.L = append(c.L, impl.Term{Var: v, K: n})
		}
	}
	return c
}

func modelValue(a impl.Lin, w []int) int {
	sum := new(big.Int)
	for _, t := range a.L {
		sum.Add(sum, new(big.Int).Mul(bigOf(t.K), bigOf(w[t.Var])))
	}
	return mod(sum)
}

func sameLin(a, b impl.Lin) bool { return slices.Equal(a.L, b.L) }

// shown keeps the message of a failure short if a combination has thousands of terms.
func shown(a impl.Lin) any {
	if len(a.L) > 20 {
		return struct {
			first []impl.Term
			terms int
		}{a.L[:20], len(a.L)}
	}
	return a.L
}

// expectLin expects the result want and true.
func expectLin(t *testing.T, what string, got impl.Lin, ok bool, want impl.Lin, args ...any) {
	t.Helper()
	if !ok || !sameLin(got, want) {
		t.Errorf("%s%v = %v, %v, want %v, true", what, args, shown(got), ok, shown(want))
	}
}

// expectNoLin expects the zero value and false.
func expectNoLin(t *testing.T, what string, got impl.Lin, ok bool, args ...any) {
	t.Helper()
	if ok || len(got.L) != 0 {
		t.Errorf("%s%v = %v, %v, want the zero value and false", what, args, shown(got), ok)
	}
}

func expectNoValue(t *testing.T, what string, a impl.Lin, w []int) {
	t.Helper()
	if n, ok := impl.Value(a, w); ok || n != 0 {
		t.Errorf("%s: Value(%v) = %d, %v, want 0 and false", what, shown(a), n, ok)
	}
}

// mustLin is for results that the test then examines further.
func mustLin(t *testing.T) func(a impl.Lin, ok bool) impl.Lin {
	return func(a impl.Lin, ok bool) impl.Lin {
		t.Helper()
		if !ok {
			t.Fatal("the result is false for valid arguments")
		}
		return a
	}
}

func mustValue(t *testing.T, a impl.Lin, w []int) int {
	t.Helper()
	n, ok := impl.Value(a, w)
	if !ok {
		t.Fatalf("Value(%v) is false for valid arguments", shown(a))
	}
	return n
}

func TestMaxVars(t *testing.T) {
	expectInt(t, "MaxVars", impl.MaxVars, maxVars)
}

func TestLinOk(t *testing.T) {
	for _, a := range validLins() {
		if !impl.LinOk(a) {
			t.Errorf("LinOk(%v) = false", shown(a))
		}
	}
	for _, a := range invalidLins() {
		if impl.LinOk(a) {
			t.Errorf("LinOk(%v) = true", shown(a))
		}
	}
}

func TestConst(t *testing.T) {
	for _, k := range []int{0, prime, -prime, 2 * prime} {
		expectLin(t, "Const", impl.Const(k), true, lin(), k)
	}
	for _, c := range [][2]int{
		{1, 1}, {2, 2}, {prime - 1, prime - 1}, {prime + 1, 1}, {-1, prime - 1}, {-2, prime - 2}, {-prime - 1, prime - 1},
		{math.MaxInt, 1}, {math.MinInt, prime - 2},
	} {
		expectLin(t, "Const", impl.Const(c[0]), true, lin(0, c[1]), c[0])
	}
	for _, k := range fieldEdges {
		a := impl.Const(k)
		if !impl.LinOk(a) {
			t.Errorf("Const(%d) is not valid", k)
		}
		expectInt(t, "the value of Const", mustValue(t, a, []int{1}), mod(bigOf(k)), k)
	}
}

func TestVarOf(t *testing.T) {
	for _, v := range []int{0, 1, 2, 100, maxVars - 2, maxVars - 1} {
		a, ok := impl.VarOf(v)
		expectLin(t, "VarOf", a, ok, lin(v, 1), v)
	}
	for _, v := range []int{-1, -2, maxVars, maxVars + 1, prime, math.MaxInt, math.MinInt} {
		a, ok := impl.VarOf(v)
		expectNoLin(t, "VarOf", a, ok, v)
	}
}

func TestSumsAndDifferencesExamples(t *testing.T) {
	for _, c := range []struct{ a, b, sum, difference impl.Lin }{
		{lin(), lin(), lin(), lin()},
		{lin(3, 5), lin(), lin(3, 5), lin(3, 5)},
		{lin(), lin(3, 5), lin(3, 5), lin(3, prime-5)},
		{lin(3, 5), lin(0, prime-2), lin(0, prime-2, 3, 5), lin(0, 2, 3, 5)},
		{lin(3, 5), lin(3, 2), lin(3, 7), lin(3, 3)},
		{lin(3, 5), lin(3, 5), lin(3, 10), lin()},
		{lin(3, 5), lin(3, prime-5), lin(), lin(3, 10)},
		{lin(0, 1, 3, 5, 7, 2), lin(3, prime-5), lin(0, 1, 7, 2), lin(0, 1, 3, 10, 7, 2)},
		{lin(0, 1, 3, 5, 7, 2), lin(0, 1, 3, 5, 7, 3), lin(0, 2, 3, 10, 7, 5), lin(7, prime-1)},
		{lin(1, prime-1), lin(1, prime-1), lin(1, prime-2), lin()},
		{lin(1, prime-1), lin(1, 2), lin(1, 1), lin(1, prime-3)},
		{lin(1, 1, 4, 1), lin(2, 1, 3, 1), lin(1, 1, 2, 1, 3, 1, 4, 1), lin(1, 1, 2, prime-1, 3, prime-1, 4, 1)},
		{lin(0, 1), lin(maxVars-1, 1), lin(0, 1, maxVars-1, 1), lin(0, 1, maxVars-1, prime-1)},
	} {
		sum, ok := impl.LinAdd(c.a, c.b)
		expectLin(t, "LinAdd", sum, ok, c.sum, c.a, c.b)
		difference, ok := impl.LinSub(c.a, c.b)
		expectLin(t, "LinSub", difference, ok, c.difference, c.a, c.b)
	}
}

func TestSumsAndDifferencesOfAllPairs(t *testing.T) {
	for _, a := range validLins() {
		for _, b := range validLins() {
			sum, ok := impl.LinAdd(a, b)
			expectLin(t, "LinAdd", sum, ok, modelCombined(a, b, 1), shown(a), shown(b))
			difference, ok := impl.LinSub(a, b)
			expectLin(t, "LinSub", difference, ok, modelCombined(a, b, -1), shown(a), shown(b))
		}
	}
}

func TestSumsOfRandomCombinations(t *testing.T) {
	r := rand.New(rand.NewSource(2))
	must := mustLin(t)
	for range 500 {
		a, b, c := randomLin(r), randomLin(r), randomLin(r)
		sum := must(impl.LinAdd(a, b))
		expectLin(t, "LinAdd", sum, impl.LinOk(sum), modelCombined(a, b, 1), a, b)
		other := must(impl.LinAdd(b, a))
		expectLin(t, "LinAdd in the other order", other, true, sum, a, b)
		left := must(impl.LinAdd(sum, c))
		right := must(impl.LinAdd(a, must(impl.LinAdd(b, c))))
		expectLin(t, "LinAdd in the other grouping", right, true, left, a, b, c)
		difference := must(impl.LinSub(a, b))
		expectLin(t, "LinSub", difference, impl.LinOk(difference), modelCombined(a, b, -1), a, b)
		back := must(impl.LinAdd(difference, b))
		expectLin(t, "the difference plus b", back, true, a, a, b)
	}
}

func TestLinTimesExamples(t *testing.T) {
	a := lin(0, prime-2, 3, 5, maxVars-1, 1<<30)
	for _, c := range []struct {
		k    int
		want impl.Lin
	}{
		{0, lin()}, {prime, lin()}, {-prime, lin()}, {2 * prime, lin()},
		{1, a}, {prime + 1, a}, {-prime + 1, a}, {math.MaxInt, a},
		{2, lin(0, prime-4, 3, 10, maxVars-1, 1)},
		{-1, lin(0, 2, 3, prime-5, maxVars-1, prime-1<<30)}, {prime - 1, lin(0, 2, 3, prime-5, maxVars-1, prime-1<<30)},
		{-2, lin(0, 4, 3, prime-10, maxVars-1, prime-1)}, {math.MinInt, lin(0, 4, 3, prime-10, maxVars-1, prime-1)},
	} {
		got, ok := impl.LinTimes(a, c.k)
		expectLin(t, "LinTimes", got, ok, c.want, c.k)
		none, ok := impl.LinTimes(lin(), c.k)
		expectLin(t, "LinTimes of no terms", none, ok, lin(), c.k)
	}
}

func TestLinTimesOfAllEdges(t *testing.T) {
	small := slices.DeleteFunc(validLins(), func(a impl.Lin) bool { return len(a.L) > 20 })
	for _, k := range fieldEdges {
		for _, a := range small {
			got, ok := impl.LinTimes(a, k)
			expectLin(t, "LinTimes", got, ok, modelCombined(lin(), a, k), a, k)
		}
	}
	for _, a := range validLins() {
		got, ok := impl.LinTimes(a, -3)
		expectLin(t, "LinTimes", got, ok, modelCombined(lin(), a, -3), shown(a))
	}
}

func TestInvalidCombinations(t *testing.T) {
	for _, bad := range invalidLins() {
		for _, other := range []impl.Lin{lin(), lin(0, 1), lin(3, 5), lin(0, prime-1, maxVars-1, 1), bad} {
			sum, ok := impl.LinAdd(bad, other)
			expectNoLin(t, "LinAdd", sum, ok, shown(bad), other)
			sum, ok = impl.LinAdd(other, bad)
			expectNoLin(t, "LinAdd", sum, ok, other, shown(bad))
			difference, ok := impl.LinSub(bad, other)
			expectNoLin(t, "LinSub", difference, ok, shown(bad), other)
			difference, ok = impl.LinSub(other, bad)
			expectNoLin(t, "LinSub", difference, ok, other, shown(bad))
		}
		for _, k := range []int{0, 1, -1, 7, prime, math.MinInt} {
			multiple, ok := impl.LinTimes(bad, k)
			expectNoLin(t, "LinTimes", multiple, ok, shown(bad), k)
		}
		negation, ok := impl.LinNeg(bad)
		expectNoLin(t, "LinNeg", negation, ok, shown(bad))
		for i := range 3 {
			l := []impl.Lin{lin(), lin(3, 5), lin(0, 1, 3, 5)}
			l[i] = bad
			sum, ok := impl.LinSum(l)
			expectNoLin(t, "LinSum", sum, ok, i, shown(bad))
		}
		sum, ok := impl.LinSum([]impl.Lin{bad})
		expectNoLin(t, "LinSum", sum, ok, shown(bad))
		expectNoValue(t, "an invalid combination", bad, []int{1})
		expectNoValue(t, "an invalid combination", bad, slices.Repeat([]int{1}, maxVars))
		if text := impl.LinText(bad); text != nil {
			t.Errorf("LinText(%v) = %q", shown(bad), text)
		}
		if vars := impl.VarsOf(bad); vars != nil {
			t.Errorf("VarsOf(%v) has %d elements", shown(bad), len(vars))
		}
		for _, v := range []int{-1, 0, 1, 2, maxVars - 1, maxVars} {
			expectInt(t, "Coeff", impl.Coeff(bad, v), -1, shown(bad), v)
		}
	}
}

func TestValueExamples(t *testing.T) {
	ones := slices.Repeat([]int{1}, maxVars)
	for _, c := range []struct {
		a    impl.Lin
		w    []int
		want int
	}{
		{lin(), []int{1}, 0}, {lin(), ones, 0}, {lin(0, 1), []int{1}, 1}, {lin(0, prime-1), []int{1, 5}, prime - 1},
		{lin(0, prime-2, 3, 5), []int{1, 0, 0, 10}, 48}, {lin(0, prime-2, 3, 5), []int{1, 9, 9, 0, 9}, prime - 2},
		{lin(1, prime-1), []int{1, prime - 1}, 1}, {lin(1, 1, 2, 1), []int{1, prime - 1, 1}, 0}, {lin(1, 5), []int{1, 0}, 0},
		{lin(maxVars-1, 7), ones, 7}, {fullLin(func(int) int { return 1 }), ones, maxVars},
		{fullLin(func(int) int { return prime - 1 }), append([]int{1}, slices.Repeat([]int{prime - 1}, maxVars-1)...), maxVars - 2},
	} {
		n, ok := impl.Value(c.a, c.w)
		if !ok || n != c.want {
			t.Errorf("Value(%v) = %d, %v, want %d, true", shown(c.a), n, ok, c.want)
		}
	}
}

func TestValueOfAllCombinations(t *testing.T) {
	r := rand.New(rand.NewSource(3))
	for _, a := range validLins() {
		w := randomAssignment(r, maxVars)
		expectInt(t, "Value", mustValue(t, a, w), modelValue(a, w), shown(a))
	}
}

func TestValueOfVariablesWithoutValue(t *testing.T) {
	for _, v := range []int{1, 2, 3, 100, maxVars - 1} {
		w := slices.Repeat([]int{1}, v)
		expectNoValue(t, "a variable without a value", lin(v, 1), w)
		expectNoValue(t, "a variable without a value", lin(0, 1, v, 1), w)
		expectNoValue(t, "a variable without a value", lin(v, 1), w[:1])
		expectInt(t, "Value", mustValue(t, lin(v, 1), append(w, 4)), 4, v)
	}
	// The variable 2 has a value only in the spare capacity.
	expectNoValue(t, "a value beyond the length", lin(2, 1), []int{1, 5, 6}[:2])
}

func TestValueWithoutAssignment(t *testing.T) {
	lins := []impl.Lin{lin(), lin(0, 1), lin(1, 1)}
	for _, a := range lins {
		expectNoValue(t, "no elements", a, nil)
		expectNoValue(t, "no elements", a, []int{})
		expectNoValue(t, "one value too many", a, slices.Repeat([]int{1}, maxVars+1))
		expectNoValue(t, "many values too many", a, slices.Repeat([]int{1}, 3*maxVars))
		for _, first := range append([]int{0, 2, prime - 1, prime + 1, 1 - prime}, notElements...) {
			expectNoValue(t, "the first element", a, []int{first})
			expectNoValue(t, "the first element", a, []int{first, 1, 1})
		}
		for _, bad := range notElements {
			expectNoValue(t, "an element", a, []int{1, bad})
			expectNoValue(t, "an element", a, []int{1, bad, 1})
			expectNoValue(t, "an element that does not occur", a, []int{1, 1, 1, bad})
			w := slices.Repeat([]int{1}, maxVars)
			w[maxVars-1] = bad
			expectNoValue(t, "the last element", a, w)
		}
	}
}

func TestValuesOfSumsAndMultiples(t *testing.T) {
	r := rand.New(rand.NewSource(4))
	must := mustLin(t)
	for i := range 500 {
		a, b, w := randomLin(r), randomLin(r), randomAssignment(r, 12+i%3)
		x, y := mustValue(t, a, w), mustValue(t, b, w)
		expectInt(t, "Value", x, modelValue(a, w), a, w)
		expectInt(t, "the value of a sum", mustValue(t, must(impl.LinAdd(a, b)), w), (x+y)%prime, a, b, w)
		expectInt(t, "the value of a difference", mustValue(t, must(impl.LinSub(a, b)), w), (x-y+prime)%prime, a, b, w)
		expectInt(t, "the value of a negation", mustValue(t, must(impl.LinNeg(a)), w), (prime-x)%prime, a, w)
		k := fieldEdges[i%len(fieldEdges)]
		want := mod(new(big.Int).Mul(bigOf(x), bigOf(k)))
		expectInt(t, "the value of a multiple", mustValue(t, must(impl.LinTimes(a, k)), w), want, a, k, w)
		sum := must(impl.LinSum([]impl.Lin{a, b, a}))
		expectInt(t, "the value of a sum of three", mustValue(t, sum, w), (x+y+x)%prime, a, b, w)
	}
}

func TestLinText(t *testing.T) {
	for _, c := range []struct {
		a    impl.Lin
		want string
	}{
		{lin(), "0"}, {impl.Lin{L: []impl.Term{}}, "0"},
		{lin(0, 1), "1"}, {lin(0, prime-1), "-1"}, {lin(0, 2), "2"}, {lin(0, prime-2), "-2"}, {lin(0, 10), "10"},
		{lin(3, 1), "v3"}, {lin(3, prime-1), "-v3"}, {lin(3, 2), "2*v3"}, {lin(3, prime-2), "-2*v3"}, {lin(10, 11), "11*v10"},
		{lin(0, 1, 3, 1), "1+v3"}, {lin(0, prime-1, 3, prime-1), "-1-v3"}, {lin(0, prime-1, 3, 1), "-1+v3"}, {lin(0, 1, 3, prime-1), "1-v3"},
		{lin(0, prime-2, 3, 5), "-2+5*v3"}, {lin(0, 2, 3, prime-5), "2-5*v3"}, {lin(1, 1, 2, 1, 3, prime-1, 4, 4), "v1+v2-v3+4*v4"},
		{lin(1, prime/2), "1073741823*v1"}, {lin(1, prime/2+1), "-1073741823*v1"}, {lin(0, prime/2, 1, prime/2+1), "1073741823-1073741823*v1"},
		{lin(maxVars-1, 1), "v2999"}, {lin(0, 100, maxVars-1, prime-100), "100-100*v2999"},
	} {
		if text := string(impl.LinText(c.a)); text != c.want {
			t.Errorf("LinText(%v) = %q, want %q", c.a, text, c.want)
		}
	}
	text := string(impl.LinText(fullLin(func(int) int { return 1 })))
	if strings.Count(text, "+") != maxVars-1 || !strings.HasPrefix(text, "1+v1+v2+") || !strings.HasSuffix(text, "+v2998+v2999") {
		t.Errorf("LinText of all variables is %q", text)
	}
}

func TestLinNeg(t *testing.T) {
	for _, c := range [][2]impl.Lin{
		{lin(), lin()}, {lin(0, 1), lin(0, prime-1)}, {lin(3, prime-1), lin(3, 1)},
		{lin(0, prime-2, 3, 5), lin(0, 2, 3, prime-5)}, {lin(1, prime/2), lin(1, prime/2+1)},
	} {
		a, ok := impl.LinNeg(c[0])
		expectLin(t, "LinNeg", a, ok, c[1], c[0])
	}
	must := mustLin(t)
	for _, a := range validLins() {
		negation := must(impl.LinNeg(a))
		expectLin(t, "LinNeg", negation, true, modelCombined(lin(), a, -1), shown(a))
		sum := must(impl.LinAdd(a, negation))
		expectLin(t, "a plus its negation", sum, true, lin(), shown(a))
		sum = must(impl.LinAdd(negation, a))
		expectLin(t, "the negation plus a", sum, true, lin(), shown(a))
		twice := must(impl.LinNeg(negation))
		expectLin(t, "LinNeg twice", twice, true, a, shown(a))
	}
}

func TestLinSumExamples(t *testing.T) {
	for _, c := range []struct {
		l    []impl.Lin
		want impl.Lin
	}{
		{nil, lin()}, {[]impl.Lin{}, lin()}, {[]impl.Lin{lin()}, lin()}, {[]impl.Lin{lin(3, 5)}, lin(3, 5)},
		{[]impl.Lin{lin(3, 5), lin(0, prime-2)}, lin(0, prime-2, 3, 5)},
		{[]impl.Lin{lin(3, 5), lin(), lin(3, prime-5)}, lin()},
		{[]impl.Lin{lin(2, 1), lin(1, 1), lin(3, 1), lin(2, prime-1)}, lin(1, 1, 3, 1)},
	} {
		sum, ok := impl.LinSum(c.l)
		expectLin(t, "LinSum", sum, ok, c.want, c.l)
	}
}

func TestLinSumUpToItsLimit(t *testing.T) {
	var l []impl.Lin
	var want impl.Lin
	for i := range 50 {
		a := lin(i%7, prime-1-i, 100+i, 1)
		l = append(l, a)
		want = modelCombined(want, a, 1)
	}
	sum, ok := impl.LinSum(l)
	expectLin(t, "LinSum of 50", sum, ok, want)
	sum, ok = impl.LinSum(append(slices.Clone(l), lin()))
	expectNoLin(t, "LinSum of 51", sum, ok)
	sum, ok = impl.LinSum(slices.Repeat([]impl.Lin{lin()}, 50))
	expectLin(t, "LinSum of 50 without terms", sum, ok, lin())
	for _, n := range []int{51, 52, 1000} {
		sum, ok = impl.LinSum(make([]impl.Lin, n))
		expectNoLin(t, "LinSum without terms", sum, ok, n)
	}
	l[49] = lin(1, 0)
	sum, ok = impl.LinSum(l)
	expectNoLin(t, "LinSum with an invalid last element", sum, ok)
}

func TestLinSumOfParts(t *testing.T) {
	r := rand.New(rand.NewSource(5))
	must := mustLin(t)
	var l []impl.Lin
	for range 20 {
		l = append(l, randomLin(r))
	}
	whole := must(impl.LinSum(l))
	for i := range len(l) + 1 {
		sum := must(impl.LinAdd(must(impl.LinSum(l[:i])), must(impl.LinSum(l[i:]))))
		expectLin(t, "the sum of two parts", sum, true, whole, i)
	}
	slices.Reverse(l)
	expectLin(t, "LinSum in reverse", must(impl.LinSum(l)), true, whole)
}

func TestVarsOf(t *testing.T) {
	for _, a := range validLins() {
		var want []int
		for _, term := range a.L {
			want = append(want, term.Var)
		}
		if got := impl.VarsOf(a); !slices.Equal(got, want) {
			t.Errorf("VarsOf(%v) = %v, want %v", shown(a), got, want)
		}
	}
	if got := impl.VarsOf(lin(0, 9, 2, 8, 7, 7, maxVars-1, 6)); !slices.Equal(got, []int{0, 2, 7, maxVars - 1}) {
		t.Errorf("VarsOf = %v", got)
	}
}

func TestCoeff(t *testing.T) {
	a := lin(0, prime-2, 3, 5, 7, 1, maxVars-1, prime-1)
	for _, c := range [][2]int{
		{0, prime - 2}, {3, 5}, {7, 1}, {maxVars - 1, prime - 1},
		{1, 0}, {2, 0}, {4, 0}, {8, 0}, {maxVars - 2, 0},
		{-1, 0}, {-3, 0}, {maxVars, 0}, {maxVars + 3, 0}, {math.MaxInt, 0}, {math.MinInt, 0},
	} {
		expectInt(t, "Coeff", impl.Coeff(a, c[0]), c[1], c[0])
		expectInt(t, "Coeff without terms", impl.Coeff(lin(), c[0]), 0, c[0])
	}
	for _, a := range validLins() {
		for _, term := range a.L {
			expectInt(t, "Coeff", impl.Coeff(a, term.Var), term.K, shown(a), term.Var)
		}
	}
}

// withSpare returns the combination with other, valid terms in its spare capacity, and all of its memory.
func withSpare(a impl.Lin) (impl.Lin, []impl.Term) {
	all := append(slices.Clone(a.L), impl.Term{Var: 50, K: 1}, impl.Term{Var: 51, K: 2}, impl.Term{Var: 52, K: 3})
	return impl.Lin{L: all[:len(a.L)]}, all
}

// useEach calls every function of the layer and returns the combinations that result.
func useEach(a, b impl.Lin, w []int, l []impl.Lin) []impl.Lin {
	impl.LinOk(a)
	impl.Value(a, w)
	impl.LinText(a)
	impl.VarsOf(a)
	impl.Coeff(a, 50)
	var results []impl.Lin
	keep := func(r impl.Lin, ok bool) { results = append(results, r) }
	keep(impl.LinAdd(a, b))
	keep(impl.LinAdd(b, a))
	keep(impl.LinAdd(a, lin()))
	keep(impl.LinAdd(lin(), a))
	keep(impl.LinSub(a, b))
	keep(impl.LinSub(a, lin()))
	keep(impl.LinTimes(a, 1))
	keep(impl.LinTimes(a, -7))
	keep(impl.LinNeg(a))
	keep(impl.LinSum(l))
	keep(impl.LinSum(l[:1]))
	keep(impl.Const(1), true)
	keep(impl.Const(1), true)
	keep(impl.VarOf(1))
	keep(impl.VarOf(1))
	return results
}

func TestArgumentsAreUnchangedAndNotShared(t *testing.T) {
	a, allA := withSpare(lin(0, 4, 3, 5, 7, prime-2))
	b, allB := withSpare(lin(1, 9, 3, prime-5, 8, 6))
	allW := []int{1, 2, 3, 4, 5, 6, 7, 8, 9, -1, prime}
	allL := []impl.Lin{a, b, a, lin(1, 0)}
	beforeA, beforeB, beforeW := slices.Clone(allA), slices.Clone(allB), slices.Clone(allW)
	results := useEach(a, b, allW[:9], allL[:3])
	for i, r := range results {
		if len(r.L) == 0 {
			t.Errorf("the result %d has no terms to examine", i)
		}
		before := make([]impl.Lin, len(results))
		for j := range results {
			before[j] = impl.Lin{L: slices.Clone(results[j].L)}
		}
		// The spare capacity belongs to the result, too.
		for j := range r.L[:cap(r.L)] {
			r.L[:cap(r.L)][j] = impl.Term{Var: -5, K: -6}
		}
		for j := range results {
			if j != i && !sameLin(results[j], before[j]) {
				t.Errorf("the results %d and %d share memory", i, j)
			}
		}
	}
	if !slices.Equal(allA, beforeA) || !slices.Equal(allB, beforeB) || !slices.Equal(allW, beforeW) {
		t.Errorf("the arguments are now %v, %v and %v", allA, allB, allW)
	}
	if !sameLin(allL[0], a) || !sameLin(allL[1], b) || !sameLin(allL[2], a) || !sameLin(allL[3], lin(1, 0)) {
		t.Errorf("the list is now %v", allL)
	}
}

func TestTextsAndVariablesAreNewMemory(t *testing.T) {
	for _, a := range []impl.Lin{lin(), lin(0, 1, 4, 5)} {
		text, vars := impl.LinText(a), impl.VarsOf(a)
		wantText, wantVars := string(text), slices.Clone(vars)
		otherText, otherVars := impl.LinText(a), impl.VarsOf(a)
		for i := range text[:cap(text)] {
			text[:cap(text)][i] = '#'
		}
		for i := range vars[:cap(vars)] {
			vars[:cap(vars)][i] = -1
		}
		if string(otherText) != wantText || !slices.Equal(otherVars, wantVars) || string(impl.LinText(a)) != wantText || !slices.Equal(impl.VarsOf(a), wantVars) {
			t.Errorf("the results for %v share memory", a.L)
		}
	}
}

func TestElementsBeyondTheLengthAreNotRead(t *testing.T) {
	a, _ := withSpare(lin(0, 4, 3, 5))
	b := impl.Lin{L: append(slices.Clone(a.L), impl.Term{Var: -1, K: 0})[:len(a.L)]}
	for _, x := range []impl.Lin{a, b} {
		if !impl.LinOk(x) || string(impl.LinText(x)) != "4+5*v3" || len(impl.VarsOf(x)) != 2 || impl.Coeff(x, 50) != 0 {
			t.Errorf("the spare capacity of %v is read", x.L)
		}
		double, ok := impl.LinAdd(x, x)
		expectLin(t, "LinAdd", double, ok, lin(0, 8, 3, 10))
	}
	l := []impl.Lin{a, a, lin(1, 0)}[:2]
	sum, ok := impl.LinSum(l)
	expectLin(t, "LinSum", sum, ok, lin(0, 8, 3, 10))
	n, ok := impl.Value(lin(0, 4), []int{1, 2, -1}[:2])
	if !ok || n != 4 {
		t.Errorf("Value = %d, %v", n, ok)
	}
}
