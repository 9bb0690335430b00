package tests

import (
	"math"
	"math/big"
	"slices"
	"testing"

	"loop.example/g00543/impl"
)

const prime = 2147483647

// fieldEdges holds the values at which an error of reduction, of sign or of overflow shows.
var fieldEdges = []int{
	0, 1, 2, 3, 12345, 46341, 65536, 127, 128, 129, 1 << 30, 1<<31 - 2,
	prime/2 - 1, prime / 2, prime/2 + 1, prime/2 + 2,
	prime - 2, prime - 1, prime, prime + 1, prime + 2,
	2*prime - 1, 2 * prime, 2*prime + 1, 1 << 32, 1<<32 + 5, 1 << 62,
	-1, -2, -12345, -prime / 2, -prime + 1, -prime, -prime - 1, -2 * prime, -1 << 32, -1 << 62,
	math.MaxInt - 1, math.MaxInt, math.MinInt, math.MinInt + 1, math.MinInt + 2,
}

var notElements = []int{-1, -2, -prime, prime, prime + 1, 2 * prime, 1 << 32, math.MaxInt, math.MinInt}

func elements() []int {
	var l []int
	for _, n := range fieldEdges {
		if n >= 0 && n < prime {
			l = append(l, n)
		}
	}
	return l
}

// mod computes with unbounded numbers, independently of the package.
func mod(n *big.Int) int {
	return int(new(big.Int).Mod(n, big.NewInt(prime)).Int64())
}

func bigOf(n int) *big.Int { return big.NewInt(int64(n)) }

func bigMod(n int) *big.Int { return big.NewInt(int64(mod(bigOf(n)))) }

func expectInt(t *testing.T, what string, got, want int, args ...any) {
	t.Helper()
	if got != want {
		t.Errorf("%s%v = %d, want %d", what, args, got, want)
	}
}

func TestModulus(t *testing.T) {
	expectInt(t, "P", impl.P, prime)
}

func TestFOk(t *testing.T) {
	for _, a := range []int{0, 1, 2, 12345, prime / 2, prime/2 + 1, prime - 2, prime - 1} {
		if !impl.FOk(a) {
			t.Errorf("FOk(%d) = false", a)
		}
	}
	for _, a := range notElements {
		if impl.FOk(a) {
			t.Errorf("FOk(%d) = true", a)
		}
	}
}

func TestFOfExamples(t *testing.T) {
	for _, c := range [][2]int{
		{0, 0}, {1, 1}, {prime - 1, prime - 1}, {prime, 0}, {prime + 1, 1}, {2 * prime, 0},
		{-1, prime - 1}, {-prime + 1, 1}, {-prime, 0}, {-prime - 1, prime - 1}, {-2 * prime, 0},
		{math.MaxInt, 1}, {math.MinInt, prime - 2},
	} {
		expectInt(t, "FOf", impl.FOf(c[0]), c[1], c[0])
	}
}

func TestFOfIsCongruent(t *testing.T) {
	for _, n := range fieldEdges {
		got := impl.FOf(n)
		expectInt(t, "FOf", got, mod(bigOf(n)), n)
		expectInt(t, "FOf twice", impl.FOf(got), got, n)
	}
}

func TestArithmeticExamples(t *testing.T) {
	expectInt(t, "FAdd", impl.FAdd(prime-1, prime-1), prime-2)
	expectInt(t, "FAdd", impl.FAdd(prime-1, 1), 0)
	expectInt(t, "FAdd", impl.FAdd(math.MaxInt, math.MaxInt), 2)
	expectInt(t, "FAdd", impl.FAdd(math.MinInt, math.MinInt), prime-4)
	expectInt(t, "FSub", impl.FSub(0, 1), prime-1)
	expectInt(t, "FSub", impl.FSub(7, 7), 0)
	expectInt(t, "FSub", impl.FSub(math.MinInt, math.MaxInt), prime-3)
	expectInt(t, "FMul", impl.FMul(prime-1, prime-1), 1)
	expectInt(t, "FMul", impl.FMul(-3, 5), prime-15)
	expectInt(t, "FMul", impl.FMul(math.MinInt, math.MinInt), 4)
}

func TestArithmeticOfAllEdges(t *testing.T) {
	for _, a := range fieldEdges {
		for _, b := range fieldEdges {
			x, y := bigMod(a), bigMod(b)
			expectInt(t, "FAdd", impl.FAdd(a, b), mod(new(big.Int).Add(x, y)), a, b)
			expectInt(t, "FSub", impl.FSub(a, b), mod(new(big.Int).Sub(x, y)), a, b)
			expectInt(t, "FMul", impl.FMul(a, b), mod(new(big.Int).Mul(x, y)), a, b)
		}
	}
}

func TestDifferencesAreInverted(t *testing.T) {
	for _, a := range fieldEdges {
		for _, b := range fieldEdges {
			expectInt(t, "sum of the difference", impl.FAdd(impl.FSub(a, b), b), impl.FOf(a), a, b)
			expectInt(t, "difference of the sum", impl.FSub(impl.FAdd(a, b), b), impl.FOf(a), a, b)
		}
	}
}

func TestFPowExamples(t *testing.T) {
	for _, c := range [][3]int{
		{0, 0, 1}, {prime, 0, 1}, {5, 0, 1}, {-5, 0, 1}, {prime - 1, 0, 1}, {math.MinInt, 0, 1},
		{0, 1, 0}, {0, 2, 0}, {prime, 3, 0}, {0, math.MaxInt, 0},
		{5, 1, 5}, {-5, 1, prime - 5}, {-5, 2, 25}, {2, 30, 1 << 30}, {2, 31, 1}, {2, 62, 1},
		{1, math.MaxInt, 1}, {prime - 1, math.MaxInt, prime - 1}, {prime - 1, math.MaxInt - 1, 1},
		{7, prime - 1, 1}, {7, prime, 7},
	} {
		expectInt(t, "FPow", impl.FPow(c[0], c[1]), c[2], c[0], c[1])
	}
}

func TestFPowOfAllEdges(t *testing.T) {
	exponents := []int{0, 1, 2, 3, 4, 5, 7, 8, 30, 31, 32, 63, 64, 1000, prime - 2, prime - 1, prime, 1 << 40, 1 << 62, math.MaxInt - 1, math.MaxInt}
	for _, a := range fieldEdges {
		for _, n := range exponents {
			want := int(new(big.Int).Exp(bigMod(a), bigOf(n), bigOf(prime)).Int64())
			expectInt(t, "FPow", impl.FPow(a, n), want, a, n)
		}
	}
}

func TestFPowOfNegativeExponents(t *testing.T) {
	for _, a := range fieldEdges {
		for _, n := range []int{-1, -2, -31, -prime, -prime + 1, math.MinInt, math.MinInt + 1} {
			expectInt(t, "FPow", impl.FPow(a, n), 0, a, n)
		}
	}
}

func TestFInvExamples(t *testing.T) {
	for _, c := range [][2]int{
		{0, 0}, {prime, 0}, {-prime, 0}, {2 * prime, 0},
		{1, 1}, {prime + 1, 1}, {prime - 1, prime - 1}, {-1, prime - 1},
		{2, 1 << 30}, {4, 1 << 29}, {1 << 30, 2}, {-2, prime - 1<<30},
	} {
		expectInt(t, "FInv", impl.FInv(c[0]), c[1], c[0])
	}
}

func TestFInvOfAllEdges(t *testing.T) {
	for _, a := range fieldEdges {
		want := 0
		if r := bigMod(a); r.Sign() != 0 {
			want = int(new(big.Int).ModInverse(r, bigOf(prime)).Int64())
		}
		expectInt(t, "FInv", impl.FInv(a), want, a)
	}
}

func TestFInvOfManyElements(t *testing.T) {
	for a := 1; a <= 20000; a++ {
		for _, x := range []int{a, prime - a, a * 104729} {
			inverse := impl.FInv(x)
			if !impl.FOk(inverse) || impl.FMul(inverse, x) != 1 || impl.FInv(inverse) != impl.FOf(x) {
				t.Fatalf("FInv(%d) = %d", x, inverse)
			}
		}
	}
}

func TestFSignedExamples(t *testing.T) {
	for _, c := range [][2]int{
		{0, 0}, {1, 1}, {prime - 1, -1}, {prime, 0}, {prime + 1, 1}, {-1, -1}, {-prime, 0}, {-prime - 1, -1},
		{1073741822, 1073741822}, {1073741823, 1073741823}, {1073741824, -1073741823}, {1073741825, -1073741822},
		{-1073741823, -1073741823}, {-1073741824, 1073741823},
		{math.MaxInt, 1}, {math.MinInt, -2},
	} {
		expectInt(t, "FSigned", impl.FSigned(c[0]), c[1], c[0])
	}
}

func TestFSignedOfAllEdges(t *testing.T) {
	for _, a := range fieldEdges {
		got := impl.FSigned(a)
		if got < -(prime/2) || got > prime/2 {
			t.Errorf("FSigned(%d) = %d is out of range", a, got)
		}
		expectInt(t, "FOf of FSigned", impl.FOf(got), mod(bigOf(a)), a)
	}
}

func TestFNeg(t *testing.T) {
	for _, c := range [][2]int{{0, 0}, {1, prime - 1}, {prime - 1, 1}, {5, prime - 5}, {prime / 2, prime/2 + 1}} {
		expectInt(t, "FNeg", impl.FNeg(c[0]), c[1], c[0])
	}
	for _, a := range elements() {
		expectInt(t, "FNeg", impl.FNeg(a), impl.FSub(0, a), a)
		expectInt(t, "FAdd with FNeg", impl.FAdd(a, impl.FNeg(a)), 0, a)
	}
	for _, a := range notElements {
		expectInt(t, "FNeg", impl.FNeg(a), -1, a)
	}
}

func TestFDivExamples(t *testing.T) {
	for _, c := range [][3]int{
		{0, 0, 0}, {5, 0, 0}, {prime - 1, 0, 0}, {0, 5, 0}, {5, 1, 5}, {15, 5, 3}, {5, 5, 1},
		{1, 2, 1 << 30}, {prime - 1, 2, 1073741823}, {7, prime - 1, prime - 7}, {prime - 1, prime - 1, 1},
	} {
		expectInt(t, "FDiv", impl.FDiv(c[0], c[1]), c[2], c[0], c[1])
	}
}

func TestQuotientsAreInverted(t *testing.T) {
	for _, a := range elements() {
		for _, b := range elements() {
			expectInt(t, "FDiv", impl.FDiv(a, b), impl.FMul(a, impl.FInv(b)), a, b)
			if b == 0 {
				continue
			}
			expectInt(t, "product of the quotient", impl.FMul(impl.FDiv(a, b), b), a, a, b)
			expectInt(t, "quotient of the product", impl.FDiv(impl.FMul(a, b), b), a, a, b)
		}
	}
}

func TestFDivOfInvalidArguments(t *testing.T) {
	for _, bad := range notElements {
		for _, good := range []int{0, 1, 2, prime - 1} {
			expectInt(t, "FDiv", impl.FDiv(bad, good), -1, bad, good)
			expectInt(t, "FDiv", impl.FDiv(good, bad), -1, good, bad)
		}
		expectInt(t, "FDiv", impl.FDiv(bad, bad), -1, bad, bad)
	}
}

func TestFSumExamples(t *testing.T) {
	for _, c := range []struct {
		l    []int
		want int
	}{
		{nil, 0}, {[]int{}, 0}, {[]int{0}, 0}, {[]int{7}, 7}, {[]int{1, 2, 3, 4}, 10},
		{[]int{prime - 1}, prime - 1}, {[]int{prime - 1, 1}, 0}, {[]int{prime - 1, prime - 1, prime - 1}, prime - 3},
		{slices.Repeat([]int{prime - 1}, 5000), prime - 5000},
	} {
		expectInt(t, "FSum", impl.FSum(c.l), c.want, len(c.l))
	}
}

func TestFDotExamples(t *testing.T) {
	large := slices.Repeat([]int{prime - 1}, 5000)
	for _, c := range []struct {
		a, b []int
		want int
	}{
		{nil, nil, 0}, {[]int{}, nil, 0}, {nil, []int{}, 0}, {[]int{}, []int{}, 0},
		{[]int{6}, []int{7}, 42}, {[]int{0, 5}, []int{5, 0}, 0}, {[]int{1, 2, 3}, []int{4, 5, 6}, 32},
		{[]int{prime - 1}, []int{prime - 1}, 1}, {[]int{prime - 1}, []int{1}, prime - 1}, {[]int{2, prime - 2}, []int{3, 3}, 0},
		{large, large, 5000}, {large, slices.Repeat([]int{1}, 5000), prime - 5000},
	} {
		expectInt(t, "FDot", impl.FDot(c.a, c.b), c.want, len(c.a))
	}
}

func TestSumsOfListsAreSumsOfParts(t *testing.T) {
	a := elements()
	b := slices.Clone(a)
	slices.Reverse(b)
	sum, dot := impl.FSum(a), impl.FDot(a, b)
	x, y := new(big.Int), new(big.Int)
	for i := range a {
		x.Add(x, bigOf(a[i]))
		y.Add(y, new(big.Int).Mul(bigOf(a[i]), bigOf(b[i])))
	}
	expectInt(t, "FSum", sum, mod(x))
	expectInt(t, "FDot", dot, mod(y))
	for i := range len(a) + 1 {
		expectInt(t, "FSum of two parts", impl.FAdd(impl.FSum(a[:i]), impl.FSum(a[i:])), sum, i)
		expectInt(t, "FDot of two parts", impl.FAdd(impl.FDot(a[:i], b[:i]), impl.FDot(a[i:], b[i:])), dot, i)
	}
}

func TestListsWithInvalidElements(t *testing.T) {
	for _, bad := range notElements {
		for i := range 4 {
			good, l := []int{1, 2, 3, 4}, []int{1, 2, 3, 4}
			l[i] = bad
			expectInt(t, "FSum", impl.FSum(l), -1, l)
			expectInt(t, "FDot", impl.FDot(l, good), -1, l, good)
			expectInt(t, "FDot", impl.FDot(good, l), -1, good, l)
			expectInt(t, "FDot", impl.FDot(l, make([]int, 4)), -1, l)
			expectInt(t, "FDot", impl.FDot(make([]int, 4), l), -1, l)
		}
		expectInt(t, "FSum", impl.FSum([]int{bad}), -1, bad)
		expectInt(t, "FDot", impl.FDot([]int{bad}, []int{bad}), -1, bad)
	}
	// The sum is a field element, but not every part of it.
	expectInt(t, "FSum", impl.FSum([]int{-1, 1}), -1)
	expectInt(t, "FSum", impl.FSum([]int{prime, -prime}), -1)
}

func TestFDotOfDifferentLengths(t *testing.T) {
	lists := [][]int{nil, {0}, {1, 2}, {1, 2, 0}, {1, 2, 0, 0}}
	for i, a := range lists {
		for j, b := range lists {
			if i != j {
				expectInt(t, "FDot", impl.FDot(a, b), -1, a, b)
			}
		}
	}
	expectInt(t, "FDot", impl.FDot([]int{-1, 2}, []int{1}), -1)
}

func TestListsAreNeitherChangedNorReadBeyondTheirLength(t *testing.T) {
	a, b := []int{1, 2, 3, -7, prime}, []int{4, 5, 6, -8, prime}
	expectInt(t, "FSum", impl.FSum(a[:3]), 6)
	expectInt(t, "FDot", impl.FDot(a[:3], b[:3]), 32)
	expectInt(t, "FDot", impl.FDot(a[:0], b[:0]), 0)
	if !slices.Equal(a, []int{1, 2, 3, -7, prime}) || !slices.Equal(b, []int{4, 5, 6, -8, prime}) {
		t.Errorf("the lists are now %v and %v", a, b)
	}
}

func TestResultsDoNotDependOnEarlierCalls(t *testing.T) {
	first := map[int]int{}
	for _, a := range fieldEdges {
		first[a] = impl.FInv(a)
	}
	for _, a := range slices.Backward(fieldEdges) {
		expectInt(t, "FInv again", impl.FInv(a), first[a], a)
	}
}
