package impl

import "sync"

// P is the prime modulus of the field, 2^31 - 1.
const P = 2147483647

// elem is a field element, always in 0 .. P - 1: the product of two of them fits into an int.
type elem int

func elemOf(n int) elem {
	r := n % P
	if r < 0 {
		r += P
	}
	return elem(r)
}

func (a elem) plus(b elem) elem { return elemOf(int(a) + int(b)) }

func (a elem) minus(b elem) elem { return elemOf(int(a) - int(b)) }

func (a elem) times(b elem) elem { return elemOf(int(a) * int(b)) }

// power requires that n is not negative.
func (a elem) power(n int) elem {
	r := elem(1)
	for ; n > 0; n /= 2 {
		if n%2 == 1 {
			r = r.times(a)
		}
		a = a.times(a)
	}
	return r
}

// inverse relies on Fermat's theorem: a^(P - 1) is 1 unless a is 0, for which the power is the required 0.
func (a elem) inverse() elem { return a.power(P - 2) }

func (a elem) signed() int {
	if a > P/2 {
		return int(a) - P
	}
	return int(a)
}

// keptElems bounds the array of an inverses value: small elements are the ones that tend to be requested again.
const keptElems = 128

// inverses keeps the inverses of small elements that were requested, for the duration of one call of an exported function.
type inverses struct {
	kept [keptElems]keptInverse
}

type keptInverse struct {
	once  sync.Once
	value elem
}

func (s *inverses) of(a elem) elem {
	if a >= keptElems {
		return a.inverse()
	}
	k := &s.kept[a]
	k.once.Do(func() { k.value = a.inverse() })
	return k.value
}

// FOk reports whether a is a field element.
func FOk(a int) bool { return a >= 0 && a < P }

// FOf returns the field element that is congruent to n modulo P.
func FOf(n int) int { return int(elemOf(n)) }

// FAdd returns the sum of a and b modulo P.
func FAdd(a int, b int) int { return int(elemOf(a).plus(elemOf(b))) }

// FSub returns the difference of a and b modulo P.
func FSub(a int, b int) int { return int(elemOf(a).minus(elemOf(b))) }

// FMul returns the product of a and b modulo P.
func FMul(a int, b int) int { return int(elemOf(a).times(elemOf(b))) }

// FPow returns the n-th power of a modulo P, or 0 if n is negative.
func FPow(a int, n int) int {
	if n < 0 {
		return 0
	}
	return int(elemOf(a).power(n))
}

// FInv returns the inverse of a modulo P, or 0 if a is congruent to 0.
func FInv(a int) int {
	var known inverses
	return int(known.of(elemOf(a)))
}

// FSigned returns the number of least absolute value that is congruent to a modulo P.
func FSigned(a int) int { return elemOf(a).signed() }

// FNeg returns the negation of the field element a, or -1 if a is none.
func FNeg(a int) int {
	if !FOk(a) {
		return -1
	}
	return FSub(0, a)
}

// FDiv returns the quotient of the field elements a and b (0 if b is 0), or -1 if one of them is none.
func FDiv(a int, b int) int {
	if !FOk(a) || !FOk(b) {
		return -1
	}
	return FMul(a, FInv(b))
}

// FSum returns the sum of the elements of l, or -1 if one of them is not a field element.
func FSum(l []int) int {
	sum := elem(0)
	for _, x := range l {
		if !FOk(x) {
			return -1
		}
		sum = sum.plus(elem(x))
	}
	return int(sum)
}

// FDot returns the sum of the products of the elements with the same index,
// or -1 if one of them is not a field element or the lists have different lengths.
func FDot(a []int, b []int) int {
	if len(a) != len(b) {
		return -1
	}
	sum := elem(0)
	for i := range a {
		if !FOk(a[i]) || !FOk(b[i]) {
			return -1
		}
		sum = sum.plus(elem(a[i]).times(elem(b[i])))
	}
	return int(sum)
}
