package tests

import (
	"fmt"
	"math"
	"math/rand"
	"slices"
	"testing"

	"loop.example/g00543/impl"
)

// outcome is what an Add function returns; the number of combinations depends on the function.
type outcome struct {
	s    impl.Sys
	lins []impl.Lin
	ok   bool
}

// none reports whether there is no result beside the system.
func (o outcome) none() bool { return !o.ok && len(o.lins) == 0 }

// plan is what the document says is added, without the help of the package.
type plan struct {
	vars  int // that exist, those of the plan included
	hints []impl.Hint
	cons  []impl.Con
}

func (p *plan) hint(kind int, a, b impl.Lin, k int) impl.Lin {
	p.hints = append(p.hints, impl.Hint{Kind: kind, A: a, B: b, K: k})
	p.vars++
	return lin(p.vars-1, 1)
}

func (p *plan) con(a, b, c impl.Lin) { p.cons = append(p.cons, impl.Con{A: a, B: b, C: c}) }

func (p *plan) product(a, b impl.Lin) impl.Lin {
	v := p.hint(impl.HtMul, a, b, 0)
	p.con(a, b, v)
	return v
}

func (p *plan) bits(a impl.Lin, n int) []impl.Lin {
	var bits []impl.Lin
	var packed impl.Lin
	for i := range n {
		v := p.hint(impl.HtBit, a, lin(), i)
		p.con(v, weighted(1, v, -1, lin(0, 1)), lin())
		bits = append(bits, v)
		packed = weighted(1, packed, 1<<i, v)
	}
	p.con(weighted(1, packed, -1, a), lin(0, 1), lin())
	return bits
}

func (p *plan) zero(a impl.Lin) impl.Lin {
	v := p.hint(impl.HtInv, a, lin(), 0)
	z := weighted(1, lin(0, 1), -1, p.product(a, v))
	p.con(a, z, lin())
	return z
}

// weighted computes j * a + k * b, for j and k of at most 30 bits and a sign, without the help of the package.
func weighted(j int, a impl.Lin, k int, b impl.Lin) impl.Lin {
	sums := map[int]int{}
	for _, t := range a.L {
		sums[t.Var] += j * t.K % prime
	}
	for _, t := range b.L {
		sums[t.Var] += k * t.K % prime
	}
	var c impl.Lin
	for v, n := range sums {
		if n = (n%prime + prime) % prime; n != 0 {
			c.L = append(c.L, impl.Term{Var: v, K: n})
		}
	}
	slices.SortFunc(c.L, func(t, u impl.Term) int { return t.Var - u.Var })
	return c
}

// gate is an Add function with its number of combinations and the greatest n (0 if it has no n).
type gate struct {
	name  string
	args  int
	maxN  int
	add   func(s impl.Sys, l []impl.Lin, n int) outcome
	model func(p *plan, l []impl.Lin, n int) []impl.Lin
}

// one leaves out a zero value beside false, so that nothing is left if there is no result.
func one(s impl.Sys, a impl.Lin, ok bool) outcome {
	if !ok && len(a.L) == 0 {
		return plain(s, ok)
	}
	return outcome{s, []impl.Lin{a}, ok}
}

func many(s impl.Sys, l []impl.Lin, ok bool) outcome { return outcome{s, l, ok} }

func plain(s impl.Sys, ok bool) outcome { return outcome{s, nil, ok} }

var gates = []gate{
	{"AddMul", 2, 0,
		func(s impl.Sys, l []impl.Lin, n int) outcome { return one(impl.AddMul(s, l[0], l[1])) },
		func(p *plan, l []impl.Lin, n int) []impl.Lin { return []impl.Lin{p.product(l[0], l[1])} }},
	{"AddBool", 1, 0,
		func(s impl.Sys, l []impl.Lin, n int) outcome { return plain(impl.AddBool(s, l[0])) },
		func(p *plan, l []impl.Lin, n int) []impl.Lin {
			p.con(l[0], weighted(1, l[0], -1, lin(0, 1)), lin())
			return nil
		}},
	{"AddEq", 2, 0,
		func(s impl.Sys, l []impl.Lin, n int) outcome { return plain(impl.AddEq(s, l[0], l[1])) },
		func(p *plan, l []impl.Lin, n int) []impl.Lin {
			p.con(weighted(1, l[0], -1, l[1]), lin(0, 1), lin())
			return nil
		}},
	{"AddBits", 1, 30,
		func(s impl.Sys, l []impl.Lin, n int) outcome { return many(impl.AddBits(s, l[0], n)) },
		func(p *plan, l []impl.Lin, n int) []impl.Lin { return p.bits(l[0], n) }},
	{"AddZero", 1, 0,
		func(s impl.Sys, l []impl.Lin, n int) outcome { return one(impl.AddZero(s, l[0])) },
		func(p *plan, l []impl.Lin, n int) []impl.Lin { return []impl.Lin{p.zero(l[0])} }},
	{"AddLess", 2, 29,
		func(s impl.Sys, l []impl.Lin, n int) outcome { return one(impl.AddLess(s, l[0], l[1], n)) },
		func(p *plan, l []impl.Lin, n int) []impl.Lin {
			bits := p.bits(weighted(1, weighted(1, l[0], -1, l[1]), 1<<n, lin(0, 1)), n+1)
			return []impl.Lin{weighted(1, lin(0, 1), -1, bits[n])}
		}},
	{"AddMux", 3, 0,
		func(s impl.Sys, l []impl.Lin, n int) outcome { return one(impl.AddMux(s, l[0], l[1], l[2])) },
		func(p *plan, l []impl.Lin, n int) []impl.Lin {
			return []impl.Lin{weighted(1, l[2], 1, p.product(l[0], weighted(1, l[1], -1, l[2])))}
		}},
	{"AddXor", 2, 0,
		func(s impl.Sys, l []impl.Lin, n int) outcome { return one(impl.AddXor(s, l[0], l[1])) },
		func(p *plan, l []impl.Lin, n int) []impl.Lin {
			return []impl.Lin{weighted(1, weighted(1, l[0], 1, l[1]), -2, p.product(l[0], l[1]))}
		}},
}

// numbers returns the n to be tried: all that are valid, or a single one that does not matter.
func (g gate) numbers() []int {
	if g.maxN == 0 {
		return []int{0}
	}
	var l []int
	for n := range g.maxN {
		l = append(l, n+1)
	}
	return l
}

// planned returns what is to be added to a system with that many variables.
func (g gate) planned(vars int, l []impl.Lin, n int) (*plan, []impl.Lin) {
	p := &plan{vars: vars}
	result := g.model(p, l, n)
	return p, result
}

// lists returns lists of combinations from l for the arguments of g, such that each is at each place, also beside itself.
func (g gate) lists(l []impl.Lin) [][]impl.Lin {
	var all [][]impl.Lin
	for i, a := range l {
		all = append(all, slices.Repeat([]impl.Lin{a}, g.args))
		if g.args > 1 {
			mixed := []impl.Lin{a, l[(i+1)%len(l)], l[(i+3)%len(l)]}[:g.args]
			all = append(all, mixed, append(slices.Clone(mixed[1:]), a))
		}
	}
	return all
}

func extendedBy(s impl.Sys, p *plan) impl.Sys {
	return impl.Sys{Ins: s.Ins, Outs: s.Outs, Hints: slices.Concat(s.Hints, p.hints), Cons: slices.Concat(s.Cons, p.cons)}
}

func expectAdded(t *testing.T, g gate, s impl.Sys, l []impl.Lin, n int) {
	t.Helper()
	p, result := g.planned(1+s.Ins+len(s.Hints), l, n)
	got, want := g.add(s, l, n), extendedBy(s, p)
	if !got.ok || !sameSys(got.s, want) || !slices.EqualFunc(got.lins, result, sameLin) {
		t.Errorf("%s(%s, %v, %d) = %s, %v, %v, want %s, %v", g.name, about(s), l, n, about(got.s), got.lins, got.ok, about(want), result)
	}
	if !impl.SysOk(got.s) {
		t.Errorf("%s(%s, %v, %d) is not valid", g.name, about(s), l, n)
	}
}

// expectRefused expects zero values and false.
func expectRefused(t *testing.T, g gate, s impl.Sys, l []impl.Lin, n int, why string) {
	t.Helper()
	if got := g.add(s, l, n); !got.none() || !sameSys(got.s, impl.Sys{}) {
		t.Errorf("%s(%s, %d) = %s, %v, %v in spite of %s", g.name, about(s), n, about(got.s), got.lins, got.ok, why)
	}
}

// expectFull expects s, zero values and false.
func expectFull(t *testing.T, g gate, s impl.Sys, l []impl.Lin, n int) {
	t.Helper()
	got := g.add(s, l, n)
	if !got.none() || !sameSys(got.s, s) {
		t.Errorf("%s(%s, %d) = %s, %v, %v, want the system unchanged and false", g.name, about(s), n, about(got.s), got.lins, got.ok)
	}
}

// minus1 is the factor -1.
const minus1 = prime - 1

func TestGateExamples(t *testing.T) {
	x, y := lin(1, 1), lin(2, 1)
	e, _ := impl.SysNew(2)
	bool3 := impl.Con{A: lin(3, 1), B: lin(0, minus1, 3, 1)}
	bool4 := impl.Con{A: lin(4, 1), B: lin(0, minus1, 4, 1)}
	bit := func(a impl.Lin, k int) impl.Hint { return impl.Hint{Kind: impl.HtBit, A: a, K: k} }
	for i, c := range []struct {
		got   outcome
		lins  []impl.Lin
		hints []impl.Hint
		cons  []impl.Con
	}{
		{one(impl.AddMul(e, x, y)), []impl.Lin{lin(3, 1)},
			[]impl.Hint{{Kind: impl.HtMul, A: x, B: y}}, []impl.Con{{A: x, B: y, C: lin(3, 1)}}},
		{plain(impl.AddBool(e, x)), nil, nil, []impl.Con{{A: x, B: lin(0, minus1, 1, 1)}}},
		{plain(impl.AddBool(e, lin(0, 1))), nil, nil, []impl.Con{{A: lin(0, 1)}}},
		{plain(impl.AddEq(e, x, y)), nil, nil, []impl.Con{{A: lin(1, 1, 2, minus1), B: lin(0, 1)}}},
		{plain(impl.AddEq(e, x, x)), nil, nil, []impl.Con{{B: lin(0, 1)}}},
		{many(impl.AddBits(e, x, 1)), []impl.Lin{lin(3, 1)},
			[]impl.Hint{bit(x, 0)}, []impl.Con{bool3, {A: lin(1, minus1, 3, 1), B: lin(0, 1)}}},
		{many(impl.AddBits(e, lin(0, 5, 2, 3), 2)), []impl.Lin{lin(3, 1), lin(4, 1)},
			[]impl.Hint{bit(lin(0, 5, 2, 3), 0), bit(lin(0, 5, 2, 3), 1)},
			[]impl.Con{bool3, bool4, {A: lin(0, prime-5, 2, prime-3, 3, 1, 4, 2), B: lin(0, 1)}}},
		{one(impl.AddZero(e, x)), []impl.Lin{lin(0, 1, 4, minus1)},
			[]impl.Hint{{Kind: impl.HtInv, A: x}, {Kind: impl.HtMul, A: x, B: lin(3, 1)}},
			[]impl.Con{{A: x, B: lin(3, 1), C: lin(4, 1)}, {A: x, B: lin(0, 1, 4, minus1)}}},
		{one(impl.AddLess(e, x, y, 1)), []impl.Lin{lin(0, 1, 4, minus1)},
			[]impl.Hint{bit(lin(0, 2, 1, 1, 2, minus1), 0), bit(lin(0, 2, 1, 1, 2, minus1), 1)},
			[]impl.Con{bool3, bool4, {A: lin(0, prime-2, 1, minus1, 2, 1, 3, 1, 4, 2), B: lin(0, 1)}}},
		{one(impl.AddMux(e, x, y, lin(0, 5))), []impl.Lin{lin(0, 5, 3, 1)},
			[]impl.Hint{{Kind: impl.HtMul, A: x, B: lin(0, prime-5, 2, 1)}}, []impl.Con{{A: x, B: lin(0, prime-5, 2, 1), C: lin(3, 1)}}},
		{one(impl.AddXor(e, x, y)), []impl.Lin{lin(1, 1, 2, 1, 3, prime-2)},
			[]impl.Hint{{Kind: impl.HtMul, A: x, B: y}}, []impl.Con{{A: x, B: y, C: lin(3, 1)}}},
	} {
		want := impl.Sys{Ins: 2, Hints: c.hints, Cons: c.cons}
		if !c.got.ok || !sameSys(c.got.s, want) || !slices.EqualFunc(c.got.lins, c.lins, sameLin) {
			t.Errorf("the example %d is %v, want %v and %v", i, c.got, want, c.lins)
		}
	}
}

// combinations are valid in the sample, which has the variables 0 to 6.
func combinations() []impl.Lin {
	return []impl.Lin{
		lin(), {L: []impl.Term{}}, lin(0, 1), lin(0, 2), lin(0, minus1), lin(0, prime-2), lin(0, 1<<29), lin(0, prime-1<<20),
		lin(1, 1), lin(2, 1), lin(3, 1), lin(6, 1), lin(6, minus1), lin(1, 2), lin(2, 1<<30),
		lin(0, 1, 1, minus1), lin(0, 3, 1, 1, 2, minus1), lin(1, minus1, 2, minus1, 3, minus1), lin(0, 7, 1, 9, 2, 11, 3, 13, 4, 15, 5, 17, 6, 19),
	}
}

func TestWhatGatesAdd(t *testing.T) {
	for _, g := range gates {
		for _, n := range g.numbers() {
			for _, l := range g.lists(combinations()) {
				expectAdded(t, g, sample(), l, n)
			}
		}
	}
}

func TestWhatGatesAddToEachSystem(t *testing.T) {
	for _, g := range gates {
		for _, s := range validSystems() {
			for _, a := range []impl.Lin{lin(), lin(0, 5), lin(s.Ins+len(s.Hints), 1)} {
				l, n := slices.Repeat([]impl.Lin{a}, g.args), min(g.maxN, 3)
				p, _ := g.planned(0, l, n)
				if 1+s.Ins+len(s.Hints)+len(p.hints) > maxVars || len(s.Cons)+len(p.cons) > maxCons {
					expectFull(t, g, s, l, n)
				} else {
					expectAdded(t, g, s, l, n)
				}
			}
		}
	}
}

func TestWhatGatesAddToRandomSystems(t *testing.T) {
	r := rand.New(rand.NewSource(9))
	for range 2000 {
		s, g := randomSys(r), gates[r.Intn(len(gates))]
		var l []impl.Lin
		for range g.args {
			l = append(l, smallLin(r, 1+s.Ins+len(s.Hints)))
		}
		expectAdded(t, g, s, l, 1+r.Intn(max(g.maxN, 1)))
	}
}

// assignments returns changes of the last n elements of w: all of them if there are few, or else those of one and of two.
func assignments(w []int, n int) [][]int {
	first := len(w) - n
	values := func(i int) []int {
		l := []int{0, 1, 2, minus1, w[i], (w[i] + 1) % prime, (w[i] + minus1) % prime, (w[i] + 2) % prime}
		slices.Sort(l)
		return slices.Compact(l)
	}
	all := [][]int{w}
	if n <= 4 {
		for i := first; i < len(w); i++ {
			var more [][]int
			for _, v := range all {
				for _, x := range values(i) {
					c := slices.Clone(v)
					c[i] = x
					more = append(more, c)
				}
			}
			all = more
		}
		return all
	}
	for i := first; i < len(w); i++ {
		for _, x := range values(i) {
			c := slices.Clone(w)
			c[i] = x
			all = append(all, c)
		}
		if i+1 < len(w) {
			// A bit of 2 or -1 that the next one makes up for: only the constraint of the bit itself rules it out.
			up, down := slices.Clone(w), slices.Clone(w)
			up[i], up[i+1] = (w[i]+2)%prime, (w[i+1]+minus1)%prime
			down[i], down[i+1] = (w[i]+prime-2)%prime, (w[i+1]+1)%prime
			all = append(all, up, down)
		}
	}
	return all
}

// expectMeaning expects that those assignments that contain the inputs and satisfy o.s, among them the one that Solve finds,
// yield want, and that there are none if want is nil.
func expectMeaning(t *testing.T, name string, o outcome, ins []int, want []int) {
	t.Helper()
	if !o.ok {
		t.Fatalf("%s is false", name)
	}
	solution := modelSolve(o.s, ins)
	if want == nil {
		expectUnsolved(t, o.s, ins)
	} else {
		expectSolved(t, o.s, ins, solution)
	}
	for _, w := range assignments(solution, len(o.s.Hints)) {
		if !impl.Check(o.s, w) {
			continue
		}
		var got []int
		for _, a := range o.lins {
			got = append(got, modelValue(a, w))
		}
		if want == nil || !slices.Equal(got, want) {
			t.Errorf("%s: %v satisfies %s and yields %v, want %v", name, w, about(o.s), got, want)
		}
	}
}

// withInputs returns a system with the arguments x and y, each of them an input plus a constant.
func withInputs(t *testing.T, shift int) (impl.Sys, impl.Lin, impl.Lin) {
	s, ok := impl.SysNew(2)
	if !ok {
		t.Fatal("SysNew")
	}
	return s, weighted(1, lin(1, 1), shift, lin(0, 1)), weighted(1, lin(2, 1), shift, lin(0, 1))
}

// shifts are constants that are added to the inputs, so that the arguments are also combinations of several terms.
var shifts = []int{0, 1, -1, 12345}

// inputsFor returns the inputs for which the arguments have the given values.
func inputsFor(shift int, values ...int) []int {
	var ins []int
	for _, x := range values {
		ins = append(ins, mod(bigOf(x-shift)))
	}
	return ins
}

func TestProductsOfAssignments(t *testing.T) {
	for _, shift := range shifts {
		s, x, y := withInputs(t, shift)
		o := one(impl.AddMul(s, x, y))
		for _, a := range elements() {
			for _, b := range elements() {
				expectMeaning(t, "AddMul", o, inputsFor(shift, a, b), []int{mod(bigOf(a).Mul(bigOf(a), bigOf(b)))})
			}
		}
	}
}

func TestBitsAndEqualValuesOfAssignments(t *testing.T) {
	for _, shift := range shifts {
		s, x, y := withInputs(t, shift)
		boolean, equal := plain(impl.AddBool(s, x)), plain(impl.AddEq(s, x, y))
		for _, a := range elements() {
			expectAllowed(t, "AddBool", boolean, inputsFor(shift, a, 5), a < 2)
			for _, b := range elements() {
				expectAllowed(t, "AddEq", equal, inputsFor(shift, a, b), a == b)
			}
		}
	}
}

// expectAllowed is for gates without hints: the inputs alone decide.
func expectAllowed(t *testing.T, name string, o outcome, ins []int, allowed bool) {
	t.Helper()
	if !o.ok || impl.Check(o.s, append([]int{1}, ins...)) != allowed {
		t.Errorf("%s: Check for %v is %v", name, ins, !allowed)
	}
	if allowed {
		expectSolved(t, o.s, ins, append([]int{1}, ins...))
	} else {
		expectUnsolved(t, o.s, ins)
	}
}

func bitsOf(x, n int) []int {
	var l []int
	for i := range n {
		l = append(l, x>>i&1)
	}
	return l
}

func TestBitsOfAssignments(t *testing.T) {
	for _, shift := range shifts {
		s, x, _ := withInputs(t, shift)
		for n := 1; n <= 30; n++ {
			o := many(impl.AddBits(s, x, n))
			expectInt(t, "the number of bits", len(o.lins), n)
			expectInt(t, "the number of constraints", len(o.s.Cons), n+1)
			for _, a := range []int{0, 1, 2, 3, 5, 10, 1<<n - 1, 1<<n - 2, 1 << (n - 1), 1<<(n-1) - 1} {
				if a < 1<<n {
					expectMeaning(t, "AddBits", o, inputsFor(shift, a, 7), bitsOf(a, n))
				}
			}
			for _, a := range []int{1 << n, 1<<n + 1, 1<<n + 5, 3 << (n - 1), 1<<30 + 1, prime / 2, prime - 1, prime - 2, prime - 1<<(n-1)} {
				if a >= 1<<n && a < prime {
					expectMeaning(t, "AddBits", o, inputsFor(shift, a, 7), nil)
				}
			}
		}
	}
}

func TestBitsOfAllSmallNumbers(t *testing.T) {
	s, x, _ := withInputs(t, 0)
	for n := 1; n <= 4; n++ {
		o := many(impl.AddBits(s, x, n))
		for a := range 40 {
			if a < 1<<n {
				expectMeaning(t, "AddBits", o, []int{a, 0}, bitsOf(a, n))
			} else {
				expectMeaning(t, "AddBits", o, []int{a, 0}, nil)
			}
		}
	}
}

func TestZeroOfAssignments(t *testing.T) {
	for _, shift := range shifts {
		s, x, _ := withInputs(t, shift)
		o := one(impl.AddZero(s, x))
		for _, a := range elements() {
			want := 0
			if a == 0 {
				want = 1
			}
			expectMeaning(t, "AddZero", o, inputsFor(shift, a, 7), []int{want})
		}
		// The variable of the inverse of 0 may have any value.
		for _, v := range elements() {
			w := append(append([]int{1}, inputsFor(shift, 0, 7)...), v, 0)
			if !impl.Check(o.s, w) || modelValue(o.lins[0], w) != 1 {
				t.Errorf("AddZero: %v does not satisfy the system", w)
			}
		}
	}
}

func boolInt(b bool) int {
	if b {
		return 1
	}
	return 0
}

func TestLessOfAssignments(t *testing.T) {
	for _, shift := range shifts {
		s, x, y := withInputs(t, shift)
		for n := 1; n <= 29; n++ {
			o := one(impl.AddLess(s, x, y, n))
			expectInt(t, "the number of hints", len(o.s.Hints), n+1)
			values := []int{0, 1, 2, 3, 1<<n - 1, 1<<n - 2, 1 << (n - 1), 1<<(n-1) - 1, 1<<(n-1) + 1}
			for _, a := range values {
				for _, b := range values {
					if a < 1<<n && b < 1<<n {
						expectMeaning(t, "AddLess", o, inputsFor(shift, a, b), []int{boolInt(a < b)})
					}
				}
			}
			// Of greater numbers, only the difference counts: it must be in -2^n .. 2^n - 1.
			for _, d := range []int{-1 << n, 1 - 1<<n, -1, 0, 1, 1<<n - 1} {
				expectMeaning(t, "AddLess", o, inputsFor(shift, 1<<30+d, 1<<30), []int{boolInt(d < 0)})
			}
			for _, d := range []int{-1<<n - 1, -1<<n - 2, 1 << n, 1<<n + 1} {
				expectMeaning(t, "AddLess", o, inputsFor(shift, 1<<30+d, 1<<30), nil)
			}
		}
	}
}

func TestLessOfAllSmallNumbers(t *testing.T) {
	s, x, y := withInputs(t, 0)
	for n := 1; n <= 3; n++ {
		o := one(impl.AddLess(s, x, y, n))
		for a := range 1 << n {
			for b := range 1 << n {
				expectMeaning(t, "AddLess", o, []int{a, b}, []int{boolInt(a < b)})
			}
		}
	}
}

func TestMuxOfAssignments(t *testing.T) {
	s, ok := impl.SysNew(3)
	if !ok {
		t.Fatal("SysNew")
	}
	o := one(impl.AddMux(s, lin(1, 1), lin(2, 1), lin(3, 1)))
	// The arguments of this one are 1 - x, y - z and z + 5.
	several := one(impl.AddMux(s, lin(0, 1, 1, minus1), lin(2, 1, 3, minus1), lin(0, 5, 3, 1)))
	for _, a := range elements() {
		for _, b := range elements() {
			expectMeaning(t, "AddMux", o, []int{0, a, b}, []int{b})
			expectMeaning(t, "AddMux", o, []int{1, a, b}, []int{a})
			expectMeaning(t, "AddMux", several, []int{1, a, b}, []int{mod(bigOf(b + 5))})
			expectMeaning(t, "AddMux", several, []int{0, a, b}, []int{mod(bigOf(a - b))})
		}
	}
}

func TestXorOfAssignments(t *testing.T) {
	for _, shift := range shifts {
		s, x, y := withInputs(t, shift)
		for a := range 2 {
			for b := range 2 {
				expectMeaning(t, "AddXor", one(impl.AddXor(s, x, y)), inputsFor(shift, a, b), []int{boolInt(a != b)})
				expectMeaning(t, "AddXor", one(impl.AddXor(s, x, x)), inputsFor(shift, a, b), []int{0})
				expectMeaning(t, "AddXor", one(impl.AddXor(s, x, lin(0, 1))), inputsFor(shift, a, b), []int{1 - a})
				expectMeaning(t, "AddXor", one(impl.AddXor(s, lin(), y)), inputsFor(shift, a, b), []int{b})
			}
		}
	}
}

// machine applies gates to the results of other gates and computes beside them what they should yield.
type machine struct {
	t       *testing.T
	r       *rand.Rand
	s       impl.Sys
	numbers map[int][]known // by their number of bits
}

type known struct {
	a impl.Lin
	n int
}

func (m *machine) any(width int) known {
	l := m.numbers[width]
	return l[m.r.Intn(len(l))]
}

// keep adds results of that width, after a gate has added to the system.
func (m *machine) keep(o outcome, width int, values ...int) {
	m.t.Helper()
	if !o.ok || len(o.lins) != len(values) {
		m.t.Fatalf("%d results, %v", len(o.lins), o.ok)
	}
	// What was there before is unchanged.
	hints, cons := len(m.s.Hints), len(m.s.Cons)
	before := impl.Sys{Ins: o.s.Ins, Outs: o.s.Outs, Hints: o.s.Hints[:hints], Cons: o.s.Cons[:cons]}
	if !sameSys(before, m.s) {
		m.t.Errorf("%s has become %s", about(m.s), about(before))
	}
	m.s = o.s
	for i, a := range o.lins {
		m.numbers[width] = append(m.numbers[width], known{a, values[i]})
	}
}

func (m *machine) bits(x known, n int) []impl.Lin {
	o := many(impl.AddBits(m.s, x.a, n))
	m.keep(o, 1, bitsOf(x.n, n)...)
	return o.lins
}

func (m *machine) step() {
	m.t.Helper()
	x, y, c, d := m.any(8), m.any(8), m.any(1), m.any(1)
	switch m.r.Intn(8) {
	case 0:
		product := one(impl.AddMul(m.s, x.a, y.a))
		m.keep(product, 16, x.n*y.n)
		low := mustLin(m.t)(impl.Pack(m.bits(known{product.lins[0], x.n * y.n}, 16)[:8]))
		m.numbers[8] = append(m.numbers[8], known{low, x.n * y.n % 256})
	case 1:
		m.keep(plain(impl.AddBool(m.s, c.a)), 1)
	case 2:
		m.keep(plain(impl.AddEq(m.s, x.a, constant(x.n))), 8)
	case 3:
		m.bits(x, 8)
	case 4:
		m.keep(one(impl.AddZero(m.s, weighted(1, x.a, -1, y.a))), 1, boolInt(x.n == y.n))
	case 5:
		m.keep(one(impl.AddLess(m.s, x.a, y.a, 8)), 1, boolInt(x.n < y.n))
	case 6:
		m.keep(one(impl.AddMux(m.s, c.a, x.a, y.a)), 8, c.n*x.n+(1-c.n)*y.n)
	case 7:
		m.keep(one(impl.AddXor(m.s, c.a, d.a)), 1, boolInt(c.n != d.n))
	}
}

func constant(n int) impl.Lin { return weighted(n, lin(0, 1), 0, lin()) }

// expectKnown expects that w yields everything that is known.
func (m *machine) expectKnown(w []int) {
	m.t.Helper()
	for width, l := range m.numbers {
		for i, x := range l {
			if modelValue(x.a, w) != x.n {
				m.t.Errorf("the number %d of %d bits is %d, want %d", i, width, modelValue(x.a, w), x.n)
			}
		}
	}
}

func TestGatesOfGates(t *testing.T) {
	r := rand.New(rand.NewSource(10))
	for range 100 {
		ins := []int{r.Intn(256), r.Intn(256), r.Intn(2)}
		m := &machine{t, r, impl.Sys{Ins: 3, Outs: []impl.Lin{lin(1, 5)}}, map[int][]known{
			1: {{lin(3, 1), ins[2]}, {lin(), 0}, {lin(0, 1), 1}},
			8: {{lin(1, 1), ins[0]}, {lin(2, 1), ins[1]}, {lin(), 0}, {lin(0, 255), 255}},
		}}
		for range 12 {
			m.step()
		}
		w := modelSolve(m.s, ins)
		expectSolved(t, m.s, ins, w)
		m.expectKnown(w)
		for v := 4; v < len(w); v++ {
			for _, x := range []int{0, 1, 2, w[v] + 1, minus1} {
				c := slices.Clone(w)
				c[v] = x
				if impl.Check(m.s, c) {
					m.expectKnown(c)
				}
			}
		}
	}
}

func TestNumbersOfBitsOutOfRange(t *testing.T) {
	for _, g := range gates {
		if g.maxN == 0 {
			continue
		}
		for _, s := range []impl.Sys{sample(), {}, largest(), {Cons: make([]impl.Con, maxCons)}} {
			l := slices.Repeat([]impl.Lin{lin(0, 1)}, g.args)
			for _, n := range []int{0, -1, -2, -30, g.maxN + 1, g.maxN + 2, 31, 32, 62, 63, 64, 100, prime, math.MaxInt, math.MinInt, math.MinInt + 1} {
				expectRefused(t, g, s, l, n, "n out of range")
			}
		}
		expectAdded(t, g, impl.Sys{}, slices.Repeat([]impl.Lin{lin(0, 1)}, g.args), 1)
		expectAdded(t, g, impl.Sys{}, slices.Repeat([]impl.Lin{lin(0, 1)}, g.args), g.maxN)
	}
}

func TestCombinationsThatAreNotInTheSystem(t *testing.T) {
	full := sample()
	full.Cons = append(full.Cons, make([]impl.Con, maxCons-3)...)
	wide := sample()
	wide.Hints = append(wide.Hints, oneHints(maxVars-7)...)
	for _, g := range gates {
		for _, n := range []int{min(g.maxN, 1), g.maxN} {
			for i := range g.args {
				for _, s := range []impl.Sys{sample(), full, wide, {}, {Ins: 100}} {
					for _, a := range strangeLins(1 + s.Ins + len(s.Hints)) {
						if impl.LinOk(a) && len(s.Hints) > 5 {
							// All variables exist.
							continue
						}
						l := slices.Repeat([]impl.Lin{lin(0, 1)}, g.args)
						l[i] = a
						expectRefused(t, g, s, l, n, fmt.Sprint(shown(a), " in the place ", i))
					}
				}
			}
		}
	}
}

func TestGatesOfInvalidSystems(t *testing.T) {
	for _, f := range invalidSystems() {
		for _, g := range gates {
			for _, n := range []int{min(g.maxN, 1), g.maxN} {
				expectRefused(t, g, f.s, slices.Repeat([]impl.Lin{lin()}, g.args), n, f.name)
				expectRefused(t, g, f.s, slices.Repeat([]impl.Lin{lin(0, 3)}, g.args), n, f.name)
			}
		}
	}
}

func TestGatesUpToTheLimits(t *testing.T) {
	for _, g := range gates {
		for _, n := range g.numbers() {
			l := slices.Repeat([]impl.Lin{lin(0, 1)}, g.args)
			p, _ := g.planned(0, l, n)
			h, c := len(p.hints), len(p.cons)
			for _, ins := range []int{0, 100} {
				for _, free := range [][2]int{{h, c}, {h + 1, c}, {h, c + 1}, {maxVars - 101, maxCons}} {
					expectAdded(t, g, systemWithRoom(ins, free[0], free[1]), l, n)
				}
				for _, free := range [][2]int{{h - 1, c}, {0, c}, {h, c - 1}, {h, 0}, {h - 1, c - 1}, {0, 0}, {h - 1, maxCons}, {maxVars - 101, c - 1}} {
					if free[0] >= 0 && (free[0] < h || free[1] < c) {
						expectFull(t, g, systemWithRoom(ins, free[0], free[1]), l, n)
					}
				}
			}
		}
	}
}

// systemWithRoom has room for that many hints and constraints.
func systemWithRoom(ins, hints, cons int) impl.Sys {
	last := lin(maxVars-hints-1, 1)
	return impl.Sys{
		Ins:   ins,
		Outs:  []impl.Lin{last, lin(0, 3)},
		Hints: oneHints(maxVars - 1 - ins - hints),
		Cons:  slices.Repeat([]impl.Con{{A: last, B: lin(0, 1), C: last}}, maxCons-cons),
	}
}

func TestGatesOfTheLastVariables(t *testing.T) {
	all := fullLin(func(v int) int { return v + 1 })
	for _, g := range gates {
		p, _ := g.planned(0, slices.Repeat([]impl.Lin{lin()}, g.args), g.maxN)
		vars := maxVars - len(p.hints)
		s := systemWithRoom(50, len(p.hints), len(p.cons))
		for _, a := range []impl.Lin{lin(vars-1, 1), lin(0, 1, vars-1, minus1), {L: all.L[:vars]}} {
			expectAdded(t, g, s, slices.Repeat([]impl.Lin{a}, g.args), g.maxN)
		}
	}
}

func TestPackExamples(t *testing.T) {
	ones := slices.Repeat([]impl.Lin{lin(0, 1)}, 40)
	for i, c := range []struct {
		bits []impl.Lin
		want impl.Lin
	}{
		{nil, lin()}, {[]impl.Lin{}, lin()}, {[]impl.Lin{lin()}, lin()}, {make([]impl.Lin, 30), lin()},
		{[]impl.Lin{lin(1, 1)}, lin(1, 1)}, {[]impl.Lin{lin(), lin(1, 1)}, lin(1, 2)}, {[]impl.Lin{lin(1, 1), lin()}, lin(1, 1)},
		{[]impl.Lin{lin(1, 1), lin(2, 1), lin(3, 1), lin(4, 1)}, lin(1, 1, 2, 2, 3, 4, 4, 8)},
		{[]impl.Lin{lin(4, 1), lin(3, 1), lin(2, 1), lin(1, 1)}, lin(1, 8, 2, 4, 3, 2, 4, 1)},
		{[]impl.Lin{lin(1, 1), lin(1, 1), lin(1, 1)}, lin(1, 7)},
		{[]impl.Lin{lin(1, 2), lin(1, minus1)}, lin()}, {[]impl.Lin{lin(0, 2, 5, 1), lin(0, minus1, 5, 1)}, lin(5, 3)},
		{[]impl.Lin{lin(0, 1, 1, minus1), lin(0, 1, 2, minus1)}, lin(0, 3, 1, minus1, 2, prime-2)},
		{[]impl.Lin{lin(), lin(), lin(7, 1<<30)}, lin(7, 2)}, {[]impl.Lin{lin(), lin(maxVars-1, minus1)}, lin(maxVars-1, prime-2)},
		{ones[:29], lin(0, 1<<29-1)}, {ones[:30], lin(0, 1<<30-1)},
		{append(make([]impl.Lin, 29), lin(3, 1)), lin(3, 1<<29)}, {append(make([]impl.Lin, 29), lin(3, 4)), lin(3, 1<<31-prime)},
	} {
		got, ok := impl.Pack(c.bits)
		expectLin(t, "Pack", got, ok, c.want, i)
	}
	for _, n := range []int{31, 32, 40} {
		got, ok := impl.Pack(ones[:n])
		expectNoLin(t, "Pack", got, ok, n)
		got, ok = impl.Pack(make([]impl.Lin, n))
		expectNoLin(t, "Pack of empty combinations", got, ok, n)
	}
	got, ok := impl.Pack(make([]impl.Lin, 100000))
	expectNoLin(t, "Pack of many empty combinations", got, ok)
}

func TestPackWithInvalidElements(t *testing.T) {
	for _, bad := range invalidLins() {
		for _, n := range []int{1, 2, 3, 29, 30, 31} {
			for _, i := range []int{0, 1, n / 2, n - 1} {
				if i < n {
					l := slices.Repeat([]impl.Lin{lin(1, 1)}, n)
					l[i] = bad
					got, ok := impl.Pack(l)
					expectNoLin(t, "Pack", got, ok, n, i, shown(bad))
				}
			}
		}
	}
}

func TestPackOfRandomCombinations(t *testing.T) {
	r := rand.New(rand.NewSource(11))
	for range 1000 {
		var l []impl.Lin
		var want impl.Lin
		w, sum := randomAssignment(r, 12), 0
		for i := range r.Intn(31) {
			l = append(l, randomLin(r))
			want = weighted(1, want, 1<<i, l[i])
			sum = (sum + modelValue(l[i], w)<<i) % prime
		}
		got, ok := impl.Pack(l)
		expectLin(t, "Pack", got, ok, want, l)
		expectInt(t, "the value of Pack", modelValue(got, w), sum, l)
	}
	for _, a := range validLins() {
		got, ok := impl.Pack(slices.Repeat([]impl.Lin{a}, 30))
		expectLin(t, "Pack", got, ok, weighted(1<<30-1, a, 0, lin()), shown(a))
	}
}

// spareArgs are arguments for the sample with terms in their spare capacity that would be valid there.
func spareArgs() []impl.Lin {
	all := []impl.Lin{lin(0, 4, 3, 5), lin(1, 9, 3, prime-5), lin(2, 6)}
	for i, a := range all {
		all[i] = impl.Lin{L: spare(a.L, impl.Term{Var: 5, K: 2}, impl.Term{Var: 6, K: 3})}
	}
	return all
}

// fullSpareSys is spareSys without room for a constraint.
func fullSpareSys() impl.Sys {
	s := spareSys()
	s.Cons = spare(append(s.Cons, make([]impl.Con, maxCons-len(s.Cons))...), impl.Con{C: lin(0, 1)})
	return s
}

func allOfLins(l []impl.Lin) string { return allOf(impl.Sys{Outs: l}) }

func spansOfOutcome(o outcome) []span {
	return append(spansOf(o.s), spansOf(impl.Sys{Outs: o.lins})...)
}

// distinct leaves out the spans that are those of another slice, too.
func distinct(spans []span) []span {
	seen := map[span]bool{}
	var l []span
	for _, s := range spans {
		if !seen[s] {
			seen[s] = true
			l = append(l, s)
		}
	}
	return l
}

func TestGatesNeitherChangeNorShareMemory(t *testing.T) {
	for _, g := range gates {
		for _, s := range []impl.Sys{spareSys(), fullSpareSys()} {
			l := spare(spareArgs()[:g.args], lin(0, 0), lin(0, 0))
			before, beforeL := allOf(s), allOfLins(l)
			spans := append(spansOf(s), spansOf(impl.Sys{Outs: l})...)
			for range 2 {
				for _, n := range []int{min(g.maxN, 1), min(g.maxN, 5)} {
					spans = append(spans, spansOfOutcome(g.add(s, l, n))...)
				}
			}
			expectApart(t, spans)
			if allOf(s) != before || allOfLins(l) != beforeL {
				t.Errorf("%s changes an argument", g.name)
			}
			if len(s.Cons) < maxCons {
				expectAdded(t, g, s, l, min(g.maxN, 5))
			} else {
				expectFull(t, g, s, l, min(g.maxN, 5))
			}
		}
	}
}

func TestGatesOfSharedMemory(t *testing.T) {
	a := impl.Lin{L: spare([]impl.Term{{Var: 1, K: 1}}, impl.Term{Var: 2, K: 1})}
	b := impl.Lin{L: spare([]impl.Term{{Var: 0, K: 7}, {Var: 2, K: 1}}, impl.Term{Var: 3, K: 1})}
	for _, x := range []impl.Lin{a, b} {
		for _, n := range []int{3, maxCons} {
			s := impl.Sys{
				Ins: 2, Outs: []impl.Lin{x, x}, Hints: []impl.Hint{{A: x, B: x}, {A: x, B: x}},
				Cons: slices.Repeat([]impl.Con{{A: x, B: x, C: x}}, n),
			}
			for _, g := range gates {
				l := slices.Repeat([]impl.Lin{x}, g.args)
				args := distinct(append(spansOf(s), spansOf(impl.Sys{Outs: l})...))
				expectApart(t, append(args, spansOfOutcome(g.add(s, l, min(g.maxN, 4)))...))
			}
		}
	}
}

func TestPackNeitherChangesNorSharesMemory(t *testing.T) {
	for n := range 4 {
		l := spare(spareArgs()[:n], lin(0, 0), lin(2, 1))
		before := allOfLins(l)
		a, _ := impl.Pack(l)
		b, _ := impl.Pack(l)
		expectApart(t, append(spansOf(impl.Sys{Outs: l}), spanOf(a.L), spanOf(b.L)))
		if allOfLins(l) != before {
			t.Errorf("Pack changes one of %d elements", n)
		}
		want := lin()
		for i, x := range l {
			want = weighted(1, want, 1<<i, x)
		}
		expectLin(t, "Pack", a, true, want, n)
	}
	x := spareArgs()[0]
	packed, _ := impl.Pack([]impl.Lin{x, x})
	expectApart(t, []span{spanOf(x.L), spanOf(packed.L)})
}

func TestGatesDoNotDependOnEarlierCalls(t *testing.T) {
	full := systemWithRoom(10, 0, 0)
	for range 3 {
		for _, g := range gates {
			l := slices.Repeat([]impl.Lin{lin(1, 1)}, g.args)
			expectAdded(t, g, sample(), l, g.maxN)
			expectFull(t, g, full, l, g.maxN)
			expectRefused(t, g, sample(), slices.Repeat([]impl.Lin{lin(7, 1)}, g.args), g.maxN, "a variable that does not exist")
		}
	}
}
