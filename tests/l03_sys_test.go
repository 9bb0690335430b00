package tests

import (
	"bytes"
	"cmp"
	"encoding/binary"
	"fmt"
	"math"
	"math/big"
	"math/rand"
	"reflect"
	"slices"
	"testing"
	"unsafe"

	"loop.example/g00543/impl"
)

const maxCons = 4000

// fixture is a system with a name for the messages, and an assignment of the length that belongs to it.
type fixture struct {
	name string
	s    impl.Sys
	w    []int
}

// sample has hints of each kind; inputs with a first element other than 0 satisfy it.
func sample() impl.Sys {
	return impl.Sys{
		Ins:  2,
		Outs: []impl.Lin{lin(3, 1, 4, 1), lin(0, 7), lin(), lin(6, 2)},
		Hints: []impl.Hint{
			{Kind: impl.HtMul, A: lin(1, 1), B: lin(0, 1, 2, 1)},
			{Kind: impl.HtBit, A: lin(3, 1), K: 2},
			{Kind: impl.HtInv, A: lin(1, 1)},
			{Kind: impl.HtQuo, A: lin(3, 1), B: lin(2, 1)},
		},
		Cons: []impl.Con{
			{A: lin(1, 1), B: lin(0, 1, 2, 1), C: lin(3, 1)},
			{A: lin(4, 1), B: lin(0, prime-1, 4, 1), C: lin()},
			{A: lin(1, 1), B: lin(5, 1), C: lin(0, 1)},
		},
	}
}

// sampleW satisfies sample.
func sampleW() []int {
	return []int{1, 2, 3, 8, 0, 1 << 30, 2}
}

// changed returns the sample after a change.
func changed(change func(s *impl.Sys)) impl.Sys {
	s := sample()
	change(&s)
	return s
}

// withHint returns a system of two inputs that has h as the hint after the variables 1, 2 and 3, and one hint after it.
func withHint(h impl.Hint) impl.Sys {
	return impl.Sys{Ins: 2, Hints: []impl.Hint{{A: lin(1, 1), B: lin(2, 1)}, h, {A: lin(1, 1), B: lin(2, 1)}}}
}

// oneHints returns n hints whose value is 1.
func oneHints(n int) []impl.Hint {
	return slices.Repeat([]impl.Hint{{A: lin(0, 1), B: lin(0, 1)}}, n)
}

// largest has as much as possible of everything, except long combinations throughout.
func largest() impl.Sys {
	return impl.Sys{
		Ins:   100,
		Outs:  slices.Repeat([]impl.Lin{fullLin(func(v int) int { return prime - 1 - v })}, 40),
		Hints: oneHints(maxVars - 101),
		Cons:  slices.Repeat([]impl.Con{{A: lin(100, 1), B: lin(maxVars-1, 1), C: lin(100, 1)}}, maxCons),
	}
}

func validSystems() []impl.Sys {
	last := lin(1, 1, 2, 1, 3, 1, 4, 1, 5, 1, 6, prime-1)
	return []impl.Sys{
		{}, {Outs: []impl.Lin{}, Hints: []impl.Hint{}, Cons: []impl.Con{}}, {Ins: 1}, {Ins: 99}, {Ins: 100}, sample(),
		{Outs: []impl.Lin{lin(), lin(0, 5)}, Cons: []impl.Con{{}, {A: lin(0, 1), B: lin(0, 1), C: lin(0, 1)}}},
		{Ins: 100, Outs: []impl.Lin{lin(100, 1), lin(0, 1, 100, prime-1)}, Hints: []impl.Hint{{A: lin(100, 1), B: lin(100, 2)}}},
		{Outs: make([]impl.Lin, 39)}, {Outs: make([]impl.Lin, 40)},
		{Hints: oneHints(maxVars - 2)}, {Hints: oneHints(maxVars - 1), Outs: []impl.Lin{fullLin(func(int) int { return 1 })}},
		{Ins: 100, Hints: oneHints(maxVars - 102)}, {Ins: 100, Hints: oneHints(maxVars - 101)}, {Ins: 1, Hints: oneHints(maxVars - 2)},
		{Cons: make([]impl.Con, maxCons-1)}, {Cons: make([]impl.Con, maxCons)}, largest(),
		changed(func(s *impl.Sys) { s.Outs[2] = last }),
		changed(func(s *impl.Sys) { s.Cons[1] = impl.Con{A: last, B: last, C: last} }),
		withHint(impl.Hint{}), withHint(impl.Hint{Kind: impl.HtBit}), withHint(impl.Hint{Kind: impl.HtInv}), withHint(impl.Hint{Kind: impl.HtQuo}),
		withHint(impl.Hint{Kind: impl.HtMul, A: lin(3, 1), B: lin(3, 1)}), withHint(impl.Hint{Kind: impl.HtQuo, A: lin(3, 1), B: lin(0, 1, 3, 1)}),
		withHint(impl.Hint{Kind: impl.HtBit, A: lin(3, 1), K: 1}), withHint(impl.Hint{Kind: impl.HtBit, A: lin(3, 1), K: 30}),
		withHint(impl.Hint{Kind: impl.HtInv, A: lin(1, 1, 2, 1, 3, 1)}),
	}
}

func wrongLimits() []fixture {
	var l []fixture
	add := func(name string, s impl.Sys) { l = append(l, fixture{name, s, slices.Repeat([]int{1}, 7)}) }
	for _, ins := range []int{101, 102, 1000, prime, math.MaxInt, math.MaxInt - 1, -1, -2, math.MinInt, math.MinInt + 1} {
		add("Ins", impl.Sys{Ins: ins})
		add("Ins of the sample", changed(func(s *impl.Sys) { s.Ins = ins }))
	}
	for _, n := range []int{41, 42, 1000} {
		add("Outs", impl.Sys{Outs: make([]impl.Lin, n)})
		add("Outs of the sample", changed(func(s *impl.Sys) { s.Outs = make([]impl.Lin, n) }))
	}
	for _, n := range []int{maxVars, maxVars + 1, 2 * maxVars} {
		add("variables", impl.Sys{Hints: oneHints(n)})
		add("variables with an input", impl.Sys{Ins: 1, Hints: oneHints(n - 1)})
		add("variables with all inputs", impl.Sys{Ins: 100, Hints: oneHints(n - 100)})
	}
	for _, n := range []int{maxCons + 1, maxCons + 2, 2 * maxCons} {
		add("constraints", impl.Sys{Cons: make([]impl.Con, n)})
	}
	s := largest()
	s.Hints = append(s.Hints, impl.Hint{})
	add("one variable more than the limits allow", s)
	return l
}

// strangeLins are not valid in a system that has n variables at the place; some of them are valid elsewhere.
func strangeLins(n int) []impl.Lin {
	return append(invalidLins(), lin(n, 1), lin(n+1, 1), lin(0, 1, n, 1), lin(1, 1, n+1, 1), lin(maxVars-1, 1))
}

func wrongHints() []fixture {
	var l []fixture
	add := func(name string, h impl.Hint) {
		s := withHint(h)
		l = append(l, fixture{name, s, slices.Repeat([]int{1}, 6)})
	}
	for _, kind := range []int{-1, -2, 4, 5, 100, 255, 256, 257, math.MaxInt, math.MinInt} {
		add("Kind", impl.Hint{Kind: kind})
		add("Kind with K", impl.Hint{Kind: kind, A: lin(1, 1), K: 1})
	}
	for kind := range 4 {
		for _, a := range strangeLins(4) {
			add("A", impl.Hint{Kind: kind, A: a})
			add("B", impl.Hint{Kind: kind, B: a})
			add("A before B", impl.Hint{Kind: kind, A: a, B: lin(1, 1)})
			add("B behind A", impl.Hint{Kind: kind, A: lin(1, 1), B: a})
		}
		for _, k := range []int{-1, 31, 32, 63, 64, 1 << 31, 1 << 32, math.MaxInt, math.MinInt} {
			add("K", impl.Hint{Kind: kind, A: lin(1, 1), K: k})
		}
		if kind != impl.HtBit {
			for _, k := range []int{1, 2, 29, 30} {
				add("K", impl.Hint{Kind: kind, A: lin(1, 1), K: k})
			}
		}
	}
	for _, b := range []impl.Lin{lin(0, 1), lin(1, 1), lin(3, 1), lin(0, prime-1, 2, 1)} {
		add("B of HtBit", impl.Hint{Kind: impl.HtBit, A: lin(1, 1), B: b})
		add("B of HtBit", impl.Hint{Kind: impl.HtBit, A: lin(1, 1), B: b, K: 30})
		add("B of HtInv", impl.Hint{Kind: impl.HtInv, A: lin(1, 1), B: b})
	}
	return l
}

func wrongLins() []fixture {
	var l []fixture
	add := func(name string, change func(s *impl.Sys)) {
		l = append(l, fixture{name, changed(change), sampleW()})
	}
	for _, a := range strangeLins(7) {
		for i := range 4 {
			add("Outs", func(s *impl.Sys) { s.Outs[i] = a })
		}
		for i := range 3 {
			add("A of a constraint", func(s *impl.Sys) { s.Cons[i].A = a })
			add("B of a constraint", func(s *impl.Sys) { s.Cons[i].B = a })
			add("C of a constraint", func(s *impl.Sys) { s.Cons[i].C = a })
		}
	}
	for _, n := range []int{3, 4, 5, 6, 7} {
		// The hints are for the variables 3 to 6.
		for i := range min(4, n-2) {
			add("A of a hint", func(s *impl.Sys) { s.Hints[i].A = lin(n, 1) })
			add("B of a hint", func(s *impl.Sys) { s.Hints[i].B = lin(n, 1) })
		}
	}
	return l
}

func invalidSystems() []fixture {
	return slices.Concat(wrongLimits(), wrongHints(), wrongLins())
}

// notAssignments returns changes of w that are not assignments, although the length is right.
func notAssignments(w []int) [][]int {
	var l [][]int
	replace := func(i, x int) {
		c := slices.Clone(w)
		c[i] = x
		l = append(l, c)
	}
	for _, first := range []int{0, 2, prime - 1} {
		replace(0, first)
	}
	for i := range w {
		for _, x := range notElements {
			replace(i, x)
		}
	}
	return l
}

// otherLengths returns changes of w that have too few or too many elements.
func otherLengths(w []int) [][]int {
	l := [][]int{nil, {}, slices.Repeat([]int{1}, maxVars), slices.Repeat([]int{1}, maxVars+1)}
	for i := range w {
		// The missing values are in the spare capacity.
		l = append(l, slices.Clone(w)[:i])
	}
	return append(l, append(slices.Clone(w), 1), append(slices.Clone(w), 1, 1), append(slices.Clone(w), w...))
}

func bigValue(a impl.Lin, w []int) *big.Int { return bigOf(modelValue(a, w)) }

// modelHint computes with unbounded numbers, independently of the package.
func modelHint(h impl.Hint, w []int) int {
	a, b := bigValue(h.A, w), bigValue(h.B, w)
	switch h.Kind {
	case impl.HtMul:
		return mod(a.Mul(a, b))
	case impl.HtBit:
		return int(a.Bit(h.K))
	case impl.HtInv:
		if a.Sign() == 0 {
			return 0
		}
		return int(a.ModInverse(a, bigOf(prime)).Int64())
	}
	if b.Sign() == 0 {
		return 0
	}
	return int(a.Quo(a, b).Int64())
}

func modelFailing(s impl.Sys, w []int) []int {
	var l []int
	for i, c := range s.Cons {
		if mod(new(big.Int).Mul(bigValue(c.A, w), bigValue(c.B, w))) != modelValue(c.C, w) {
			l = append(l, i)
		}
	}
	return l
}

func modelSolve(s impl.Sys, ins []int) []int {
	w := append([]int{1}, ins...)
	for _, h := range s.Hints {
		w = append(w, modelHint(h, w))
	}
	return w
}

// encoder writes the encoding of any system whose numbers fit, valid or not, independently of the package.
type encoder struct {
	b       []byte
	numbers []int // where the numbers of four bytes are
}

func (e *encoder) number(n int) {
	e.numbers = append(e.numbers, len(e.b))
	e.b = binary.BigEndian.AppendUint32(e.b, uint32(n))
}

func (e *encoder) lin(a impl.Lin) {
	e.number(len(a.L))
	for _, t := range a.L {
		e.number(t.Var)
		e.number(t.K)
	}
}

func encoded(s impl.Sys) *encoder {
	e := &encoder{}
	e.number(s.Ins)
	e.number(len(s.Outs))
	e.number(len(s.Hints))
	e.number(len(s.Cons))
	for _, a := range s.Outs {
		e.lin(a)
	}
	for _, h := range s.Hints {
		e.b = append(e.b, byte(h.Kind))
		e.lin(h.A)
		e.lin(h.B)
		e.number(h.K)
	}
	for _, c := range s.Cons {
		e.lin(c.A)
		e.lin(c.B)
		e.lin(c.C)
	}
	return e
}

func sameSys(a, b impl.Sys) bool {
	sameHint := func(g, h impl.Hint) bool {
		return g.Kind == h.Kind && sameLin(g.A, h.A) && sameLin(g.B, h.B) && g.K == h.K
	}
	sameCon := func(c, d impl.Con) bool { return sameLin(c.A, d.A) && sameLin(c.B, d.B) && sameLin(c.C, d.C) }
	return a.Ins == b.Ins && slices.EqualFunc(a.Outs, b.Outs, sameLin) &&
		slices.EqualFunc(a.Hints, b.Hints, sameHint) && slices.EqualFunc(a.Cons, b.Cons, sameCon)
}

// about keeps the message of a failure short.
func about(s impl.Sys) string {
	text := fmt.Sprint(s)
	return text[:min(len(text), 300)]
}

// expectNoSys expects the zero value and false.
func expectNoSys(t *testing.T, what string, s impl.Sys, ok bool, args ...any) {
	t.Helper()
	if ok || !sameSys(s, impl.Sys{}) {
		t.Errorf("%s%v = %s, %v, want the zero value and false", what, args, about(s), ok)
	}
}

func expectInts(t *testing.T, what string, got, want []int, args ...any) {
	t.Helper()
	if !slices.Equal(got, want) {
		t.Errorf("%s%v = %v, want %v", what, args, got, want)
	}
}

// expectSolved expects the assignment want, which the other functions then have to confirm.
func expectSolved(t *testing.T, s impl.Sys, ins, want []int) {
	t.Helper()
	w, ok := impl.Solve(s, ins)
	if !ok || !slices.Equal(w, want) {
		t.Errorf("Solve(%s, %v) = %v, %v, want %v, true", about(s), ins, w, ok, want)
		return
	}
	if !impl.Check(s, w) || len(impl.Failing(s, w)) != 0 || !slices.Equal(w[1:1+len(ins)], ins) {
		t.Errorf("Solve(%s, %v) = %v, which does not satisfy the system", about(s), ins, w)
	}
	expectInts(t, "InsOf", impl.InsOf(s, w), ins)
	expectInt(t, "VarCount", impl.VarCount(s), len(w))
}

func expectUnsolved(t *testing.T, s impl.Sys, ins []int) {
	t.Helper()
	if w, ok := impl.Solve(s, ins); ok || len(w) != 0 {
		t.Errorf("Solve(%s, %v) = %v, %v, want nil, false", about(s), ins, w, ok)
	}
}

func expectNoOuts(t *testing.T, what string, s impl.Sys, w []int) {
	t.Helper()
	if outs, ok := impl.OutsOf(s, w); ok || len(outs) != 0 {
		t.Errorf("%s: OutsOf = %v, %v, want nil, false", what, outs, ok)
	}
}

func TestConstantsOfSystems(t *testing.T) {
	for i, n := range [][2]int{{impl.MaxCons, maxCons}, {impl.HtMul, 0}, {impl.HtBit, 1}, {impl.HtInv, 2}, {impl.HtQuo, 3}} {
		expectInt(t, "constant", n[0], n[1], i)
	}
}

func TestSysOk(t *testing.T) {
	for i, s := range validSystems() {
		if !impl.SysOk(s) {
			t.Errorf("SysOk is false for the valid system %d: %s", i, about(s))
		}
	}
	for _, f := range invalidSystems() {
		if impl.SysOk(f.s) {
			t.Errorf("SysOk is true in spite of %s: %s", f.name, about(f.s))
		}
	}
}

func TestInvalidSystems(t *testing.T) {
	for _, f := range invalidSystems() {
		for _, w := range [][]int{nil, {1}, f.w, slices.Repeat([]int{1}, maxVars)} {
			if impl.Check(f.s, w) {
				t.Errorf("Check is true in spite of %s: %s", f.name, about(f.s))
			}
			if impl.Failing(f.s, w) != nil || impl.InsOf(f.s, w) != nil {
				t.Errorf("Failing or InsOf is not nil in spite of %s: %s", f.name, about(f.s))
			}
			expectNoOuts(t, f.name, f.s, w)
		}
		for _, ins := range [][]int{nil, {1}, {1, 1}, slices.Repeat([]int{1}, 100), slices.Repeat([]int{1}, 101)} {
			expectUnsolved(t, f.s, ins)
		}
		if b, ok := impl.SysBytes(f.s); ok || len(b) != 0 {
			t.Errorf("SysBytes has %d bytes in spite of %s: %s", len(b), f.name, about(f.s))
		}
		expectInt(t, "VarCount", impl.VarCount(f.s), -1, f.name)
	}
}

func TestSysNew(t *testing.T) {
	for _, ins := range []int{0, 1, 2, 50, 99, 100} {
		s, ok := impl.SysNew(ins)
		if !ok || !sameSys(s, impl.Sys{Ins: ins}) {
			t.Errorf("SysNew(%d) = %s, %v", ins, about(s), ok)
		}
		expectInt(t, "VarCount of SysNew", impl.VarCount(s), 1+ins, ins)
		expectSolved(t, s, slices.Repeat([]int{5}, ins), append([]int{1}, slices.Repeat([]int{5}, ins)...))
	}
	for _, ins := range []int{-1, -2, -100, 101, 102, maxVars, prime, math.MaxInt, math.MinInt} {
		s, ok := impl.SysNew(ins)
		expectNoSys(t, "SysNew", s, ok, ins)
	}
}

func TestHoldsExamples(t *testing.T) {
	w := []int{1, 9, 81, prime - 1, 0}
	for i, c := range []struct {
		c    impl.Con
		want bool
	}{
		{impl.Con{}, true}, {impl.Con{A: lin(1, 1)}, true}, {impl.Con{B: lin(1, 1)}, true}, {impl.Con{C: lin(1, 1)}, false}, {impl.Con{C: lin(4, 1)}, true},
		{impl.Con{A: lin(1, 1), B: lin(1, 1), C: lin(2, 1)}, true}, {impl.Con{A: lin(1, 1), B: lin(1, 1), C: lin(0, 81)}, true},
		{impl.Con{A: lin(1, 1), B: lin(1, 1), C: lin(0, 80)}, false}, {impl.Con{A: lin(1, 1), B: lin(1, 2), C: lin(2, 1)}, false},
		{impl.Con{A: lin(2, 1), B: lin(0, 1), C: lin(1, 9)}, true}, {impl.Con{A: lin(0, 1), B: lin(2, 1), C: lin(1, 8)}, false},
		{impl.Con{A: lin(3, 1), B: lin(3, 1), C: lin(0, 1)}, true}, {impl.Con{A: lin(3, 1), B: lin(1, 1), C: lin(0, prime-9)}, true},
		{impl.Con{A: lin(1, 1, 2, 1), B: lin(0, 2), C: lin(0, 180)}, true}, {impl.Con{A: lin(1, 1), B: lin(2, 1), C: lin(0, 729)}, true},
		{impl.Con{A: lin(1, 1, 3, 9), B: lin(2, 1), C: lin()}, true}, {impl.Con{A: lin(1, 1), B: lin(2, 1), C: lin()}, false},
	} {
		if impl.Holds(c.c, w) != c.want {
			t.Errorf("Holds of the example %d is %v", i, !c.want)
		}
	}
	if !impl.Holds(impl.Con{}, []int{1}) || !impl.Holds(impl.Con{A: lin(maxVars-1, 1)}, append(slices.Repeat([]int{1}, maxVars-1), 0)) {
		t.Error("Holds is false for the shortest or the longest assignment")
	}
}

func TestHoldsOfStrangeCombinations(t *testing.T) {
	w := []int{1, 0, 0, 0}
	for _, a := range strangeLins(len(w)) {
		// The other factor is 0, so that the value of a would not matter.
		for i, c := range []impl.Con{{A: a}, {B: a}, {C: a}, {A: a, B: a, C: a}, {A: a, B: lin(1, 1)}, {A: lin(1, 1), B: a}, {A: lin(0, 1), B: lin(1, 1), C: a}} {
			if impl.Holds(c, w) {
				t.Errorf("Holds is true for %v in the place %d", shown(a), i)
			}
		}
	}
	for v := 1; v < 5; v++ {
		long := []int{1, 0, 0, 0, 0}
		if impl.Holds(impl.Con{A: lin(v, 1)}, long[:v]) || !impl.Holds(impl.Con{A: lin(v, 1)}, long[:v+1]) {
			t.Errorf("Holds does not depend on a value for the variable %d", v)
		}
	}
}

func TestHoldsWithoutAssignment(t *testing.T) {
	cons := []impl.Con{{}, {A: lin(0, 1), B: lin(0, 1), C: lin(0, 1)}, {A: lin(1, 1), B: lin(0, 1), C: lin(1, 1)}}
	for i, c := range cons {
		for _, w := range append(notAssignments([]int{1, 5, 7}), nil, []int{}, slices.Repeat([]int{1}, maxVars+1)) {
			if impl.Holds(c, w) {
				t.Errorf("Holds of %d is true for %d elements: %v", i, len(w), w[:min(len(w), 3)])
			}
		}
		if !impl.Holds(c, []int{1, 5, 7}) || !impl.Holds(c, slices.Repeat([]int{1}, maxVars)) {
			t.Errorf("Holds of %d is false", i)
		}
	}
}

func TestCheckOfEachValue(t *testing.T) {
	s, w := sample(), sampleW()
	if !impl.Check(s, w) {
		t.Fatal("Check is false for the sample")
	}
	for i := 1; i < len(w); i++ {
		for _, x := range []int{0, 1, 2, 3, 8, 9, 1 << 30, prime - 1} {
			c := slices.Clone(w)
			c[i] = x
			failing := modelFailing(s, c)
			if impl.Check(s, c) != (len(failing) == 0) {
				t.Errorf("Check(%v) is %v", c, len(failing) != 0)
			}
			expectInts(t, "Failing", impl.Failing(s, c), failing, c)
		}
	}
}

func TestCheckWithoutAssignment(t *testing.T) {
	// The second system has no constraints that could fail.
	for _, s := range []impl.Sys{sample(), {Ins: 6}, {Ins: 5, Hints: oneHints(1)}} {
		if !impl.Check(s, sampleW()) {
			t.Errorf("Check(%s) is false", about(s))
		}
		for _, w := range append(notAssignments(sampleW()), otherLengths(sampleW())...) {
			if impl.Check(s, w) {
				t.Errorf("Check(%s) is true for %v", about(s), w[:min(len(w), 10)])
			}
			expectNoOuts(t, "no assignment", s, w)
		}
	}
	if !impl.Check(impl.Sys{}, []int{1}) || impl.Check(impl.Sys{}, nil) || impl.Check(impl.Sys{}, []int{0}) || impl.Check(impl.Sys{}, []int{1, 1}) {
		t.Error("Check of the empty system")
	}
}

func TestCheckOfTheLastConstraint(t *testing.T) {
	s := largest()
	w := slices.Repeat([]int{1}, maxVars)
	if !impl.Check(s, w) || len(impl.Failing(s, w)) != 0 {
		t.Error("the largest system is not satisfied")
	}
	for _, i := range []int{0, 1, maxCons / 2, maxCons - 1} {
		s = largest()
		s.Cons[i].C = lin(0, 2)
		if impl.Check(s, w) {
			t.Errorf("Check is true although the constraint %d fails", i)
		}
		expectInts(t, "Failing", impl.Failing(s, w), []int{i})
		expectUnsolved(t, s, slices.Repeat([]int{1}, 100))
		expectNoOuts(t, "a constraint fails", s, w)
	}
}

func TestSolveExamples(t *testing.T) {
	expectSolved(t, sample(), []int{2, 3}, sampleW())
	expectSolved(t, sample(), []int{1, 0}, []int{1, 1, 0, 1, 0, 1, 0})
	expectSolved(t, sample(), []int{4, 0}, []int{1, 4, 0, 4, 1, 1 << 29, 0})
	expectSolved(t, sample(), []int{prime - 1, 4}, []int{1, prime - 1, 4, prime - 5, 0, prime - 1, (prime - 5) / 4})
	expectSolved(t, impl.Sys{}, nil, []int{1})
	expectSolved(t, impl.Sys{Ins: 2}, []int{0, prime - 1}, []int{1, 0, prime - 1})
	expectSolved(t, impl.Sys{Hints: oneHints(3)}, []int{}, []int{1, 1, 1, 1})
	// The inverse of 0 is 0, so that the last constraint fails.
	expectUnsolved(t, sample(), []int{0, 3})
	expectUnsolved(t, impl.Sys{Cons: []impl.Con{{C: lin(0, 1)}}}, nil)
}

func TestSolveOfChains(t *testing.T) {
	squares := impl.Sys{Ins: 1}
	for v := 1; v < 6; v++ {
		squares.Hints = append(squares.Hints, impl.Hint{A: lin(v, 1), B: lin(v, 1)})
	}
	expectSolved(t, squares, []int{3}, []int{1, 3, 9, 81, 6561, 43046721, 43046721 * 43046721 % prime})
	sums := impl.Sys{Ins: 2}
	for v := 1; v < 6; v++ {
		sums.Hints = append(sums.Hints, impl.Hint{A: lin(v, 1, v+1, 1), B: lin(0, 1)})
	}
	expectSolved(t, sums, []int{1, 1}, []int{1, 1, 1, 2, 3, 5, 8, 13})
}

func TestHintsOfAllEdges(t *testing.T) {
	s := impl.Sys{Ins: 2, Hints: []impl.Hint{
		{Kind: impl.HtMul, A: lin(1, 1), B: lin(2, 1)},
		{Kind: impl.HtInv, A: lin(1, 1)}, {Kind: impl.HtInv, A: lin(2, 1)}, {Kind: impl.HtInv, A: lin(1, 1)}, {Kind: impl.HtInv},
		{Kind: impl.HtQuo, A: lin(1, 1), B: lin(2, 1)}, {Kind: impl.HtQuo, A: lin(2, 1), B: lin(1, 1)}, {Kind: impl.HtQuo, A: lin(1, 1)}, {Kind: impl.HtQuo, B: lin(1, 1)},
		{Kind: impl.HtQuo, A: lin(1, 3, 2, prime-1), B: lin(0, 2, 1, 1)}, {Kind: impl.HtInv, A: lin(0, prime-1, 1, 2, 2, 3)},
	}}
	for k := range 31 {
		s.Hints = append(s.Hints, impl.Hint{Kind: impl.HtBit, A: lin(1, 1), K: k}, impl.Hint{Kind: impl.HtBit, A: lin(0, prime-1, 2, 2), K: k})
	}
	for _, a := range elements() {
		for _, b := range elements() {
			expectSolved(t, s, []int{a, b}, modelSolve(s, []int{a, b}))
		}
	}
}

func TestHintExamples(t *testing.T) {
	for i, c := range []struct {
		h       impl.Hint
		x, want int
	}{
		{impl.Hint{Kind: impl.HtMul, A: lin(1, 1), B: lin(1, 1)}, 1 << 16, 2}, {impl.Hint{Kind: impl.HtMul, A: lin(1, 1)}, 5, 0},
		{impl.Hint{Kind: impl.HtBit, A: lin(1, 1)}, 6, 0}, {impl.Hint{Kind: impl.HtBit, A: lin(1, 1), K: 1}, 6, 1},
		{impl.Hint{Kind: impl.HtBit, A: lin(1, 1), K: 30}, 1 << 30, 1}, {impl.Hint{Kind: impl.HtBit, A: lin(1, 1), K: 30}, 1<<30 - 1, 0},
		{impl.Hint{Kind: impl.HtBit, A: lin(1, 2), K: 30}, 1 << 30, 0}, {impl.Hint{Kind: impl.HtBit, A: lin(1, prime-1), K: 30}, 1, 1},
		{impl.Hint{Kind: impl.HtInv, A: lin(1, 1)}, 0, 0}, {impl.Hint{Kind: impl.HtInv, A: lin(1, 1)}, 2, 1 << 30}, {impl.Hint{Kind: impl.HtInv, A: lin(1, 1)}, 1 << 30, 2},
		{impl.Hint{Kind: impl.HtQuo, A: lin(0, 100), B: lin(1, 1)}, 7, 14}, {impl.Hint{Kind: impl.HtQuo, A: lin(0, 100), B: lin(1, 1)}, 0, 0},
		{impl.Hint{Kind: impl.HtQuo, A: lin(0, 100), B: lin(1, 1)}, 101, 0}, {impl.Hint{Kind: impl.HtQuo, A: lin(0, 100), B: lin(1, 1)}, 100, 1},
		{impl.Hint{Kind: impl.HtQuo, A: lin(0, prime-1), B: lin(1, 1)}, 2, prime / 2}, {impl.Hint{Kind: impl.HtQuo, A: lin(1, 1), B: lin(0, 1, 1, 1)}, prime - 1, 0},
	} {
		w, ok := impl.Solve(impl.Sys{Ins: 1, Hints: []impl.Hint{c.h}}, []int{c.x})
		if !ok || len(w) != 3 || w[2] != c.want {
			t.Errorf("the hint %d has the values %v, want %d", i, w, c.want)
		}
	}
}

func TestSolveWithInvalidInputs(t *testing.T) {
	for _, s := range []impl.Sys{sample(), {Ins: 2}} {
		for _, ins := range [][]int{nil, {}, {2}, {2, 3, 4}, {2, 3, 8, 0}, {1, 2, 3}, []int{2, 3}[:1], slices.Repeat([]int{1}, 100), slices.Repeat([]int{1}, maxVars)} {
			expectUnsolved(t, s, ins)
		}
		for _, bad := range notElements {
			expectUnsolved(t, s, []int{bad, 3})
			expectUnsolved(t, s, []int{2, bad})
		}
	}
	for _, s := range []impl.Sys{{}, {Hints: oneHints(2)}} {
		expectUnsolved(t, s, []int{1})
		expectUnsolved(t, s, []int{-1})
	}
	expectUnsolved(t, impl.Sys{Ins: 100}, slices.Repeat([]int{1}, 99))
	expectUnsolved(t, impl.Sys{Ins: 100}, slices.Repeat([]int{1}, 101))
}

func TestOutsOf(t *testing.T) {
	outs, ok := impl.OutsOf(sample(), sampleW())
	if !ok || !slices.Equal(outs, []int{8, 7, 0, 4}) {
		t.Errorf("OutsOf the sample = %v, %v", outs, ok)
	}
	for _, s := range validSystems() {
		w := modelSolve(s, slices.Repeat([]int{1}, s.Ins))
		if len(modelFailing(s, w)) > 0 {
			expectNoOuts(t, "a constraint fails", s, w)
			continue
		}
		outs, ok = impl.OutsOf(s, w)
		var want []int
		for _, a := range s.Outs {
			want = append(want, modelValue(a, w))
		}
		if !ok || !slices.Equal(outs, want) {
			t.Errorf("OutsOf(%s) = %v, %v, want %v", about(s), outs, ok, want)
		}
	}
	w := sampleW()
	w[3]++
	expectNoOuts(t, "a constraint fails", sample(), w)
}

func TestVarCount(t *testing.T) {
	expectInt(t, "VarCount of the sample", impl.VarCount(sample()), 7)
	for _, s := range validSystems() {
		expectInt(t, "VarCount", impl.VarCount(s), 1+s.Ins+len(s.Hints), about(s))
	}
}

func TestFailingExamples(t *testing.T) {
	s, w := sample(), sampleW()
	for _, c := range []struct {
		v, x int
		want []int
	}{
		{1, 2, nil}, {1, 3, []int{0, 2}}, {1, 0, []int{0, 2}}, {2, 4, []int{0}}, {3, 9, []int{0}},
		{4, 1, nil}, {4, 2, []int{1}}, {5, 1, []int{2}}, {6, 12345, nil},
		{1, prime + 2, []int{0, 1, 2}}, {6, -1, []int{0, 1, 2}}, {0, 2, []int{0, 1, 2}}, {0, 0, []int{0, 1, 2}},
	} {
		changed := slices.Clone(w)
		changed[c.v] = c.x
		expectInts(t, "Failing", impl.Failing(s, changed), c.want, c.v, c.x)
	}
	if impl.Failing(impl.Sys{}, []int{1}) != nil || impl.Failing(impl.Sys{Ins: 1}, []int{5, -1}) != nil {
		t.Error("Failing without constraints")
	}
}

func TestFailingIsHolds(t *testing.T) {
	s := sample()
	for _, w := range append(notAssignments(sampleW()), sampleW(), []int{1, 1, 1, 1, 1, 1, 1}, make([]int, 7)) {
		var want []int
		for i, c := range s.Cons {
			if !impl.Holds(c, w) {
				want = append(want, i)
			}
		}
		expectInts(t, "Failing", impl.Failing(s, w), want, w)
		// The inputs are returned also if w is not an assignment.
		expectInts(t, "InsOf", impl.InsOf(s, w), w[1:3], w)
	}
}

func TestInsOfExamples(t *testing.T) {
	expectInts(t, "InsOf", impl.InsOf(sample(), sampleW()), []int{2, 3})
	expectInts(t, "InsOf", impl.InsOf(sample(), []int{9, 8, 7, 6, 5, 4, 3}), []int{8, 7})
	expectInts(t, "InsOf", impl.InsOf(impl.Sys{}, []int{1}), nil)
	expectInts(t, "InsOf", impl.InsOf(impl.Sys{Hints: oneHints(2)}, []int{1, 2, 3}), nil)
	expectInts(t, "InsOf", impl.InsOf(impl.Sys{Ins: 3}, []int{1, 2, 3, 4}), []int{2, 3, 4})
}

func TestFailingAndInsOfWithOtherLengths(t *testing.T) {
	for _, s := range []impl.Sys{sample(), {Ins: 6, Cons: []impl.Con{{C: lin(0, 1)}}}} {
		for _, w := range otherLengths(sampleW()) {
			if impl.Failing(s, w) != nil || impl.InsOf(s, w) != nil {
				t.Errorf("Failing or InsOf is not nil for %d elements", len(w))
			}
		}
	}
}

func TestSysBytesExample(t *testing.T) {
	s := impl.Sys{
		Ins:   2,
		Outs:  []impl.Lin{lin(3, 1), lin()},
		Hints: []impl.Hint{{Kind: impl.HtBit, A: lin(0, 258, 2, prime-1), K: 30}, {Kind: impl.HtQuo, A: lin(1, 1), B: lin(3, 2)}},
		Cons:  []impl.Con{{A: lin(4, 16909060), B: lin(), C: lin(0, 5)}},
	}
	want := []byte{
		0, 0, 0, 2, 0, 0, 0, 2, 0, 0, 0, 2, 0, 0, 0, 1,
		0, 0, 0, 1, 0, 0, 0, 3, 0, 0, 0, 1,
		0, 0, 0, 0,
		1, 0, 0, 0, 2, 0, 0, 0, 0, 0, 0, 1, 2, 0, 0, 0, 2, 127, 255, 255, 254, 0, 0, 0, 0, 0, 0, 0, 30,
		3, 0, 0, 0, 1, 0, 0, 0, 1, 0, 0, 0, 1, 0, 0, 0, 1, 0, 0, 0, 3, 0, 0, 0, 2, 0, 0, 0, 0,
		0, 0, 0, 1, 0, 0, 0, 4, 1, 2, 3, 4, 0, 0, 0, 0, 0, 0, 0, 1, 0, 0, 0, 0, 0, 0, 0, 5,
	}
	b, ok := impl.SysBytes(s)
	if !ok || !bytes.Equal(b, want) {
		t.Errorf("SysBytes = %v, %v", b, ok)
	}
	r, ok := impl.SysRead(want)
	if !ok || !sameSys(r, s) {
		t.Errorf("SysRead = %v, %v", r, ok)
	}
	b, ok = impl.SysBytes(impl.Sys{})
	if !ok || !bytes.Equal(b, make([]byte, 16)) {
		t.Errorf("SysBytes of the empty system = %v, %v", b, ok)
	}
}

func TestSystemsAreRecovered(t *testing.T) {
	for i, s := range validSystems() {
		b, ok := impl.SysBytes(s)
		if !ok || !bytes.Equal(b, encoded(s).b) {
			t.Errorf("SysBytes of the valid system %d has %d bytes, %v", i, len(b), ok)
		}
		r, ok := impl.SysRead(b)
		if !ok || !sameSys(r, s) || !impl.SysOk(r) {
			t.Errorf("SysRead of the valid system %d is %s, %v", i, about(r), ok)
		}
	}
}

func TestSysReadOfOtherLengths(t *testing.T) {
	for _, s := range []impl.Sys{{}, {Ins: 3}, sample(), {Outs: make([]impl.Lin, 3)}, {Cons: make([]impl.Con, 3)}, {Hints: oneHints(1)}} {
		b := encoded(s).b
		for i := range b {
			// The missing bytes are in the spare capacity.
			r, ok := impl.SysRead(b[:i])
			expectNoSys(t, "SysRead of a part", r, ok, i)
			r, ok = impl.SysRead(slices.Clip(b[:i]))
			expectNoSys(t, "SysRead of a part alone", r, ok, i)
			r, ok = impl.SysRead(slices.Delete(slices.Clone(b), i, i+1))
			if ok && !bytes.Equal(encoded(r).b, slices.Delete(slices.Clone(b), i, i+1)) {
				t.Errorf("SysRead without the byte %d = %s", i, about(r))
			}
		}
		for _, more := range [][]byte{{0}, {1}, {0, 0, 0, 0}, make([]byte, 12), make([]byte, 16), b} {
			r, ok := impl.SysRead(append(slices.Clone(b), more...))
			expectNoSys(t, "SysRead with more behind the end", r, ok, len(more))
			r, ok = impl.SysRead(append(slices.Clone(more), b...))
			if ok && !bytes.Equal(encoded(r).b, append(slices.Clone(more), b...)) {
				t.Errorf("SysRead with more before = %s", about(r))
			}
		}
	}
	for _, b := range [][]byte{nil, {}, {0}, make([]byte, 15), make([]byte, 17), make([]byte, 1000)} {
		r, ok := impl.SysRead(b)
		expectNoSys(t, "SysRead of zeros", r, ok, len(b))
	}
}

func TestSysReadOfGreatNumbers(t *testing.T) {
	for _, s := range []impl.Sys{{}, sample(), {Outs: []impl.Lin{lin(0, 1)}, Hints: oneHints(1), Cons: []impl.Con{{A: lin(0, 1, 1, 1)}}}} {
		e := encoded(s)
		for _, at := range e.numbers {
			for _, n := range []uint32{prime, prime + 1, prime + 2, 1<<32 - 1, 1<<32 - 2, 1<<31 + 1<<30} {
				b := slices.Clone(e.b)
				binary.BigEndian.PutUint32(b[at:], n)
				r, ok := impl.SysRead(b)
				expectNoSys(t, "SysRead of a great number", r, ok, at, n)
			}
		}
	}
	for at := range 4 {
		// Enough bytes follow for many elements.
		b := make([]byte, 1<<20)
		binary.BigEndian.PutUint32(b[4*at:], 1<<32-1)
		r, ok := impl.SysRead(b)
		expectNoSys(t, "SysRead of a great number", r, ok, at)
	}
}

func TestSysReadOfInvalidSystems(t *testing.T) {
	fits := func(n int) bool { return n >= 0 && n < 1<<32 }
	linFits := func(a impl.Lin) bool {
		return !slices.ContainsFunc(a.L, func(t impl.Term) bool { return !fits(t.Var) || !fits(t.K) })
	}
	tried := 0
	for _, f := range invalidSystems() {
		ok := fits(f.s.Ins)
		for _, a := range f.s.Outs {
			ok = ok && linFits(a)
		}
		for _, h := range f.s.Hints {
			ok = ok && linFits(h.A) && linFits(h.B) && fits(h.K) && h.Kind >= 0 && h.Kind < 256
		}
		for _, c := range f.s.Cons {
			ok = ok && linFits(c.A) && linFits(c.B) && linFits(c.C)
		}
		if ok {
			tried++
			r, ok := impl.SysRead(encoded(f.s).b)
			expectNoSys(t, "SysRead of an invalid system", r, ok, f.name)
		}
	}
	if tried < 300 {
		t.Errorf("only %d invalid systems have an encoding", tried)
	}
}

func TestSysReadOfChangedBytes(t *testing.T) {
	r := rand.New(rand.NewSource(6))
	original, accepted := encoded(sample()).b, 0
	for range 20000 {
		b := slices.Clone(original)
		for range 1 + r.Intn(3) {
			b[r.Intn(len(b))] = []byte{0, 1, 2, 3, 4, 7, 30, 31, 127, 128, 255}[r.Intn(11)]
		}
		s, ok := impl.SysRead(b)
		if !ok {
			expectNoSys(t, "SysRead", s, ok, b)
			continue
		}
		accepted++
		again, ok := impl.SysBytes(s)
		if !ok || !bytes.Equal(again, b) || !impl.SysOk(s) {
			t.Fatalf("SysRead(%v) = %s", b, about(s))
		}
	}
	if accepted == 0 {
		t.Error("no changed bytes were accepted")
	}
}

func smallLin(r *rand.Rand, n int) impl.Lin {
	var a impl.Lin
	for v := range n {
		if r.Intn(n) < 2 {
			a.L = append(a.L, impl.Term{Var: v, K: []int{1, 2, prime - 1, 1 + r.Intn(prime-1)}[r.Intn(4)]})
		}
	}
	return a
}

// randomSys is valid; its constraints are those of its products, so that they hold for its solutions.
func randomSys(r *rand.Rand) impl.Sys {
	s := impl.Sys{Ins: r.Intn(5)}
	for v := 1 + s.Ins; v < 2+s.Ins+r.Intn(8); v++ {
		h := impl.Hint{Kind: r.Intn(4), A: smallLin(r, v)}
		switch h.Kind {
		case impl.HtMul:
			h.B = smallLin(r, v)
			s.Cons = append(s.Cons, impl.Con{A: h.A, B: h.B, C: lin(v, 1)})
		case impl.HtQuo:
			h.B = smallLin(r, v)
		case impl.HtBit:
			h.K = r.Intn(31)
			s.Cons = append(s.Cons, impl.Con{A: lin(v, 1), B: lin(0, prime-1, v, 1)})
		}
		s.Hints = append(s.Hints, h)
	}
	for range r.Intn(4) {
		s.Outs = append(s.Outs, smallLin(r, 1+s.Ins+len(s.Hints)))
	}
	return s
}

func TestRandomSystems(t *testing.T) {
	r := rand.New(rand.NewSource(7))
	for range 1000 {
		s := randomSys(r)
		w := modelSolve(s, randomAssignment(r, 1+s.Ins)[1:])
		expectSolved(t, s, w[1:1+s.Ins], w)
		b, ok := impl.SysBytes(s)
		back, fine := impl.SysRead(b)
		if !ok || !fine || !sameSys(back, s) || !bytes.Equal(b, encoded(s).b) {
			t.Fatalf("%s is not recovered", about(s))
		}
		w[len(w)-1-r.Intn(len(s.Hints))] = r.Intn(3)
		failing := modelFailing(s, w)
		expectInts(t, "Failing", impl.Failing(s, w), failing, about(s), w)
		if impl.Check(s, w) != (len(failing) == 0) {
			t.Errorf("Check(%s, %v) is %v", about(s), w, len(failing) != 0)
		}
	}
}

func TestSolveIfAConstraintFails(t *testing.T) {
	r := rand.New(rand.NewSource(8))
	for range 300 {
		s := randomSys(r)
		ins := randomAssignment(r, 1+s.Ins)[1:]
		s.Cons = slices.Insert(s.Cons, r.Intn(len(s.Cons)+1), impl.Con{A: smallLin(r, 1+s.Ins), B: lin(0, 1)})
		w := modelSolve(s, ins)
		if len(modelFailing(s, w)) == 0 {
			expectSolved(t, s, ins, w)
		} else {
			expectUnsolved(t, s, ins)
		}
	}
}

// spare returns l with more elements in its spare capacity.
func spare[T any](l []T, more ...T) []T { return append(slices.Clone(l), more...)[:len(l)] }

// spareLinOf returns a with terms in its spare capacity that are not valid behind it.
func spareLinOf(a impl.Lin) impl.Lin {
	return impl.Lin{L: spare(a.L, impl.Term{Var: -1, K: 0}, impl.Term{Var: 2, K: prime})}
}

// spareSys is the sample with invalid elements in all spare capacity.
func spareSys() impl.Sys {
	s := sample()
	bad := lin(-1, 0)
	for i := range s.Outs {
		s.Outs[i] = spareLinOf(s.Outs[i])
	}
	for i, h := range s.Hints {
		s.Hints[i] = impl.Hint{Kind: h.Kind, A: spareLinOf(h.A), B: spareLinOf(h.B), K: h.K}
	}
	for i, c := range s.Cons {
		s.Cons[i] = impl.Con{A: spareLinOf(c.A), B: spareLinOf(c.B), C: spareLinOf(c.C)}
	}
	s.Outs = spare(s.Outs, bad, bad)
	s.Hints = spare(s.Hints, impl.Hint{Kind: 9, A: bad, B: bad, K: -1})
	s.Cons = spare(s.Cons, impl.Con{A: bad, B: bad, C: bad}, impl.Con{C: lin(0, 1)})
	return s
}

// allOf formats a system with all of its memory.
func allOf(s impl.Sys) string {
	var l []any
	each := func(all ...impl.Lin) {
		for _, a := range all {
			l = append(l, len(a.L), a.L[:cap(a.L)])
		}
	}
	l = append(l, s.Ins, len(s.Outs), len(s.Hints), len(s.Cons))
	each(s.Outs[:cap(s.Outs)]...)
	for _, h := range s.Hints[:cap(s.Hints)] {
		l = append(l, h.Kind, h.K)
		each(h.A, h.B)
	}
	for _, c := range s.Cons[:cap(s.Cons)] {
		each(c.A, c.B, c.C)
	}
	return fmt.Sprint(l...)
}

func TestSystemsAreNeitherChangedNorReadBeyondTheirLength(t *testing.T) {
	s, plain := spareSys(), sample()
	w, ins := spare(sampleW(), -1, prime), spare([]int{2, 3}, -1, prime)
	before, beforeW, beforeIns := allOf(s), slices.Clone(w[:cap(w)]), slices.Clone(ins[:cap(ins)])
	b, ok := impl.SysBytes(s)
	if !ok || !bytes.Equal(b, encoded(plain).b) {
		t.Errorf("SysBytes = %v, %v", b, ok)
	}
	encoding := spare(b, 0, 1, 2)
	beforeB := slices.Clone(encoding[:cap(encoding)])
	r, ok := impl.SysRead(encoding)
	if !ok || !sameSys(r, plain) || !impl.SysOk(s) || !impl.Check(s, w) || !impl.Holds(s.Cons[0], w) {
		t.Error("spare capacity is read")
	}
	expectSolved(t, s, ins, sampleW())
	outs, ok := impl.OutsOf(s, w)
	if !ok || len(outs) != 4 || len(impl.Failing(s, w)) != 0 {
		t.Errorf("OutsOf = %v, %v", outs, ok)
	}
	w[3]++
	expectInts(t, "Failing", impl.Failing(s, w), []int{0})
	expectUnsolved(t, s, ins[:1])
	impl.OutsOf(s, w)
	w[3]--
	if allOf(s) != before || !slices.Equal(w[:cap(w)], beforeW) || !slices.Equal(ins[:cap(ins)], beforeIns) || !bytes.Equal(encoding[:cap(encoding)], beforeB) {
		t.Error("an argument was changed")
	}
}

// span is the memory of a slice, spare capacity included.
type span struct {
	from, to uintptr
	// memory keeps it from being freed and given to another slice, which would seem to share it.
	memory unsafe.Pointer
}

func spanOf[T any](l []T) span {
	memory := unsafe.Pointer(unsafe.SliceData(l))
	from := uintptr(memory)
	return span{from, from + uintptr(cap(l))*reflect.TypeFor[T]().Size(), memory}
}

func spansOf(s impl.Sys) []span {
	l := []span{spanOf(s.Outs), spanOf(s.Hints), spanOf(s.Cons)}
	for _, a := range s.Outs {
		l = append(l, spanOf(a.L))
	}
	for _, h := range s.Hints {
		l = append(l, spanOf(h.A.L), spanOf(h.B.L))
	}
	for _, c := range s.Cons {
		l = append(l, spanOf(c.A.L), spanOf(c.B.L), spanOf(c.C.L))
	}
	return l
}

func expectApart(t *testing.T, spans []span) {
	t.Helper()
	l := slices.DeleteFunc(slices.Clone(spans), func(s span) bool { return s.from == s.to })
	slices.SortFunc(l, func(a, b span) int { return cmp.Compare(a.from, b.from) })
	for i := 1; i < len(l); i++ {
		if l[i].from < l[i-1].to {
			t.Errorf("two of %d slices share memory", len(l))
		}
	}
}

func TestResultsOfSystemsAreNewMemory(t *testing.T) {
	s, ins, w := spareSys(), spare([]int{2, 3}, 8, 0, 1<<30, 2, 7), spare(sampleW(), 1, 2)
	spans := append(spansOf(s), spanOf(ins), spanOf(w))
	failing := slices.Clone(w)
	failing[1] = 5
	spans = append(spans, spanOf(failing))
	for range 2 {
		b, _ := impl.SysBytes(s)
		r, _ := impl.SysRead(b)
		again, _ := impl.SysRead(b)
		spans = append(append(append(spans, spanOf(b)), spansOf(r)...), spansOf(again)...)
		solved, _ := impl.Solve(s, ins)
		outs, _ := impl.OutsOf(s, w)
		spans = append(spans, spanOf(solved), spanOf(outs), spanOf(impl.InsOf(s, w)), spanOf(impl.Failing(s, failing)))
		empty, _ := impl.SysNew(2)
		spans = append(spans, spansOf(empty)...)
		small, _ := impl.Solve(impl.Sys{Ins: 2}, ins)
		spans = append(spans, spanOf(small), spanOf(impl.InsOf(impl.Sys{}, ins[:1])))
	}
	expectApart(t, spans)
	r, ok := impl.SysRead(encoded(largest()).b)
	if !ok {
		t.Error("the largest system is not read")
	}
	expectApart(t, spansOf(r))
}

func TestResultsOfSystemsDoNotDependOnEarlierCalls(t *testing.T) {
	s := impl.Sys{Ins: 2, Hints: []impl.Hint{{Kind: impl.HtInv, A: lin(1, 1)}, {Kind: impl.HtInv, A: lin(2, 1)}, {Kind: impl.HtInv, A: lin(1, 1, 2, 1)}}}
	for range 2 {
		for a := range 300 {
			ins := []int{a, 300 - a}
			expectSolved(t, s, ins, modelSolve(s, ins))
			// A call that fails must not leave anything behind, either.
			expectUnsolved(t, s, []int{a, -1})
			r, ok := impl.SysRead(slices.Repeat([]byte{byte(a)}, a))
			expectNoSys(t, "SysRead", r, ok, a)
		}
	}
}
