package tests

import (
	"fmt"
	"math"
	"math/rand"
	"slices"
	"strconv"
	"strings"
	"testing"

	"loop.example/g00543/impl"
)

const maxMsg = 8

// notBytes are numbers that are no bytes; those of them that are field elements are notByteElements.
var notBytes = []int{256, 257, 511, 1 << 16, prime - 1, prime, 1<<32 + 1, math.MaxInt, -1, -2, -255, -256, math.MinInt}

var notByteElements = []int{256, 257, 511, 1 << 16, 1 << 30, prime - 255, prime - 2, prime - 1}

// notBits are field elements that are no bits.
var notBits = []int{2, 3, 255, 256, prime - 2, prime - 1}

// modelRot8 moves the digits of x.
func modelRot8(x, k int) int {
	digits := fmt.Sprintf("%08b", x)
	n, err := strconv.ParseInt(digits[k:]+digits[:k], 2, 64)
	if err != nil {
		panic(err)
	}
	return int(n)
}

func modelStep(h []int, m int) []int {
	a := (h[0] + m) % 256
	d := modelRot8(h[3]^a, 3)
	c := (h[2] + d) % 256
	b := modelRot8(h[1]^c, 5)
	return []int{b, c, d, a}
}

// modelStepBefore inverts modelStep.
func modelStepBefore(h []int, m int) []int {
	b, c, d, a := h[0], h[1], h[2], h[3]
	return []int{(a - m + 256) % 256, modelRot8(b, 3) ^ c, (c - d + 256) % 256, modelRot8(d, 5) ^ a}
}

func areBytes(l []int) bool {
	return !slices.ContainsFunc(l, func(x int) bool { return x < 0 || x > 255 })
}

// modelMix is nil for what is not a message.
func modelMix(msg []int) []int {
	if len(msg) > maxMsg || !areBytes(msg) {
		return nil
	}
	h := []int{17, 83, 149, 211}
	for _, m := range slices.Concat(msg, []int{len(msg), 0, 0, 0, 0, 0, 0, 0}) {
		h = modelStep(h, m)
	}
	return h
}

// modelRoot requires that the numbers of elements are right; it is nil if one of the elements is not.
func modelRoot(leaf []int, path [][]int, bits []int) []int {
	if !areBytes(leaf) {
		return nil
	}
	for i, element := range path {
		if !areBytes(element) || bits[i] < 0 || bits[i] > 1 {
			return nil
		}
		pair := [][]int{leaf, element}
		leaf = modelMix(slices.Concat(pair[bits[i]], pair[1-bits[i]]))
	}
	return leaf
}

func randomBytes(r *rand.Rand, n int) []int {
	var l []int
	for range n {
		l = append(l, r.Intn(256))
	}
	return l
}

// randomPath returns a path of n elements with its bits.
func randomPath(r *rand.Rand, n int) ([][]int, []int) {
	var path [][]int
	var bits []int
	for range n {
		path = append(path, randomBytes(r, 4))
		bits = append(bits, r.Intn(2))
	}
	return path, bits
}

// with returns l with x in the place i.
func with[T any](l []T, i int, x T) []T {
	c := slices.Clone(l)
	c[i] = x
	return c
}

func TestMaxMsg(t *testing.T) { expectInt(t, "MaxMsg", impl.MaxMsg, 8) }

func TestRot8Examples(t *testing.T) {
	for _, c := range [][3]int{
		{129, 1, 3}, {5, 8, 5}, {5, 0, 5}, {1, 1, 2}, {1, 7, 128}, {128, 1, 1}, {128, 7, 64}, {0b11100100, 3, 0b00100111}, {0b11100100, 5, 0b10011100},
		{255, 0, 255}, {255, 3, 255}, {255, 8, 255}, {0, 4, 0}, {15, 4, 240}, {15, 6, 0b11000011},
	} {
		expectInt(t, "Rot8", impl.Rot8(c[0], c[1]), c[2], c)
	}
}

func TestRot8OfAllBytes(t *testing.T) {
	for x := range 256 {
		for k := range 9 {
			y := impl.Rot8(x, k)
			expectInt(t, "Rot8", y, modelRot8(x, k), x, k)
			expectInt(t, "a further rotation", impl.Rot8(y, 8-k), x, x, k)
			for j := range 9 - k {
				expectInt(t, "a further rotation", impl.Rot8(y, j), impl.Rot8(x, k+j), x, k, j)
			}
		}
	}
}

func TestRot8OfInvalidArguments(t *testing.T) {
	for _, k := range []int{0, 1, 4, 7, 8} {
		for _, x := range notBytes {
			expectInt(t, "Rot8", impl.Rot8(x, k), 0, x, k)
		}
	}
	for _, k := range []int{9, 10, 16, 63, 64, 65, 255, prime, math.MaxInt, -1, -2, -8, -9, math.MinInt} {
		for _, x := range []int{0, 1, 5, 128, 129, 255, 256, -1} {
			expectInt(t, "Rot8", impl.Rot8(x, k), 0, x, k)
		}
	}
}

func TestMixStepExamples(t *testing.T) {
	for _, c := range []struct {
		h    []int
		m    int
		want []int
	}{
		{[]int{250, 1, 2, 3}, 10, []int{103, 58, 56, 4}},
		{[]int{0, 0, 0, 0}, 0, []int{0, 0, 0, 0}},
		{[]int{255, 255, 255, 255}, 255, []int{31, 7, 8, 254}},
		{[]int{17, 83, 149, 211}, 0, []int{31, 171, 22, 17}},
		{[]int{128, 64, 32, 16}, 8, []int{148, 228, 196, 136}},
	} {
		expectInts(t, "MixStep", impl.MixStep(c.h, c.m), c.want, c.h, c.m)
	}
}

func TestMixStepIsInvertible(t *testing.T) {
	r := rand.New(rand.NewSource(20))
	for m := range 256 {
		for i := range 4 {
			for x := range 256 {
				h := with(randomBytes(r, 4), i, x)
				next := impl.MixStep(h, m)
				expectInts(t, "MixStep", next, modelStep(h, m), h, m)
				if len(next) == 4 {
					expectInts(t, "what precedes a step", modelStepBefore(next, m), h, m)
				}
			}
		}
	}
}

func TestMixStepOfInvalidArguments(t *testing.T) {
	h := []int{250, 0, 255, 3}
	for _, bad := range [][]int{nil, {}, h[:1], h[:2], h[:3], append(slices.Clone(h), 4), append(slices.Clone(h), 1, 2, 3, 4), make([]int, 100000)} {
		for _, m := range []int{0, 255, 256, -1} {
			expectInts(t, "MixStep", impl.MixStep(bad, m), nil, len(bad), m)
		}
	}
	for _, x := range notBytes {
		expectInts(t, "MixStep", impl.MixStep(h, x), nil, h, x)
		for i := range h {
			for _, m := range []int{0, 255, 256, -1} {
				expectInts(t, "MixStep", impl.MixStep(with(h, i, x), m), nil, i, x, m)
			}
		}
	}
}

func TestMixExamples(t *testing.T) {
	for _, c := range [][2][]int{
		{nil, {119, 85, 221, 170}}, {{}, {119, 85, 221, 170}}, {{0}, {208, 70, 233, 238}}, {{1}, {219, 107, 70, 123}}, {{255}, {195, 187, 198, 99}},
		{{1, 2}, {146, 210, 209, 210}}, {{2, 1}, {15, 75, 53, 209}},
		{{0, 0, 0, 0, 0, 0, 0, 0}, {17, 219, 198, 28}}, {{255, 255, 255, 255, 255, 255, 255, 255}, {13, 91, 254, 5}},
		{{1, 2, 3, 4, 5, 6, 7, 8}, {232, 230, 73, 148}}, {{8, 7, 6, 5, 4, 3, 2, 1}, {9, 35, 198, 1}},
	} {
		expectInts(t, "Mix", impl.Mix(c[0]), c[1], c[0])
	}
}

func TestMixIsASequenceOfSteps(t *testing.T) {
	r := rand.New(rand.NewSource(21))
	for n := range maxMsg + 1 {
		for range 200 {
			msg := randomBytes(r, n)
			h := []int{17, 83, 149, 211}
			for _, m := range slices.Concat(msg, []int{n}, make([]int, 7)) {
				h = impl.MixStep(h, m)
			}
			expectInts(t, "Mix", impl.Mix(msg), h, msg)
			expectInts(t, "Mix", impl.Mix(msg), modelMix(msg), msg)
		}
	}
}

func TestMixOfInvalidMessages(t *testing.T) {
	for _, n := range []int{maxMsg + 1, maxMsg + 2, 2 * maxMsg, 255, 256, 100000} {
		expectInts(t, "Mix", impl.Mix(make([]int, n)), nil, n)
	}
	for n := 1; n <= maxMsg+1; n++ {
		for i := range n {
			for _, x := range notBytes {
				expectInts(t, "Mix", impl.Mix(with(make([]int, n), i, x)), nil, n, i, x)
			}
		}
	}
}

func TestRootExamples(t *testing.T) {
	leaf, x, y, z := []int{1, 2, 3, 4}, []int{5, 6, 7, 8}, []int{9, 10, 11, 12}, []int{255, 0, 255, 0}
	for _, c := range []struct {
		path [][]int
		bits []int
		want []int
	}{
		{nil, nil, leaf}, {[][]int{}, []int{}, leaf},
		{[][]int{x}, []int{0}, []int{232, 230, 73, 148}}, {[][]int{x}, []int{1}, []int{5, 96, 22, 26}},
		{[][]int{x, y}, []int{0, 1}, []int{151, 116, 177, 22}}, {[][]int{x, y}, []int{0, 0}, []int{79, 127, 40, 45}},
		{[][]int{x, y, z}, []int{0, 1, 0}, []int{202, 132, 206, 234}}, {[][]int{x, y, z}, []int{1, 1, 1}, []int{53, 217, 67, 71}},
	} {
		expectInts(t, "Root", impl.Root(leaf, c.path, c.bits), c.want, c.path, c.bits)
	}
}

func TestPathsAreFollowedStepByStep(t *testing.T) {
	r := rand.New(rand.NewSource(22))
	for n := range 4 {
		for range 300 {
			leaf := randomBytes(r, 4)
			path, bits := randomPath(r, n)
			got := impl.Root(leaf, path, bits)
			expectInts(t, "Root", got, modelRoot(leaf, path, bits), leaf, path, bits)
			for i := range n + 1 {
				first := impl.Root(leaf, path[:i], bits[:i])
				expectInts(t, "Root of the rest", impl.Root(first, path[i:], bits[i:]), got, leaf, path, bits, i)
			}
			if n > 0 {
				pair := [][]int{impl.Root(leaf, path[:n-1], bits[:n-1]), path[n-1]}
				expectInts(t, "the last step", impl.Mix(slices.Concat(pair[bits[n-1]], pair[1-bits[n-1]])), got, leaf, path, bits)
			}
		}
	}
}

func TestRootOfInvalidElements(t *testing.T) {
	r := rand.New(rand.NewSource(23))
	for n := range 4 {
		leaf := randomBytes(r, 4)
		path, bits := randomPath(r, n)
		for _, x := range notBytes {
			for j := range 4 {
				expectInts(t, "Root", impl.Root(with(leaf, j, x), path, bits), nil, n, j, x)
				for i := range n {
					expectInts(t, "Root", impl.Root(leaf, with(path, i, with(path[i], j, x)), bits), nil, n, i, j, x)
				}
			}
		}
		for i := range n {
			for _, x := range slices.Concat([]int{2, 3, 4, 255}, notBytes) {
				expectInts(t, "Root", impl.Root(leaf, path, with(bits, i, x)), nil, n, i, x)
			}
		}
	}
}

func TestRootOfOtherLengths(t *testing.T) {
	r := rand.New(rand.NewSource(24))
	for n := range 4 {
		leaf := randomBytes(r, 4)
		path, bits := randomPath(r, n)
		for _, length := range []int{0, 1, 3, 5, 8, 1000} {
			bad := randomBytes(r, length)
			expectInts(t, "Root", impl.Root(bad, path, bits), nil, n, length)
			for i := range n {
				expectInts(t, "Root", impl.Root(leaf, with(path, i, bad), bits), nil, n, i, length)
			}
		}
		for _, length := range []int{0, 1, 2, 3, 4, 1000} {
			if length != n {
				expectInts(t, "Root", impl.Root(leaf, path, make([]int, length)), nil, n, length)
			}
		}
	}
	for _, n := range []int{4, 5, 8, 1000} {
		path, bits := randomPath(r, n)
		expectInts(t, "Root", impl.Root(randomBytes(r, 4), path, bits), nil, n)
		expectInts(t, "Root", impl.Root(randomBytes(r, 4), path, bits[:3]), nil, n)
	}
}

// useOfMix applies each function without circuits to arguments that are valid and to some that are not.
func useOfMix(h, msg []int, path [][]int, bits []int) [][]int {
	return [][]int{
		impl.MixStep(h, 5), impl.MixStep(h, -1), impl.MixStep(msg, 5), impl.Mix(msg), impl.Mix(h), impl.Mix(msg[:0]),
		impl.Root(h, path, bits), impl.Root(h, path[:1], bits[:1]), impl.Root(h, nil, nil), impl.Root(msg, path, bits), impl.Root(h, path, bits[:1]),
	}
}

func TestMixesNeitherChangeNorShareMemory(t *testing.T) {
	path := spare([][]int{spare([]int{5, 6, 7, 8}, 256, -1), spare([]int{9, 10, 11, 12}, 7)}, nil, []int{300})
	h, msg, bits := spare([]int{250, 1, 2, 3}, -1, 256), spare([]int{1, 2, 3}, 300, -1), spare([]int{1, 0}, 2, -1)
	lists := [][]int{h, msg, bits, path[0], path[1]}
	all := func() string {
		return fmt.Sprint(h[:cap(h)], msg[:cap(msg)], bits[:cap(bits)], path[:cap(path)], path[0][:cap(path[0])], path[1][:cap(path[1])])
	}
	before := all()
	var results [][]int
	for range 2 {
		results = append(results, useOfMix(h, msg, path, bits)...)
	}
	var spans []span
	for _, l := range slices.Concat(lists, results) {
		spans = append(spans, spanOf(l))
	}
	expectApart(t, spans)
	if all() != before {
		t.Errorf("%s has become %s", before, all())
	}
	want := useOfMix(slices.Clip(slices.Clone(h)), slices.Clone(msg), [][]int{{5, 6, 7, 8}, {9, 10, 11, 12}}, []int{1, 0})
	for i, l := range results {
		expectInts(t, "what is computed beside spare capacity", l, want[i%len(want)], i)
	}
}

// packed is the number of the bits.
func packed(bits []impl.Lin) impl.Lin {
	sum := lin()
	for i, bit := range bits {
		sum = weighted(1, sum, 1<<i, bit)
	}
	return sum
}

func constantBits(n int) []impl.Lin {
	var l []impl.Lin
	for _, bit := range bitsOf(n, 8) {
		l = append(l, constant(bit))
	}
	return l
}

func (p *plan) sum(a, b []impl.Lin) []impl.Lin {
	return p.bits(weighted(1, packed(a), 1, packed(b)), 9)[:8]
}

// turned adds the bitwise difference of a and b, rotated by k.
func (p *plan) turned(a, b []impl.Lin, k int) []impl.Lin {
	l := make([]impl.Lin, 8)
	for i := range 8 {
		l[(i+k)%8] = weighted(1, weighted(1, a[i], 1, b[i]), -2, p.product(a[i], b[i]))
	}
	return l
}

func (p *plan) mix(msg [][]impl.Lin) [][]impl.Lin {
	h := [][]impl.Lin{constantBits(17), constantBits(83), constantBits(149), constantBits(211)}
	steps := append(slices.Clone(msg), constantBits(len(msg)))
	for _, m := range append(steps, slices.Repeat([][]impl.Lin{constantBits(0)}, 7)...) {
		a := p.sum(h[0], m)
		d := p.turned(h[3], a, 3)
		c := p.sum(h[2], d)
		b := p.turned(h[1], c, 5)
		h = [][]impl.Lin{b, c, d, a}
	}
	return h
}

func (p *plan) allBits(l []impl.Lin) [][]impl.Lin {
	var all [][]impl.Lin
	for _, a := range l {
		all = append(all, p.bits(a, 8))
	}
	return all
}

// chosen adds the choice of a, or of b if c is 0.
func (p *plan) chosen(c impl.Lin, a, b [][]impl.Lin) [][]impl.Lin {
	all := make([][]impl.Lin, len(a))
	for i := range a {
		for j := range a[i] {
			all[i] = append(all[i], weighted(1, b[i][j], 1, p.product(c, weighted(1, a[i][j], -1, b[i][j]))))
		}
	}
	return all
}

func packedAll(all [][]impl.Lin) []impl.Lin {
	var l []impl.Lin
	for _, bits := range all {
		l = append(l, packed(bits))
	}
	return l
}

// mixGate is AddMix of n combinations.
func mixGate(n int) gate {
	return gate{"AddMix", n, 0,
		func(s impl.Sys, l []impl.Lin, _ int) outcome { return many(impl.AddMix(s, l)) },
		func(p *plan, l []impl.Lin, _ int) []impl.Lin { return packedAll(p.mix(p.allBits(l))) },
	}
}

// pathOf divides the combinations of rootGate into the leaf, the path and its bits; each is followed by the next one in memory.
func pathOf[T any](l []T) ([]T, [][]T, []T) {
	n := (len(l) - 4) / 5
	var path [][]T
	for i := range n {
		path = append(path, l[4+4*i:8+4*i])
	}
	return l[:4], path, l[4+4*n:]
}

// rootGate is AddRoot of a path of n elements.
func rootGate(n int) gate {
	return gate{"AddRoot", 4 + 5*n, 0,
		func(s impl.Sys, l []impl.Lin, _ int) outcome {
			leaf, path, bits := pathOf(l)
			return many(impl.AddRoot(s, leaf, path, bits))
		},
		func(p *plan, l []impl.Lin, _ int) []impl.Lin {
			leaf, path, bits := pathOf(l)
			current := p.allBits(leaf)
			for i, element := range path {
				p.con(bits[i], weighted(1, bits[i], -1, lin(0, 1)), lin())
				other := p.allBits(element)
				first := p.chosen(bits[i], other, current)
				second := p.chosen(bits[i], current, other)
				current = p.mix(slices.Concat(first, second))
			}
			return packedAll(current)
		},
	}
}

// mixGates are the circuits with all numbers of arguments.
func mixGates() []gate {
	var l []gate
	for n := range maxMsg + 1 {
		l = append(l, mixGate(n))
	}
	for n := range 4 {
		l = append(l, rootGate(n))
	}
	return l
}

// lines formats hints as kind, A, B and K, and constraints as A, B and C.
func lines(s impl.Sys) (hints, cons []string) {
	text := func(a impl.Lin) string { return string(impl.LinText(a)) }
	for _, h := range s.Hints {
		hints = append(hints, fmt.Sprint(h.Kind, " ", text(h.A), " ", text(h.B), " ", h.K))
	}
	for _, c := range s.Cons {
		cons = append(cons, text(c.A)+" "+text(c.B)+" "+text(c.C))
	}
	return hints, cons
}

func expectLines(t *testing.T, what string, got []string, from int, want string) {
	t.Helper()
	for i, line := range strings.Split(want, "\n") {
		if from+i >= len(got) || got[from+i] != line {
			t.Errorf("%s %d is %q, want %q", what, from+i, got[min(from+i, len(got)-1)], line)
		}
	}
}

func expectText(t *testing.T, what string, a impl.Lin, want string) {
	t.Helper()
	if got := string(impl.LinText(a)); got != want {
		t.Errorf("%s is %s, want %s", what, got, want)
	}
}

// TestAddMixExample follows the first step of the mix of no byte by hand: the variables 1 to 9 are the bits of 17 + 0, 10 to 17 the products
// with 211, 18 to 26 the bits of the second sum, and 27 to 34 the products with 83.
func TestAddMixExample(t *testing.T) {
	s, l, ok := impl.AddMix(impl.Sys{}, nil)
	hints, cons := lines(s)
	if !ok || len(l) != 4 || len(hints) != 272 || len(cons) != 288 {
		t.Fatal(len(hints), len(cons), len(l), ok)
	}
	expectLines(t, "hint", hints, 0, "1 17 0 0\n1 17 0 1\n1 17 0 2\n1 17 0 3\n1 17 0 4\n1 17 0 5\n1 17 0 6\n1 17 0 7\n1 17 0 8")
	expectLines(t, "hint", hints, 9, "0 1 v1 0\n0 1 v2 0\n0 0 v3 0\n0 0 v4 0\n0 1 v5 0\n0 0 v6 0\n0 1 v7 0\n0 1 v8 0")
	sum := "307+8*v1+16*v2+32*v3+64*v4+128*v5+v6+2*v7+4*v8-16*v10-32*v11-64*v12-128*v13-256*v14-2*v15-4*v16-8*v17"
	expectLines(t, "hint", hints, 17, "1 "+sum+" 0 0\n1 "+sum+" 0 1")
	expectLines(t, "hint", hints, 25, "1 "+sum+" 0 8\n0 1 v18 0\n0 1 v19 0\n0 0 v20 0\n0 0 v21 0\n0 1 v22 0\n0 0 v23 0\n0 1 v24 0\n0 0 v25 0")
	sum = "106+32*v18+64*v19+128*v20+v21+2*v22+4*v23+8*v24+16*v25-64*v27-128*v28-256*v29-2*v30-4*v31-8*v32-16*v33-32*v34"
	expectLines(t, "hint", hints, 34, "1 "+sum+" 0 0")
	expectLines(t, "constraint", cons, 0, "v1 -1+v1 0\nv2 -1+v2 0")
	expectLines(t, "constraint", cons, 8, "v9 -1+v9 0\n-17+v1+2*v2+4*v3+8*v4+16*v5+32*v6+64*v7+128*v8+256*v9 1 0\n1 v1 v10\n1 v2 v11\n0 v3 v12")
	expectLines(t, "constraint", cons, 17, "1 v8 v17\nv18 -1+v18 0")
	expectLines(t, "constraint", cons, 28, "1 v18 v27")
	expectLines(t, "constraint", cons, 35, "0 v25 v34\nv35 -1+v35 0")
	expectText(t, "the second byte", l[1], "v256+2*v257+4*v258+8*v259+16*v260+32*v261+64*v262+128*v263")
	expectText(t, "the last byte", l[3], "v239+2*v240+4*v241+8*v242+16*v243+32*v244+64*v245+128*v246")
}

// TestAddRootExample has the leaf v1 to v4, the element v5 to v8 and its bit v9. The bits of the leaf are v10 to v41, those of the element
// v42 to v73, and the products of both choices v74 to v105 and v106 to v137.
func TestAddRootExample(t *testing.T) {
	var x []impl.Lin
	for v := range 9 {
		x = append(x, lin(v+1, 1))
	}
	s, l, ok := impl.AddRoot(impl.Sys{Ins: 9}, x[:4], [][]impl.Lin{x[4:8]}, x[8:])
	hints, cons := lines(s)
	if !ok || len(l) != 4 || len(hints) != 672 || len(cons) != 713 {
		t.Fatal(len(hints), len(cons), len(l), ok)
	}
	expectLines(t, "hint", hints, 0, "1 v1 0 0\n1 v1 0 1\n1 v1 0 2\n1 v1 0 3\n1 v1 0 4\n1 v1 0 5\n1 v1 0 6\n1 v1 0 7\n1 v2 0 0")
	expectLines(t, "hint", hints, 31, "1 v4 0 7\n1 v5 0 0")
	expectLines(t, "hint", hints, 63, "1 v8 0 7\n0 v9 -v10+v42 0\n0 v9 -v11+v43 0")
	expectLines(t, "hint", hints, 95, "0 v9 -v41+v73 0\n0 v9 v10-v42 0")
	sum := "17+v10+2*v11+4*v12+8*v13+16*v14+32*v15+64*v16+128*v17+v74+2*v75+4*v76+8*v77+16*v78+32*v79+64*v80+128*v81"
	expectLines(t, "hint", hints, 127, "0 v9 v41-v73 0\n1 "+sum+" 0 0")
	expectLines(t, "constraint", cons, 0, "v10 -1+v10 0")
	expectLines(t, "constraint", cons, 8, "-v1+v10+2*v11+4*v12+8*v13+16*v14+32*v15+64*v16+128*v17 1 0")
	expectLines(t, "constraint", cons, 35, "-v4+v34+2*v35+4*v36+8*v37+16*v38+32*v39+64*v40+128*v41 1 0\nv9 -1+v9 0\nv42 -1+v42 0")
	expectLines(t, "constraint", cons, 72, "-v8+v66+2*v67+4*v68+8*v69+16*v70+32*v71+64*v72+128*v73 1 0\nv9 -v10+v42 v74")
	expectLines(t, "constraint", cons, 104, "v9 -v41+v73 v105\nv9 v10-v42 v106")
	expectLines(t, "constraint", cons, 136, "v9 v41-v73 v137\nv138 -1+v138 0")
	s, l, ok = impl.AddRoot(impl.Sys{Ins: 9}, x[:4], nil, nil)
	if !ok || len(s.Hints) != 32 || len(s.Cons) != 36 || len(l) != 4 {
		t.Fatal(len(s.Hints), len(s.Cons), len(l), ok)
	}
	expectText(t, "the first byte", l[0], "v10+2*v11+4*v12+8*v13+16*v14+32*v15+64*v16+128*v17")
	expectText(t, "the last byte", l[3], "v34+2*v35+4*v36+8*v37+16*v38+32*v39+64*v40+128*v41")
}

func TestSizesOfMixCircuits(t *testing.T) {
	x := slices.Repeat([]impl.Lin{lin()}, 20)
	for n := range maxMsg + 1 {
		s, l, ok := impl.AddMix(impl.Sys{}, x[:n])
		if !ok || len(l) != 4 || len(s.Hints) != 8*n+34*(n+8) || len(s.Cons) != 9*n+36*(n+8) {
			t.Errorf("AddMix of %d: %d, %d, %d, %v", n, len(s.Hints), len(s.Cons), len(l), ok)
		}
	}
	for n := range 4 {
		leaf, path, bits := pathOf(x[:4+5*n])
		s, l, ok := impl.AddRoot(impl.Sys{}, leaf, path, bits)
		if !ok || len(l) != 4 || len(s.Hints) != 32+640*n || len(s.Cons) != 36+677*n {
			t.Errorf("AddRoot of %d: %d, %d, %d, %v", n, len(s.Hints), len(s.Cons), len(l), ok)
		}
	}
}

// chosenFrom returns n elements of l, by a different rule for each i.
func chosenFrom[T any](l []T, n, i int) []T {
	var c []T
	for j := range n {
		c = append(c, l[(i+j*(1+i%5))%len(l)])
	}
	return c
}

func TestWhatMixesAdd(t *testing.T) {
	for _, g := range mixGates() {
		for i := range combinations() {
			expectAdded(t, g, sample(), chosenFrom(combinations(), g.args, i), 0)
		}
	}
}

// expectEachSystem expects what the gates add to valid systems, or the system if there is no room.
func expectEachSystem(t *testing.T, gates []gate) {
	t.Helper()
	for _, g := range gates {
		p, _ := g.planned(0, slices.Repeat([]impl.Lin{lin()}, g.args), 0)
		for _, s := range validSystems() {
			for _, a := range []impl.Lin{lin(), lin(0, 5), lin(s.Ins+len(s.Hints), 1)} {
				l := slices.Repeat([]impl.Lin{a}, g.args)
				if 1+s.Ins+len(s.Hints)+len(p.hints) > maxVars || len(s.Cons)+len(p.cons) > maxCons {
					expectFull(t, g, s, l, 0)
				} else {
					expectAdded(t, g, s, l, 0)
				}
			}
		}
	}
}

func TestWhatMixesAddToEachSystem(t *testing.T) {
	expectEachSystem(t, []gate{mixGate(0), mixGate(2), rootGate(0), rootGate(2)})
}

// recomputed replaces the values of the hints from the variable v on by those that the hints have for the values before.
func recomputed(s impl.Sys, w []int, v int) []int {
	c := slices.Clone(w[:v])
	for i := v; i < len(w); i++ {
		c = append(c, modelHint(s.Hints[i-1-s.Ins], c))
	}
	return c
}

// cheats are assignments with another value of the variable v, or two other values that make up for each other if they are bits,
// with and without an effect on what is computed from them.
func cheats(s impl.Sys, w []int, v int) [][]int {
	var all [][]int
	last := 1 + s.Ins
	for _, x := range []int{0, 1, 2, minus1, (w[v] + 1) % prime, (w[v] + minus1) % prime} {
		c := with(w, v, x)
		all = append(all, c, recomputed(s, c, max(last, v+1)))
	}
	if v >= last && v+1 < len(w) {
		for _, d := range [][2]int{{2, minus1}, {prime - 2, 1}} {
			c := with(with(w, v, (w[v]+d[0])%prime), v+1, (w[v+1]+d[1])%prime)
			all = append(all, c, recomputed(s, c, v+2))
		}
	}
	return all
}

// someOf returns n of the numbers from 1 on that are less than end, or all of them if there are fewer.
func someOf(r *rand.Rand, end, n int) []int {
	var l []int
	for _, i := range r.Perm(end - 1) {
		l = append(l, i+1)
	}
	return l[:min(n, len(l))]
}

// expectComputes expects that an assignment with the inputs ins, the one that Solve finds and cheats of the given variables
// yield what want returns for their inputs, if they satisfy o.s, and that none does if that is nil.
func expectComputes(t *testing.T, name string, o outcome, ins []int, want func(ins []int) []int, variables []int) {
	t.Helper()
	if !o.ok {
		t.Fatalf("%s is false", name)
	}
	w := modelSolve(o.s, ins)
	if want(ins) == nil {
		expectUnsolved(t, o.s, ins)
	} else {
		expectSolved(t, o.s, ins, w)
	}
	all := [][]int{w}
	for _, v := range variables {
		all = append(all, cheats(o.s, w, v)...)
	}
	for _, c := range all {
		if !impl.Check(o.s, c) {
			continue
		}
		var got []int
		for _, a := range o.lins {
			got = append(got, modelValue(a, c))
		}
		if expected := want(c[1 : 1+o.s.Ins]); expected == nil || !slices.Equal(got, expected) {
			t.Errorf("%s: the inputs %v yield %v, want %v", name, c[1:1+o.s.Ins], got, expected)
		}
	}
}

// valuesOf requires that the combinations contain only inputs.
func valuesOf(l []impl.Lin, ins []int) []int {
	w := append([]int{1}, ins...)
	var values []int
	for _, a := range l {
		values = append(values, modelValue(a, w))
	}
	return values
}

// mixOf and rootOf are what mixGate and rootGate are to compute.
func mixOf(l []impl.Lin) func(ins []int) []int {
	return func(ins []int) []int { return modelMix(valuesOf(l, ins)) }
}

func rootOf(l []impl.Lin) func(ins []int) []int {
	return func(ins []int) []int { return modelRoot(pathOf(valuesOf(l, ins))) }
}

func inputVars(n int) []impl.Lin {
	var l []impl.Lin
	for v := range n {
		l = append(l, lin(v+1, 1))
	}
	return l
}

func TestMixesOfAssignments(t *testing.T) {
	r := rand.New(rand.NewSource(25))
	for n := range maxMsg + 1 {
		x := inputVars(n)
		o := mixGate(n).add(impl.Sys{Ins: n}, x, 0)
		for _, b := range []int{0, 1, 127, 128, 255} {
			expectComputes(t, "AddMix", o, slices.Repeat([]int{b}, n), mixOf(x), nil)
		}
		for range 20 {
			expectComputes(t, "AddMix", o, randomBytes(r, n), mixOf(x), nil)
		}
		count := 25
		if n < 2 {
			count = len(o.s.Hints) + n
		}
		expectComputes(t, "AddMix", o, randomBytes(r, n), mixOf(x), someOf(r, 1+n+len(o.s.Hints), count))
	}
}

func TestMixesOfAllBytes(t *testing.T) {
	x := inputVars(1)
	o := mixGate(1).add(impl.Sys{Ins: 1}, x, 0)
	for b := range 256 {
		expectComputes(t, "AddMix", o, []int{b}, mixOf(x), nil)
		outs, ok := impl.OutsOf(impl.Sys{Ins: 1, Outs: o.lins, Hints: o.s.Hints, Cons: o.s.Cons}, modelSolve(o.s, []int{b}))
		if !ok {
			t.Errorf("%d has no outputs", b)
		}
		expectInts(t, "Mix", impl.Mix([]int{b}), outs, b)
	}
}

func TestRootsOfAssignments(t *testing.T) {
	r := rand.New(rand.NewSource(26))
	for n := range 4 {
		x := inputVars(4 + 5*n)
		o := rootGate(n).add(impl.Sys{Ins: len(x)}, x, 0)
		for i := range 1 << n {
			ins := append(randomBytes(r, 4+4*n), bitsOf(i, n)...)
			expectComputes(t, "AddRoot", o, ins, rootOf(x), nil)
			expectInts(t, "Root", impl.Root(pathOf(ins)), rootOf(x)(ins), ins)
		}
		for _, b := range []int{0, 255} {
			expectComputes(t, "AddRoot", o, append(slices.Repeat([]int{b}, 4+4*n), make([]int, n)...), rootOf(x), nil)
		}
		ins := append(randomBytes(r, 4+4*n), bitsOf(r.Intn(1<<n), n)...)
		variables := someOf(r, 1+len(x)+len(o.s.Hints), 25)
		for i := range n {
			variables = append(variables, 5+4*n+i)
		}
		expectComputes(t, "AddRoot", o, ins, rootOf(x), variables)
	}
}

// TestMixesOfCombinations uses arguments that are constants, without terms, and sums of several inputs.
func TestMixesOfCombinations(t *testing.T) {
	r := rand.New(rand.NewSource(27))
	l := []impl.Lin{lin(), lin(0, 200), lin(1, 1, 2, 1), lin(0, 255, 1, minus1), lin(2, 2), lin(1, 1, 3, 100), lin(3, 255), lin(1, 1, 2, minus1)}
	bits := []impl.Lin{lin(3, 1), lin(0, 1, 3, minus1), lin(), lin(0, 1)}
	for i := range 20 {
		// These inputs are such that all of the combinations are bytes.
		ins := []int{50 + r.Intn(100), r.Intn(50), r.Intn(2)}
		args := chosenFrom(l, i%(maxMsg+1), i)
		expectComputes(t, "AddMix", mixGate(len(args)).add(impl.Sys{Ins: 3}, args, 0), ins, mixOf(args), someOf(r, 4, 3))
		n := i % 4
		args = append(chosenFrom(l, 4+4*n, i), chosenFrom(bits, n, i)...)
		expectComputes(t, "AddRoot", rootGate(n).add(impl.Sys{Ins: 3}, args, 0), ins, rootOf(args), someOf(r, 4, 3))
	}
}

func TestMixesOfValuesThatAreNotBytes(t *testing.T) {
	r := rand.New(rand.NewSource(28))
	for n := 1; n <= maxMsg; n++ {
		x := inputVars(n)
		o := mixGate(n).add(impl.Sys{Ins: n}, x, 0)
		for i := range n {
			for _, bad := range notByteElements {
				// The bits of the input are the most promising variables.
				expectComputes(t, "AddMix", o, with(randomBytes(r, n), i, bad), mixOf(x), []int{1 + n + 8*i + r.Intn(8)})
			}
		}
	}
}

func TestRootsOfValuesThatAreNotBytes(t *testing.T) {
	r := rand.New(rand.NewSource(29))
	for n := range 3 {
		x := inputVars(4 + 5*n)
		o := rootGate(n).add(impl.Sys{Ins: len(x)}, x, 0)
		good := append(randomBytes(r, 4+4*n), bitsOf(r.Intn(4), n)...)
		for i := range 4 + 4*n {
			for _, bad := range notByteElements {
				expectComputes(t, "AddRoot", o, with(good, i, bad), rootOf(x), nil)
			}
			first := 1 + len(x) + 8*i
			if i >= 4 {
				first = 1 + len(x) + 32 + (i-4)/4*640 + 8*((i-4)%4)
			}
			expectComputes(t, "AddRoot", o, with(good, i, 256), rootOf(x), []int{first, first + 6, first + 7})
		}
		for i := range n {
			for _, bad := range notBits {
				expectComputes(t, "AddRoot", o, with(good, 4+4*n+i, bad), rootOf(x), someOf(r, 1+len(x)+len(o.s.Hints), 2))
			}
		}
	}
}

// TestNoBitsOfNumbersThatAreNotBytes tries all bits for an input that is not a byte.
func TestNoBitsOfNumbersThatAreNotBytes(t *testing.T) {
	o := mixGate(1).add(impl.Sys{Ins: 1}, inputVars(1), 0)
	for _, bad := range notByteElements {
		w := modelSolve(o.s, []int{bad})
		for b := range 256 {
			copy(w[2:10], bitsOf(b, 8))
			if impl.Check(o.s, w) || impl.Check(o.s, recomputed(o.s, w, 10)) {
				t.Errorf("%d has the bits of %d", bad, b)
			}
		}
	}
}

// expectOwnVariables expects that the gates refuse combinations that are not valid or contain a variable that the system does not have.
func expectOwnVariables(t *testing.T, gates []gate) {
	t.Helper()
	full := changed(func(s *impl.Sys) { s.Cons = append(s.Cons, make([]impl.Con, maxCons-3)...) })
	wide := changed(func(s *impl.Sys) { s.Hints = append(s.Hints, oneHints(maxVars-7)...) })
	for _, g := range gates {
		for i := range g.args {
			for _, s := range []impl.Sys{sample(), {}, {Ins: 100}, full, wide} {
				for _, a := range strangeLins(1 + s.Ins + len(s.Hints)) {
					if impl.LinOk(a) && len(s.Hints) > 5 {
						// All variables exist.
						continue
					}
					l := with(slices.Repeat([]impl.Lin{lin(0, 1)}, g.args), i, a)
					expectRefused(t, g, s, l, 0, fmt.Sprint(shown(a), " in the place ", i))
				}
			}
		}
	}
}

func TestMixesOfCombinationsThatAreNotInTheSystem(t *testing.T) { expectOwnVariables(t, mixGates()) }

func expectInvalidSystemsRefused(t *testing.T, gates []gate) {
	t.Helper()
	for _, f := range invalidSystems() {
		for _, g := range gates {
			expectRefused(t, g, f.s, slices.Repeat([]impl.Lin{lin()}, g.args), 0, f.name)
		}
	}
}

func TestMixesOfInvalidSystems(t *testing.T) {
	expectInvalidSystemsRefused(t, []gate{mixGate(0), mixGate(1), mixGate(maxMsg), rootGate(0), rootGate(1), rootGate(3)})
}

// expectLimits expects that the gates add what there is just enough room for, and nothing if one more is needed.
func expectLimits(t *testing.T, gates []gate) {
	t.Helper()
	for _, g := range gates {
		l := slices.Repeat([]impl.Lin{lin(0, 1)}, g.args)
		p, _ := g.planned(0, l, 0)
		h, c := len(p.hints), len(p.cons)
		for _, ins := range []int{0, 100} {
			for _, free := range [][2]int{{h, c}, {h + 1, c}, {h, c + 1}, {maxVars - 101, maxCons}} {
				expectAdded(t, g, systemWithRoom(ins, free[0], free[1]), l, 0)
			}
			if h == 0 && c == 0 {
				continue
			}
			for _, free := range [][2]int{{h - 1, c}, {0, c}, {h, c - 1}, {h, 0}, {h - 1, c - 1}, {0, 0}, {1, 1}, {h - 1, maxCons}, {maxVars - 101, c - 1}} {
				expectFull(t, g, systemWithRoom(ins, free[0], free[1]), l, 0)
			}
		}
	}
}

func TestMixesUpToTheLimits(t *testing.T) { expectLimits(t, mixGates()) }

// expectLastVariables expects what is added for combinations of the last variable that leaves room for the gate.
func expectLastVariables(t *testing.T, gates []gate) {
	t.Helper()
	all := fullLin(func(v int) int { return v + 1 })
	for _, g := range gates {
		p, _ := g.planned(0, slices.Repeat([]impl.Lin{lin()}, g.args), 0)
		vars := maxVars - len(p.hints)
		s := systemWithRoom(50, len(p.hints), len(p.cons))
		for _, a := range []impl.Lin{lin(vars-1, 1), lin(0, 1, vars-1, minus1), {L: all.L[:vars]}} {
			expectAdded(t, g, s, slices.Repeat([]impl.Lin{a}, g.args), 0)
		}
	}
}

func TestMixesOfTheLastVariables(t *testing.T) {
	expectLastVariables(t, []gate{mixGate(2), mixGate(maxMsg), rootGate(1), rootGate(3)})
}

// expectNothing expects zero values and false.
func expectNothing(t *testing.T, what string, o outcome) {
	t.Helper()
	if !o.none() || !sameSys(o.s, impl.Sys{}) {
		t.Errorf("%s: %s, %v, %v, want zero values and false", what, about(o.s), o.lins, o.ok)
	}
}

// anySystems are valid, invalid, and without room: what is not in range counts before the room.
func anySystems() []impl.Sys {
	return []impl.Sys{sample(), {}, largest(), systemWithRoom(9, 5, 5), {Cons: make([]impl.Con, maxCons)}, {Ins: -1}, {Cons: make([]impl.Con, maxCons+1)}}
}

func TestMessagesThatAreTooLong(t *testing.T) {
	for _, s := range anySystems() {
		for _, n := range []int{maxMsg + 1, maxMsg + 2, 16, 100, 10000} {
			expectNothing(t, fmt.Sprint("AddMix of ", n), many(impl.AddMix(s, make([]impl.Lin, n))))
			expectNothing(t, fmt.Sprint("AddMix of ", n), many(impl.AddMix(s, slices.Repeat([]impl.Lin{lin(0, 1)}, n))))
		}
	}
}

func TestPathsOfOtherLengths(t *testing.T) {
	lins := func(n int) []impl.Lin { return slices.Repeat([]impl.Lin{lin(0, 1)}, n) }
	for _, s := range anySystems() {
		for n := range 4 {
			_, path, bits := pathOf(lins(4 + 5*n))
			for _, length := range []int{0, 1, 3, 5, 8, 1000} {
				expectNothing(t, fmt.Sprint("a leaf of ", length), many(impl.AddRoot(s, lins(length), path, bits)))
				for i := range n {
					expectNothing(t, fmt.Sprint("an element of ", length), many(impl.AddRoot(s, lins(4), with(path, i, lins(length)), bits)))
				}
			}
			for _, length := range []int{0, 1, 2, 3, 4, 1000} {
				if length != n {
					expectNothing(t, fmt.Sprint(length, " bits for ", n), many(impl.AddRoot(s, lins(4), path, lins(length))))
				}
			}
		}
		for _, n := range []int{4, 5, 1000} {
			_, path, bits := pathOf(lins(4 + 5*n))
			expectNothing(t, fmt.Sprint("a path of ", n), many(impl.AddRoot(s, lins(4), path, bits)))
			expectNothing(t, fmt.Sprint("a path of ", n), many(impl.AddRoot(s, lins(4), path, bits[:3])))
		}
	}
}

func TestEmptyAndNilArgumentsOfMixes(t *testing.T) {
	x := lin(1, 1)
	a, b := many(impl.AddMix(sample(), nil)), many(impl.AddMix(sample(), []impl.Lin{}))
	if !a.ok || !b.ok || !sameSys(a.s, b.s) || !slices.EqualFunc(a.lins, b.lins, sameLin) {
		t.Error("AddMix of nil differs from that of no element")
	}
	leaf := []impl.Lin{x, x, x, x}
	a, b = many(impl.AddRoot(sample(), leaf, nil, nil)), many(impl.AddRoot(sample(), leaf, [][]impl.Lin{}, []impl.Lin{}))
	if !a.ok || !b.ok || !sameSys(a.s, b.s) || !slices.EqualFunc(a.lins, b.lins, sameLin) {
		t.Error("AddRoot of nil differs from that of no element")
	}
}

// expectOwnMemory expects that the gates do not change their arguments, nor share memory with them or among their results.
func expectOwnMemory(t *testing.T, gates []gate) {
	t.Helper()
	for _, g := range gates {
		for _, s := range []impl.Sys{spareSys(), fullSpareSys()} {
			var l []impl.Lin
			for i := range g.args {
				l = append(l, spareArgs()[i%3])
			}
			l = spare(l, lin(0, 0), lin(-1, 0), lin(-1, 0), lin(-1, 0))
			before, beforeL := allOf(s), allOfLins(l)
			spans := append(spansOf(s), spansOf(impl.Sys{Outs: l})...)
			for range 2 {
				spans = append(spans, spansOfOutcome(g.add(s, l, 0))...)
			}
			expectApart(t, spans)
			if allOf(s) != before || allOfLins(l) != beforeL {
				t.Errorf("%s changes an argument", g.name)
			}
			if p, _ := g.planned(0, l, 0); len(s.Cons)+len(p.cons) > maxCons {
				expectFull(t, g, s, l, 0)
			} else {
				expectAdded(t, g, s, l, 0)
			}
		}
	}
}

func TestMixCircuitsNeitherChangeNorShareMemory(t *testing.T) {
	expectOwnMemory(t, []gate{mixGate(0), mixGate(3), rootGate(0), rootGate(2)})
}

// TestPathsWithSpareCapacity has further elements behind each slice of the path, which nobody may write.
func TestPathsWithSpareCapacity(t *testing.T) {
	args := spareArgs()
	bad := lin(-1, 0)
	four := func() []impl.Lin { return spare(slices.Repeat(args[:1], 4), bad, bad, bad, bad) }
	leaf, bits := four(), spare(slices.Clone(args[1:3]), bad, bad, bad)
	path := spare([][]impl.Lin{four(), four()}, []impl.Lin{bad}, nil, nil)
	all := func() string {
		text := allOfLins(leaf) + allOfLins(bits)
		for _, l := range path[:cap(path)] {
			text += "/" + allOfLins(l)
		}
		return text
	}
	before := all()
	r := many(impl.AddRoot(sample(), leaf, path, bits))
	want := rootGate(2).add(sample(), slices.Concat(leaf, path[0], path[1], bits), 0)
	if !r.ok || !sameSys(r.s, want.s) || !slices.EqualFunc(r.lins, want.lins, sameLin) {
		t.Error("AddRoot reads spare capacity")
	}
	impl.AddRoot(sample(), leaf, path, bits[:1])
	impl.AddRoot(fullSpareSys(), leaf, path, bits)
	if all() != before {
		t.Error("AddRoot changes an argument")
	}
}

func TestMixesOfSharedMemory(t *testing.T) {
	x := impl.Lin{L: spare([]impl.Term{{Var: 0, K: 7}, {Var: 2, K: 1}}, impl.Term{Var: 3, K: 1})}
	s := impl.Sys{Ins: 2, Outs: []impl.Lin{x, x}, Hints: []impl.Hint{{A: x, B: x}}, Cons: []impl.Con{{A: x, B: x, C: x}}}
	for _, g := range []gate{mixGate(maxMsg), rootGate(0), rootGate(1)} {
		l := slices.Repeat([]impl.Lin{x}, g.args)
		args := distinct(append(spansOf(s), spansOf(impl.Sys{Outs: l})...))
		expectApart(t, append(args, spansOfOutcome(g.add(s, l, 0))...))
	}
}

func TestMixesDoNotDependOnEarlierCalls(t *testing.T) {
	full := systemWithRoom(10, 5, 5)
	for range 2 {
		for _, g := range mixGates() {
			l := slices.Repeat([]impl.Lin{lin(1, 1)}, g.args)
			expectAdded(t, g, sample(), l, 0)
			expectFull(t, g, full, l, 0)
			if g.args > 0 {
				expectRefused(t, g, sample(), slices.Repeat([]impl.Lin{lin(7, 1)}, g.args), 0, "a variable that does not exist")
			}
		}
		expectInts(t, "Mix", impl.Mix([]int{1, 2}), []int{146, 210, 209, 210})
		expectInts(t, "Mix", impl.Mix([]int{1, 256}), nil)
		expectInts(t, "Root", impl.Root([]int{1, 2, 3, 4}, [][]int{{5, 6, 7, 8}}, []int{1}), []int{5, 96, 22, 26})
		expectInts(t, "MixStep", impl.MixStep([]int{250, 1, 2, 3}, 10), []int{103, 58, 56, 4})
	}
}
