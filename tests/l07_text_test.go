package tests

import (
	"encoding/base64"
	"fmt"
	"math"
	"math/rand"
	"slices"
	"strings"
	"testing"

	"loop.example/g00543/impl"
)

const maxElements = 8

// characters are those that have an index, in the order of their indices.
func characters() []int {
	var l []int
	for _, ends := range []string{"AZ", "az", "09", "++", "//"} {
		for c := int(ends[0]); c <= int(ends[1]); c++ {
			l = append(l, c)
		}
	}
	return l
}

// modelSix is -1 for what is no character.
func modelSix(x int) int { return slices.Index(characters(), x) }

// notCharacters have no index; those of them that are field elements are notCharacterElements.
func notCharacters() []int {
	l := []int{
		1 << 8, 1<<8 + 'A', 1<<16 + 'A', 1<<32 + 'A', 1<<32 + '/', math.MaxInt, math.MaxInt - 1, math.MinInt, math.MinInt + 'A', -'A', -'z', 'A' - 256, prime,
		prime + 'A', 'A' - prime, prime - 'A', prime - 1, prime - 2, 0xff21, 0x2160,
	}
	for x := -300; x < 700; x++ {
		if modelSix(x) < 0 {
			l = append(l, x)
		}
	}
	return l
}

func notCharacterElements() []int {
	return []int{
		0, 1, 10, 13, 25, 26, 32, 42, 44, 45, 46, 58, 61, 63, 64, 91, 95, 96, 123, 127, 128, 255, 256, 256 + 'A', 1<<16 + 'A', 1 << 30, prime - 'A', prime - 2, prime - 1,
	}
}

// modelDecode returns false for what is not decoded.
func modelDecode(text []int) ([]int, bool) {
	var b []byte
	for _, x := range text {
		// Apart from this check, Go's decoder would leave out the ends of lines and expect the sign = at the end of some texts.
		if modelSix(x) < 0 {
			return nil, false
		}
		b = append(b, byte(x))
	}
	decoded, err := base64.StdEncoding.DecodeString(string(b))
	if err != nil || len(text) > 16 {
		return nil, false
	}
	bytes := []int{}
	for _, x := range decoded {
		bytes = append(bytes, int(x))
	}
	return bytes, true
}

// codes are the bytes of a text.
func codes(text string) []int {
	var l []int
	for _, c := range []byte(text) {
		l = append(l, int(c))
	}
	return l
}

func randomCharacters(r *rand.Rand, n int) []int {
	all := characters()
	var l []int
	for range n {
		l = append(l, all[r.Intn(len(all))])
	}
	return l
}

func expectNoInts(t *testing.T, what string, got []int, ok bool, args ...any) {
	t.Helper()
	if ok || len(got) != 0 {
		t.Errorf("%s is %v, %v, want nil and false: %s", what, got, ok, quoted(args))
	}
}

func TestSixExamples(t *testing.T) {
	for _, c := range []struct{ x, want int }{
		{'A', 0}, {'B', 1}, {'Z', 25}, {'a', 26}, {'b', 27}, {'z', 51}, {'0', 52}, {'9', 61}, {'+', 62}, {'/', 63},
		{'=', -1}, {'-', -1}, {'_', -1}, {'@', -1}, {'[', -1}, {'`', -1}, {'{', -1}, {':', -1}, {'.', -1}, {0, -1}, {-1, -1}, {64, -1}, {256, -1}, {256 + 'A', -1},
	} {
		expectInt(t, "Six", impl.Six(c.x), c.want, c.x)
	}
}

func TestCharExamples(t *testing.T) {
	for _, c := range []struct{ n, want int }{
		{0, 'A'}, {25, 'Z'}, {26, 'a'}, {51, 'z'}, {52, '0'}, {61, '9'}, {62, '+'}, {63, '/'},
		{-1, -1}, {-2, -1}, {64, -1}, {65, -1}, {127, -1}, {128, -1}, {256, -1}, {-64, -1}, {-256, -1}, {1 << 32, -1}, {math.MaxInt, -1}, {math.MinInt, -1},
	} {
		expectInt(t, "Char", impl.Char(c.n), c.want, c.n)
	}
}

func TestCharactersAndIndicesCorrespond(t *testing.T) {
	all := characters()
	expectInt(t, "the number of characters", len(all), 64)
	for n, x := range all {
		expectInt(t, "Six", impl.Six(x), n, x)
		expectInt(t, "Char", impl.Char(n), x, n)
		expectInt(t, "Six of Char", impl.Six(impl.Char(n)), n, n)
		expectInt(t, "Char of Six", impl.Char(impl.Six(x)), x, x)
	}
	for _, x := range notCharacters() {
		expectInt(t, "Six", impl.Six(x), -1, x)
		if x < 0 || x >= 64 {
			expectInt(t, "Char", impl.Char(x), -1, x)
		}
	}
}

func TestDecode64Examples(t *testing.T) {
	for _, c := range []struct {
		text  string
		bytes []int
	}{
		{"", nil}, {"AQID", []int{1, 2, 3}}, {"AAAA", []int{0, 0, 0}}, {"////", []int{255, 255, 255}}, {"gAAA", []int{128, 0, 0}}, {"AAAB", []int{0, 0, 1}},
		{"AABA", []int{0, 0, 64}}, {"ABAA", []int{0, 16, 0}}, {"BAAA", []int{4, 0, 0}}, {"AP8A", []int{0, 255, 0}}, {"+/+/", []int{251, 255, 191}},
		{"TWFuTWFu", []int{77, 97, 110, 77, 97, 110}}, {"AAECAwQFBgcI", []int{0, 1, 2, 3, 4, 5, 6, 7, 8}},
		{"AQIDBAUGBwgJCgsM", []int{1, 2, 3, 4, 5, 6, 7, 8, 9, 10, 11, 12}}, {"////////////////", slices.Repeat([]int{255}, 12)},
	} {
		got, ok := impl.Decode64(codes(c.text))
		if !ok || !slices.Equal(got, c.bytes) {
			t.Errorf("Decode64 of %q is %v, %v, want %v", c.text, got, ok, c.bytes)
		}
		text, ok := impl.Encode64(c.bytes)
		if !ok || !slices.Equal(text, codes(c.text)) {
			t.Errorf("Encode64 of %v is %v, %v, want %q", c.bytes, text, ok, c.text)
		}
	}
}

// expectDecoded compares Decode64 with the independent decoder, and its result with Encode64.
func expectDecoded(t *testing.T, text []int) {
	t.Helper()
	want, fine := modelDecode(text)
	got, ok := impl.Decode64(text)
	if ok != fine || !slices.Equal(got, want) {
		t.Errorf("Decode64 of %v is %v, %v, want %v, %v", text, got, ok, want, fine)
	}
	if again, ok := impl.Encode64(got); fine && (!ok || !slices.Equal(again, text)) {
		t.Errorf("Encode64 of %v is %v, %v, want %v", got, again, ok, text)
	}
}

func TestDecode64OfAllCharacters(t *testing.T) {
	r := rand.New(rand.NewSource(50))
	for _, n := range []int{4, 8, 12, 16} {
		for i := range n {
			for _, x := range characters() {
				expectDecoded(t, with(randomCharacters(r, n), i, x))
				expectDecoded(t, with(slices.Repeat([]int{'A'}, n), i, x))
				expectDecoded(t, with(slices.Repeat([]int{'/'}, n), i, x))
			}
		}
	}
	for range 2000 {
		expectDecoded(t, randomCharacters(r, 4*r.Intn(5)))
	}
}

func TestBytesAreRecovered(t *testing.T) {
	r := rand.New(rand.NewSource(51))
	expect := func(bytes []int) {
		t.Helper()
		text, ok := impl.Encode64(bytes)
		decoded, fine := impl.Decode64(text)
		model, _ := modelDecode(text)
		if !ok || !fine || len(text) != len(bytes)/3*4 || !slices.Equal(decoded, bytes) || !slices.Equal(model, bytes) {
			t.Errorf("%v has become %v, %v and %v, %v", bytes, text, ok, decoded, fine)
		}
	}
	for _, n := range []int{3, 6, 9, 12} {
		for i := range n {
			for x := range 256 {
				expect(with(randomBytes(r, n), i, x))
				expect(with(make([]int, n), i, x))
			}
		}
	}
	for range 2000 {
		expect(randomBytes(r, 3*r.Intn(5)))
	}
	expect(nil)
	expect([]int{})
}

func TestDecode64OfOtherLengths(t *testing.T) {
	for n := range 70 {
		for _, x := range []int{'A', '/', 'k'} {
			text := slices.Repeat([]int{x}, n)
			got, ok := impl.Decode64(text)
			if n <= 16 && n%4 == 0 {
				expectBool(t, "Decode64", ok, true, n)
				expectInt(t, "the number of bytes", len(got), n/4*3, n)
			} else {
				expectNoInts(t, "Decode64", got, ok, n)
			}
		}
	}
	for _, n := range []int{256, 1 << 16, 1 << 16 * 3, 1 << 20} {
		got, ok := impl.Decode64(slices.Repeat([]int{'A'}, n))
		expectNoInts(t, "Decode64", got, ok, n)
	}
}

func TestEncode64OfOtherLengths(t *testing.T) {
	for n := range 70 {
		for _, x := range []int{0, 255, 77} {
			bytes := slices.Repeat([]int{x}, n)
			got, ok := impl.Encode64(bytes)
			if n <= 12 && n%3 == 0 {
				expectBool(t, "Encode64", ok, true, n)
				expectInt(t, "the number of characters", len(got), n/3*4, n)
			} else {
				expectNoInts(t, "Encode64", got, ok, n)
			}
		}
	}
	for _, n := range []int{255, 256, 1 << 16, 3 << 16, 1 << 20} {
		got, ok := impl.Encode64(make([]int, n))
		expectNoInts(t, "Encode64", got, ok, n)
	}
}

func TestDecode64OfWhatIsNoCharacter(t *testing.T) {
	r := rand.New(rand.NewSource(52))
	for _, n := range []int{1, 3, 4, 5, 8, 12, 15, 16, 17, 20} {
		for i := range n {
			for _, x := range notCharacters() {
				got, ok := impl.Decode64(with(randomCharacters(r, n), i, x))
				expectNoInts(t, "Decode64", got, ok, n, i, x)
			}
		}
	}
	for _, text := range []string{"AQ==", "AQI=", "====", "A\n\nA", "AQID\n", "AQI\n", " AQI", "AQID    ", "AQ-_", "\u00c0\u00c0", "AQID\x00\x00\x00\x00"} {
		got, ok := impl.Decode64(codes(text))
		expectNoInts(t, "Decode64", got, ok, text)
	}
}

func TestEncode64OfWhatIsNoByte(t *testing.T) {
	r := rand.New(rand.NewSource(53))
	for _, n := range []int{1, 2, 3, 4, 6, 9, 11, 12, 13, 15} {
		for i := range n {
			for _, x := range notBytes {
				got, ok := impl.Encode64(with(randomBytes(r, n), i, x))
				expectNoInts(t, "Encode64", got, ok, n, i, x)
			}
		}
	}
	for _, x := range []int{0, 255} {
		_, ok := impl.Encode64([]int{x, x, x})
		expectBool(t, "Encode64", ok, true, x)
	}
}

func TestCharactersNeitherChangeNorShareMemory(t *testing.T) {
	for _, n := range []int{0, 3, 4, 8, 12, 16, 20} {
		text := spare(slices.Repeat([]int{'Q'}, n), 'A', -1, '=', 'B')
		bytes := spare(slices.Repeat([]int{'Q'}, n), 7, -1, 256, 3)
		before := fmt.Sprint(text[:cap(text)], bytes[:cap(bytes)])
		spans := []span{spanOf(text), spanOf(bytes)}
		for range 2 {
			decoded, _ := impl.Decode64(text)
			encoded, _ := impl.Encode64(bytes)
			want, _ := modelDecode(text)
			expectInts(t, "Decode64", decoded, want, n)
			spans = append(spans, spanOf(decoded), spanOf(encoded))
			if again, ok := impl.Decode64(encoded); ok && len(encoded) > 0 {
				expectInts(t, "Decode64 of Encode64", again, bytes, n)
				spans = append(spans, spanOf(again))
			}
		}
		expectApart(t, spans)
		if after := fmt.Sprint(text[:cap(text)], bytes[:cap(bytes)]); after != before {
			t.Errorf("%s has become %s", before, after)
		}
	}
}

func (p *plan) run(d impl.Dfa, text []impl.Lin) impl.Lin {
	flags := make([]impl.Lin, len(d.Next))
	flags[0] = lin(0, 1)
	for _, x := range text {
		var read []impl.Lin
		for _, c := range codes(alphabet) {
			read = append(read, p.zero(weighted(1, x, -c, lin(0, 1))))
		}
		next := make([]impl.Lin, len(flags))
		for s, row := range d.Next {
			for i, to := range row {
				next[to] = weighted(1, next[to], 1, p.product(flags[s], read[i]))
			}
		}
		flags = next
	}
	var sum impl.Lin
	for s, flag := range flags {
		if d.Accept[s] {
			sum = weighted(1, sum, 1, flag)
		}
	}
	return sum
}

func (p *plan) six(x impl.Lin) impl.Lin {
	var count, index impl.Lin
	for n, c := range characters() {
		flag := p.zero(weighted(1, x, -c, lin(0, 1)))
		count = weighted(1, count, 1, flag)
		index = weighted(1, index, n, flag)
	}
	p.con(weighted(1, count, -1, lin(0, 1)), lin(0, 1), lin())
	return index
}

func (p *plan) decoded(text []impl.Lin) []impl.Lin {
	var l []impl.Lin
	for group := range slices.Chunk(text, 4) {
		var number impl.Lin
		for _, x := range group {
			number = weighted(64, number, 1, p.six(x))
		}
		bits := p.bits(number, 24)
		l = append(l, packed(bits[16:]), packed(bits[8:16]), packed(bits[:8]))
	}
	return l
}

// runGate is AddRun of n elements.
func runGate(d impl.Dfa, n int) gate {
	return gate{"AddRun", n, 0,
		func(s impl.Sys, l []impl.Lin, _ int) outcome { return one(impl.AddRun(s, d, l)) },
		func(p *plan, l []impl.Lin, _ int) []impl.Lin { return []impl.Lin{p.run(d, l)} },
	}
}

func sixGate() gate {
	return gate{"AddSix", 1, 0,
		func(s impl.Sys, l []impl.Lin, _ int) outcome { return one(impl.AddSix(s, l[0])) },
		func(p *plan, l []impl.Lin, _ int) []impl.Lin { return []impl.Lin{p.six(l[0])} },
	}
}

// decodeGate is AddDecode of n elements.
func decodeGate(n int) gate {
	return gate{"AddDecode", n, 0,
		func(s impl.Sys, l []impl.Lin, _ int) outcome { return many(impl.AddDecode(s, l)) },
		func(p *plan, l []impl.Lin, _ int) []impl.Lin { return p.decoded(l) },
	}
}

// acceptingIn makes exactly the states in the list accept.
func acceptingIn(d impl.Dfa, states ...int) impl.Dfa {
	c := cloned(d)
	c.Accept = make([]bool, len(d.Next))
	for _, s := range states {
		c.Accept[s] = true
	}
	return c
}

// everywhere makes all states accept.
func everywhere(d impl.Dfa) impl.Dfa {
	c := cloned(d)
	c.Accept = slices.Repeat([]bool{true}, len(d.Next))
	return c
}

// smallAutomata have at most MaxStates states; not all of these are reachable or distinguished.
func smallAutomata(t *testing.T) []impl.Dfa {
	r := rand.New(rand.NewSource(54))
	all := []impl.Dfa{
		cycle(1), acceptingIn(cycle(1)), cycle(2), cycle(12), line(12), acceptingIn(line(12)), everywhere(line(12)), acceptingIn(fan(), 1, 8), everywhere(fan()),
		withUnreachable(r, fan(3), 3), withUnreachable(r, cycle(2), 10), randomDfa(r, 12, 12), randomDfa(r, 12, 3), randomDfa(r, 7, 7), everywhere(randomDfa(r, 11, 5)),
		acceptingIn(randomDfa(r, 12, 12), 0), acceptingIn(randomDfa(r, 12, 12), 11), sparseDfa(r, 12), sparseDfa(r, 5), sparseDfa(r, 9),
	}
	for _, p := range []string{"a*b", "", ".*", "(a|b)*c", "abcd|efgh", ".*a..", "(ab|cd)*h", "a*b*c*d*e*f*", "..........", "h"} {
		all = append(all, mustCompile(t, p))
	}
	return all
}

// textGates are the circuits with all numbers of arguments.
func textGates(t *testing.T) []gate {
	l := []gate{sixGate(), decodeGate(0), decodeGate(4), decodeGate(8)}
	for i, d := range smallAutomata(t) {
		l = append(l, runGate(d, i%(maxElements+1)))
	}
	return append(l, runGate(cycle(1), 0), runGate(line(12), 0), runGate(cycle(1), maxElements), runGate(randomDfa(rand.New(rand.NewSource(55)), 12, 12), maxElements))
}

// someTextGates are few, without the largest ones.
func someTextGates() []gate {
	r := rand.New(rand.NewSource(56))
	return []gate{sixGate(), decodeGate(0), decodeGate(4), runGate(cycle(1), 0), runGate(fan(3, 5), 1), runGate(randomDfa(r, 12, 12), 3), runGate(cycle(2), maxElements)}
}

// TestAddRunExample follows two elements, the second one a constant, by hand. State 0 of the automaton of a* is left with each letter but a.
// The variables 2 to 17 belong to the letters of the first element, 18 to 25 to the products of state 0, and 26 to 33 to those of state 1.
func TestAddRunExample(t *testing.T) {
	d := mustCompile(t, "a*")
	s, accepted, ok := impl.AddRun(impl.Sys{Ins: 1}, d, []impl.Lin{lin(1, 1)})
	hints, cons := lines(s)
	if !ok || len(hints) != 32 || len(cons) != 32 {
		t.Fatal(len(hints), len(cons), ok)
	}
	expectLines(t, "hint", hints, 0, "2 -97+v1 0 0\n0 -97+v1 v2 0\n2 -98+v1 0 0\n0 -98+v1 v4 0\n2 -99+v1 0 0")
	expectLines(t, "hint", hints, 14, "2 -104+v1 0 0\n0 -104+v1 v16 0\n0 1 1-v3 0\n0 1 1-v5 0\n0 1 1-v7 0")
	expectLines(t, "hint", hints, 23, "0 1 1-v17 0\n0 0 1-v3 0\n0 0 1-v5 0")
	expectLines(t, "hint", hints, 31, "0 0 1-v17 0")
	expectLines(t, "constraint", cons, 0, "-97+v1 v2 v3\n-97+v1 1-v3 0\n-98+v1 v4 v5\n-98+v1 1-v5 0")
	expectLines(t, "constraint", cons, 14, "-104+v1 v16 v17\n-104+v1 1-v17 0\n1 1-v3 v18\n1 1-v5 v19")
	expectLines(t, "constraint", cons, 23, "1 1-v17 v25\n0 1-v3 v26")
	expectLines(t, "constraint", cons, 31, "0 1-v17 v33")
	expectText(t, "the flag", accepted, "v18")

	s, accepted, ok = impl.AddRun(impl.Sys{Ins: 1}, d, []impl.Lin{lin(1, 1), lin(0, 98)})
	hints, cons = lines(s)
	if !ok || len(hints) != 64 || len(cons) != 64 {
		t.Fatal(len(hints), len(cons), ok)
	}
	other := "v19+v20+v21+v22+v23+v24+v25+v26+v27+v28+v29+v30+v31+v32+v33"
	expectLines(t, "hint", hints, 31, "0 0 1-v17 0\n2 1 0 0\n0 1 v34 0\n2 0 0 0\n0 0 v36 0\n2 -1 0 0")
	expectLines(t, "hint", hints, 46, "2 -6 0 0\n0 -6 v48 0\n0 v18 1-v35 0\n0 v18 1-v37 0")
	expectLines(t, "hint", hints, 55, "0 v18 1-v49 0\n0 "+other+" 1-v35 0")
	expectLines(t, "hint", hints, 63, "0 "+other+" 1-v49 0")
	expectLines(t, "constraint", cons, 32, "1 v34 v35\n1 1-v35 0\n0 v36 v37\n0 1-v37 0")
	expectLines(t, "constraint", cons, 48, "v18 1-v35 v50")
	expectLines(t, "constraint", cons, 63, other+" 1-v49 v65")
	expectText(t, "the flag", accepted, "v50")

	_, accepted, _ = impl.AddRun(impl.Sys{Ins: 1}, acceptingIn(d, 1), []impl.Lin{lin(1, 1)})
	expectText(t, "the flag of the other state", accepted, other)
	_, accepted, _ = impl.AddRun(impl.Sys{Ins: 1}, everywhere(d), []impl.Lin{lin(1, 1)})
	expectText(t, "the sum of both", accepted, "v18+"+other)
}

func TestAddRunWithoutElements(t *testing.T) {
	for _, text := range [][]impl.Lin{nil, {}} {
		for _, d := range smallAutomata(t) {
			for _, s := range []impl.Sys{sample(), {}, largest(), systemWithRoom(3, 0, 0)} {
				got, accepted, ok := impl.AddRun(s, d, text)
				if !ok || !sameSys(got, s) || !sameLin(accepted, constant(boolInt(d.Accept[0]))) {
					t.Errorf("AddRun of %v without elements is %s, %v, %v", d, about(got), accepted, ok)
				}
			}
		}
	}
}

// TestAddSixExample has the character v1; the variables 2 to 129 are those of the flags.
func TestAddSixExample(t *testing.T) {
	s, index, ok := impl.AddSix(impl.Sys{Ins: 1}, lin(1, 1))
	hints, cons := lines(s)
	if !ok || len(hints) != 128 || len(cons) != 129 {
		t.Fatal(len(hints), len(cons), ok)
	}
	expectLines(t, "hint", hints, 0, "2 -65+v1 0 0\n0 -65+v1 v2 0\n2 -66+v1 0 0\n0 -66+v1 v4 0")
	expectLines(t, "hint", hints, 50, "2 -90+v1 0 0\n0 -90+v1 v52 0\n2 -97+v1 0 0\n0 -97+v1 v54 0")
	expectLines(t, "hint", hints, 102, "2 -122+v1 0 0\n0 -122+v1 v104 0\n2 -48+v1 0 0\n0 -48+v1 v106 0")
	expectLines(t, "hint", hints, 122, "2 -57+v1 0 0\n0 -57+v1 v124 0\n2 -43+v1 0 0\n0 -43+v1 v126 0\n2 -47+v1 0 0\n0 -47+v1 v128 0")
	expectLines(t, "constraint", cons, 0, "-65+v1 v2 v3\n-65+v1 1-v3 0\n-66+v1 v4 v5\n-66+v1 1-v5 0")
	count, sum := "63-v3", "2016"
	for n := 1; n < 64; n++ {
		count += fmt.Sprint("-v", 3+2*n)
		sum += strings.Replace(fmt.Sprint("-", n, "*v", 3+2*n), "-1*", "-", 1)
	}
	expectLines(t, "constraint", cons, 126, "-47+v1 v128 v129\n-47+v1 1-v129 0\n"+count+" 1 0")
	expectText(t, "the index", index, sum)
}

// TestAddDecodeExample has the characters v1 to v4, whose flags belong to the variables 5 to 516, and the bits v517 to v540.
func TestAddDecodeExample(t *testing.T) {
	s, l, ok := impl.AddDecode(impl.Sys{Ins: 4}, inputVars(4))
	hints, cons := lines(s)
	if !ok || len(hints) != 536 || len(cons) != 541 || len(l) != 3 {
		t.Fatal(len(hints), len(cons), len(l), ok)
	}
	expectLines(t, "hint", hints, 0, "2 -65+v1 0 0\n0 -65+v1 v5 0")
	expectLines(t, "hint", hints, 127, "0 -47+v1 v131 0\n2 -65+v2 0 0\n0 -65+v2 v133 0")
	expectLines(t, "hint", hints, 255, "0 -47+v2 v259 0\n2 -65+v3 0 0")
	expectLines(t, "hint", hints, 383, "0 -47+v3 v387 0\n2 -65+v4 0 0")
	expectLines(t, "hint", hints, 511, "0 -47+v4 v515 0")
	for k := range 24 {
		h := s.Hints[512+k]
		expectInt(t, "the kind", h.Kind, impl.HtBit)
		expectInt(t, "the bit", h.K, k)
		for _, c := range [][2]int{{0, 2016 * (1<<18 + 1<<12 + 1<<6 + 1)}, {6, 0}, {8, prime - 1<<18}, {132, prime - 63<<18}, {136, prime - 1<<12}, {264, prime - 1<<6}, {392, minus1}, {394, prime - 2}, {516, prime - 63}} {
			expectInt(t, "the factor", impl.Coeff(h.A, c[0]), c[1], c[0])
		}
	}
	expectLines(t, "constraint", cons, 514, "-47+v4 1-v516 0")
	expectLines(t, "constraint", cons, 516, "v517 -1+v517 0\nv518 -1+v518 0")
	expectLines(t, "constraint", cons, 539, "v540 -1+v540 0")
	expectText(t, "the first byte", l[0], "v533+2*v534+4*v535+8*v536+16*v537+32*v538+64*v539+128*v540")
	expectText(t, "the second byte", l[1], "v525+2*v526+4*v527+8*v528+16*v529+32*v530+64*v531+128*v532")
	expectText(t, "the third byte", l[2], "v517+2*v518+4*v519+8*v520+16*v521+32*v522+64*v523+128*v524")
}

func TestSizesOfTextCircuits(t *testing.T) {
	expect := func(what string, o outcome, hints, cons, lins int) {
		t.Helper()
		if !o.ok || len(o.s.Hints) != hints || len(o.s.Cons) != cons || len(o.lins) != lins {
			t.Errorf("%s: %d, %d, %d, %v", what, len(o.s.Hints), len(o.s.Cons), len(o.lins), o.ok)
		}
	}
	x := slices.Repeat([]impl.Lin{lin()}, 8)
	for states := 1; states <= maxStates; states++ {
		for n := range maxElements + 1 {
			size := n * (16 + 8*states)
			expect("AddRun", one(impl.AddRun(impl.Sys{}, cycle(states), x[:n])), size, size, 1)
		}
	}
	expect("AddSix", one(impl.AddSix(impl.Sys{}, x[0])), 128, 129, 1)
	expect("AddDecode of 0", many(impl.AddDecode(impl.Sys{}, nil)), 0, 0, 0)
	expect("AddDecode of 4", many(impl.AddDecode(impl.Sys{}, x[:4])), 536, 541, 3)
	expect("AddDecode of 8", many(impl.AddDecode(impl.Sys{}, x)), 1072, 1082, 6)
}

func TestWhatTextsAdd(t *testing.T) {
	for _, g := range textGates(t) {
		for i := range 3 {
			expectAdded(t, g, sample(), chosenFrom(combinations(), g.args, i), 0)
		}
	}
	for _, g := range someTextGates() {
		for i := range combinations() {
			expectAdded(t, g, sample(), chosenFrom(combinations(), g.args, i), 0)
		}
	}
}

func TestWhatTextsAddToEachSystem(t *testing.T) { expectEachSystem(t, someTextGates()) }

func TestWhatTextsAddToRandomSystems(t *testing.T) {
	r := rand.New(rand.NewSource(57))
	all := someTextGates()
	for range 100 {
		s, g := randomSys(r), all[r.Intn(len(all))]
		var l []impl.Lin
		for range g.args {
			l = append(l, smallLin(r, 1+s.Ins+len(s.Hints)))
		}
		expectAdded(t, g, s, l, 0)
	}
}

// runOf, sixOf and decodeOf are what runGate, sixGate and decodeGate are to compute.
func runOf(d impl.Dfa, l []impl.Lin) func(ins []int) []int {
	return func(ins []int) []int { return []int{boolInt(modelAccepts(d, valuesOf(l, ins)))} }
}

func sixOf(l []impl.Lin) func(ins []int) []int {
	return func(ins []int) []int {
		if n := modelSix(valuesOf(l, ins)[0]); n >= 0 {
			return []int{n}
		}
		return nil
	}
}

func decodeOf(l []impl.Lin) func(ins []int) []int {
	return func(ins []int) []int {
		bytes, _ := modelDecode(valuesOf(l, ins))
		return bytes
	}
}

// modelAccepts is modelRuns of the text with these codes, which need not be bytes.
func modelAccepts(d impl.Dfa, values []int) bool {
	var text []byte
	for _, x := range values {
		if x < 0 || x > 255 {
			return false
		}
		text = append(text, byte(x))
	}
	return modelRuns(d, string(text))
}

// TestRunsOfAllShortTexts compares circuits with Runs for all texts of letters and of what is beside them.
func TestRunsOfAllShortTexts(t *testing.T) {
	for _, d := range smallAutomata(t) {
		for n := range 3 {
			x := inputVars(n)
			o := runGate(d, n).add(impl.Sys{Ins: n}, x, 0)
			for _, text := range allTexts("abcdefgh`iA\x00", n) {
				if len(text) != n {
					continue
				}
				w, ok := impl.Solve(o.s, codes(text))
				if !ok {
					t.Fatalf("%q is not solved", text)
				}
				got := modelValue(o.lins[0], w)
				expectInt(t, "the circuit", got, boolInt(impl.Runs(d, []byte(text))), text, d)
				expectInt(t, "the circuit", got, boolInt(modelRuns(d, text)), text, d)
			}
		}
	}
}

func TestRunsOfPatternsOfAllTexts(t *testing.T) {
	for _, p := range []string{"(a|b)*b", "a*b", ".a.*", "ab|ba|", "(a.|b.)*"} {
		d := mustCompile(t, p)
		for n := range 6 {
			o := runGate(d, n).add(impl.Sys{Ins: n}, inputVars(n), 0)
			for _, text := range allTexts("ab", n) {
				if len(text) != n {
					continue
				}
				w, ok := impl.Solve(o.s, codes(text))
				if !ok {
					t.Fatalf("%q is not solved", text)
				}
				expectInt(t, "the circuit", modelValue(o.lins[0], w), boolInt(impl.Match([]byte(p), []byte(text))), p, text)
			}
		}
	}
}

// textFor returns the codes of a text of n letters that d accepts, if there is one among the random ones that are tried.
func textFor(r *rand.Rand, d impl.Dfa, n int) []int {
	var text string
	for range 200 {
		text = randomText(r, alphabet, n)
		if modelRuns(d, text) {
			break
		}
	}
	return codes(text)
}

func TestRunsOfAssignments(t *testing.T) {
	r := rand.New(rand.NewSource(58))
	for i, d := range smallAutomata(t) {
		for _, n := range []int{1, i % (maxElements + 1)} {
			x := inputVars(n)
			o := runGate(d, n).add(impl.Sys{Ins: n}, x, 0)
			count := 10
			if n == 1 && i%4 == 0 {
				count = n + len(o.s.Hints)
			}
			accepted := textFor(r, d, n)
			expectComputes(t, "AddRun", o, accepted, runOf(d, x), someOf(r, 1+n+len(o.s.Hints), count))
			expectComputes(t, "AddRun", o, codes(randomText(r, alphabet, n)), runOf(d, x), someOf(r, 1+n+len(o.s.Hints), 3))
			if n > 0 {
				other := notCharacterElements()[r.Intn(len(notCharacterElements()))]
				// The flags of the letters are the most promising variables.
				expectComputes(t, "AddRun", o, with(accepted, r.Intn(n), other), runOf(d, x), someOf(r, 1+n+16, 10))
			}
		}
	}
}

// TestRunsOfOtherCharacters has elements that are no letters, each of which d would accept if it were one.
func TestRunsOfOtherCharacters(t *testing.T) {
	r := rand.New(rand.NewSource(65))
	d := cycle(1)
	x := inputVars(1)
	o := runGate(d, 1).add(impl.Sys{Ins: 1}, x, 0)
	for c := range 300 {
		expectComputes(t, "AddRun", o, []int{c}, runOf(d, x), nil)
	}
	for _, c := range []int{0, 'a' - 1, 'h' + 1, 'A', 256 + 'a', prime - 'a', prime - 1} {
		expectComputes(t, "AddRun", o, []int{c}, runOf(d, x), someOf(r, 2+len(o.s.Hints), 2+len(o.s.Hints)))
	}
	x = inputVars(maxElements)
	o = runGate(d, maxElements).add(impl.Sys{Ins: maxElements}, x, 0)
	for i := range maxElements {
		for _, c := range []int{'a' - 1, 'h' + 1, 256 + 'a', prime - 'a'} {
			expectComputes(t, "AddRun", o, with(codes(alphabet), i, c), runOf(d, x), nil)
		}
	}
}

// TestRunsOfCombinations uses elements that are constants, without terms, and sums of several inputs.
func TestRunsOfCombinations(t *testing.T) {
	r := rand.New(rand.NewSource(59))
	l := []impl.Lin{lin(0, 'a'), lin(1, 1), lin(1, 1, 2, 1), lin(0, 'h', 2, minus1), lin(), lin(0, 'b', 3, 1), lin(1, 2), lin(0, 'a', 1, 1, 3, minus1), lin(3, 1)}
	for i, d := range smallAutomata(t) {
		args := chosenFrom(l, i%(maxElements+1), i)
		for range 4 {
			ins := []int{'a' + r.Intn(5), r.Intn(4), r.Intn(2)}
			expectComputes(t, "AddRun", runGate(d, len(args)).add(impl.Sys{Ins: 3}, args, 0), ins, runOf(d, args), nil)
		}
	}
	for _, text := range []string{"ab", "ba", "hh", "ai"} {
		var args []impl.Lin
		for _, c := range codes(text) {
			args = append(args, lin(0, c))
		}
		d := mustCompile(t, "(a|h)*b*")
		expectComputes(t, "AddRun of constants", runGate(d, 2).add(impl.Sys{}, args, 0), nil, runOf(d, args), nil)
	}
}

func TestSixOfAssignments(t *testing.T) {
	r := rand.New(rand.NewSource(60))
	for _, shift := range shifts {
		x := []impl.Lin{weighted(1, lin(1, 1), shift, lin(0, 1))}
		o := sixGate().add(impl.Sys{Ins: 1}, x, 0)
		for _, c := range characters() {
			expectComputes(t, "AddSix", o, inputsFor(shift, c), sixOf(x), someOf(r, 2+len(o.s.Hints), 2))
		}
		for _, c := range notCharacterElements() {
			expectComputes(t, "AddSix", o, inputsFor(shift, c), sixOf(x), someOf(r, 2+len(o.s.Hints), 2))
		}
	}
	x := inputVars(1)
	o := sixGate().add(impl.Sys{Ins: 1}, x, 0)
	for c := range 300 {
		expectComputes(t, "AddSix", o, []int{c}, sixOf(x), nil)
	}
	for _, c := range []int{'A', 'b', '/', '=', 0, prime - 1} {
		expectComputes(t, "AddSix", o, []int{c}, sixOf(x), someOf(r, 2+len(o.s.Hints), 2+len(o.s.Hints)))
	}
}

// TestFlagsOfOtherCharacters claims for a value each of the characters in turn: that its flag is 1, and that of the value is 0.
func TestFlagsOfOtherCharacters(t *testing.T) {
	o := sixGate().add(impl.Sys{Ins: 1}, inputVars(1), 0)
	for _, c := range []int{'A', 'k', '/', '=', '@', 0, 256 + 'A', prime - 'A'} {
		w := modelSolve(o.s, []int{c})
		own := modelSix(c)
		for n := range 64 {
			for _, inverse := range []int{0, 1, w[2+2*n]} {
				claim := with(with(w, 3+2*n, 0), 2+2*n, inverse)
				if own >= 0 && own != n {
					claim[3+2*own] = 1
				}
				if impl.Check(o.s, claim) && n != own {
					t.Errorf("%d has the index %d", c, n)
				}
			}
		}
	}
}

func TestSixOfCombinations(t *testing.T) {
	for _, c := range slices.Concat(characters(), notCharacterElements()) {
		a := constant(c)
		expectComputes(t, "AddSix of a constant", sixGate().add(impl.Sys{}, []impl.Lin{a}, 0), nil, sixOf([]impl.Lin{a}), nil)
	}
	for _, a := range []impl.Lin{lin(1, 1, 2, 1), lin(1, 1, 2, minus1), lin(0, 'A', 2, 1), lin(1, 2, 2, 3), lin(0, 'z', 1, minus1), lin(), lin(0, 5, 1, 1, 2, 7)} {
		o := sixGate().add(impl.Sys{Ins: 2}, []impl.Lin{a}, 0)
		for _, ins := range [][]int{{'A', 0}, {'B', 5}, {30, 20}, {0, 0}, {25, 25}, {prime - 1, 'B'}, {7, 3}, {22, 0}} {
			expectComputes(t, "AddSix", o, ins, sixOf([]impl.Lin{a}), nil)
		}
	}
}

func TestDecodingOfAssignments(t *testing.T) {
	r := rand.New(rand.NewSource(61))
	for _, n := range []int{0, 4, 8} {
		x := inputVars(n)
		o := decodeGate(n).add(impl.Sys{Ins: n}, x, 0)
		for range 20 {
			text := randomCharacters(r, n)
			expectComputes(t, "AddDecode", o, text, decodeOf(x), nil)
			bytes, ok := impl.Decode64(text)
			expectBool(t, "Decode64", ok, true, text)
			expectInts(t, "Decode64", bytes, decodeOf(x)(text), text)
		}
		if n == 0 {
			continue
		}
		for _, c := range characters() {
			expectComputes(t, "AddDecode", o, with(randomCharacters(r, n), r.Intn(n), c), decodeOf(x), nil)
		}
		var variables []int
		for bit := range 24 {
			// The bits follow the flags of the four characters of their group.
			variables = append(variables, 1+n+512+bit)
		}
		variables = append(variables, someOf(r, 1+n+len(o.s.Hints), 10)...)
		expectComputes(t, "AddDecode", o, randomCharacters(r, n), decodeOf(x), variables)
	}
}

func TestDecodingOfWhatIsNoCharacter(t *testing.T) {
	r := rand.New(rand.NewSource(62))
	for _, n := range []int{4, 8} {
		x := inputVars(n)
		o := decodeGate(n).add(impl.Sys{Ins: n}, x, 0)
		for i := range n {
			for _, c := range notCharacterElements() {
				expectComputes(t, "AddDecode", o, with(randomCharacters(r, n), i, c), decodeOf(x), nil)
			}
			first := 1 + n + i/4*536 + i%4*128
			variables := []int{first, first + 1, first + 126, first + 127, first + 2*r.Intn(64), 1 + i}
			expectComputes(t, "AddDecode", o, with(randomCharacters(r, n), i, '='), decodeOf(x), variables)
		}
	}
}

func TestDecodingOfCombinations(t *testing.T) {
	r := rand.New(rand.NewSource(63))
	l := []impl.Lin{lin(0, 'Q'), lin(1, 1, 2, 1), lin(3, 1), lin(0, 'z', 2, minus1), lin(0, '/'), lin(1, 2, 2, minus1), lin(0, 100, 1, 1, 3, minus1), lin(2, 1)}
	for i := range 12 {
		args := chosenFrom(l, 4+i%2*4, i)
		ins := []int{'A' + r.Intn(5), r.Intn(20), 'a' + r.Intn(10)}
		expectComputes(t, "AddDecode", decodeGate(len(args)).add(impl.Sys{Ins: 3}, args, 0), ins, decodeOf(args), nil)
	}
	ins := []int{'E', 5, 'k'}
	args := []impl.Lin{lin(1, 1), lin(0, 'Q'), lin(1, 1, 2, 1), lin(3, 1)}
	expectInts(t, "the model", decodeOf(args)(ins), []int{17, 2, 100})
	expectComputes(t, "AddDecode", decodeGate(4).add(impl.Sys{Ins: 3}, args, 0), ins, decodeOf(args), []int{1, 2, 3, 4})
}

func TestTextsOfCombinationsThatAreNotInTheSystem(t *testing.T) {
	expectOwnVariables(t, append(someTextGates(), decodeGate(8)))
}

func TestTextsOfInvalidSystems(t *testing.T) {
	expectInvalidSystemsRefused(t, []gate{sixGate(), decodeGate(0), decodeGate(4), decodeGate(8), runGate(cycle(2), 0), runGate(cycle(1), 1), runGate(cycle(12), maxElements)})
}

func TestTextsUpToTheLimits(t *testing.T) { expectLimits(t, textGates(t)) }

func TestTextsOfTheLastVariables(t *testing.T) {
	expectLastVariables(t, []gate{sixGate(), decodeGate(4), runGate(cycle(1), 1), runGate(fan(3, 5), 2)})
}

// expectUsable expects that AddRun of the automaton succeeds.
func expectUsable(t *testing.T, d impl.Dfa) {
	t.Helper()
	for n := range 3 {
		expectAdded(t, runGate(d, n), sample(), slices.Repeat([]impl.Lin{lin(1, 1)}, n), 0)
	}
}

func TestAutomataThatAreTooLarge(t *testing.T) {
	for n := 1; n <= maxStates; n++ {
		expectUsable(t, cycle(n))
		expectUsable(t, line(n))
	}
	for _, n := range []int{maxStates + 1, maxStates + 2, 20, 39, 40, 41, 42, 1000} {
		for _, d := range []impl.Dfa{cycle(n), line(n), acceptingIn(cycle(n)), everywhere(cycle(n))} {
			for _, s := range anySystems() {
				for _, length := range []int{0, 1, 8, 9} {
					expectNothing(t, fmt.Sprint("AddRun of ", n, " states"), one(impl.AddRun(s, d, slices.Repeat([]impl.Lin{lin(0, 'a')}, length))))
				}
			}
		}
	}
	// The states that are not reached count, too.
	r := rand.New(rand.NewSource(64))
	expectUsable(t, withUnreachable(r, cycle(1), 11))
	expectNothing(t, "AddRun of 13 states", one(impl.AddRun(sample(), withUnreachable(r, cycle(1), 12), nil)))
}

func TestRunsOfInvalidAutomata(t *testing.T) {
	for name, d := range invalidDfas() {
		for _, length := range []int{0, 1, 3, 8, 9} {
			text := slices.Repeat([]impl.Lin{lin(0, 'a')}, length)
			for _, s := range []impl.Sys{sample(), {}, {Ins: -1}, {Cons: make([]impl.Con, maxCons)}} {
				expectNothing(t, fmt.Sprint("AddRun with ", name), one(impl.AddRun(s, d, text)))
			}
		}
	}
}

func TestTextsOfOtherLengths(t *testing.T) {
	for _, s := range anySystems() {
		for _, n := range []int{maxElements + 1, maxElements + 2, 12, 16, 100, 256, 10000} {
			for _, a := range []impl.Lin{lin(), lin(0, 'a')} {
				text := slices.Repeat([]impl.Lin{a}, n)
				for _, d := range []impl.Dfa{cycle(1), line(12), fan(3)} {
					expectNothing(t, fmt.Sprint("AddRun of ", n), one(impl.AddRun(s, d, text)))
				}
				expectNothing(t, fmt.Sprint("AddDecode of ", n), many(impl.AddDecode(s, text)))
			}
		}
		for n := range 100 {
			if n != 0 && n != 4 && n != 8 {
				text := slices.Repeat([]impl.Lin{lin(0, 'a')}, n)
				expectNothing(t, fmt.Sprint("AddDecode of ", n), many(impl.AddDecode(s, text)))
			}
		}
	}
	for n := range maxElements + 1 {
		expectAdded(t, runGate(fan(3), n), sample(), slices.Repeat([]impl.Lin{lin(1, 1)}, n), 0)
	}
	for _, l := range [][]impl.Lin{nil, {}} {
		for _, s := range []impl.Sys{sample(), {}, largest(), systemWithRoom(3, 0, 0)} {
			got, bytes, ok := impl.AddDecode(s, l)
			if !ok || !sameSys(got, s) || len(bytes) != 0 {
				t.Errorf("AddDecode of no element is %s, %v, %v", about(got), bytes, ok)
			}
		}
	}
}

func TestTextCircuitsNeitherChangeNorShareMemory(t *testing.T) {
	expectOwnMemory(t, append(someTextGates(), decodeGate(8)))
}

func TestTextCircuitsOfAutomataWithSpareCapacity(t *testing.T) {
	for _, d := range smallAutomata(t) {
		e := spareDfa(d)
		before := wholeDfa(e)
		for _, n := range []int{0, 1, 3} {
			l := slices.Repeat([]impl.Lin{lin(1, 1)}, n)
			s, accepted, ok := impl.AddRun(sample(), e, l)
			want, result, fine := impl.AddRun(sample(), d, l)
			if !ok || !fine || !sameSys(s, want) || !sameLin(accepted, result) {
				t.Errorf("AddRun of %v reads spare capacity", d)
			}
			impl.AddRun(fullSpareSys(), e, l)
			impl.AddRun(sample(), e, slices.Repeat([]impl.Lin{lin(7, 1)}, n))
		}
		if wholeDfa(e) != before {
			t.Errorf("%s has become %s", before, wholeDfa(e))
		}
	}
	for name, d := range invalidDfas() {
		before := wholeDfa(d)
		impl.AddRun(sample(), d, []impl.Lin{lin(1, 1)})
		if wholeDfa(d) != before {
			t.Errorf("an argument is changed: %s", name)
		}
	}
}

func TestTextCircuitsOfSharedMemory(t *testing.T) {
	x := impl.Lin{L: spare([]impl.Term{{Var: 0, K: 7}, {Var: 2, K: 1}}, impl.Term{Var: 3, K: 1})}
	row := []int{1, 2, 0, 1, 2, 0, 1, 2, 0, 1, 2}
	d := impl.Dfa{Next: [][]int{row[:8], row[1:9], row[1:9]}, Accept: []bool{true, false, true}}
	s := impl.Sys{Ins: 2, Outs: []impl.Lin{x, x}, Hints: []impl.Hint{{A: x, B: x}}, Cons: []impl.Con{{A: x, B: x, C: x}}}
	for _, g := range []gate{sixGate(), decodeGate(0), decodeGate(8), runGate(cycle(1), 0), runGate(d, 0), runGate(d, 3), runGate(everywhere(d), 1)} {
		l := slices.Repeat([]impl.Lin{x}, g.args)
		args := distinct(append(spansOf(s), spansOf(impl.Sys{Outs: l})...))
		args = append(args, spanOf(row), spanOf(d.Next), spanOf(d.Accept))
		expectApart(t, append(args, spansOfOutcome(g.add(s, l, 0))...))
		expectAdded(t, g, s, l, 0)
	}
}

func TestTextsDoNotDependOnEarlierCalls(t *testing.T) {
	full := systemWithRoom(10, 5, 5)
	for range 3 {
		for _, g := range someTextGates() {
			l := slices.Repeat([]impl.Lin{lin(1, 1)}, g.args)
			expectAdded(t, g, sample(), l, 0)
			if g.args > 0 {
				expectFull(t, g, full, l, 0)
				expectRefused(t, g, sample(), slices.Repeat([]impl.Lin{lin(7, 1)}, g.args), 0, "a variable that does not exist")
			}
		}
		expectInt(t, "Six", impl.Six('b'), 27)
		expectInt(t, "Char", impl.Char(27), 'b')
		bytes, ok := impl.Decode64(codes("AQID"))
		expectBool(t, "Decode64", ok, true)
		expectInts(t, "Decode64", bytes, []int{1, 2, 3})
		text, ok := impl.Encode64(bytes)
		expectBool(t, "Encode64", ok, true)
		expectInts(t, "Encode64", text, codes("AQID"))
	}
}
