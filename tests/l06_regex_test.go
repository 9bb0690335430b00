package tests

import (
	"fmt"
	"math"
	"math/rand"
	"regexp"
	"slices"
	"strings"
	"testing"

	"loop.example/g00543/impl"
)

const maxPattern = 12
const maxStates = 12
const alphabet = "abcdefgh"

// modelPatternOk needs no grammar: as alternatives may be empty, a bar may be anywhere.
func modelPatternOk(p string) bool {
	depth := 0
	for i := range len(p) {
		switch c := p[i]; c {
		case '(':
			depth++
		case ')':
			depth--
			if depth < 0 {
				return false
			}
		case '*':
			if i == 0 || p[i-1] == '(' || p[i-1] == '|' {
				return false
			}
		default:
			if c != '.' && c != '|' && !strings.Contains(alphabet, string(rune(c))) {
				return false
			}
		}
	}
	return depth == 0 && len(p) <= maxPattern
}

// modelMatch returns a function that tells which texts match p.
func modelMatch(p string) func(text string) bool {
	if !modelPatternOk(p) {
		return func(string) bool { return false }
	}
	for strings.Contains(p, "**") {
		p = strings.ReplaceAll(p, "**", "*")
	}
	e := regexp.MustCompile(`\A(?:` + strings.ReplaceAll(p, ".", "[a-h]") + `)\z`)
	return func(text string) bool { return len(text) <= 100 && e.MatchString(text) }
}

// language is a set of texts. Its kind is 0 for no text, 1 for the empty one, a letter or a dot for themselves,
// & for the two parts one after the other, | for each of the parts, and * for any number of texts of the only part.
type language struct {
	kind  byte
	parts []language
}

func (l language) key() string {
	text := string(rune(l.kind))
	for _, p := range l.parts {
		text += p.key()
	}
	return "(" + text + ")"
}

func unionOf(parts ...language) language {
	var l []language
	for _, p := range parts {
		switch p.kind {
		case '0':
		case '|':
			l = append(l, p.parts...)
		default:
			l = append(l, p)
		}
	}
	slices.SortFunc(l, func(a, b language) int { return strings.Compare(a.key(), b.key()) })
	l = slices.CompactFunc(l, func(a, b language) bool { return a.key() == b.key() })
	switch len(l) {
	case 0:
		return language{kind: '0'}
	case 1:
		return l[0]
	}
	return language{'|', l}
}

func concatenated(a, b language) language {
	switch {
	case a.kind == '0' || b.kind == '1':
		return a
	case b.kind == '0' || a.kind == '1':
		return b
	case a.kind == '&':
		return concatenated(a.parts[0], concatenated(a.parts[1], b))
	}
	return language{'&', []language{a, b}}
}

func repeatedly(a language) language {
	switch a.kind {
	case '0', '1':
		return language{kind: '1'}
	case '*':
		return a
	}
	return language{'*', []language{a}}
}

// languageOf requires that p is valid apart from its length.
func languageOf(p string) language {
	if p == "" {
		return language{kind: '1'}
	}
	depth, end := 0, 0 // end is that of the first part
	for i := range len(p) {
		switch p[i] {
		case '(':
			depth++
		case ')':
			depth--
		case '|':
			if depth == 0 {
				return unionOf(languageOf(p[:i]), languageOf(p[i+1:]))
			}
		}
		if depth == 0 && end == 0 {
			end = i + 1
		}
	}
	first := language{kind: p[0]}
	if p[0] == '(' {
		first = languageOf(p[1 : end-1])
	}
	for ; end < len(p) && p[end] == '*'; end++ {
		first = repeatedly(first)
	}
	return concatenated(first, languageOf(p[end:]))
}

// hasEmpty reports whether the empty text is in l.
func (l language) hasEmpty() bool {
	has := func(p language) bool { return p.hasEmpty() }
	switch l.kind {
	case '1', '*':
		return true
	case '|':
		return slices.ContainsFunc(l.parts, has)
	case '&':
		return has(l.parts[0]) && has(l.parts[1])
	}
	return false
}

// after is the set of the texts with which those in l go on that begin with c.
func (l language) after(c byte) language {
	switch l.kind {
	case c, '.':
		return language{kind: '1'}
	case '*':
		return concatenated(l.parts[0].after(c), l)
	case '&':
		rest := concatenated(l.parts[0].after(c), l.parts[1])
		if l.parts[0].hasEmpty() {
			rest = unionOf(rest, l.parts[1].after(c))
		}
		return rest
	case '|':
		var all []language
		for _, p := range l.parts {
			all = append(all, p.after(c))
		}
		return unionOf(all...)
	}
	return language{kind: '0'}
}

// modelCompiled returns the minimal automaton of any size for a valid pattern.
func modelCompiled(p string) impl.Dfa {
	l := []language{languageOf(p)}
	numbers := map[string]int{l[0].key(): 0}
	var d impl.Dfa
	for i := 0; i < len(l); i++ {
		var row []int
		for _, c := range []byte(alphabet) {
			next := l[i].after(c)
			if _, ok := numbers[next.key()]; !ok {
				numbers[next.key()] = len(l)
				l = append(l, next)
			}
			row = append(row, numbers[next.key()])
		}
		d.Next = append(d.Next, row)
		d.Accept = append(d.Accept, l[i].hasEmpty())
	}
	return modelMinimal(d)
}

// modelDistinct tells of each two states whether a text distinguishes them: the empty one, or one that begins with a letter
// that leads to states that are distinguished.
func modelDistinct(d impl.Dfa) [][]bool {
	n := len(d.Next)
	distinct := make([][]bool, n)
	for s := range n {
		for u := range n {
			distinct[s] = append(distinct[s], d.Accept[s] != d.Accept[u])
		}
	}
	for again := true; again; {
		again = false
		for s := range n {
			for u := range s {
				for i := 0; i < 8 && !distinct[s][u]; i++ {
					if distinct[d.Next[s][i]][d.Next[u][i]] {
						distinct[s][u], distinct[u][s], again = true, true, true
					}
				}
			}
		}
	}
	return distinct
}

func modelMinimal(d impl.Dfa) impl.Dfa {
	distinct := modelDistinct(d)
	states := []int{0}
	var m impl.Dfa
	for i := 0; i < len(states); i++ {
		var row []int
		for _, u := range d.Next[states[i]] {
			k := slices.IndexFunc(states, func(s int) bool { return !distinct[u][s] })
			if k < 0 {
				k = len(states)
				states = append(states, u)
			}
			row = append(row, k)
		}
		m.Next = append(m.Next, row)
		m.Accept = append(m.Accept, d.Accept[states[i]])
	}
	return m
}

// modelEnd is the state to which text leads, or -1 if it contains other bytes than letters.
func modelEnd(d impl.Dfa, text string) int {
	s := 0
	for i := range len(text) {
		letter := strings.IndexByte(alphabet, text[i])
		if letter < 0 {
			return -1
		}
		s = d.Next[s][letter]
	}
	return s
}

// modelRuns requires that d is valid.
func modelRuns(d impl.Dfa, text string) bool {
	s := modelEnd(d, text)
	return len(text) <= 100 && s >= 0 && d.Accept[s]
}

// accessTexts contains the shortest text that leads to each state, or the first one of them, for the states that are reachable.
func accessTexts(d impl.Dfa) map[int]string {
	texts := map[int]string{0: ""}
	for l := []int{0}; len(l) > 0; l = l[1:] {
		for i, s := range d.Next[l[0]] {
			if _, ok := texts[s]; !ok {
				texts[s] = texts[l[0]] + alphabet[i:i+1]
				l = append(l, s)
			}
		}
	}
	return texts
}

// distinguishing returns a text that leads from one of the states s and u to a state that accepts, and from the other one to one that
// does not, and true, or false if there is none.
func distinguishing(d impl.Dfa, s, u int) (string, bool) {
	type pair struct{ s, u int }
	texts := map[pair]string{{s, u}: ""}
	for l := []pair{{s, u}}; len(l) > 0; l = l[1:] {
		p := l[0]
		if d.Accept[p.s] != d.Accept[p.u] {
			return texts[p], true
		}
		for i := range 8 {
			next := pair{d.Next[p.s][i], d.Next[p.u][i]}
			if _, ok := texts[next]; !ok {
				texts[next] = texts[p] + alphabet[i:i+1]
				l = append(l, next)
			}
		}
	}
	return "", false
}

// different returns a text that only one of the automata accepts and true, or false if there is none.
func different(a, b impl.Dfa) (string, bool) {
	var all impl.Dfa
	for _, row := range a.Next {
		all.Next = append(all.Next, slices.Clone(row))
	}
	for _, row := range b.Next {
		row = slices.Clone(row)
		for i := range row {
			row[i] += len(a.Next)
		}
		all.Next = append(all.Next, row)
	}
	all.Accept = slices.Concat(a.Accept, b.Accept)
	return distinguishing(all, 0, len(a.Next))
}

func sameDfa(a, b impl.Dfa) bool {
	return slices.EqualFunc(a.Next, b.Next, slices.Equal[[]int]) && slices.Equal(a.Accept, b.Accept)
}

func cloned(d impl.Dfa) impl.Dfa {
	c := impl.Dfa{Accept: slices.Clone(d.Accept)}
	for _, row := range d.Next {
		c.Next = append(c.Next, slices.Clone(row))
	}
	return c
}

// allTexts returns all texts of up to n of the bytes, the shorter ones first.
func allTexts(bytes string, n int) []string {
	l := []string{""}
	for last := l; n > 0; n-- {
		var longer []string
		for _, text := range last {
			for i := range len(bytes) {
				longer = append(longer, text+bytes[i:i+1])
			}
		}
		l = append(l, longer...)
		last = longer
	}
	return l
}

func compiled(p string) (impl.Dfa, bool) { return impl.Compiled([]byte(p)) }

func mustCompile(t *testing.T, p string) impl.Dfa {
	t.Helper()
	d, ok := compiled(p)
	if !ok {
		t.Fatalf("%q is not compiled", p)
	}
	return d
}

// quoted formats texts so that all of their bytes are visible.
func quoted(args []any) string {
	var l []string
	for _, a := range args {
		if text, ok := a.(string); ok {
			l = append(l, fmt.Sprintf("%q", text))
		} else {
			l = append(l, fmt.Sprint(a))
		}
	}
	return strings.Join(l, ", ")
}

func expectBool(t *testing.T, what string, got, want bool, args ...any) {
	t.Helper()
	if got != want {
		t.Errorf("%s is %v, want %v: %s", what, got, want, quoted(args))
	}
}

func expectNoDfa(t *testing.T, what string, d impl.Dfa, ok bool, args ...any) {
	t.Helper()
	if ok || len(d.Next) != 0 || len(d.Accept) != 0 {
		t.Errorf("%s is %v and %v, want the zero value and false: %s", what, d, ok, quoted(args))
	}
}

// expectLeast expects that d is valid, that its states are numbered in the order in which they are first reached,
// and that a text distinguishes each two of them.
func expectLeast(t *testing.T, d impl.Dfa) {
	t.Helper()
	if !impl.DfaOk(d) {
		t.Fatalf("%v is not valid", d)
	}
	numbered := 1
	for s, row := range d.Next {
		if s >= numbered {
			t.Fatalf("%v has a state that is not reached: %d", d, s)
		}
		for _, u := range row {
			if u > numbered {
				t.Fatalf("%v is not numbered in order: %d", d, u)
			}
			numbered = max(numbered, u+1)
		}
	}
	access := accessTexts(d)
	for s := range d.Next {
		for u := range s {
			text, ok := distinguishing(d, s, u)
			if !ok || impl.Runs(d, []byte(access[s]+text)) == impl.Runs(d, []byte(access[u]+text)) {
				t.Fatalf("%v has states that are not distinguished: %d and %d by %q", d, u, s, text)
			}
		}
	}
}

// expectMinimal expects everything of Minimal of a valid automaton.
func expectMinimal(t *testing.T, d impl.Dfa) {
	t.Helper()
	m, ok := impl.Minimal(d)
	if want := modelMinimal(d); !ok || !sameDfa(m, want) {
		t.Fatalf("Minimal(%v) = %v, %v, want %v", d, m, ok, want)
	}
	expectLeast(t, m)
	if text, ok := different(d, m); ok {
		t.Errorf("Minimal(%v) = %v differs for %q", d, m, text)
	}
	if len(m.Next) > len(impl.Reachable(d)) {
		t.Errorf("Minimal(%v) = %v has more states than are reachable", d, m)
	}
	if again, ok := impl.Minimal(m); !ok || !sameDfa(again, m) {
		t.Errorf("Minimal(%v) = %v", m, again)
	}
}

func TestConstantsOfPatterns(t *testing.T) {
	expectInt(t, "MaxPattern", impl.MaxPattern, 12)
	expectInt(t, "MaxStates", impl.MaxStates, 12)
}

func TestPatternOkExamples(t *testing.T) {
	for _, p := range []string{
		"", "a", "h", ".", "|", "||", "a|", "|a", "a||b", "()", "(|)", "()()", "(())", "((a))", "(a)(b)", "a*", "a**", ".*", "()*", "(|)**",
		"(a*)*", "((a*)*)*", "(a|b)*c", "a*|b*", "|a*", "(|a*)", "a(b(c(d)))", "abcdefgh", "....|", "(((((())))))", "a***********", "()()()()()()",
		"||||||||||||", "aaaaaaaaaaaa", "............", "(a|.*)*(|h)*",
	} {
		expectBool(t, "PatternOk", impl.PatternOk([]byte(p)), true, p)
		expectBool(t, "the model", modelPatternOk(p), true, p)
	}
	for _, p := range []string{
		"*", "**", "*a", "|*", "a|*", "(*)", "(*a)", "(a|*)", "()|*", "(", ")", "((", "))", ")(", "(()", "())", "a)", "(a", "a(", ")a", "(a|b", "a|b)",
		"((a)", "(a))", "(a)b)", "a(b", "*()", "(**)", "i", "z", "A", "H", "`", "ai", "ia", "a|i", "(i)", "i*", " ", "a b", "a\n", "\x00", "\x7f", "\x80",
		"\xff", "é", "a+", "a?", "[a]", "{", "}", "\\", "\\.", "^a$", "-", "_", "0", "/", ",", "'",
	} {
		expectBool(t, "PatternOk", impl.PatternOk([]byte(p)), false, p)
		expectBool(t, "the model", modelPatternOk(p), false, p)
	}
}

func TestPatternsUpToTheirLimit(t *testing.T) {
	for _, part := range []string{"a", "h", ".", "|", "()", "a*", "(a)", "(|)", "()*", "a|b", "(a*)", "(.|)*"} {
		for n := range 30 {
			p := strings.Repeat(part, n)
			expectBool(t, "PatternOk", impl.PatternOk([]byte(p)), len(p) <= maxPattern, p)
		}
	}
	for n := range 30 {
		nested := strings.Repeat("(", n) + strings.Repeat(")", n)
		expectBool(t, "PatternOk", impl.PatternOk([]byte(nested)), 2*n <= maxPattern, nested)
		expectBool(t, "PatternOk", impl.PatternOk([]byte("a"+strings.Repeat("*", n))), n+1 <= maxPattern, n)
	}
	for _, n := range []int{maxPattern + 1, 255, 256, 257, 1 << 16, 1 << 20} {
		for _, part := range []string{"a", "(", ")", "*", "|", "."} {
			p := strings.Repeat(part, n)
			expectInvalidPattern(t, p, "")
		}
	}
}

// expectInvalidPattern expects the results of functions of a pattern that is not valid; the texts would match if its length did not matter.
func expectInvalidPattern(t *testing.T, p string, texts ...string) {
	t.Helper()
	about := p[:min(len(p), 20)]
	expectBool(t, "PatternOk", impl.PatternOk([]byte(p)), false, about, len(p))
	for _, text := range texts {
		expectBool(t, "Match", impl.Match([]byte(p), []byte(text)), false, about, len(p), text)
	}
	d, ok := compiled(p)
	expectNoDfa(t, "Compiled", d, ok, about, len(p))
}

func TestPatternsOfAllBytes(t *testing.T) {
	for a := range 256 {
		p := string([]byte{byte(a)})
		expectBool(t, "PatternOk", impl.PatternOk([]byte(p)), modelPatternOk(p), p)
		for b := range 256 {
			p := string([]byte{byte(a), byte(b)})
			expectBool(t, "PatternOk", impl.PatternOk([]byte(p)), modelPatternOk(p), p)
			p = string([]byte{'(', byte(a), byte(b), ')'})
			expectBool(t, "PatternOk", impl.PatternOk([]byte(p)), modelPatternOk(p), p)
		}
	}
}

func TestPatternOkOfAllShortPatterns(t *testing.T) {
	for _, p := range allTexts("a.|*()i", 6) {
		expectBool(t, "PatternOk", impl.PatternOk([]byte(p)), modelPatternOk(p), p)
	}
	for _, p := range allTexts("*()|", 8) {
		expectBool(t, "PatternOk", impl.PatternOk([]byte(p)), modelPatternOk(p), p)
	}
}

func TestInvalidPatternsMatchNothing(t *testing.T) {
	for _, p := range allTexts("a|*(). i", 4) {
		if !modelPatternOk(p) {
			expectInvalidPattern(t, p, "", "a", "aa", "i", " ", "*", "()", p)
		}
	}
	long := strings.Repeat("a", maxPattern+1)
	expectInvalidPattern(t, long, long)
	expectInvalidPattern(t, "((((((a))))))", "a")
	expectInvalidPattern(t, "a************", "", "a", "aa")
	expectInvalidPattern(t, "|||||||||||||", "")
}

func TestMatchExamples(t *testing.T) {
	for _, c := range []struct {
		p   string
		yes []string
		no  []string
	}{
		{"", []string{""}, []string{"a", "h", ".", "|", "()"}},
		{"()", []string{""}, []string{"a", "()"}},
		{"()*", []string{""}, []string{"a"}},
		{"|", []string{""}, []string{"a", "|"}},
		{"a", []string{"a"}, []string{"", "b", "aa", "A", "i"}},
		{"h", []string{"h"}, []string{"", "a", "g", "i", "hh", "H"}},
		{".", []string{"a", "b", "c", "d", "e", "f", "g", "h"}, []string{"", "i", "`", ".", "A", "aa", "z", "\n", "\x00", "\xff"}},
		{"ab", []string{"ab"}, []string{"", "a", "b", "ba", "abb", "aab", "abab"}},
		{"a|", []string{"", "a"}, []string{"aa", "b", "a|"}},
		{"|a", []string{"", "a"}, []string{"aa", "b", "|a"}},
		{"a||b", []string{"", "a", "b"}, []string{"ab", "c"}},
		{"a|bc|d", []string{"a", "bc", "d"}, []string{"", "ac", "b", "abc", "bd", "ad"}},
		{"a*", []string{"", "a", "aa", "aaaaa"}, []string{"b", "ab", "ba", "a*"}},
		{"a**", []string{"", "a", "aa"}, []string{"b", "*", "a*"}},
		{"a*b", []string{"b", "ab", "aab"}, []string{"", "a", "ba", "abab", "abb"}},
		{"a*b*", []string{"", "a", "b", "aabb"}, []string{"ba", "aba"}},
		{"ab*", []string{"a", "ab", "abb"}, []string{"", "b", "abab"}},
		{"(ab)*", []string{"", "ab", "abab"}, []string{"a", "b", "aab", "abb", "aba"}},
		{"(a|b)*c", []string{"c", "abbac", "bac"}, []string{"", "ab", "cc", "abca"}},
		{"(a*)*", []string{"", "a", "aaaa"}, []string{"b", "ab"}},
		{"(a*b*)*c", []string{"c", "ac", "bbabac"}, []string{"", "ab", "cac"}},
		{"(|a)*b", []string{"b", "ab", "aaab"}, []string{"", "a", "bb"}},
		{"((a|)*b)*", []string{"", "b", "ab", "aabb", "bab"}, []string{"a", "ba"}},
		{"(()*)*a", []string{"a"}, []string{"", "aa"}},
		{"a(b|)c", []string{"ac", "abc"}, []string{"a", "ab", "bc", "abbc"}},
		{"a.c", []string{"ahc", "aac", "acc"}, []string{"ac", "aic", "a.c", "ahhc"}},
		{".*a.", []string{"aa", "ab", "haah", "aab"}, []string{"", "a", "ba", "baaz", "habbb"}},
		{"a(b(c|d)*)*", []string{"a", "ab", "abc", "abcdb", "abbdc"}, []string{"", "b", "ac", "aab"}},
	} {
		for _, text := range c.yes {
			expectBool(t, "Match", impl.Match([]byte(c.p), []byte(text)), true, c.p, text)
			expectBool(t, "Runs of Compiled", impl.Runs(mustCompile(t, c.p), []byte(text)), true, c.p, text)
		}
		for _, text := range c.no {
			expectBool(t, "Match", impl.Match([]byte(c.p), []byte(text)), false, c.p, text)
			expectBool(t, "Runs of Compiled", impl.Runs(mustCompile(t, c.p), []byte(text)), false, c.p, text)
		}
	}
}

// expectPattern compares Match and the automaton with the model for the texts, and the automaton as a whole.
func expectPattern(t *testing.T, p string, texts []string) {
	t.Helper()
	match := modelMatch(p)
	d, ok := compiled(p)
	want := modelCompiled(p)
	if len(want.Next) > maxStates {
		expectNoDfa(t, "Compiled", d, ok, p)
	} else if !ok || !sameDfa(d, want) {
		t.Fatalf("Compiled(%q) = %v, %v, want %v", p, d, ok, want)
	}
	for _, text := range texts {
		matches := match(text)
		expectBool(t, "Match", impl.Match([]byte(p), []byte(text)), matches, p, text)
		if ok {
			expectBool(t, "Runs of Compiled", impl.Runs(d, []byte(text)), matches, p, text)
		}
	}
}

func TestAllShortPatterns(t *testing.T) {
	texts := allTexts("abhi", 3)
	for _, p := range allTexts("ah.|*()", 5) {
		if modelPatternOk(p) {
			expectPattern(t, p, texts)
		}
	}
}

// TestAllParenthesesAndAsterisks has longer patterns of few different bytes, among them all with parts that match the empty text.
func TestAllParenthesesAndAsterisks(t *testing.T) {
	texts := allTexts("ab", 4)
	for _, p := range allTexts("a|*()", 7) {
		if modelPatternOk(p) && len(p) > 5 {
			expectPattern(t, p, texts)
		}
	}
}

// randomPattern returns a valid pattern of any length.
func randomPattern(r *rand.Rand, depth int) string {
	var p string
	for range 1 + r.Intn(2+depth) {
		switch k := r.Intn(12); {
		case k < 5:
			p += alphabet[:2][k%2 : k%2+1]
		case k < 6:
			p += alphabet[r.Intn(8):][:1]
		case k < 8:
			p += "."
		case k < 9:
			p += "|"
			continue
		default:
			if depth > 0 {
				p += "(" + randomPattern(r, depth-1) + ")"
			} else {
				p += "a"
			}
		}
		for r.Intn(3) == 0 {
			p += "*"
		}
	}
	return p
}

// randomPatterns returns n valid patterns of at most the given length, with more long ones than short ones.
func randomPatterns(r *rand.Rand, n, length int) []string {
	var l []string
	for len(l) < n {
		p := randomPattern(r, 3)
		if len(p) <= length && len(p) > r.Intn(length) {
			l = append(l, p)
		}
	}
	return l
}

func randomText(r *rand.Rand, bytes string, n int) string {
	var text []byte
	for range n {
		text = append(text, bytes[r.Intn(len(bytes))])
	}
	return string(text)
}

// someTexts returns short and long random texts.
func someTexts(r *rand.Rand) []string {
	var l []string
	for n := range 12 {
		l = append(l, randomText(r, "ab", n), randomText(r, "aab", n), randomText(r, alphabet, n), randomText(r, "abhi", n))
	}
	for _, n := range []int{99, 100, 101} {
		l = append(l, strings.Repeat("a", n), randomText(r, "ab", n), randomText(r, alphabet, n))
	}
	return l
}

func TestRandomPatterns(t *testing.T) {
	r := rand.New(rand.NewSource(30))
	short := allTexts("abh", 4)
	sizes := map[int]int{}
	for _, p := range randomPatterns(r, 3000, maxPattern) {
		if !modelPatternOk(p) {
			t.Fatalf("%q is not valid", p)
		}
		expectPattern(t, p, slices.Concat(short, someTexts(r)))
		d, _ := compiled(p)
		sizes[len(d.Next)]++
	}
	for n := range maxStates + 1 {
		if sizes[n] == 0 {
			t.Errorf("none of the patterns has %d states", n)
		}
	}
}

func TestAutomataOfPatternsAreMinimal(t *testing.T) {
	r := rand.New(rand.NewSource(31))
	for _, p := range randomPatterns(r, 1000, maxPattern) {
		d, ok := compiled(p)
		if !ok {
			continue
		}
		expectLeast(t, d)
		m, ok := impl.Minimal(d)
		if !ok || !sameDfa(m, d) {
			t.Errorf("Compiled(%q) = %v is not minimal: %v", p, d, m)
		}
	}
}

func TestCompiledExamples(t *testing.T) {
	row := func(s int, first ...int) []int { return append(first, slices.Repeat([]int{s}, 8-len(first))...) }
	for _, c := range []struct {
		p string
		d impl.Dfa
	}{
		{"a*", impl.Dfa{Next: [][]int{row(1, 0), row(1)}, Accept: []bool{true, false}}},
		{"", impl.Dfa{Next: [][]int{row(1), row(1)}, Accept: []bool{true, false}}},
		{".*", impl.Dfa{Next: [][]int{row(0)}, Accept: []bool{true}}},
		{"(.*)*|a", impl.Dfa{Next: [][]int{row(0)}, Accept: []bool{true}}},
		{".", impl.Dfa{Next: [][]int{row(1), row(2), row(2)}, Accept: []bool{false, true, false}}},
		{"a", impl.Dfa{Next: [][]int{row(2, 1), row(2), row(2)}, Accept: []bool{false, true, false}}},
		{"h", impl.Dfa{Next: [][]int{{1, 1, 1, 1, 1, 1, 1, 2}, row(1), row(1)}, Accept: []bool{false, false, true}}},
		{"b*a", impl.Dfa{Next: [][]int{row(2, 1, 0), row(2), row(2)}, Accept: []bool{false, true, false}}},
		{".*a", impl.Dfa{Next: [][]int{row(0, 1), row(0, 1)}, Accept: []bool{false, true}}},
		{"ba|ab", impl.Dfa{Next: [][]int{row(3, 1, 2), row(3, 3, 4), row(3, 4), row(3), row(3)}, Accept: []bool{false, false, false, false, true}}},
	} {
		d, ok := compiled(c.p)
		if !ok || !sameDfa(d, c.d) {
			t.Errorf("Compiled(%q) = %v, %v, want %v", c.p, d, ok, c.d)
		}
	}
}

func TestSizesOfCompiledAutomata(t *testing.T) {
	for _, c := range []struct {
		p      string
		states int // 0 if there is no automaton
	}{
		{"", 2}, {"a*", 2}, {".*", 1}, {".*a", 2}, {".*a.", 4}, {".*a..", 8}, {".*a...", 0}, {".*a....", 0}, {".*a.........", 0}, {"(.*)a.......", 0},
		{"aaaaaaaaa", 11}, {"aaaaaaaaaa", 12}, {"aaaaaaaaaaa", 0}, {"aaaaaaaaaaaa", 0}, {"aaaaaaaaaaa*", 12}, {"...........*", 11},
		{"..........", 12}, {"...........", 0}, {"............", 0}, {"..........|", 12}, {"...........|", 0}, {"(..........)", 12}, {"(..........)*", 0},
		{"(.........)*", 9}, {"(aaaaaaaaa)*", 10}, {"aaaaaaaaa|b", 11}, {"aaaaaaaaaa|b", 12}, {"aaaaaaaaaa|", 12}, {"((((((a)))))", 0}, {"(((((a)))))", 3},
	} {
		d, ok := compiled(c.p)
		expectBool(t, "Compiled", ok, c.states > 0, c.p)
		if !ok {
			expectNoDfa(t, "Compiled", d, ok, c.p)
			continue
		}
		expectInt(t, "the number of states", len(d.Next), c.states, c.p)
		expectInt(t, "StateCount", impl.StateCount(d), c.states, c.p)
	}
}

// TestPatternsWithoutAutomatonMatchAllTheSame has patterns whose automata have too many states.
func TestPatternsWithoutAutomatonMatchAllTheSame(t *testing.T) {
	texts := allTexts("ab", 11)
	for _, p := range []string{"aaaaaaaaaaa", ".*a...", ".*a....", ".*a.......", "...........", "(.*a|b)....."} {
		expectInt(t, "the model", boolInt(len(modelCompiled(p).Next) > maxStates), 1, p)
		d, ok := compiled(p)
		expectNoDfa(t, "Compiled", d, ok, p)
		match := modelMatch(p)
		for _, text := range texts {
			expectBool(t, "Match", impl.Match([]byte(p), []byte(text)), match(text), p, text)
		}
	}
}

func TestAutomataOfPatternsOfAllLetters(t *testing.T) {
	texts := allTexts(alphabet, 4)
	for _, p := range []string{"abcd|efgh", "(a|h)*.d", ".b.d", "(.c)*", "(e|f|g|h)*a", "h*.*a*", ".|..|....", "(ab|cd|ef)*"} {
		expectPattern(t, p, texts)
	}
}

func TestTextsUpToTheirLimit(t *testing.T) {
	a := func(n int) string { return strings.Repeat("a", n) }
	for _, p := range []string{"a*", ".*", "(a*)*", "(.*)*", "(a|b)*", "a*a*a*a*a*", "(a|)*", "((a*)*.*)*", "(((a*)*)*)*"} {
		for _, n := range []int{0, 1, 99, 100, 101, 102, 200, 256, 1000, 1 << 20} {
			expectBool(t, "Match", impl.Match([]byte(p), []byte(a(n))), n <= 100, p, n)
			expectBool(t, "Runs", impl.Runs(mustCompile(t, p), []byte(a(n))), n <= 100, p, n)
		}
		for _, n := range []int{98, 99, 100} {
			text := a(n) + "i"
			expectBool(t, "Match", impl.Match([]byte(p), []byte(text)), false, p, n)
			expectBool(t, "Runs", impl.Runs(mustCompile(t, p), []byte(text)), false, p, n)
		}
	}
	expectBool(t, "Match", impl.Match([]byte("a*b"), []byte(a(99)+"b")), true)
	expectBool(t, "Match", impl.Match([]byte("a*b"), []byte(a(100)+"b")), false)
	expectBool(t, "Match", impl.Match([]byte("a*b"), []byte(a(100))), false)
	expectBool(t, "Match", impl.Match([]byte("(..........)*"), []byte(a(100))), false, "a pattern that is too long")
	expectBool(t, "Match", impl.Match([]byte("(.........)*"), []byte(a(99))), true)
	expectBool(t, "Match", impl.Match([]byte("(.........)*"), []byte(a(100))), false)
}

func TestTextsWithOtherBytes(t *testing.T) {
	d := impl.Dfa{Next: [][]int{make([]int, 8)}, Accept: []bool{true}}
	for b := range 256 {
		c := string([]byte{byte(b)})
		isLetter := strings.Contains(alphabet, c)
		for _, p := range []string{".", ".*", "(.|)*", "a|b|c|d|.", "(.*)*"} {
			expectBool(t, "Match", impl.Match([]byte(p), []byte(c)), isLetter, p, c)
		}
		for i := range 8 {
			letter := alphabet[i : i+1]
			expectBool(t, "Match", impl.Match([]byte(letter), []byte(c)), letter == c, letter, c)
		}
		for _, text := range []string{c, c + "ab", "a" + c + "b", "ab" + c} {
			expectBool(t, "Match", impl.Match([]byte(".*"), []byte(text)), isLetter, text)
			expectBool(t, "Runs", impl.Runs(d, []byte(text)), isLetter, text)
		}
	}
	for _, text := range []string{"é", "aé", "\u0161", "a\x00", "\x00a", "A", "aB", "a\n", "\na", "*", "(a)", "a|b", ".", "a*"} {
		for _, p := range []string{".*", "a*", "", "(.|a)*", "a|", ".."} {
			expectBool(t, "Match", impl.Match([]byte(p), []byte(text)), false, p, text)
		}
		expectBool(t, "Runs", impl.Runs(d, []byte(text)), false, text)
	}
}

// TestPatternsInParentheses has for each pattern one in parentheses, which matches the same texts and has the same automaton.
func TestPatternsInParentheses(t *testing.T) {
	r := rand.New(rand.NewSource(32))
	short := allTexts("abh", 4)
	for _, p := range slices.Concat(allTexts("a|*()", 4), randomPatterns(r, 500, maxPattern-2)) {
		in := "(" + p + ")"
		expectBool(t, "PatternOk", impl.PatternOk([]byte(in)), modelPatternOk(in), in)
		if !modelPatternOk(p) {
			// The one in parentheses may be valid all the same, as ")(" becomes "()()".
			continue
		}
		a, aOk := compiled(p)
		b, bOk := compiled(in)
		if aOk != bOk || !sameDfa(a, b) {
			t.Errorf("Compiled(%q) = %v, %v, want %v, %v", in, b, bOk, a, aOk)
		}
		for _, text := range slices.Concat(short, someTexts(r)) {
			expectBool(t, "Match", impl.Match([]byte(in), []byte(text)), impl.Match([]byte(p), []byte(text)), in, text)
		}
	}
}

func TestAlternativesMatchTheUnion(t *testing.T) {
	r := rand.New(rand.NewSource(33))
	short := allTexts("abh", 4)
	all := randomPatterns(r, 500, maxPattern-1)
	for _, p := range all {
		other := randomPatterns(r, 1, max(1, maxPattern-1-len(p)))[0]
		if len(p)+1+len(other) > maxPattern {
			other = ""
		}
		both := p + "|" + other
		matches := func(text string) bool {
			return impl.Match([]byte(p), []byte(text)) || impl.Match([]byte(other), []byte(text))
		}
		d, ok := compiled(both)
		for _, text := range slices.Concat(short, someTexts(r)) {
			expectBool(t, "Match", impl.Match([]byte(both), []byte(text)), matches(text), p, other, text)
			if ok {
				expectBool(t, "Runs", impl.Runs(d, []byte(text)), matches(text), p, other, text)
			}
		}
		swapped, swappedOk := compiled(other + "|" + p)
		if ok != swappedOk || !sameDfa(d, swapped) {
			t.Errorf("%q and %q have other automata in the other order", p, other)
		}
	}
}

// cycle accepts the texts whose length is a multiple of n; no two of its states are equivalent.
func cycle(n int) impl.Dfa {
	d := impl.Dfa{Accept: make([]bool, n)}
	for s := range n {
		d.Next = append(d.Next, slices.Repeat([]int{(s + 1) % n}, 8))
	}
	if n > 0 {
		d.Accept[0] = true
	}
	return d
}

// line accepts the texts of at least n - 1 letters: the first two states are distinguished only by a text of n - 2 letters.
func line(n int) impl.Dfa {
	d := impl.Dfa{Accept: make([]bool, n)}
	for s := range n {
		d.Next = append(d.Next, slices.Repeat([]int{min(s+1, n-1)}, 8))
	}
	d.Accept[n-1] = true
	return d
}

// fan has a state for each letter, of which only those in the list accept; all of them lead back.
func fan(accepting ...int) impl.Dfa {
	d := impl.Dfa{Next: [][]int{{1, 2, 3, 4, 5, 6, 7, 8}}, Accept: make([]bool, 9)}
	for range 8 {
		d.Next = append(d.Next, make([]int, 8))
	}
	for _, s := range accepting {
		d.Accept[s] = true
	}
	return d
}

// randomDfa has n states, of which a text may distinguish only as many as there are kinds.
func randomDfa(r *rand.Rand, n, kinds int) impl.Dfa {
	kind := make([]int, n)
	of := make([][]int, kinds)
	for s := range n {
		kind[s] = r.Intn(kinds)
		if s < kinds {
			kind[s] = s
		}
		of[kind[s]] = append(of[kind[s]], s)
	}
	rows, accepts := make([][]int, kinds), make([]bool, kinds)
	for k := range kinds {
		for range 8 {
			rows[k] = append(rows[k], r.Intn(kinds))
		}
		accepts[k] = r.Intn(3) == 0
	}
	var d impl.Dfa
	for s := range n {
		var row []int
		for _, k := range rows[kind[s]] {
			row = append(row, of[k][r.Intn(len(of[k]))])
		}
		d.Next = append(d.Next, row)
		d.Accept = append(d.Accept, accepts[kind[s]])
	}
	return d
}

// sparseDfa has letters that mostly lead to the same state, so that many states are not reachable or are distinguished only by long texts.
func sparseDfa(r *rand.Rand, n int) impl.Dfa {
	d := impl.Dfa{Accept: make([]bool, n)}
	for range n {
		row := slices.Repeat([]int{r.Intn(n)}, 8)
		if r.Intn(2) == 0 {
			row[r.Intn(8)] = r.Intn(n)
		}
		d.Next = append(d.Next, row)
	}
	d.Accept[r.Intn(n)] = true
	return d
}

// renumbered gives the states other numbers, apart from state 0.
func renumbered(r *rand.Rand, d impl.Dfa) impl.Dfa {
	n := len(d.Next)
	number := []int{0}
	for _, i := range r.Perm(n - 1) {
		number = append(number, i+1)
	}
	c := impl.Dfa{Next: make([][]int, n), Accept: make([]bool, n)}
	for s, row := range d.Next {
		for _, u := range row {
			c.Next[number[s]] = append(c.Next[number[s]], number[u])
		}
		c.Accept[number[s]] = d.Accept[s]
	}
	return c
}

// withUnreachable adds n states to which only these lead.
func withUnreachable(r *rand.Rand, d impl.Dfa, n int) impl.Dfa {
	c := cloned(d)
	for range n {
		var row []int
		for range 8 {
			row = append(row, r.Intn(len(d.Next)+n))
		}
		c.Next = append(c.Next, row)
		c.Accept = append(c.Accept, r.Intn(2) == 0)
	}
	return c
}

// automata are valid and of all kinds.
func automata(r *rand.Rand) []impl.Dfa {
	all := []impl.Dfa{
		cycle(1), cycle(2), cycle(39), cycle(40), line(1), line(2), line(39), line(40), fan(), fan(1), fan(8), fan(0), fan(1, 2, 3, 4, 5, 6, 7, 8),
		fan(0, 1, 2, 3, 4, 5, 6, 7, 8), fan(3, 5), {Next: [][]int{make([]int, 8)}, Accept: []bool{false}},
		{Next: slices.Repeat([][]int{slices.Repeat([]int{39}, 8)}, 40), Accept: make([]bool, 40)},
		{Next: slices.Repeat([][]int{make([]int, 8)}, 40), Accept: slices.Repeat([]bool{true}, 40)},
	}
	for range 400 {
		n := 1 + r.Intn(40)
		all = append(all, randomDfa(r, n, 1+r.Intn(n)), sparseDfa(r, n))
		if n < 40 {
			all = append(all, withUnreachable(r, randomDfa(r, n, 1+r.Intn(n)), 40-n))
		}
	}
	for i := range len(all) {
		all = append(all, renumbered(r, all[i]))
	}
	return all
}

func TestMinimalAutomata(t *testing.T) {
	for _, d := range automata(rand.New(rand.NewSource(34))) {
		expectMinimal(t, d)
	}
}

func TestMinimalExamples(t *testing.T) {
	for _, c := range []struct {
		d      impl.Dfa
		states int
	}{
		{cycle(1), 1}, {cycle(40), 40}, {line(40), 40}, {fan(), 1}, {fan(1), 3}, {fan(8), 3}, {fan(0), 2}, {fan(0, 1, 2, 3, 4, 5, 6, 7, 8), 1},
		{fan(1, 2, 3, 4, 5, 6, 7, 8), 2}, {fan(3, 5), 3},
	} {
		m, ok := impl.Minimal(c.d)
		if !ok || len(m.Next) != c.states || len(m.Accept) != c.states {
			t.Errorf("Minimal(%v) = %v, %v, want %d states", c.d, m, ok, c.states)
		}
	}
	// The states 1 and 2 are equivalent, state 4 is not reachable, and state 3 is reached before state 1.
	d := impl.Dfa{Next: [][]int{{0, 3, 2, 1, 0, 0, 0, 0}, {1, 1, 1, 1, 1, 1, 1, 3}, {2, 1, 2, 1, 2, 1, 2, 3}, {3, 3, 3, 3, 3, 3, 3, 3}, {0, 1, 2, 3, 4, 0, 1, 2}}, Accept: []bool{false, true, true, false, true}}
	want := impl.Dfa{Next: [][]int{{0, 1, 2, 2, 0, 0, 0, 0}, {1, 1, 1, 1, 1, 1, 1, 1}, {2, 2, 2, 2, 2, 2, 2, 1}}, Accept: []bool{false, false, true}}
	if m, ok := impl.Minimal(d); !ok || !sameDfa(m, want) {
		t.Errorf("Minimal(%v) = %v, %v, want %v", d, m, ok, want)
	}
}

func TestEquivalentAutomataHaveOneMinimalAutomaton(t *testing.T) {
	r := rand.New(rand.NewSource(35))
	for range 300 {
		d := randomDfa(r, 1+r.Intn(20), 1)
		if r.Intn(4) > 0 {
			n := 1 + r.Intn(20)
			d = randomDfa(r, n, 1+r.Intn(n))
		}
		m, ok := impl.Minimal(d)
		for _, e := range []impl.Dfa{renumbered(r, d), withUnreachable(r, d, 1+r.Intn(20)), renumbered(r, withUnreachable(r, d, 20)), m} {
			if n, fine := impl.Minimal(e); !ok || !fine || !sameDfa(m, n) {
				t.Fatalf("Minimal(%v) = %v, but Minimal(%v) = %v", d, m, e, n)
			}
		}
	}
}

func TestRunsAreThoseOfTheModel(t *testing.T) {
	r := rand.New(rand.NewSource(36))
	short := allTexts("ah", 3)
	for _, d := range automata(r) {
		m, _ := impl.Minimal(d)
		for _, text := range slices.Concat(short, someTexts(r)) {
			want := modelRuns(d, text)
			expectBool(t, "Runs", impl.Runs(d, []byte(text)), want, d, text)
			expectBool(t, "Runs of Minimal", impl.Runs(m, []byte(text)), want, d, text)
		}
	}
}

func TestRunsExamples(t *testing.T) {
	for i := range 8 {
		d := fan(i + 1)
		for j := range 8 {
			expectBool(t, "Runs", impl.Runs(d, []byte(alphabet[j:j+1])), i == j, i, j)
			expectBool(t, "Runs", impl.Runs(d, []byte(alphabet[j:j+1]+"h"+alphabet[i:i+1])), true, i, j)
			expectBool(t, "Runs", impl.Runs(d, []byte(alphabet[i:i+1]+alphabet[j:j+1])), false, i, j)
		}
	}
	d := cycle(40)
	for n := range 130 {
		expectBool(t, "Runs", impl.Runs(d, []byte(strings.Repeat("c", n))), n%40 == 0 && n <= 100, n)
	}
	expectBool(t, "Runs", impl.Runs(cycle(20), []byte(strings.Repeat("h", 100))), true)
	expectBool(t, "Runs", impl.Runs(cycle(1), []byte(strings.Repeat("h", 101))), false)
	expectBool(t, "Runs", impl.Runs(cycle(1), nil), true)
	expectBool(t, "Runs", impl.Runs(line(2), nil), false)
}

func TestFactsOfAutomata(t *testing.T) {
	for _, d := range automata(rand.New(rand.NewSource(37))) {
		expectBool(t, "DfaOk", impl.DfaOk(d), true, d)
		expectInt(t, "StateCount", impl.StateCount(d), len(d.Next), d)
		var accepting, reachable []int
		access := accessTexts(d)
		for s := range d.Next {
			if d.Accept[s] {
				accepting = append(accepting, s)
			}
			if _, ok := access[s]; ok {
				reachable = append(reachable, s)
			}
		}
		expectInts(t, "Accepting", impl.Accepting(d), accepting, d)
		expectInts(t, "Reachable", impl.Reachable(d), reachable, d)
	}
}

func TestFactsExamples(t *testing.T) {
	d := impl.Dfa{Next: [][]int{slices.Repeat([]int{3}, 8), make([]int, 8), slices.Repeat([]int{2}, 8), {3, 3, 3, 3, 3, 3, 3, 1}}, Accept: []bool{true, false, true, true}}
	expectInts(t, "Accepting", impl.Accepting(d), []int{0, 2, 3})
	expectInts(t, "Reachable", impl.Reachable(d), []int{0, 1, 3})
	expectInt(t, "StateCount", impl.StateCount(d), 4)
	expectInts(t, "Accepting", impl.Accepting(fan()), nil)
	expectInts(t, "Reachable", impl.Reachable(fan()), []int{0, 1, 2, 3, 4, 5, 6, 7, 8})
	expectInts(t, "Reachable", impl.Reachable(cycle(1)), []int{0})
	expectInts(t, "Reachable", impl.Reachable(impl.Dfa{Next: [][]int{make([]int, 8), make([]int, 8)}, Accept: []bool{false, true}}), []int{0})
	expectInt(t, "StateCount", impl.StateCount(cycle(40)), 40)
}

// invalidDfas are valid but for one thing.
func invalidDfas() map[string]impl.Dfa {
	all := map[string]impl.Dfa{
		"no state": {}, "an empty list of states": {Next: [][]int{}, Accept: []bool{}}, "no state that accepts": {Accept: []bool{true}},
		"no accepts": {Next: [][]int{make([]int, 8)}}, "41 states": cycle(41), "42 states": cycle(42), "100000 states": cycle(100000),
		"no letters": {Next: [][]int{nil}, Accept: []bool{true}},
	}
	for _, n := range []int{1, 2, 39, 40} {
		for _, length := range []int{0, n - 1, n + 1, 2 * n, 41, 1000} {
			d := cycle(n)
			d.Accept = slices.Repeat([]bool{true}, length)
			all[fmt.Sprint(length, " elements of Accept for ", n)] = d
		}
		for _, s := range []int{0, n / 2, n - 1} {
			for _, length := range []int{0, 1, 7, 9, 16, 1000} {
				d := cycle(n)
				d.Next[s] = slices.Repeat([]int{0}, length)
				all[fmt.Sprint(length, " letters of the state ", s, " of ", n)] = d
			}
			for i := range 8 {
				for _, to := range []int{-1, n, n + 1, 41, -2, math.MaxInt, math.MinInt, math.MaxInt32, 1 << 32} {
					d := cycle(n)
					d.Next[s][i] = to
					all[fmt.Sprint("the letter ", i, " of the state ", s, " of ", n, " to ", to)] = d
				}
			}
		}
	}
	unreachable := impl.Dfa{Next: [][]int{make([]int, 8), slices.Repeat([]int{2}, 8)}, Accept: []bool{true, false}}
	all["a state that does not exist behind one that is not reached"] = unreachable
	all["a row of seven that is not reached"] = impl.Dfa{Next: [][]int{make([]int, 8), make([]int, 7)}, Accept: []bool{true, false}}
	all["a row of nine that is not reached"] = impl.Dfa{Next: [][]int{make([]int, 8), make([]int, 9)}, Accept: []bool{true, false}}
	all["a row of seven with room"] = impl.Dfa{Next: [][]int{make([]int, 7, 8)}, Accept: []bool{true}}
	all["Accept with room"] = impl.Dfa{Next: [][]int{make([]int, 8), make([]int, 8)}, Accept: []bool{true, true}[:1]}
	all["Next with room"] = impl.Dfa{Next: [][]int{make([]int, 8), make([]int, 8)}[:1], Accept: []bool{true, true}}
	return all
}

func TestInvalidAutomata(t *testing.T) {
	for name, d := range invalidDfas() {
		expectBool(t, "DfaOk", impl.DfaOk(d), false, name)
		for _, text := range []string{"", "a", "h", "ab", "i", strings.Repeat("a", 40), strings.Repeat("a", 101)} {
			expectBool(t, "Runs", impl.Runs(d, []byte(text)), false, name, text)
		}
		m, ok := impl.Minimal(d)
		expectNoDfa(t, "Minimal", m, ok, name)
		expectInt(t, "StateCount", impl.StateCount(d), -1, name)
		expectInts(t, "Accepting", impl.Accepting(d), nil, name)
		expectInts(t, "Reachable", impl.Reachable(d), nil, name)
	}
}

func TestDfaOkUpToItsLimits(t *testing.T) {
	for n := range 100 {
		expectBool(t, "DfaOk", impl.DfaOk(cycle(n)), n >= 1 && n <= 40, n)
	}
	for _, n := range []int{1, 2, 40} {
		d := cycle(n)
		for s := range n {
			for i := range 8 {
				for _, to := range []int{0, n - 1} {
					d.Next[s][i] = to
					expectBool(t, "DfaOk", impl.DfaOk(d), true, n, s, i, to)
				}
			}
		}
	}
}

func spansOfDfa(d impl.Dfa) []span {
	l := []span{spanOf(d.Next), spanOf(d.Accept)}
	for _, row := range d.Next {
		l = append(l, spanOf(row))
	}
	return l
}

// spareDfa has further elements behind each slice, which are not valid.
func spareDfa(d impl.Dfa) impl.Dfa {
	c := impl.Dfa{Accept: spare(d.Accept, true, false, true)}
	for _, row := range d.Next {
		c.Next = append(c.Next, spare(row, -1, 41))
	}
	c.Next = spare(c.Next, []int{-1}, nil, []int{99})
	return c
}

// wholeDfa formats an automaton with all of its memory.
func wholeDfa(d impl.Dfa) string {
	rows := slices.Clone(d.Next[:cap(d.Next)])
	for i, row := range rows {
		rows[i] = row[:cap(row)]
	}
	return fmt.Sprint(d.Accept[:cap(d.Accept)], rows)
}

func TestAutomataNeitherChangeNorShareMemory(t *testing.T) {
	r := rand.New(rand.NewSource(38))
	for _, d := range []impl.Dfa{cycle(1), cycle(5), line(40), fan(3), randomDfa(r, 20, 4), randomDfa(r, 30, 30), withUnreachable(r, cycle(3), 6)} {
		e := spareDfa(d)
		text := spare([]byte("abah"), 'i', 0, 'a')
		before, beforeText := wholeDfa(e), string(text[:cap(text)])
		spans := append(spansOfDfa(e), spanOf(text))
		for range 2 {
			m, ok := impl.Minimal(e)
			want, _ := impl.Minimal(d)
			if !ok || !sameDfa(m, want) {
				t.Errorf("Minimal of %v with spare capacity is %v", d, m)
			}
			again, _ := impl.Minimal(m)
			spans = append(append(spans, spansOfDfa(m)...), spansOfDfa(again)...)
			spans = append(spans, spanOf(impl.Accepting(e)), spanOf(impl.Reachable(e)), spanOf(impl.Accepting(m)), spanOf(impl.Reachable(m)))
			expectBool(t, "DfaOk", impl.DfaOk(e), true)
			expectBool(t, "Runs", impl.Runs(e, text), modelRuns(d, "abah"), d)
			expectInt(t, "StateCount", impl.StateCount(e), len(d.Next))
			expectInts(t, "Accepting", impl.Accepting(e), impl.Accepting(d))
			expectInts(t, "Reachable", impl.Reachable(e), impl.Reachable(d))
		}
		expectApart(t, spans)
		if wholeDfa(e) != before || string(text[:cap(text)]) != beforeText {
			t.Errorf("%s has become %s", before, wholeDfa(e))
		}
	}
}

func TestInvalidAutomataAreNotChanged(t *testing.T) {
	for name, d := range invalidDfas() {
		before := wholeDfa(d)
		impl.DfaOk(d)
		impl.Runs(d, []byte("ab"))
		impl.Minimal(d)
		impl.StateCount(d)
		impl.Accepting(d)
		impl.Reachable(d)
		if wholeDfa(d) != before {
			t.Errorf("an argument is changed: %s", name)
		}
	}
}

// TestAutomataOfSharedMemory has rows that are the same memory.
func TestAutomataOfSharedMemory(t *testing.T) {
	row := []int{1, 2, 0, 1, 2, 0, 1, 2, 0, 1, 2}
	for _, d := range []impl.Dfa{
		{Next: [][]int{row[:8], row[1:9], row[2:10]}, Accept: []bool{true, false, false}},
		{Next: [][]int{row[:8], row[:8], row[:8]}, Accept: []bool{true, false, true}},
		{Next: [][]int{row[:8], row[:8], row[:8]}, Accept: []bool{true, true, true}},
	} {
		m, _ := impl.Minimal(d)
		expectMinimal(t, d)
		expectApart(t, append(spansOfDfa(m), spanOf(row), spanOf(d.Next), spanOf(d.Accept)))
	}
}

func TestPatternsNeitherChangeNorShareMemory(t *testing.T) {
	for _, c := range []struct{ p, text string }{{"a*", "aa"}, {"", ""}, {"(a|b)*c", "abc"}, {"aaaaaaaaaaa", "a"}, {"aaaaaaaaaaaa", "aaa"}, {"(a", "a"}, {".*a.", "aa"}} {
		p := spare([]byte(c.p), '*', '|', 'a', ')')
		text := spare([]byte(c.text), 'c', 'a', 'a')
		before := string(p[:cap(p)]) + "/" + string(text[:cap(text)])
		spans := []span{spanOf(p), spanOf(text)}
		want, fine := compiled(c.p)
		for range 2 {
			expectBool(t, "PatternOk", impl.PatternOk(p), modelPatternOk(c.p), c.p)
			expectBool(t, "Match", impl.Match(p, text), modelMatch(c.p)(c.text), c.p, c.text)
			d, ok := impl.Compiled(p)
			if ok != fine || !sameDfa(d, want) {
				t.Errorf("Compiled(%q) with spare capacity is %v, %v, want %v, %v", c.p, d, ok, want, fine)
			}
			spans = append(spans, spansOfDfa(d)...)
		}
		expectApart(t, spans)
		if after := string(p[:cap(p)]) + "/" + string(text[:cap(text)]); after != before {
			t.Errorf("%q has become %q", before, after)
		}
	}
}

func TestChangedResultsDoNotMatter(t *testing.T) {
	d := mustCompile(t, "a*b")
	before := cloned(d)
	d.Next[0][0], d.Accept[0] = 99, true
	d.Next[1] = nil
	if again := mustCompile(t, "a*b"); !sameDfa(again, before) {
		t.Errorf("Compiled has become %v", again)
	}
	m, _ := impl.Minimal(before)
	m.Next[0][0] = 99
	if again, _ := impl.Minimal(before); !sameDfa(again, before) {
		t.Errorf("Minimal has become %v", again)
	}
}

func TestEmptyAndNilArgumentsOfPatterns(t *testing.T) {
	expectBool(t, "PatternOk", impl.PatternOk(nil), true)
	expectBool(t, "PatternOk", impl.PatternOk([]byte{}), true)
	expectBool(t, "Match", impl.Match(nil, nil), true)
	expectBool(t, "Match", impl.Match([]byte{}, []byte{}), true)
	expectBool(t, "Match", impl.Match([]byte("a"), nil), false)
	expectBool(t, "Match", impl.Match(nil, []byte("a")), false)
	d, ok := impl.Compiled(nil)
	if want := mustCompile(t, "()"); !ok || !sameDfa(d, want) {
		t.Errorf("Compiled(nil) = %v, %v, want %v", d, ok, want)
	}
	expectBool(t, "Runs", impl.Runs(d, nil), true)
	expectBool(t, "Runs", impl.Runs(d, []byte{}), true)
}

func TestPatternsDoNotDependOnEarlierCalls(t *testing.T) {
	r := rand.New(rand.NewSource(39))
	patterns := append(randomPatterns(r, 50, maxPattern), "(a", "aaaaaaaaaaaa", "*")
	results := func() string {
		var text string
		for _, p := range patterns {
			d, ok := compiled(p)
			m, fine := impl.Minimal(d)
			text += fmt.Sprintln(p, d, ok, m, fine, impl.Accepting(d), impl.Reachable(d), impl.StateCount(d), impl.PatternOk([]byte(p)), impl.Match([]byte(p), []byte("ab")))
		}
		return text
	}
	first := results()
	for range 5 {
		if again := results(); again != first {
			t.Fatalf("%s has become %s", first, again)
		}
	}
}
