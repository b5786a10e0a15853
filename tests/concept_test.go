package tests

import (
	"bytes"
	"fmt"
	"math"
	"regexp"
	"slices"
	"strings"
	"testing"

	"loop.example/g00534/impl"
)

var top, bot = impl.Con{Kind: impl.CnTop}, impl.Con{Kind: impl.CnBot}

func named(s string) impl.Con { return impl.Con{Kind: impl.CnName, Name: []byte(s)} }

func not(c impl.Con) impl.Con { return impl.Con{Kind: impl.CnNot, Kids: []impl.Con{c}} }

func and(a, b impl.Con) impl.Con { return impl.Con{Kind: impl.CnAnd, Kids: []impl.Con{a, b}} }

func or(a, b impl.Con) impl.Con { return impl.Con{Kind: impl.CnOr, Kids: []impl.Con{a, b}} }

func some(r string, c impl.Con) impl.Con {
	return impl.Con{Kind: impl.CnSome, Role: []byte(r), Kids: []impl.Con{c}}
}

func every(r string, c impl.Con) impl.Con {
	return impl.Con{Kind: impl.CnAll, Role: []byte(r), Kids: []impl.Con{c}}
}

func nots(n int, c impl.Con) impl.Con {
	for range n {
		c = not(c)
	}
	return c
}

// bush has 2^deep - 1 parts.
func bush(deep int, leaf string) impl.Con {
	if deep == 1 {
		return named(leaf)
	}
	return and(bush(deep-1, leaf), bush(deep-1, leaf))
}

func sameCon(a, b impl.Con) bool {
	return a.Kind == b.Kind && bytes.Equal(a.Name, b.Name) && bytes.Equal(a.Role, b.Role) &&
		slices.EqualFunc(a.Kids, b.Kids, sameCon)
}

// spell writes a concept by the document's words, however great it is.
func spell(c impl.Con) string {
	kid := func(i int) string { return spell(c.Kids[i]) }
	switch c.Kind {
	case impl.CnTop:
		return "Top"
	case impl.CnBot:
		return "Bot"
	case impl.CnName:
		return string(c.Name)
	case impl.CnNot:
		return "Not(" + kid(0) + ")"
	case impl.CnAnd:
		return "And(" + kid(0) + " " + kid(1) + ")"
	case impl.CnOr:
		return "Or(" + kid(0) + " " + kid(1) + ")"
	case impl.CnSome:
		return "Some(" + string(c.Role) + " " + kid(0) + ")"
	}
	return "All(" + string(c.Role) + " " + kid(0) + ")"
}

// conceptsOf makes all concepts of two names and two roles with up to so many parts.
func conceptsOf(most int) []impl.Con {
	bySize := [][]impl.Con{nil, {top, bot, named("A"), named("B")}}
	for n := 2; n <= most; n++ {
		var list []impl.Con
		for _, c := range bySize[n-1] {
			list = append(list, not(c), some("r", c), some("s", c), every("r", c), every("s", c))
		}
		for k := 1; k < n-1; k++ {
			for _, a := range bySize[k] {
				for _, b := range bySize[n-1-k] {
					list = append(list, and(a, b), or(a, b))
				}
			}
		}
		bySize = append(bySize, list)
	}
	return slices.Concat(bySize...)
}

// edges meet MaxParts or MaxDeep, or have long words, or parts that are there more than once.
func edges() []impl.Con {
	long := named("Zyxwvu")
	return []impl.Con{
		not(bush(4, "A")),
		and(bush(3, "A"), not(bush(3, "B"))),
		or(not(bush(3, "Abcdef")), bush(3, "Zyxwvu")),
		nots(5, named("A")),
		nots(5, top),
		some("abcdef", every("zyxwvu", some("r", every("s", some("abcdef", long))))),
		and(long, and(long, and(long, and(long, and(long, long))))),
		and(and(and(and(and(bot, top), named("C")), named("B")), named("A")), named("B")),
		or(some("abcdef", and(every("abcdef", long), every("abcdef", long))), or(or(not(long), not(long)), some("zyxwvu", not(long)))),
		and(named("Topp"), or(named("To"), and(named("Subs"), and(named("I"), or(named("Alla"), named("Notx")))))),
	}
}

// tooBig are right but for one part or one depth more than there may be.
func tooBig() []impl.Con {
	return []impl.Con{
		nots(2, bush(4, "A")),
		and(not(bush(3, "A")), not(bush(3, "B"))),
		or(some("r", bush(3, "A")), every("s", bush(3, "A"))),
		nots(6, named("A")),
		nots(6, top),
		bush(5, "A"),
		bush(7, "A"),
		and(named("A"), nots(5, named("A"))),
		or(nots(5, bot), named("A")),
		nots(40, named("A")),
	}
}

var upperStart = regexp.MustCompile(`[A-Z][a-z]*`)

// partTexts finds the parts in a concept's text: each begins at a capital.
func partTexts(text string) []string {
	var list []string
	for _, at := range upperStart.FindAllStringIndex(text, -1) {
		end, deep := at[1], 0
		for end < len(text) && (deep > 0 || text[end] == '(') {
			switch text[end] {
			case '(':
				deep++
			case ')':
				deep--
			}
			end++
		}
		list = append(list, text[at[0]:end])
	}
	return list
}

func eachOnce(list []string) []string {
	var out []string
	for _, s := range list {
		if !slices.Contains(out, s) {
			out = append(out, s)
		}
	}
	return out
}

func namesIn(text string) []string {
	var out []string
	for _, s := range upperStart.FindAllString(text, -1) {
		if !slices.Contains(keptWords, s) {
			out = append(out, s)
		}
	}
	slices.Sort(out)
	return slices.Compact(out)
}

func texts(list [][]byte) []string {
	var out []string
	for _, b := range list {
		out = append(out, string(b))
	}
	return out
}

// wanted is what may stand next, how deep: 'x' an axiom, 'q' a question, 'c' a concept, 'r' a role, 'i' an individual, or a bracket.
type wanted struct {
	what byte
	deep int
}

// tally is what was met on the way: words by what they stand for, and how many parts each outermost concept has.
type tally struct {
	axioms             int
	names, roles, inds []string
	parts              []int
}

var kindOfWanted = map[byte]int{'x': impl.TkUpper, 'q': impl.TkLower, 'c': impl.TkUpper, 'r': impl.TkLower, 'i': impl.TkLower, '(': impl.TkOpen, ')': impl.TkClose}

var behindConcept = map[string]string{"Top": "", "Bot": "", "Not": "(c)", "And": "(cc)", "Or": "(cc)", "Some": "(rc)", "All": "(rc)"}

var behindAxiom = map[string]string{"Sub": "(cc)", "Eq": "(cc)", "Dis": "(cc)", "Role": "(rr)", "Is": "(ic)", "Rel": "(rii)"}

var behindAsk = map[string]string{"sat": "c", "sub": "cc", "is": "ic", "get": "c", "whole": ""}

// meet tells what must stand behind a word of which the kind is right, and whether it may stand there.
func (n *tally) meet(next wanted, word string) (string, bool) {
	switch next.what {
	case 'x':
		n.axioms++
		behind, known := behindAxiom[word]
		return behind, known
	case 'q':
		behind, known := behindAsk[word]
		return behind, known
	case 'c':
		if next.deep == 1 {
			n.parts = append(n.parts, 0)
		}
		n.parts[len(n.parts)-1]++
		behind, known := behindConcept[word]
		if !known {
			n.names = append(n.names, word)
		}
		return behind, next.deep <= impl.MaxDeep && (known || !slices.Contains(keptWords, word))
	case 'r':
		n.roles = append(n.roles, word)
	case 'i':
		n.inds = append(n.inds, word)
	}
	return "", true
}

// readByStack reads with a stack of what is still wanted: another way to the place than the program's.
// Where that is an axiom, any number of them may stand. It takes texts that are too long, too.
func readByStack(text string, first wanted) (*tally, int) {
	n := &tally{}
	list, bad := tokensByPattern(text)
	if bad != -1 {
		return n, bad
	}
	var stack []wanted
	if first.what != 'x' {
		stack = append(stack, first)
	}
	for _, k := range list {
		if len(stack) == 0 && first.what == 'x' {
			stack = append(stack, first)
		}
		if len(stack) == 0 {
			return n, k.At
		}
		next := stack[len(stack)-1]
		stack = stack[:len(stack)-1]
		if kindOfWanted[next.what] != k.Kind {
			return n, k.At
		}
		behind, may := n.meet(next, string(k.Text))
		if !may {
			return n, k.At
		}
		for i := len(behind) - 1; i >= 0; i-- {
			stack = append(stack, wanted{behind[i], next.deep + 1})
		}
	}
	if len(stack) > 0 {
		return n, len(text)
	}
	return n, -1
}

func placeByStack(text string) int {
	n, bad := readByStack(text, wanted{'c', 1})
	if len(text) > impl.MaxText {
		return 0
	}
	if bad == -1 && n.parts[0] > impl.MaxParts {
		return len(text)
	}
	return bad
}

func checkRead(t *testing.T, text string) {
	t.Helper()
	c, bad := impl.ConRead([]byte(text))
	if want := placeByStack(text); bad != want {
		t.Fatalf("ConRead(%q) tells %d, want %d", text, bad, want)
	}
	if bad != -1 {
		if !sameCon(c, impl.Con{}) {
			t.Fatalf("ConRead(%q) = %v, %d", text, c, bad)
		}
		return
	}
	read, _ := impl.Tokens([]byte(text))
	written, fine := impl.Tokens([]byte(spell(c)))
	if fine != -1 || !slices.EqualFunc(read, written, sameButAt) {
		t.Fatalf("ConRead(%q) = %s", text, spell(c))
	}
}

func wantPlace(t *testing.T, text string, place int) {
	t.Helper()
	if c, bad := impl.ConRead([]byte(text)); bad != place || !sameCon(c, impl.Con{}) {
		t.Errorf("ConRead(%q) = %v, %d; want the zero value, %d", text, c, bad, place)
	}
	if want := placeByStack(text); want != place {
		t.Errorf("%q: the test's own reader tells %d, want %d", text, want, place)
	}
}

// wantRefused holds that each function of the chapter gives its fixed answer.
func wantRefused(t *testing.T, c impl.Con) {
	t.Helper()
	fine := named("A")
	n, nnf := impl.Nnf(c)
	o, opposite := impl.Opposite(c)
	switch {
	case impl.ConOk(c):
		t.Fatalf("%v is ConOk", c)
	case len(impl.ConText(c)) != 0:
		t.Fatalf("%v is written %q", c, impl.ConText(c))
	case impl.ConCmp(c, fine) != 0 || impl.ConCmp(fine, c) != 0 || impl.ConCmp(c, c) != 0:
		t.Fatalf("%v is compared", c)
	case nnf || !sameCon(n, impl.Con{}):
		t.Fatalf("Nnf(%v) = %v, %v", c, n, nnf)
	case opposite || !sameCon(o, impl.Con{}):
		t.Fatalf("Opposite(%v) = %v, %v", c, o, opposite)
	case impl.Parts(c) != 0 || len(impl.Subs(c)) != 0 || len(impl.ConNames(c)) != 0:
		t.Fatalf("%v has parts: %d, %v, %v", c, impl.Parts(c), impl.Subs(c), impl.ConNames(c))
	}
}

func cloneCon(c impl.Con) impl.Con {
	out := impl.Con{Kind: c.Kind, Name: bytes.Clone(c.Name), Role: bytes.Clone(c.Role)}
	for _, kid := range c.Kids {
		out.Kids = append(out.Kids, cloneCon(kid))
	}
	return out
}

// roomyCon is c, with other things behind the length of each list.
func roomyCon(c impl.Con) impl.Con {
	room := make([]impl.Con, 0, len(c.Kids)+2)
	for _, kid := range c.Kids {
		room = append(room, roomyCon(kid))
	}
	room = append(room, named("Other"), impl.Con{Kind: 77})
	return impl.Con{Kind: c.Kind, Name: roomyBytes(c.Name), Role: roomyBytes(c.Role), Kids: room[:len(c.Kids)]}
}

// nodes points to each part of c, so that a test can spoil it.
func nodes(c *impl.Con) []*impl.Con {
	list := []*impl.Con{c}
	for i := range c.Kids {
		list = append(list, nodes(&c.Kids[i])...)
	}
	return list
}

// spoils makes one concept wrong in all ways that ConOk names, but for how great it is.
func spoils(c impl.Con) []impl.Con {
	var list []impl.Con
	with := func(spoil func(*impl.Con)) {
		wrong := cloneCon(c)
		spoil(&wrong)
		list = append(list, wrong)
	}
	for _, kind := range []int{math.MinInt, -1, impl.CnAll + 1, 77, math.MaxInt} {
		with(func(w *impl.Con) { w.Kind = kind })
	}
	names, roles := []string{"A", "a", "\x00"}, []string{"r", "R", " "}
	if c.Kind == impl.CnName {
		names = append(slices.Clone(keptWords), "", "a", "Abcdefg", "AB", "aB", "A1", "A ", " A", "(", "\xff")
	}
	if c.Kind == impl.CnSome || c.Kind == impl.CnAll {
		roles = []string{"", "R", "Some", "rstuvwx", "rS", "r1", "r ", "(", "\xff"}
	}
	for _, s := range names {
		with(func(w *impl.Con) { w.Name = []byte(s) })
	}
	for _, s := range roles {
		with(func(w *impl.Con) { w.Role = []byte(s) })
	}
	with(func(w *impl.Con) { w.Kids = append(w.Kids, named("A")) })
	with(func(w *impl.Con) { w.Kids = append(w.Kids, top, top) })
	if len(c.Kids) > 0 {
		with(func(w *impl.Con) { w.Kids = nil })
		with(func(w *impl.Con) { w.Kids[0] = impl.Con{Kind: impl.CnName} })
	}
	if len(c.Kids) == 2 {
		with(func(w *impl.Con) { w.Kids = w.Kids[:1] })
		with(func(w *impl.Con) { w.Kids[1] = impl.Con{Kind: -1} })
	}
	return list
}

func TestConOkAndConTextOfOrdinaryConcepts(t *testing.T) {
	for _, c := range []struct {
		con  impl.Con
		text string
	}{
		{impl.Con{}, "Top"},
		{top, "Top"},
		{bot, "Bot"},
		{named("A"), "A"},
		{named("Abcdef"), "Abcdef"},
		{named("Tops"), "Tops"},
		{not(named("A")), "Not(A)"},
		{and(named("A"), named("B")), "And(A B)"},
		{or(named("A"), named("B")), "Or(A B)"},
		{some("r", named("A")), "Some(r A)"},
		{every("r", named("A")), "All(r A)"},
		{some("all", every("top", bot)), "Some(all All(top Bot))"},
		{and(not(some("r", named("A"))), or(top, every("s", not(named("B"))))), "And(Not(Some(r A)) Or(Top All(s Not(B))))"},
		{impl.Con{Kind: impl.CnBot, Name: []byte{}, Role: []byte{}, Kids: []impl.Con{}}, "Bot"},
	} {
		if got := string(impl.ConText(c.con)); !impl.ConOk(c.con) || got != c.text {
			t.Errorf("ConText(%v) = %q, want %q", c.con, got, c.text)
		}
	}
	for _, c := range append(conceptsOf(4), edges()...) {
		if got := string(impl.ConText(c)); !impl.ConOk(c) || got != spell(c) {
			t.Fatalf("ConText(%s) = %q", spell(c), got)
		}
	}
}

func TestConceptsThatAreTooBig(t *testing.T) {
	for _, c := range tooBig() {
		wantRefused(t, c)
		for _, kid := range c.Kids {
			wantPartsRight(t, kid)
		}
	}
}

// wantPartsRight holds that a concept is refused for its greatness alone.
func wantPartsRight(t *testing.T, c impl.Con) {
	t.Helper()
	fits := len(partTexts(spell(c))) <= impl.MaxParts && deepOf(c) <= impl.MaxDeep
	if impl.ConOk(c) != fits {
		t.Fatalf("ConOk(%s) = %v", spell(c), !fits)
	}
}

func deepOf(c impl.Con) int {
	deep := 0
	for _, kid := range c.Kids {
		deep = max(deep, deepOf(kid))
	}
	return deep + 1
}

func TestConOkCountsEachPart(t *testing.T) {
	// A row of n Not above a bush of 7 and one of 1 or 3: from 9 parts to more than MaxParts.
	for n := range 12 {
		for _, leaf := range []impl.Con{named("A"), bush(2, "A"), bush(3, "A")} {
			for _, c := range []impl.Con{nots(n, or(bush(3, "A"), leaf)), or(nots(n, leaf), bush(3, "B")), or(bush(4, "B"), nots(n, leaf))} {
				wantPartsRight(t, c)
			}
		}
	}
	if impl.Parts(not(bush(4, "A"))) != impl.MaxParts || len(impl.Subs(not(bush(4, "A")))) != 5 {
		t.Error("parts that are alike count each by itself")
	}
}

func TestWrongConcepts(t *testing.T) {
	sample := append(conceptsOf(3), edges()[0], edges()[7], edges()[8])
	for _, c := range sample {
		for i := range nodes(&c) {
			whole := cloneCon(c)
			part := nodes(&whole)[i]
			for _, wrong := range spoils(*part) {
				*part = wrong
				wantRefused(t, whole)
			}
		}
	}
}

func TestKindsWithTheShapeOfOthers(t *testing.T) {
	like := map[int]int{impl.CnTop: 0, impl.CnBot: 0, impl.CnName: 1, impl.CnNot: 2, impl.CnAnd: 3, impl.CnOr: 3, impl.CnSome: 4, impl.CnAll: 4}
	for _, c := range []impl.Con{top, bot, named("A"), not(top), and(top, bot), or(bot, top), some("r", top), every("r", bot)} {
		for kind := -2; kind < 12; kind++ {
			other := c
			other.Kind = kind
			shape, known := like[kind]
			if want := known && shape == like[c.Kind]; impl.ConOk(other) != want {
				t.Errorf("ConOk(%v) = %v", other, !want)
			}
		}
	}
}

func TestConceptsThatGoRoundOrAreWide(t *testing.T) {
	one := []impl.Con{{Kind: impl.CnNot}}
	one[0].Kids = one
	wantFastRefused(t, one[0])
	two := []impl.Con{{Kind: impl.CnAnd}, {Kind: impl.CnOr}}
	two[0].Kids, two[1].Kids = two, two
	wantFastRefused(t, two[0])
	wide := impl.Con{Kind: impl.CnAnd, Kids: make([]impl.Con, 1<<20)}
	wantFastRefused(t, wide)
	wantFastRefused(t, not(wide))
	wantFastRefused(t, nots(100000, named("A")))
	wantFastRefused(t, impl.Con{Kind: impl.CnName, Name: bytes.Repeat([]byte("a"), 1<<20)})
}

// wantFastRefused is wantRefused without telling the concept, which may have no end.
func wantFastRefused(t *testing.T, c impl.Con) {
	t.Helper()
	n, nnf := impl.Nnf(c)
	o, opposite := impl.Opposite(c)
	if impl.ConOk(c) || len(impl.ConText(c)) != 0 || impl.ConCmp(c, named("A")) != 0 || impl.ConCmp(named("A"), c) != 0 ||
		nnf || opposite || !sameCon(n, top) || !sameCon(o, top) ||
		impl.Parts(c) != 0 || len(impl.Subs(c)) != 0 || len(impl.ConNames(c)) != 0 {
		t.Error("a concept without end, or too wide, is not refused")
	}
}

// Promise 1: concepts come back from their texts.
func TestPromise1ConceptsComeBack(t *testing.T) {
	for _, c := range append(conceptsOf(4), edges()...) {
		text := impl.ConText(c)
		got, bad := impl.ConRead(text)
		if bad != -1 || !sameCon(got, c) {
			t.Fatalf("%q is read as %v, %d", text, got, bad)
		}
		if again := impl.ConText(got); !bytes.Equal(again, text) {
			t.Fatalf("%q is written again as %q", text, again)
		}
	}
}

func TestPromise1ConceptsComeBackWithOtherBlanks(t *testing.T) {
	for _, c := range append(conceptsOf(3), edges()...) {
		list, _ := impl.Tokens(impl.ConText(c))
		spread := string(impl.TokenText(list))
		tight := strings.NewReplacer("( ", "(", " (", "(", " )", ")").Replace(spread)
		tight = regexp.MustCompile(` ([A-Z])`).ReplaceAllString(tight, "$1")
		for _, text := range []string{
			spread, tight, " " + spread, "\n" + spread + "\n", spread + "  \n ",
			strings.ReplaceAll(spread, " ", "\n"), strings.ReplaceAll(spread, " ", " \n  \n"),
		} {
			got, bad := impl.ConRead([]byte(text))
			if bad != -1 || !sameCon(got, c) {
				t.Fatalf("%q is read as %v, %d", text, got, bad)
			}
		}
	}
}

func TestConReadOfLongTexts(t *testing.T) {
	full := "And(A Some(r B))" + strings.Repeat(" ", impl.MaxText-16)
	if c, bad := impl.ConRead([]byte(full)); bad != -1 || spell(c) != "And(A Some(r B))" {
		t.Error(c, bad)
	}
	wantPlace(t, full+" ", 0)
	wantPlace(t, strings.Repeat("\n", impl.MaxText), impl.MaxText)
	wantPlace(t, strings.Repeat("\n", impl.MaxText+1), 0)
	wantPlace(t, "And(A"+strings.Repeat(" ", impl.MaxText-5), impl.MaxText)
	wantPlace(t, "And(A"+strings.Repeat(" ", impl.MaxText-6)+"(", impl.MaxText-1)
	wantPlace(t, "A"+strings.Repeat("\n", impl.MaxText-2)+"B", impl.MaxText-1)
	wantPlace(t, strings.Repeat("And(", impl.MaxText/4), 4*impl.MaxDeep)
	wantPlace(t, strings.Repeat("(", impl.MaxText), 0)
}

func TestConReadTellsThePlace(t *testing.T) {
	for _, c := range []struct {
		text  string
		place int
	}{
		// That of Tokens, whatever stands ahead of it.
		{"?", 0}, {"And(A ?)", 6}, {"Sub ?", 4}, {"A B Abcdefg", 4}, {"And(A B1)", 7}, {"A\t", 1},
		// A word that can't stand where it does.
		{"a", 0}, {"(", 0}, {")", 0}, {"(A)", 0}, {" r", 1}, {"And A", 4}, {"And A B", 4}, {"Not)", 3}, {"Not Not(A)", 4},
		{"Some(A B)", 5}, {"Some(Some(r A))", 5}, {"Some r A", 5}, {"Some(r s)", 7}, {"All(r s A)", 6}, {"All((r A))", 4},
		{"And(A B C)", 8}, {"And(A)", 5}, {"And()", 4}, {"Or(A r)", 5}, {"Not(A B)", 6}, {"Not(r A)", 4}, {"Some(r)", 6},
		{"Some()", 5}, {"Some(r A B)", 9}, {"And(Top(A) B)", 7}, {"And(A(B))", 5}, {"And(A\nB\n\nC)", 9}, {"Not((A))", 4},
		// A word that is Kept where a name would stand.
		{"Sub", 0}, {" Eq", 1}, {"Dis(A B)", 0}, {"Not(Role)", 4}, {"And(A Is)", 6}, {"Some(r Rel)", 7}, {"Or(Sub ?", 7},
		{"Some(Sub A)", 5}, {"And(Sub(A B) C)", 4},
		// A token that lacks.
		{"", 0}, {" \n ", 3}, {"And", 3}, {"And(", 4}, {"And(A", 5}, {"And(A B", 7}, {"And(A B ", 8}, {"Not(A\n\n", 7},
		{"Some(", 5}, {"Some(r", 6}, {"Some(r Top", 10}, {"Not(Not(A)", 10}, {"Not(Not(Not(Not(Not(Not(", 24}, {"Not(Not(Not(Not(Not(Not( \n", 26},
		// The first one of a concept deeper than MaxDeep.
		{"Not(Not(Not(Not(Not(Not(A))))))", 24}, {"Not(Not(Not(Not(Not(Not(Top ?", 28}, {"Not(Not(Not(Not(Not(Not(\n Top", 26},
		{"Not(Not(Not(Not(Not(Not()", 24}, {"Not(Not(Not(Not(Not(Not(r", 24}, {"Not(Not(Not(Not(Not(Some(r A))))))", 27},
		{"And(A Not(Not(Not(Not(Not(B))))))", 26}, {"And(Not(Not(Not(Not(Not(A))))) sub", 24}, {"Not(Not(Not(Not(Not(And(A B))))))", 24},
		// One behind the concept.
		{"A B", 2}, {"A)", 1}, {"Top(A)", 3}, {"A(", 1}, {"Not(A))", 6}, {"And(A B) r", 9}, {"Bot\n\nTop", 5}, {"A Sub", 2}, {"AB", 1},
	} {
		wantPlace(t, c.text, c.place)
	}
}

func TestConReadOfTooManyParts(t *testing.T) {
	for _, c := range tooBig() {
		if deepOf(c) > impl.MaxDeep {
			continue
		}
		text := spell(c)
		wantPlace(t, text, len(text))
		wantPlace(t, text+" \n", len(text)+2)
		// One behind it counts first.
		wantPlace(t, text+" A \n", len(text)+1)
		wantPlace(t, text[:len(text)-1]+"\n", len(text))
		wantPlace(t, text[:len(text)-1]+"r)", len(text)-1)
	}
	for _, c := range edges() {
		checkRead(t, spell(c))
	}
}

func TestConReadOfAllShortTexts(t *testing.T) {
	words := func(alphabet string, most int) {
		list := strings.Fields(alphabet)
		eachText("", "0123456789"[:len(list)], most, func(s string) {
			var out []string
			for i := range s {
				out = append(out, list[s[i]-'0'])
			}
			checkRead(t, strings.Join(out, " "))
		})
	}
	words("A And Some Sub r ( )", 6)
	words("A Top Bot Not And Or Some All ( )", 5)
	words("A Not ( )", 8)
	words("Dis Role Is Rel Eq Top ( )", 4)
	eachText("", "Aa() \n?", 5, func(s string) { checkRead(t, s) })
}

func TestConReadOfTextsWithOneTokenWrong(t *testing.T) {
	others := []string{"A", "Top", "Not", "And", "Or", "Some", "All", "Eq", "r", "(", ")", "?", "\n"}
	for _, c := range append(conceptsOf(3), append(edges(), tooBig()[:5]...)...) {
		list := regexp.MustCompile(`[A-Za-z][a-z]*|[()]`).FindAllString(spell(c), -1)
		for i := range list {
			checkRead(t, strings.Join(list[:i], " "))
			checkRead(t, strings.Join(slices.Delete(slices.Clone(list), i, i+1), " "))
			for _, s := range others {
				checkRead(t, strings.Join(slices.Insert(slices.Clone(list), i, s), "\n"))
				checkRead(t, strings.Join(slices.Replace(slices.Clone(list), i, i+1, s), " "))
			}
		}
		for _, s := range others {
			checkRead(t, spell(c)+s)
		}
	}
}

func TestConCmp(t *testing.T) {
	list := append(conceptsOf(3), edges()...)
	for _, a := range list {
		for _, b := range list {
			if got, want := impl.ConCmp(a, b), strings.Compare(spell(a), spell(b)); got != want {
				t.Fatalf("ConCmp(%s, %s) = %d", spell(a), spell(b), got)
			}
		}
	}
	for _, c := range [][2]impl.Con{
		{named("A"), named("Aa")}, {and(top, top), named("B")}, {named("Z"), named("Za")}, {every("r", top), and(bot, bot)},
		{named("Anda"), bot}, {not(named("A")), not(named("B"))}, {some("r", top), some("s", bot)}, {or(top, bot), or(top, top)},
	} {
		if impl.ConCmp(c[0], c[1]) != -1 || impl.ConCmp(c[1], c[0]) != 1 || impl.ConCmp(c[0], cloneCon(c[0])) != 0 {
			t.Errorf("%s is not ahead of %s", spell(c[0]), spell(c[1]))
		}
	}
}

func wantTurned(t *testing.T, text, nnf, opposite string) {
	t.Helper()
	c, bad := impl.ConRead([]byte(text))
	n, ok := impl.Nnf(c)
	o, fine := impl.Opposite(c)
	if bad != -1 || !ok || !fine || spell(n) != nnf || spell(o) != opposite {
		t.Errorf("%s: Nnf %s (%v), Opposite %s (%v); want %s, %s", text, spell(n), ok, spell(o), fine, nnf, opposite)
	}
}

func TestNnfAndOpposite(t *testing.T) {
	wantTurned(t, "Top", "Top", "Bot")
	wantTurned(t, "Bot", "Bot", "Top")
	wantTurned(t, "A", "A", "Not(A)")
	wantTurned(t, "Not(A)", "Not(A)", "A")
	wantTurned(t, "Not(Top)", "Bot", "Top")
	wantTurned(t, "Not(Bot)", "Top", "Bot")
	wantTurned(t, "Not(Not(A))", "A", "Not(A)")
	wantTurned(t, "Not(Not(Not(A)))", "Not(A)", "A")
	wantTurned(t, "Not(Not(Not(Not(Not(Bot)))))", "Top", "Bot")
	wantTurned(t, "And(A B)", "And(A B)", "Or(Not(A) Not(B))")
	wantTurned(t, "Or(A B)", "Or(A B)", "And(Not(A) Not(B))")
	wantTurned(t, "Not(And(A Not(B)))", "Or(Not(A) B)", "And(A Not(B))")
	wantTurned(t, "Not(Or(Not(A) Top))", "And(A Bot)", "Or(Not(A) Top)")
	wantTurned(t, "Some(r A)", "Some(r A)", "All(r Not(A))")
	wantTurned(t, "All(s A)", "All(s A)", "Some(s Not(A))")
	wantTurned(t, "Not(Some(r A))", "All(r Not(A))", "Some(r A)")
	wantTurned(t, "Not(All(abcdef Not(Zyxwvu)))", "Some(abcdef Zyxwvu)", "All(abcdef Not(Zyxwvu))")
	wantTurned(t, "Some(r Not(And(A Top)))", "Some(r Or(Not(A) Bot))", "All(r And(A Top))")
	wantTurned(t, "And(Not(Some(r A)) Or(Top All(s Not(B))))", "And(All(r Not(A)) Or(Top All(s Not(B))))", "Or(Some(r A) And(Bot Some(s B)))")
	// Nothing but Not is changed: what could be said shorter stays.
	wantTurned(t, "And(Top Top)", "And(Top Top)", "Or(Bot Bot)")
	wantTurned(t, "Or(A Not(A))", "Or(A Not(A))", "And(Not(A) A)")
}

func TestNnfAndOppositeMayBeGreaterThanConOk(t *testing.T) {
	deep := "And(A And(B And(A And(B And(A B)))))"
	wantTurned(t, deep, deep, "Or(Not(A) Or(Not(B) Or(Not(A) Or(Not(B) Or(Not(A) Not(B))))))")
	wantTurned(t, "Not(And(And(And(A A) And(A A)) And(And(A A) And(A A))))",
		"Or(Or(Or(Not(A) Not(A)) Or(Not(A) Not(A))) Or(Or(Not(A) Not(A)) Or(Not(A) Not(A))))",
		"And(And(And(A A) And(A A)) And(And(A A) And(A A)))")
	wantTurned(t, "Some(r Some(r Some(r Some(r Some(r A)))))", "Some(r Some(r Some(r Some(r Some(r A)))))", "All(r All(r All(r All(r All(r Not(A))))))")
}

func TestNotIsAheadOfNamesAlone(t *testing.T) {
	early := regexp.MustCompile(`Not\((Top|Bot|Not|And|Or|Some|All)\b`)
	for _, c := range append(conceptsOf(5), edges()...) {
		n, ok := impl.Nnf(c)
		o, fine := impl.Opposite(c)
		if !ok || !fine || early.MatchString(spell(n)) || early.MatchString(spell(o)) {
			t.Fatalf("%s: %s, %s", spell(c), spell(n), spell(o))
		}
		if again, ok := impl.Nnf(n); impl.ConOk(n) && (!ok || !sameCon(again, n)) {
			t.Fatalf("%s: Nnf of Nnf is %s", spell(c), spell(again))
		}
		if back, ok := impl.Opposite(o); impl.ConOk(o) && (!ok || !sameCon(back, n)) {
			t.Fatalf("%s: the opposite of the opposite is %s", spell(c), spell(back))
		}
		if same, ok := impl.Nnf(not(c)); impl.ConOk(not(c)) && (!ok || !sameCon(same, o)) {
			t.Fatalf("%s: Nnf of Not of it is %s", spell(c), spell(same))
		}
	}
}

// pair is a world of two: bit e of a name tells whether it has e, bit 2 a + b of a role whether a is related to b.
type pair struct{ sets, rels map[string]int }

func (w pair) holds(c impl.Con, e int) bool {
	switch c.Kind {
	case impl.CnTop:
		return true
	case impl.CnBot:
		return false
	case impl.CnName:
		return w.sets[string(c.Name)]>>e&1 == 1
	case impl.CnNot:
		return !w.holds(c.Kids[0], e)
	case impl.CnAnd:
		return w.holds(c.Kids[0], e) && w.holds(c.Kids[1], e)
	case impl.CnOr:
		return w.holds(c.Kids[0], e) || w.holds(c.Kids[1], e)
	}
	// Some looks for one of whom the kid holds, All for one of whom it does not.
	found := false
	for to := range 2 {
		if w.rels[string(c.Role)]>>(2*e+to)&1 == 1 && w.holds(c.Kids[0], to) == (c.Kind == impl.CnSome) {
			found = true
		}
	}
	return found == (c.Kind == impl.CnSome)
}

// Promise 2: Nnf holds of just the same, Opposite of just all others.
func TestPromise2InEachSmallWorld(t *testing.T) {
	var worlds []pair
	for i := range 4 * 4 * 16 {
		for s := range 16 {
			worlds = append(worlds, pair{map[string]int{"A": i & 3, "B": i >> 2 & 3, "Zyxwvu": i & 3}, map[string]int{"r": i >> 4, "s": s, "abcdef": s, "zyxwvu": i >> 4}})
		}
	}
	for _, c := range append(conceptsOf(3), edges()...) {
		n, _ := impl.Nnf(c)
		o, _ := impl.Opposite(c)
		for _, w := range worlds {
			for e := range 2 {
				if is := w.holds(c, e); w.holds(n, e) != is || w.holds(o, e) == is {
					t.Fatalf("%s: %s, %s of %d in %v", spell(c), spell(n), spell(o), e, w)
				}
			}
		}
	}
}

func TestPartsSubsAndConNames(t *testing.T) {
	for _, c := range []struct {
		text  string
		parts int
		subs  []string
		names []string
	}{
		{"Top", 1, []string{"Top"}, nil},
		{"Bot", 1, []string{"Bot"}, nil},
		{"A", 1, []string{"A"}, []string{"A"}},
		{"And(A A)", 3, []string{"And(A A)", "A"}, []string{"A"}},
		{"Or(B A)", 3, []string{"Or(B A)", "B", "A"}, []string{"A", "B"}},
		{"Some(r Some(s A))", 3, []string{"Some(r Some(s A))", "Some(s A)", "A"}, []string{"A"}},
		{"And(Some(r A) Some(s A))", 5, []string{"And(Some(r A) Some(s A))", "Some(r A)", "A", "Some(s A)"}, []string{"A"}},
		{"And(Some(r A) All(r A))", 5, []string{"And(Some(r A) All(r A))", "Some(r A)", "A", "All(r A)"}, []string{"A"}},
		{"Or(And(B A) And(A B))", 7, []string{"Or(And(B A) And(A B))", "And(B A)", "B", "A", "And(A B)"}, []string{"A", "B"}},
		{"Or(Not(Ba) Or(B Or(Not(Ba) Aa)))", 9, []string{"Or(Not(Ba) Or(B Or(Not(Ba) Aa)))", "Not(Ba)", "Ba", "Or(B Or(Not(Ba) Aa))", "B", "Or(Not(Ba) Aa)", "Aa"}, []string{"Aa", "B", "Ba"}},
		{"And(Or(Top Bot) And(Bot Top))", 7, []string{"And(Or(Top Bot) And(Bot Top))", "Or(Top Bot)", "Top", "Bot", "And(Bot Top)"}, nil},
	} {
		con, bad := impl.ConRead([]byte(c.text))
		if bad != -1 || impl.Parts(con) != c.parts {
			t.Errorf("Parts(%s) = %d", c.text, impl.Parts(con))
		}
		var subs []string
		for _, s := range impl.Subs(con) {
			subs = append(subs, spell(s))
		}
		if !slices.Equal(subs, c.subs) || !slices.Equal(texts(impl.ConNames(con)), c.names) {
			t.Errorf("%s: Subs %q, ConNames %q", c.text, subs, impl.ConNames(con))
		}
	}
}

// Promise 2: parts are each once; those of a part are among them.
func TestPromise2PartsAreEachOnce(t *testing.T) {
	for _, c := range append(conceptsOf(4), edges()...) {
		all := partTexts(spell(c))
		if impl.Parts(c) != len(all) {
			t.Fatalf("Parts(%s) = %d", spell(c), impl.Parts(c))
		}
		subs := impl.Subs(c)
		var told []string
		for _, s := range subs {
			told = append(told, spell(s))
		}
		if !slices.Equal(told, eachOnce(all)) {
			t.Fatalf("Subs(%s) = %q", spell(c), told)
		}
		for _, s := range subs {
			for _, inner := range impl.Subs(s) {
				if !slices.ContainsFunc(subs, func(known impl.Con) bool { return sameCon(known, inner) }) {
					t.Fatalf("%s of %s is no part of %s", spell(inner), spell(s), spell(c))
				}
			}
		}
		if got := texts(impl.ConNames(c)); !slices.Equal(got, namesIn(spell(c))) {
			t.Fatalf("ConNames(%s) = %q", spell(c), got)
		}
	}
}

func TestConceptsShareNoMemory(t *testing.T) {
	for _, plain := range append(conceptsOf(3), edges()...) {
		c := roomyCon(plain)
		before := snapshot(c)
		n, _ := impl.Nnf(c)
		o, _ := impl.Opposite(c)
		subs, names, text := impl.Subs(c), impl.ConNames(c), impl.ConText(c)
		for _, answer := range []any{n, o, subs, names, text} {
			wantApart(t, answer, c)
		}
		if snapshot(c) != before {
			t.Fatalf("%s is changed", spell(plain))
		}
		wantN, _ := impl.Nnf(plain)
		wantO, _ := impl.Opposite(plain)
		if !impl.ConOk(c) || string(text) != spell(plain) || !sameCon(n, wantN) || !sameCon(o, wantO) || impl.Parts(c) != impl.Parts(plain) ||
			!slices.EqualFunc(subs, impl.Subs(plain), sameCon) || !slices.EqualFunc(names, impl.ConNames(plain), bytes.Equal) ||
			impl.ConCmp(c, plain) != 0 {
			t.Fatalf("%s: what lies behind the lengths is read", spell(plain))
		}
		source := roomyBytes(text)
		room := snapshot(source)
		read, bad := impl.ConRead(source)
		wantApart(t, read, source)
		if bad != -1 || snapshot(source) != room {
			t.Fatalf("%s: reading it changes it, or tells %d", spell(plain), bad)
		}
	}
}

func TestConceptsThatShareTheirParts(t *testing.T) {
	name := []byte("A")
	leaf := impl.Con{Kind: impl.CnName, Name: name}
	kids := []impl.Con{leaf, leaf}
	inner := impl.Con{Kind: impl.CnOr, Kids: kids}
	c := impl.Con{Kind: impl.CnAnd, Kids: []impl.Con{inner, inner}}
	n, _ := impl.Nnf(c)
	o, _ := impl.Opposite(c)
	for _, answer := range []any{n, o, impl.Subs(c), impl.ConNames(c)} {
		wantApart(t, answer, c)
	}
	if spell(c) != "And(Or(A A) Or(A A))" || spell(o) != "Or(And(Not(A) Not(A)) And(Not(A) Not(A)))" || !sameCon(n, c) {
		t.Error(spell(c), spell(n), spell(o))
	}
}

func TestConceptAnswersStayTheSame(t *testing.T) {
	c := edges()[8]
	ask := func() string {
		n, _ := impl.Nnf(c)
		o, _ := impl.Opposite(c)
		_, bad := impl.ConRead([]byte("And(A ("))
		return fmt.Sprint(impl.ConOk(c), impl.ConText(c), n, o, impl.Parts(c), impl.Subs(c), impl.ConNames(c), bad)
	}
	first := ask()
	impl.Subs(named("Other"))
	impl.ConRead([]byte("Not(Other)"))
	if ask() != first {
		t.Error("an answer hangs on an earlier call")
	}
}
