package tests

import (
	"bytes"
	"math"
	"regexp"
	"slices"
	"strings"
	"testing"

	"loop.example/g00534/impl"
)

func sub(c, d impl.Con) impl.Axiom { return impl.Axiom{Kind: impl.AxSub, C: c, D: d} }

func equal(c, d impl.Con) impl.Axiom { return impl.Axiom{Kind: impl.AxEq, C: c, D: d} }

func apart(c, d impl.Con) impl.Axiom { return impl.Axiom{Kind: impl.AxDis, C: c, D: d} }

func role(r, s string) impl.Axiom {
	return impl.Axiom{Kind: impl.AxRole, R: []byte(r), S: []byte(s)}
}

func is(a string, c impl.Con) impl.Axiom {
	return impl.Axiom{Kind: impl.AxIs, A: []byte(a), C: c}
}

func rel(r, a, b string) impl.Axiom {
	return impl.Axiom{Kind: impl.AxRel, R: []byte(r), A: []byte(a), B: []byte(b)}
}

func told(list ...impl.Axiom) impl.Kb { return impl.Kb{L: list} }

func sameAxiom(a, b impl.Axiom) bool {
	return a.Kind == b.Kind && sameCon(a.C, b.C) && sameCon(a.D, b.D) && bytes.Equal(a.R, b.R) && bytes.Equal(a.S, b.S) &&
		bytes.Equal(a.A, b.A) && bytes.Equal(a.B, b.B)
}

func sameKb(a, b impl.Kb) bool { return slices.EqualFunc(a.L, b.L, sameAxiom) }

// spellAxiom writes an axiom by the document's words.
func spellAxiom(x impl.Axiom) string {
	switch x.Kind {
	case impl.AxSub:
		return "Sub(" + spell(x.C) + " " + spell(x.D) + ")"
	case impl.AxEq:
		return "Eq(" + spell(x.C) + " " + spell(x.D) + ")"
	case impl.AxDis:
		return "Dis(" + spell(x.C) + " " + spell(x.D) + ")"
	case impl.AxRole:
		return "Role(" + string(x.R) + " " + string(x.S) + ")"
	case impl.AxIs:
		return "Is(" + string(x.A) + " " + spell(x.C) + ")"
	}
	return "Rel(" + string(x.R) + " " + string(x.A) + " " + string(x.B) + ")"
}

func spellKb(k impl.Kb) string {
	var out strings.Builder
	for _, x := range k.L {
		out.WriteString(spellAxiom(x) + "\n")
	}
	return out.String()
}

func eachOfThem(list []string) []string {
	out := slices.Clone(list)
	slices.Sort(out)
	return slices.Compact(out)
}

func (n *tally) fits() bool {
	return n.axioms <= impl.MaxAxioms && len(eachOfThem(n.names)) <= impl.MaxNames && len(eachOfThem(n.roles)) <= impl.MaxRoles &&
		len(eachOfThem(n.inds)) <= impl.MaxInds && (len(n.parts) == 0 || slices.Max(n.parts) <= impl.MaxParts)
}

// kbByStack is another way to what KbRead tells, and to what words there are.
func kbByStack(text string) (*tally, int) {
	n, bad := readByStack(text, wanted{'x', 0})
	switch {
	case len(text) > impl.MaxText:
		return n, 0
	case bad == -1 && !n.fits():
		return n, len(text)
	}
	return n, bad
}

// ordinary are axioms of each kind, of two names, two roles and two individuals.
func ordinary() []impl.Axiom {
	var list []impl.Axiom
	cons := conceptsOf(2)
	for _, c := range cons {
		for _, d := range cons {
			list = append(list, sub(c, d), equal(c, d), apart(c, d))
		}
		list = append(list, is("x", c), is("r", c))
	}
	for _, a := range []string{"r", "s"} {
		for _, b := range []string{"r", "s"} {
			list = append(list, role(a, b), rel("r", a, b), rel("s", "x", b))
		}
	}
	return list
}

func fullKb() impl.Kb {
	return told(sub(named("A"), some("r", named("B"))), equal(named("C"), and(named("A"), every("s", named("D")))), apart(named("B"), named("E")),
		role("r", "s"), role("s", "t"), is("x", not(named("A"))), rel("t", "x", "y"), is("z", top))
}

// someKbs are lists of up to MaxAxioms of the ordinary axioms, and lists that meet limits.
func someKbs() []impl.Kb {
	list := []impl.Kb{{}, {L: []impl.Axiom{}}, told(impl.Axiom{}), fullKb()}
	all := append(ordinary(), role("t", "r"), role("s", "t"), is("y", bot), rel("t", "y", "x"))
	few := slices.DeleteFunc(slices.Clone(all), func(x impl.Axiom) bool { return x.Kind <= impl.AxDis })
	step := uint(7)
	for i := range 400 {
		var k impl.Kb
		for range i % (impl.MaxAxioms + 1) {
			step = step*1103515245 + 12345
			from := all
			if step>>20&1 == 1 {
				from = few
			}
			k.L = append(k.L, from[(step>>24)%uint(len(from))])
		}
		if n, _ := readByStack(spellKb(k), wanted{'x', 0}); n.fits() {
			list = append(list, k)
		}
	}
	for _, c := range edges() {
		for _, k := range []impl.Kb{told(sub(c, top)), told(equal(named("C"), c), apart(c, c)), told(is("abcdef", c), rel("zyxwvu", "abcdef", "a"))} {
			if n, _ := readByStack(spellKb(k), wanted{'x', 0}); n.fits() {
				list = append(list, k)
			}
		}
	}
	return list
}

// wantAxiomRefused holds that each function of the chapter gives its fixed answer where the axiom is told.
func wantAxiomRefused(t *testing.T, x impl.Axiom) {
	t.Helper()
	if impl.AxiomOk(x) || len(impl.AxiomText(x)) != 0 {
		t.Fatalf("%v is AxiomOk, or written %q", x, impl.AxiomText(x))
	}
	for _, k := range []impl.Kb{told(x), told(role("r", "s"), x), told(x, is("x", named("A")))} {
		wantKbRefused(t, k)
	}
}

func wantKbRefused(t *testing.T, k impl.Kb) {
	t.Helper()
	rules, ok := impl.Rules(k)
	switch {
	case impl.KbOk(k):
		t.Fatalf("%v is KbOk", k)
	case len(impl.KbText(k)) != 0:
		t.Fatalf("%v is written %q", k, impl.KbText(k))
	case len(impl.KbNames(k)) != 0 || len(impl.KbRoles(k)) != 0 || len(impl.KbInds(k)) != 0:
		t.Fatalf("%v has words: %q, %q, %q", k, impl.KbNames(k), impl.KbRoles(k), impl.KbInds(k))
	case len(impl.Above(k, []byte("r"))) != 0 || len(impl.Above(k, nil)) != 0:
		t.Fatalf("%v: %q is above", k, impl.Above(k, []byte("r")))
	case ok || len(rules) != 0:
		t.Fatalf("%v has rules: %v, %v", k, rules, ok)
	}
}

func wantKbFine(t *testing.T, k impl.Kb) {
	t.Helper()
	if _, ok := impl.Rules(k); !impl.KbOk(k) || !ok || string(impl.KbText(k)) != spellKb(k) || len(impl.Above(k, []byte("other"))) != 1 {
		t.Fatalf("%s is refused, or written %q", spellKb(k), impl.KbText(k))
	}
	n, _ := readByStack(spellKb(k), wanted{'x', 0})
	for i, got := range [][][]byte{impl.KbNames(k), impl.KbRoles(k), impl.KbInds(k)} {
		if want := eachOfThem([][]string{n.names, n.roles, n.inds}[i]); !slices.Equal(texts(got), want) {
			t.Fatalf("%s has the words %q, want %q", spellKb(k), got, want)
		}
	}
}

func checkKbRead(t *testing.T, text string) {
	t.Helper()
	k, bad := impl.KbRead([]byte(text))
	if _, want := kbByStack(text); bad != want {
		t.Fatalf("KbRead(%q) tells %d, want %d", text, bad, want)
	}
	if bad != -1 {
		if len(k.L) != 0 {
			t.Fatalf("KbRead(%q) = %v, %d", text, k, bad)
		}
		return
	}
	read, _ := impl.Tokens([]byte(text))
	written, fine := impl.Tokens([]byte(spellKb(k)))
	if fine != -1 || !slices.EqualFunc(read, written, sameButAt) {
		t.Fatalf("KbRead(%q) = %s", text, spellKb(k))
	}
}

func wantKbPlace(t *testing.T, text string, place int) {
	t.Helper()
	if k, bad := impl.KbRead([]byte(text)); bad != place || len(k.L) != 0 {
		t.Errorf("KbRead(%q) = %v, %d; want the zero value, %d", text, k, bad, place)
	}
	if _, want := kbByStack(text); want != place {
		t.Errorf("%q: the test's own reader tells %d, want %d", text, want, place)
	}
}

func TestAxiomOkAndAxiomText(t *testing.T) {
	for _, c := range []struct {
		axiom impl.Axiom
		text  string
	}{
		{impl.Axiom{}, "Sub(Top Top)"},
		{sub(named("A"), named("B")), "Sub(A B)"},
		{equal(some("r", named("A")), bot), "Eq(Some(r A) Bot)"},
		{apart(not(top), or(named("A"), named("Abcdef"))), "Dis(Not(Top) Or(A Abcdef))"},
		{role("r", "s"), "Role(r s)"},
		{role("r", "r"), "Role(r r)"},
		{is("x", named("A")), "Is(x A)"},
		{is("abcdef", top), "Is(abcdef Top)"},
		{rel("r", "x", "y"), "Rel(r x y)"},
		{rel("rel", "rel", "rel"), "Rel(rel rel rel)"},
		{impl.Axiom{Kind: impl.AxRole, R: []byte("r"), S: []byte("s"), A: []byte{}, B: []byte{}, C: impl.Con{Name: []byte{}, Role: []byte{}, Kids: []impl.Con{}}}, "Role(r s)"},
	} {
		if got := string(impl.AxiomText(c.axiom)); !impl.AxiomOk(c.axiom) || got != c.text {
			t.Errorf("AxiomText(%v) = %q, want %q", c.axiom, got, c.text)
		}
	}
	list := ordinary()
	for _, c := range edges() {
		list = append(list, sub(c, top), equal(top, c), apart(c, c), is("x", c))
	}
	for _, x := range list {
		if got := string(impl.AxiomText(x)); !impl.AxiomOk(x) || got != spellAxiom(x) {
			t.Fatalf("AxiomText(%s) = %q", spellAxiom(x), got)
		}
		wantKbFineIfItFits(t, told(x))
	}
}

// An axiom alone may have more names than a list of axioms may.
func wantKbFineIfItFits(t *testing.T, k impl.Kb) {
	t.Helper()
	if n, _ := readByStack(spellKb(k), wanted{'x', 0}); n.fits() {
		wantKbFine(t, k)
	} else {
		wantKbRefused(t, k)
	}
}

var wrongLower = []string{"R", "Some", "rstuvwx", "rS", "r1", "r ", " r", "(", "\x00", "\xff"}

// field is one of an axiom's, and whether its kind has it.
type field struct {
	at   *[]byte
	con  *impl.Con
	here bool
}

func fieldsOf(x *impl.Axiom) []field {
	has := map[int]string{impl.AxSub: "CD", impl.AxEq: "CD", impl.AxDis: "CD", impl.AxRole: "RS", impl.AxIs: "AC", impl.AxRel: "RAB"}[x.Kind]
	list := []field{{con: &x.C}, {con: &x.D}, {at: &x.R}, {at: &x.S}, {at: &x.A}, {at: &x.B}}
	for i := range list {
		list[i].here = strings.Contains(has, "CDRSAB"[i:i+1])
	}
	return list
}

func wrongTexts(here bool) [][]byte {
	list := [][]byte{nil, {}}
	if !here {
		list = [][]byte{[]byte("r"), []byte("abcdef"), []byte("A")}
	}
	for _, s := range wrongLower {
		list = append(list, []byte(s))
	}
	return list
}

func wrongCons(c impl.Con, here bool) []impl.Con {
	if here {
		return append(spoils(c), tooBig()...)
	}
	return []impl.Con{bot, named("A"), not(top), some("r", top), {Kind: -1}, {Kind: 77}, {Kind: impl.CnName},
		{Name: []byte("A")}, {Role: []byte("r")}, {Kids: []impl.Con{top}}, {Kids: make([]impl.Con, 1<<20)}}
}

func TestWrongAxioms(t *testing.T) {
	for _, kind := range []int{math.MinInt, -1, impl.AxRole, impl.AxIs, impl.AxRel, impl.AxRel + 1, math.MaxInt} {
		wantAxiomRefused(t, impl.Axiom{Kind: kind})
	}
	for _, fine := range []impl.Axiom{sub(named("A"), some("r", top)), equal(top, bot), apart(not(named("A")), every("r", named("B"))),
		role("r", "s"), is("x", named("A")), is("x", and(top, bot)), rel("r", "x", "y")} {
		if !impl.AxiomOk(fine) {
			t.Fatal(fine)
		}
		for _, kind := range []int{math.MinInt, -1, impl.AxRel + 1, 77, math.MaxInt} {
			wrong := fine
			wrong.Kind = kind
			wantAxiomRefused(t, wrong)
		}
		for i := range fieldsOf(&fine) {
			x := fine
			f := fieldsOf(&x)[i]
			if f.con == nil {
				for _, wrong := range wrongTexts(f.here) {
					*f.at = wrong
					wantAxiomRefused(t, x)
				}
				continue
			}
			for _, wrong := range wrongCons(*f.con, f.here) {
				*f.con = wrong
				wantAxiomRefused(t, x)
			}
		}
	}
}

func TestAxiomKindsWithTheFieldsOfOthers(t *testing.T) {
	like := map[int]int{impl.AxSub: 0, impl.AxEq: 0, impl.AxDis: 0, impl.AxRole: 1, impl.AxIs: 2, impl.AxRel: 3}
	for _, x := range []impl.Axiom{sub(bot, bot), equal(named("A"), bot), apart(bot, named("A")), role("r", "r"), is("x", bot), is("x", top), rel("r", "x", "y")} {
		for kind := -2; kind < 10; kind++ {
			other := x
			other.Kind = kind
			shape, known := like[kind]
			if want := known && shape == like[x.Kind]; impl.AxiomOk(other) != want {
				t.Errorf("AxiomOk(%v) = %v", other, !want)
			}
		}
	}
}

func TestAxiomsThatGoRoundOrAreWide(t *testing.T) {
	round := []impl.Con{{Kind: impl.CnAnd}, {Kind: impl.CnNot}}
	round[0].Kids, round[1].Kids = round, round[:1]
	wide := impl.Con{Kind: impl.CnOr, Kids: make([]impl.Con, 1<<20)}
	for _, c := range []impl.Con{round[0], round[1], wide, nots(100000, top)} {
		for _, x := range []impl.Axiom{sub(c, top), sub(top, c), equal(c, c), apart(top, c), is("x", c),
			{Kind: impl.AxRole, R: []byte("r"), S: []byte("s"), C: c}, {Kind: impl.AxRel, R: []byte("r"), A: []byte("x"), B: []byte("y"), D: c}} {
			k := told(x)
			rules, ok := impl.Rules(k)
			if impl.AxiomOk(x) || impl.KbOk(k) || len(impl.AxiomText(x)) != 0 || len(impl.KbText(k)) != 0 || len(impl.KbNames(k)) != 0 ||
				len(impl.KbRoles(k)) != 0 || len(impl.KbInds(k)) != 0 || len(impl.Above(k, []byte("r"))) != 0 || ok || len(rules) != 0 {
				t.Error("an axiom without end, or too wide, is not refused")
			}
		}
	}
	if impl.KbOk(impl.Kb{L: make([]impl.Axiom, 1<<20)}) {
		t.Error("2^20 axioms")
	}
}

func TestMostAxioms(t *testing.T) {
	for _, x := range []impl.Axiom{{}, sub(named("A"), named("B")), equal(top, bot), apart(top, bot), role("r", "s"), is("x", top), rel("r", "x", "y")} {
		full := told(slices.Repeat([]impl.Axiom{x}, impl.MaxAxioms)...)
		wantKbFine(t, full)
		more := told(append(full.L, x)...)
		wantKbRefused(t, more)
		checkKbRead(t, spellKb(full))
		wantKbPlace(t, spellKb(more), len(spellKb(more)))
	}
	wantKbFine(t, impl.Kb{})
	wantKbFine(t, impl.Kb{L: []impl.Axiom{}})
}

// wantLimit holds that all of the axioms are accepted, and that with one more word none are.
func wantLimit(t *testing.T, most impl.Kb, more ...impl.Axiom) {
	t.Helper()
	wantKbFine(t, most)
	checkKbRead(t, spellKb(most))
	for _, x := range more {
		if !impl.AxiomOk(x) {
			t.Fatal(x)
		}
		for _, k := range []impl.Kb{told(append(slices.Clone(most.L), x)...), told(append([]impl.Axiom{x}, most.L...)...)} {
			wantKbRefused(t, k)
			wantKbPlace(t, spellKb(k), len(spellKb(k)))
		}
	}
}

func TestMostNames(t *testing.T) {
	a, b, c, d, e, f := named("A"), named("B"), named("C"), named("D"), named("E"), named("Abcdef")
	inOne := told(sub(and(a, and(b, c)), or(d, e)))
	more := []impl.Axiom{sub(f, f), sub(top, f), equal(f, a), equal(a, not(f)), apart(f, a), apart(e, some("r", f)), is("x", f), is("x", every("r", f))}
	wantLimit(t, inOne, more...)
	wantLimit(t, told(sub(a, b), equal(c, d), is("x", e), role("a", "b"), rel("a", "c", "d")), more[:3]...)
	wantLimit(t, told(is("x", a), is("y", b), is("z", c), apart(d, not(e)), sub(a, e), equal(b, and(c, d))), more[4:6]...)
	// In all, not in each: and one axiom may have too many alone.
	six := sub(and(a, and(b, c)), and(d, and(e, f)))
	if !impl.AxiomOk(six) || string(impl.AxiomText(six)) != spellAxiom(six) {
		t.Error("six names are too many for a list of axioms, not for an axiom")
	}
	wantKbRefused(t, told(six))
	wantKbPlace(t, spellAxiom(six), len(spellAxiom(six)))
}

func TestMostRoles(t *testing.T) {
	more := []impl.Axiom{role("r", "u"), role("u", "r"), rel("u", "x", "y"), sub(top, some("u", top)), equal(every("u", top), top),
		apart(not(some("u", bot)), top), is("x", every("u", bot)), role("abcdef", "abcdef")}
	wantLimit(t, told(role("r", "s"), role("s", "t")), more...)
	wantLimit(t, told(sub(some("r", top), every("s", top)), rel("t", "x", "y")), more...)
	wantLimit(t, told(is("x", some("r", every("s", some("t", top)))), is("u", top), rel("r", "u", "v")), more...)
	wantLimit(t, told(role("r", "s"), rel("t", "r", "s"), equal(some("r", top), every("t", bot))), more...)
	four := equal(some("r", some("s", top)), every("t", every("u", top)))
	if !impl.AxiomOk(four) {
		t.Error("four roles are too many for a list of axioms, not for an axiom")
	}
	wantKbRefused(t, told(four))
}

func TestMostInds(t *testing.T) {
	more := []impl.Axiom{is("u", top), rel("r", "u", "x"), rel("r", "x", "u"), rel("r", "u", "u"), is("abcdef", named("A"))}
	wantLimit(t, told(is("x", top), is("y", bot), is("z", named("A"))), more...)
	wantLimit(t, told(rel("r", "x", "y"), rel("s", "z", "x"), role("u", "r")), more...)
	wantLimit(t, told(is("x", named("A")), rel("r", "y", "z"), rel("r", "z", "x")), more...)
}

// One word may be a role and an individual: it counts as each of them alone.
func TestRolesAreNoIndividuals(t *testing.T) {
	k := told(role("a", "b"), rel("c", "a", "b"), is("c", named("A")))
	wantKbFine(t, k)
	k = told(rel("a", "d", "e"), rel("b", "f", "d"), role("c", "a"))
	wantKbFine(t, k)
	if got := texts(impl.KbRoles(k)); !slices.Equal(got, []string{"a", "b", "c"}) {
		t.Error(got)
	}
	if got := texts(impl.KbInds(k)); !slices.Equal(got, []string{"d", "e", "f"}) {
		t.Error(got)
	}
}

func TestWordsAscend(t *testing.T) {
	k := told(sub(named("Ba"), and(named("B"), named("Ab"))), is("zz", or(named("Z"), named("Ba"))), is("z", named("Aa")),
		rel("b", "a", "zz"), role("ba", "ab"), sub(every("ba", top), named("B")))
	wantKbFine(t, k)
	if got := texts(impl.KbNames(k)); !slices.Equal(got, []string{"Aa", "Ab", "B", "Ba", "Z"}) {
		t.Error(got)
	}
	if got := texts(impl.KbRoles(k)); !slices.Equal(got, []string{"ab", "b", "ba"}) {
		t.Error(got)
	}
	if got := texts(impl.KbInds(k)); !slices.Equal(got, []string{"a", "z", "zz"}) {
		t.Error(got)
	}
}

func TestKbsOfManyKinds(t *testing.T) {
	for _, k := range someKbs() {
		wantKbFine(t, k)
	}
}

// Promise 1: axioms come back from their texts.
func TestPromise1AxiomsComeBack(t *testing.T) {
	for _, x := range ordinary() {
		text := impl.AxiomText(x)
		k, bad := impl.KbRead(text)
		if bad != -1 || !sameKb(k, told(x)) {
			t.Fatalf("%q is read as %v, %d", text, k, bad)
		}
	}
	for _, k := range someKbs() {
		text := impl.KbText(k)
		got, bad := impl.KbRead(text)
		if len(text) > impl.MaxText {
			t.Fatalf("%q is too long for this test", text)
		}
		if bad != -1 || !sameKb(got, k) {
			t.Fatalf("%q is read as %v, %d", text, got, bad)
		}
		if again := impl.KbText(got); !bytes.Equal(again, text) {
			t.Fatalf("%q is written again as %q", text, again)
		}
	}
}

func TestPromise1AxiomsComeBackWithOtherBlanks(t *testing.T) {
	for _, k := range someKbs() {
		list, _ := impl.Tokens(impl.KbText(k))
		spread := string(impl.TokenText(list))
		tight := strings.NewReplacer("( ", "(", " (", "(", " )", ")").Replace(spread)
		tight = regexp.MustCompile(` ([A-Z])`).ReplaceAllString(tight, "$1")
		for _, text := range []string{
			spread, tight, " " + spread, "\n" + spread + "\n", spread + "  \n ",
			strings.ReplaceAll(spread, " ", "\n"), strings.ReplaceAll(spread, ") ", " ) \n\n"),
		} {
			if len(text) > impl.MaxText {
				wantKbPlace(t, text, 0)
				continue
			}
			got, bad := impl.KbRead([]byte(text))
			if bad != -1 || !sameKb(got, k) {
				t.Fatalf("%q is read as %v, %d", text, got, bad)
			}
		}
	}
}

// longKb is MaxAxioms axioms of the greatest concepts, with a text of just so many bytes.
func longKb(t *testing.T, long int) impl.Kb {
	t.Helper()
	great := or(not(bush(3, "Abcdef")), bush(3, "Abcdef"))
	var k impl.Kb
	for range impl.MaxAxioms {
		k.L = append(k.L, equal(cloneCon(great), cloneCon(great)))
	}
	for i := range k.L {
		for _, part := range append(nodes(&k.L[i].C), nodes(&k.L[i].D)...) {
			if over := len(spellKb(k)) - long; part.Kind == impl.CnName && over > 0 {
				part.Name = part.Name[:max(1, 6-over)]
			}
		}
	}
	if len(spellKb(k)) != long {
		t.Fatal(len(spellKb(k)))
	}
	return k
}

func TestPromise1LongAxiomsComeBack(t *testing.T) {
	for _, long := range []int{impl.MaxText - 1, impl.MaxText} {
		k := longKb(t, long)
		wantKbFine(t, k)
		if got, bad := impl.KbRead(impl.KbText(k)); bad != -1 || !sameKb(got, k) {
			t.Error(long, bad)
		}
	}
	for _, long := range []int{impl.MaxText + 1, impl.MaxText + 50} {
		k := longKb(t, long)
		wantKbFine(t, k)
		wantKbPlace(t, string(impl.KbText(k)), 0)
	}
}

func TestKbReadOfLongTexts(t *testing.T) {
	axiom := "Rel(r x y)"
	full := axiom + strings.Repeat("\n", impl.MaxText-2*len(axiom)) + axiom
	if k, bad := impl.KbRead([]byte(full)); bad != -1 || !sameKb(k, told(rel("r", "x", "y"), rel("r", "x", "y"))) {
		t.Error(k, bad)
	}
	wantKbPlace(t, full+" ", 0)
	if k, bad := impl.KbRead(bytes.Repeat([]byte("\n"), impl.MaxText)); bad != -1 || len(k.L) != 0 {
		t.Error(k, bad)
	}
	wantKbPlace(t, strings.Repeat("\n", impl.MaxText+1), 0)
	wantKbPlace(t, strings.Repeat(axiom, impl.MaxText/len(axiom)), impl.MaxText)
	wantKbPlace(t, strings.Repeat(axiom, impl.MaxText/len(axiom)-1)+"Rel(r x y", impl.MaxText-1)
	wantKbPlace(t, strings.Repeat(axiom, impl.MaxText/len(axiom)-1)+"Rel(r x Y)", impl.MaxText-2)
}

func TestKbReadOfNothing(t *testing.T) {
	for _, text := range []string{"", " ", "\n", " \n\n  \n"} {
		if k, bad := impl.KbRead([]byte(text)); bad != -1 || len(k.L) != 0 {
			t.Errorf("KbRead(%q) = %v, %d", text, k, bad)
		}
	}
	if k, bad := impl.KbRead(nil); bad != -1 || len(k.L) != 0 {
		t.Error(k, bad)
	}
}

func TestKbReadTellsThePlace(t *testing.T) {
	for _, c := range []struct {
		text  string
		place int
	}{
		// That of Tokens, whatever stands ahead of it.
		{"?", 0}, {"And ?", 4}, {"Sub(A B)\nDis(A ?)", 15}, {"Sub(A B) Abcdefg", 9}, {"Is(x A)\t", 7}, {"Rel(r x1)", 7},
		// Another word where an axiom's would stand.
		{"Sub(A B) And(A B)", 9}, {"And(A B)", 0}, {" A", 1}, {"Top", 0}, {"Not(Sub(A B))", 0}, {"Subs(A B)", 0}, {"Su(A B)", 0}, {"Role(r s)Rol(r s)", 9},
		{"sub(A B)", 0}, {"(", 0}, {")", 0}, {"(Sub(A B))", 0}, {"Sub(A B))", 8}, {"Sub(A B) r", 9}, {"Sub(A B)\n(", 9}, {"Is(x A) x", 8}, {"Rel(r x y) Top", 11},
		// Those of ConRead within an axiom.
		{"Sub(r A)", 4}, {"Sub(A r)", 6}, {"Sub(A Sub(A B))", 6}, {"Sub(Eq B)", 4}, {"Dis(A Role)", 6}, {"Is(x Rel)", 5}, {"Eq(And(A) B)", 8}, {"Eq(A And(A B C))", 13},
		{"Sub((A) B)", 4}, {"Sub(Top(A) B)", 7}, {"Sub(A(B) C)", 5}, {"Sub(Some(A) B)", 9}, {"Is(x Some(r s))", 12}, {"Sub(Not A B)", 8}, {"Is(x Some r A)", 10},
		{"Sub(Not(Not(Not(Not(Not(Not(A)))))) B)", 28}, {"Sub(A Not(Not(Not(Not(Not(Not(A)))))))", 30}, {"Is(x Not(Not(Not(Not(Not(Not(\n\nr", 31}, {"Is(x Not(Not(Not(Not(Not(Not(\n\n", 31},
		// A token that can't stand in an axiom.
		{"Sub A B", 4}, {"Sub)", 3}, {"Sub()", 4}, {"Sub(A)", 5}, {"Sub(A B C)", 8}, {"Sub(A B(", 7}, {"Eq Eq(A B)", 3}, {"Dis(A B Dis(A B)", 8},
		{"Role(R s)", 5}, {"Role(r S)", 7}, {"Role(r)", 6}, {"Role()", 5}, {"Role(r s t)", 9}, {"Role r s", 5}, {"Role((r s))", 5}, {"Role(r Top)", 7},
		{"Is(A x)", 3}, {"Is(x)", 4}, {"Is()", 3}, {"Is(x y)", 5}, {"Is(x A B)", 7}, {"Is(Is A)", 3}, {"Is x A", 3}, {"Is(x y A)", 5},
		{"Rel(R x y)", 4}, {"Rel(r X y)", 6}, {"Rel(r x Y)", 8}, {"Rel(r x)", 7}, {"Rel(r)", 5}, {"Rel()", 4}, {"Rel(r x y z)", 10}, {"Rel(r x y A)", 10}, {"Rel r x y", 4},
		// A token that lacks.
		{"Sub", 3}, {"Sub(", 4}, {"Sub(A", 5}, {"Sub(A B", 7}, {"Sub(A B\n \n", 10}, {"Sub(A And(A B)", 14}, {"Sub(A B) Eq", 11}, {"Sub(A B) Eq(A B ", 16},
		{"Role", 4}, {"Role(", 5}, {"Role(r", 6}, {"Role(r s", 8}, {"Is", 2}, {"Is(", 3}, {"Is(x", 4}, {"Is(x A", 6}, {"Rel", 3}, {"Rel(r", 5}, {"Rel(r x", 7}, {"Rel(r x y", 9},
	} {
		wantKbPlace(t, c.text, c.place)
	}
}

func TestKbReadOfWhatIsNotKbOk(t *testing.T) {
	for _, c := range tooBig() {
		if deepOf(c) > impl.MaxDeep {
			continue
		}
		for _, x := range []impl.Axiom{sub(c, top), sub(top, c), equal(c, top), equal(top, c), apart(c, top), apart(top, c), is("x", c)} {
			text := spellAxiom(x)
			wantKbPlace(t, text, len(text))
			wantKbPlace(t, text+"\n\nSub(A B)\n", len(text)+11)
			wantKbPlace(t, "Sub(A B)"+text, len(text)+8)
			// A token that can't stand where it does counts first, wherever it is.
			wantKbPlace(t, text+" A \n", len(text)+1)
			wantKbPlace(t, text[:len(text)-1]+"\n", len(text))
			wantKbPlace(t, text+"Sub(A B", len(text)+7)
			wantKbPlace(t, text+"Sub(A b)", len(text)+6)
		}
	}
	many := strings.Repeat("Sub(A B)", impl.MaxAxioms+1)
	wantKbPlace(t, many+" ", len(many)+1)
	wantKbPlace(t, many+"Top", len(many))
	wantKbPlace(t, many+"Sub(?", len(many)+4)
	// Parts are those of one concept, not of the axiom, nor of all.
	checkKbRead(t, strings.Repeat(spellAxiom(sub(edges()[0], edges()[1])), 3))
}

func TestKbReadOfAllShortTexts(t *testing.T) {
	words := func(alphabet string, most int, head string) {
		list := strings.Fields(alphabet)
		eachText("", "0123456789"[:len(list)], most, func(s string) {
			out := head
			for i := range s {
				out += list[s[i]-'0'] + " "
			}
			checkKbRead(t, out)
		})
	}
	words("Sub Role Is Rel A r ( )", 6, "")
	words("Sub Role Is Rel A r ( )", 5, "Eq ( A B ) ")
	words("A Top Not Some Dis r ( )", 5, "Dis ( ")
	words("A r ( )", 6, "Is ( ")
	words("A r ( )", 6, "Rel ( r ")
	words("Sub Eq Dis Role Is Rel Not ( )", 4, "")
	eachText("", "AIsx() \n?", 5, func(s string) { checkKbRead(t, s) })
}

func TestKbReadOfTextsWithOneTokenWrong(t *testing.T) {
	others := []string{"A", "Top", "Not", "And", "Some", "Sub", "Eq", "Dis", "Role", "Is", "Rel", "r", "(", ")", "?", "\n"}
	// Each time many texts: some of the lists stand for all.
	for at, k := range someKbs() {
		if at%21 > 0 {
			continue
		}
		list := regexp.MustCompile(`[A-Za-z][a-z]*|[()]`).FindAllString(spellKb(k), -1)
		for i := range list {
			checkKbRead(t, strings.Join(list[:i], " "))
			checkKbRead(t, strings.Join(slices.Delete(slices.Clone(list), i, i+1), " "))
			for _, s := range others {
				checkKbRead(t, strings.Join(slices.Insert(slices.Clone(list), i, s), "\n"))
				checkKbRead(t, strings.Join(slices.Replace(slices.Clone(list), i, i+1, s), " "))
			}
		}
	}
}

func wantAbove(t *testing.T, k impl.Kb, role string, want ...string) {
	t.Helper()
	if got := texts(impl.Above(k, []byte(role))); !slices.Equal(got, want) {
		t.Errorf("%s: above %q are %q, want %q", spellKb(k), role, got, want)
	}
}

func TestAbove(t *testing.T) {
	wantAbove(t, impl.Kb{}, "r", "r")
	wantAbove(t, impl.Kb{}, "abcdef", "abcdef")
	wantAbove(t, told(role("r", "s")), "r", "r", "s")
	wantAbove(t, told(role("s", "r")), "s", "r", "s")
	wantAbove(t, told(role("r", "s")), "s", "s")
	wantAbove(t, told(role("r", "r"), role("r", "r")), "r", "r")
	// Through several roles, whatever their order.
	wantAbove(t, told(role("r", "s"), role("s", "a")), "r", "a", "r", "s")
	wantAbove(t, told(role("s", "a"), role("r", "s")), "r", "a", "r", "s")
	wantAbove(t, told(role("s", "a"), role("r", "s")), "a", "a")
	wantAbove(t, told(role("r", "s"), role("r", "t"), role("r", "s")), "r", "r", "s", "t")
	// Round about.
	wantAbove(t, told(role("r", "s"), role("s", "r")), "r", "r", "s")
	wantAbove(t, told(role("c", "a"), role("a", "b"), role("b", "c")), "b", "a", "b", "c")
	wantAbove(t, told(role("a", "b"), role("b", "a"), role("b", "c"), role("c", "c")), "c", "c")
	// Of a role that is in no axiom, or in none of roles.
	wantAbove(t, told(role("r", "s"), role("s", "t")), "u", "u")
	wantAbove(t, told(role("r", "s"), role("s", "t")), "sr", "sr")
	wantAbove(t, told(role("r", "s"), role("s", "t")), "rr", "rr")
	wantAbove(t, told(rel("r", "s", "t"), is("r", some("r", named("S")))), "r", "r")
	wantAbove(t, told(sub(some("r", top), some("s", top)), equal(some("r", top), top)), "r", "r")
	wantAbove(t, told(rel("r", "x", "y"), role("r", "s"), rel("s", "y", "x")), "r", "r", "s")
	wantAbove(t, fullKb(), "r", "r", "s", "t")
	// Texts ascend by their bytes.
	wantAbove(t, told(role("b", "ba"), role("ba", "aa")), "b", "aa", "b", "ba")
	wantAbove(t, told(role("abcdef", "abcde"), role("abcde", "b")), "abcdef", "abcde", "abcdef", "b")
	for _, wrong := range append([]string{"", "A", "Role"}, wrongLower...) {
		wantAbove(t, fullKb(), wrong)
		wantAbove(t, impl.Kb{}, wrong)
	}
	if len(impl.Above(fullKb(), nil)) != 0 {
		t.Error("nil is a role")
	}
}

// Promise 3: roles are above themselves; what is above what is above one is above it.
func TestPromise3RolesAbove(t *testing.T) {
	names := []string{"a", "b", "c"}
	for edges := range 1 << 9 {
		var k impl.Kb
		var above [3][3]bool
		for i := range 9 {
			// Downwards, so that what is higher up often comes first.
			if low, high := (8-i)/3, (8-i)%3; edges>>i&1 == 1 {
				k.L = append(k.L, role(names[low], names[high]))
				above[low][high] = true
			}
		}
		if len(k.L) > impl.MaxAxioms {
			continue
		}
		for i := range 3 {
			above[i][i] = true
		}
		for via := range 3 {
			for low := range 3 {
				for high := range 3 {
					above[low][high] = above[low][high] || above[low][via] && above[via][high]
				}
			}
		}
		for low := range 3 {
			var want []string
			for high := range 3 {
				if above[low][high] {
					want = append(want, names[high])
				}
			}
			wantAbove(t, k, names[low], want...)
		}
		wantAboveClosed(t, k, append(names, "aa", "d"))
	}
}

// wantAboveClosed holds the promise by what Above itself tells.
func wantAboveClosed(t *testing.T, k impl.Kb, roles []string) {
	t.Helper()
	for _, low := range roles {
		over := texts(impl.Above(k, []byte(low)))
		if !slices.Contains(over, low) || !slices.Equal(over, eachOfThem(over)) {
			t.Fatalf("%s: above %s are %q", spellKb(k), low, over)
		}
		for _, mid := range over {
			for _, high := range texts(impl.Above(k, []byte(mid))) {
				if !slices.Contains(over, high) {
					t.Fatalf("%s: %s is above %s, not above %s", spellKb(k), high, mid, low)
				}
			}
		}
	}
}

func TestPromise3RolesAboveInOtherAxioms(t *testing.T) {
	for _, k := range someKbs() {
		wantAboveClosed(t, k, []string{"r", "s", "t", "u", "x", "abcdef"})
	}
}

func wantRules(t *testing.T, text string, want ...string) {
	t.Helper()
	k, bad := impl.KbRead([]byte(text))
	rules, ok := impl.Rules(k)
	var got []string
	for _, c := range rules {
		got = append(got, spell(c))
	}
	if bad != -1 || !ok || !slices.Equal(got, want) {
		t.Errorf("Rules of %q are %q, %v; want %q", text, got, ok, want)
	}
}

func TestRules(t *testing.T) {
	wantRules(t, "")
	wantRules(t, "Sub(A B)", "Or(Not(A) B)")
	wantRules(t, "Eq(A B)", "Or(Not(A) B)", "Or(Not(B) A)")
	wantRules(t, "Dis(A B)", "Or(Not(A) Not(B))")
	wantRules(t, "Role(r s) Is(x A) Rel(r x y)")
	wantRules(t, "Sub(Top Bot)", "Or(Bot Bot)")
	wantRules(t, "Sub(Not(A) Not(Not(B)))", "Or(A B)")
	wantRules(t, "Eq(Not(A) Some(r Not(Not(B))))", "Or(A Some(r B))", "Or(All(r Not(B)) Not(A))")
	wantRules(t, "Dis(And(A B) Not(All(s A)))", "Or(Or(Not(A) Not(B)) All(s A))")
	wantRules(t, "Eq(A A)", "Or(Not(A) A)", "Or(Not(A) A)")
	// In order, whatever stands between; each as often as it is told.
	wantRules(t, "Is(x A) Dis(B A) Rel(r x y) Eq(C A) Role(r s) Sub(B A) Sub(B A)",
		"Or(Not(B) Not(A))", "Or(Not(C) A)", "Or(Not(A) C)", "Or(Not(B) A)", "Or(Not(B) A)")
}

func TestRulesMayHaveMoreThanMaxParts(t *testing.T) {
	for _, c := range edges() {
		for _, d := range append(edges(), named("A")) {
			for _, x := range []impl.Axiom{sub(c, d), equal(d, c), apart(c, d)} {
				if n, _ := readByStack(spellAxiom(x), wanted{'x', 0}); n.fits() {
					checkRules(t, told(x))
				}
			}
		}
	}
	rules, ok := impl.Rules(told(equal(bush(4, "A"), bush(4, "B"))))
	if !ok || len(rules) != 2 || impl.ConOk(rules[0]) || len(partTexts(spell(rules[0]))) != 1+15+8+15 {
		t.Error(rules, ok)
	}
}

// checkRules goes by Nnf and Opposite, axiom by axiom.
func checkRules(t *testing.T, k impl.Kb) {
	t.Helper()
	var want []string
	plain := func(c impl.Con) string { n, _ := impl.Nnf(c); return spell(n) }
	turned := func(c impl.Con) string { o, _ := impl.Opposite(c); return spell(o) }
	for _, x := range k.L {
		switch x.Kind {
		case impl.AxSub:
			want = append(want, "Or("+turned(x.C)+" "+plain(x.D)+")")
		case impl.AxEq:
			want = append(want, "Or("+turned(x.C)+" "+plain(x.D)+")", "Or("+turned(x.D)+" "+plain(x.C)+")")
		case impl.AxDis:
			want = append(want, "Or("+turned(x.C)+" "+turned(x.D)+")")
		}
	}
	rules, ok := impl.Rules(k)
	var got []string
	for _, c := range rules {
		got = append(got, spell(c))
	}
	if !ok || !slices.Equal(got, want) {
		t.Fatalf("Rules of %s are %q, %v; want %q", spellKb(k), got, ok, want)
	}
}

// tells is whether an axiom of concepts holds in a world of two.
func (w pair) tells(x impl.Axiom) bool {
	for e := range 2 {
		c, d := w.holds(x.C, e), w.holds(x.D, e)
		if x.Kind == impl.AxSub && c && !d || x.Kind == impl.AxEq && c != d || x.Kind == impl.AxDis && c && d {
			return false
		}
	}
	return true
}

// Promise 3: all that is told of concepts holds just if each rule holds of all.
func TestPromise3RulesInEachSmallWorld(t *testing.T) {
	var worlds []pair
	for i := range 4 * 4 * 16 {
		for _, s := range []int{0, 6, 9, 13} {
			worlds = append(worlds, pair{map[string]int{"A": i & 3, "B": i >> 2 & 3, "C": 1}, map[string]int{"r": i >> 4, "s": s}})
		}
	}
	kbs := someKbs()
	for _, x := range ordinary() {
		kbs = append(kbs, told(x))
	}
	for _, k := range kbs {
		checkRules(t, k)
		rules, _ := impl.Rules(k)
		for _, w := range worlds {
			fails := slices.ContainsFunc(k.L, func(x impl.Axiom) bool { return x.Kind <= impl.AxDis && !w.tells(x) })
			broken := slices.ContainsFunc(rules, func(c impl.Con) bool { return !w.holds(c, 0) || !w.holds(c, 1) })
			if fails != broken {
				t.Fatalf("%s in %v: %v, its rules %v", spellKb(k), w, !fails, !broken)
			}
		}
	}
}

func roomyAxiom(x impl.Axiom) impl.Axiom {
	return impl.Axiom{Kind: x.Kind, C: roomyCon(x.C), D: roomyCon(x.D), R: roomyBytes(x.R), S: roomyBytes(x.S), A: roomyBytes(x.A), B: roomyBytes(x.B)}
}

// roomyKb is k, with other things behind the length of each list.
func roomyKb(k impl.Kb) impl.Kb {
	room := make([]impl.Axiom, 0, len(k.L)+3)
	for _, x := range k.L {
		room = append(room, roomyAxiom(x))
	}
	room = append(room, role("r", "behind"), sub(named("Behind"), named("Other")), impl.Axiom{Kind: 77})
	return impl.Kb{L: room[:len(k.L)]}
}

func TestAxiomsShareNoMemory(t *testing.T) {
	for _, plain := range someKbs() {
		k, r := roomyKb(plain), roomyBytes([]byte("r"))
		before := snapshot(k) + snapshot(r)
		rules, _ := impl.Rules(k)
		answers := []any{impl.KbText(k), impl.KbNames(k), impl.KbRoles(k), impl.KbInds(k), impl.Above(k, r), rules}
		for _, x := range k.L {
			answers = append(answers, impl.AxiomText(x))
			if string(impl.AxiomText(x)) != spellAxiom(x) {
				t.Fatalf("%s: what lies behind the length is read", spellAxiom(x))
			}
		}
		for _, answer := range answers {
			wantApart(t, answer, k, r)
		}
		if snapshot(k)+snapshot(r) != before {
			t.Fatalf("%s is changed", spellKb(plain))
		}
		wantKbFine(t, k)
		wantSame(t, k, plain)
	}
}

// wantSame holds that what lies behind the lengths makes no difference.
func wantSame(t *testing.T, k, plain impl.Kb) {
	t.Helper()
	got, _ := impl.Rules(k)
	want, _ := impl.Rules(plain)
	if !slices.EqualFunc(got, want, sameCon) || !slices.EqualFunc(impl.Above(k, []byte("r")), impl.Above(plain, []byte("r")), bytes.Equal) {
		t.Fatalf("%s: what lies behind the length is read", spellKb(plain))
	}
}

func TestKbReadSharesNoMemory(t *testing.T) {
	for _, plain := range append(someKbs(), fullKb()) {
		room := append([]byte(spellKb(plain)), "Sub(A B) ?"...)
		text := room[:len(room)-10]
		before := string(room)
		k, bad := impl.KbRead(text)
		if bad != -1 || !sameKb(k, plain) {
			t.Fatalf("%q is read as %v, %d", text, k, bad)
		}
		wantApart(t, k, text)
		if string(room) != before {
			t.Fatalf("%q is changed", text)
		}
	}
}

func TestAxiomAnswersStayTheSame(t *testing.T) {
	k := fullKb()
	first := snapshot(impl.KbNames(k)) + snapshot(impl.Above(k, []byte("r"))) + string(impl.KbText(k))
	impl.KbRead([]byte("Sub(X Y) Role(r a) Is(a X)"))
	impl.Above(told(role("r", "a"), role("a", "b")), []byte("r"))
	impl.KbNames(told(sub(named("X"), named("Y"))))
	for range 20 {
		if again := snapshot(impl.KbNames(k)) + snapshot(impl.Above(k, []byte("r"))) + string(impl.KbText(k)); again != first {
			t.Fatalf("%q, then %q", first, again)
		}
	}
}
