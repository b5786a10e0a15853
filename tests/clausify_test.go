package tests

import (
	"bytes"
	"fmt"
	"math"
	"slices"
	"strconv"
	"strings"
	"testing"

	"loop.example/g00534/impl"
)

const mostClauses = 200

func readCon(t *testing.T, text string) impl.Con {
	t.Helper()
	c, bad := impl.ConRead([]byte(text))
	if bad != -1 {
		t.Fatalf("%q is no concept: %d", text, bad)
	}
	return c
}

func readKb(t *testing.T, text string) impl.Kb {
	t.Helper()
	k, bad := impl.KbRead([]byte(text))
	if bad != -1 {
		t.Fatalf("%q tells nothing: %d", text, bad)
	}
	return k
}

func sameCls(a, b impl.Cls) bool {
	return slices.EqualFunc(a.Atoms, b.Atoms, sameCon) && slices.EqualFunc(a.Roles, b.Roles, bytes.Equal) && slices.EqualFunc(a.Who, b.Who, bytes.Equal) &&
		slices.EqualFunc(a.L, b.L, func(x, y impl.Clause) bool { return slices.Equal(numbersOf(x), numbersOf(y)) })
}

// atomLines and clauseLines are what ClsText writes, by the document's words, however great the atoms are.
func atomLines(s impl.Cls) []string {
	var list []string
	for i, c := range s.Atoms {
		list = append(list, strconv.Itoa(i)+" "+spell(c))
	}
	return list
}

func clauseLines(s impl.Cls) []string {
	var list []string
	for _, c := range s.L {
		list = append(list, clauseTextByWords(c))
	}
	return list
}

func clsTextByWords(s impl.Cls) string {
	var out strings.Builder
	for _, line := range append(atomLines(s), clauseLines(s)...) {
		out.WriteString(line + "\n")
	}
	return out.String()
}

// wantClausified asks for each atom and each clause, parted by ", ".
func wantClausified(t *testing.T, kb, some, atoms, clauses string) impl.Cls {
	t.Helper()
	s, code := impl.Clausify(readKb(t, kb), readCon(t, some))
	gotAtoms, gotClauses := strings.Join(atomLines(s), ", "), strings.Join(clauseLines(s), ", ")
	if code != impl.ClWell || gotAtoms != atoms || gotClauses != clauses {
		t.Errorf("Clausify of %q and %s tells %d,\natoms %q, want\n      %q,\nclauses %q, want\n        %q", kb, some, code, gotAtoms, atoms, gotClauses, clauses)
	}
	wantClsFine(t, s, kb+some)
	return s
}

func TestClausifySomeOfEachKind(t *testing.T) {
	for _, c := range []struct{ some, atoms, clauses string }{
		{"Top", "", ""},
		{"Bot", "", "fact"},
		{"A", "0 A", "fact 0d"},
		{"Not(A)", "0 A", "fact -0d"},
		{"And(A B)", "0 A, 1 B, 2 And(A B)", "one 0x -2x, one 1x -2x, fact 2d"},
		{"And(B A)", "0 A, 1 B, 2 And(B A)", "one 1x -2x, one 0x -2x, fact 2d"},
		{"And(Not(A) B)", "0 A, 1 B, 2 And(Not(A) B)", "one -0x -2x, one 1x -2x, fact 2d"},
		{"And(A A)", "0 A, 1 And(A A)", "one 0x -1x, one 0x -1x, fact 1d"},
		{"And(A Not(A))", "0 A, 1 And(A Not(A))", "one 0x -1x, one -0x -1x, fact 1d"},
		{"And(A Top)", "0 A, 1 And(A Top)", "one 0x -1x, fact 1d"},
		{"And(Top A)", "0 A, 1 And(Top A)", "one 0x -1x, fact 1d"},
		{"And(Top Top)", "0 And(Top Top)", "fact 0d"},
		{"And(A Bot)", "0 A, 1 And(A Bot)", "one 0x -1x, one -1x, fact 1d"},
		{"And(Bot A)", "0 A, 1 And(Bot A)", "one -1x, one 0x -1x, fact 1d"},
		{"And(Bot Bot)", "0 And(Bot Bot)", "one -0x, one -0x, fact 0d"},
		{"And(Bot Top)", "0 And(Bot Top)", "one -0x, fact 0d"},
		{"Or(A B)", "0 A, 1 B, 2 Or(A B)", "one 0x 1x -2x, fact 2d"},
		{"Or(B A)", "0 A, 1 B, 2 Or(B A)", "one 0x 1x -2x, fact 2d"},
		{"Or(Not(A) B)", "0 A, 1 B, 2 Or(Not(A) B)", "one -0x 1x -2x, fact 2d"},
		{"Or(A A)", "0 A, 1 Or(A A)", "one 0x -1x, fact 1d"},
		{"Or(A Not(A))", "0 A, 1 Or(A Not(A))", "one 0x -0x -1x, fact 1d"},
		{"Or(A Top)", "0 A, 1 Or(A Top)", "fact 1d"},
		{"Or(Top A)", "0 A, 1 Or(Top A)", "fact 1d"},
		{"Or(Top Bot)", "0 Or(Top Bot)", "fact 0d"},
		{"Or(Bot Top)", "0 Or(Bot Top)", "fact 0d"},
		{"Or(A Bot)", "0 A, 1 Or(A Bot)", "one 0x -1x, fact 1d"},
		{"Or(Bot A)", "0 A, 1 Or(Bot A)", "one 0x -1x, fact 1d"},
		{"Or(Bot Bot)", "0 Or(Bot Bot)", "one -0x, fact 0d"},
		{"All(r A)", "0 A, 1 All(r A)", "all r0 -1x 0y, fact 1d"},
		{"All(r Not(A))", "0 A, 1 All(r Not(A))", "all r0 -1x -0y, fact 1d"},
		{"All(r Top)", "0 All(r Top)", "fact 0d"},
		{"All(r Bot)", "0 All(r Bot)", "all r0 -0x, fact 0d"},
		{"Some(r A)", "0 A, 1 Some(r A)", "edge f0 r0 -1x, next f0 -1x 0y, fact 1d"},
		{"Some(r Not(A))", "0 A, 1 Some(r Not(A))", "edge f0 r0 -1x, next f0 -1x -0y, fact 1d"},
		{"Some(r Top)", "0 Some(r Top)", "edge f0 r0 -0x, fact 0d"},
		{"Some(r Bot)", "0 Some(r Bot)", "edge f0 r0 -0x, one -0x, fact 0d"},
	} {
		wantClausified(t, "", c.some, c.atoms, c.clauses)
	}
}

func TestClausifyPutsNotAheadOfNames(t *testing.T) {
	for _, c := range []struct{ some, atoms, clauses string }{
		{"Not(Top)", "", "fact"},
		{"Not(Bot)", "", ""},
		{"Not(Not(A))", "0 A", "fact 0d"},
		{"Not(Not(Not(A)))", "0 A", "fact -0d"},
		{"Not(And(A B))", "0 A, 1 B, 2 Or(Not(A) Not(B))", "one -0x -1x -2x, fact 2d"},
		{"Not(Or(A Not(B)))", "0 A, 1 B, 2 And(Not(A) B)", "one -0x -2x, one 1x -2x, fact 2d"},
		{"Not(Some(r A))", "0 A, 1 All(r Not(A))", "all r0 -1x -0y, fact 1d"},
		{"Not(All(r A))", "0 A, 1 Some(r Not(A))", "edge f0 r0 -1x, next f0 -1x -0y, fact 1d"},
		{"Not(All(r Top))", "0 Some(r Bot)", "edge f0 r0 -0x, one -0x, fact 0d"},
		{"And(Not(Or(A B)) Not(Top))", "0 A, 1 B, 2 And(And(Not(A) Not(B)) Bot), 3 And(Not(A) Not(B))", "one -0x -3x, one -1x -3x, one -2x 3x, one -2x, fact 2d"},
	} {
		wantClausified(t, "", c.some, c.atoms, c.clauses)
	}
	wantClausified(t, "Is(x Not(And(A Bot)))", "Top", "0 A, 1 Or(Not(A) Top)", "fact 1a")
	wantClausified(t, "Sub(Or(A B) Not(Some(r B)))", "Top", "0 A, 1 B, 2 Or(And(Not(A) Not(B)) All(r Not(B))), 3 And(Not(A) Not(B)), 4 All(r Not(B))",
		"one -0x -3x, one -1x -3x, all r0 -4x -1y, one -2x 3x 4x, one 2x")
}

// The atom of a concept comes ahead of those of its Kids, its clauses behind theirs; its function, too.
func TestClausifyOneWithinAnother(t *testing.T) {
	for _, c := range []struct{ some, atoms, clauses string }{
		{"Some(r Some(s A))", "0 A, 1 Some(r Some(s A)), 2 Some(s A)",
			"edge f0 r1 -2x, next f0 -2x 0y, edge f1 r0 -1x, next f1 -1x 2y, fact 1d"},
		{"Some(s Some(r Some(s Top)))", "0 Some(s Some(r Some(s Top))), 1 Some(r Some(s Top)), 2 Some(s Top)",
			"edge f0 r1 -2x, edge f1 r0 -1x, next f1 -1x 2y, edge f2 r1 -0x, next f2 -0x 1y, fact 0d"},
		{"And(Some(s B) Some(r A))", "0 A, 1 B, 2 And(Some(s B) Some(r A)), 3 Some(s B), 4 Some(r A)",
			"edge f0 r1 -3x, next f0 -3x 1y, edge f1 r0 -4x, next f1 -4x 0y, one -2x 3x, one -2x 4x, fact 2d"},
		{"All(r And(A Some(r B)))", "0 A, 1 B, 2 All(r And(A Some(r B))), 3 And(A Some(r B)), 4 Some(r B)",
			"edge f0 r0 -4x, next f0 -4x 1y, one 0x -3x, one -3x 4x, all r0 -2x 3y, fact 2d"},
		{"Or(And(A B) All(r Or(A B)))", "0 A, 1 B, 2 Or(And(A B) All(r Or(A B))), 3 And(A B), 4 All(r Or(A B)), 5 Or(A B)",
			"one 0x -3x, one 1x -3x, one 0x 1x -5x, all r0 -4x 5y, one -2x 3x 4x, fact 2d"},
		// A Kid holds always or never only if it is Top or Bot, not if it is told to.
		{"And(All(r Top) Or(Top A))", "0 A, 1 And(All(r Top) Or(Top A)), 2 All(r Top), 3 Or(Top A)", "one -1x 2x, one -1x 3x, fact 1d"},
		{"Or(Some(r Bot) Or(Top A))", "0 A, 1 Or(Some(r Bot) Or(Top A)), 2 Some(r Bot), 3 Or(Top A)", "edge f0 r0 -2x, one -2x, one -1x 2x 3x, fact 1d"},
		{"Some(r And(Bot Bot))", "0 Some(r And(Bot Bot)), 1 And(Bot Bot)", "one -1x, one -1x, edge f0 r0 -0x, next f0 -0x 1y, fact 0d"},
		{"All(r Or(Top Top))", "0 All(r Or(Top Top)), 1 Or(Top Top)", "all r0 -0x 1y, fact 0d"},
		// Where one Kid holds always, the other one is named and told for all that.
		{"Or(Top And(A B))", "0 A, 1 B, 2 Or(Top And(A B)), 3 And(A B)", "one 0x -3x, one 1x -3x, fact 2d"},
		{"Or(Some(r A) Top)", "0 A, 1 Or(Some(r A) Top), 2 Some(r A)", "edge f0 r0 -2x, next f0 -2x 0y, fact 1d"},
	} {
		wantClausified(t, "", c.some, c.atoms, c.clauses)
	}
}

func TestClausifyWhatIsMetTwice(t *testing.T) {
	for _, c := range []struct{ kb, some, atoms, clauses string }{
		{"", "And(Some(r A) Some(r A))", "0 A, 1 And(Some(r A) Some(r A)), 2 Some(r A)",
			"edge f0 r0 -2x, next f0 -2x 0y, one -1x 2x, one -1x 2x, fact 1d"},
		{"", "Or(All(r A) All(r A))", "0 A, 1 Or(All(r A) All(r A)), 2 All(r A)", "all r0 -2x 0y, one -1x 2x, fact 1d"},
		// Named already deep within the first Kid.
		{"", "And(Some(r Or(A B)) Or(A B))", "0 A, 1 B, 2 And(Some(r Or(A B)) Or(A B)), 3 Some(r Or(A B)), 4 Or(A B)",
			"one 0x 1x -4x, edge f0 r0 -3x, next f0 -3x 4y, one -2x 3x, one -2x 4x, fact 2d"},
		// Alike is what is written alike: not what holds of the same.
		{"", "And(Or(A B) Or(B A))", "0 A, 1 B, 2 And(Or(A B) Or(B A)), 3 Or(A B), 4 Or(B A)", "one 0x 1x -3x, one 0x 1x -4x, one -2x 3x, one -2x 4x, fact 2d"},
		{"", "And(Some(r A) Some(s A))", "0 A, 1 And(Some(r A) Some(s A)), 2 Some(r A), 3 Some(s A)",
			"edge f0 r0 -2x, next f0 -2x 0y, edge f1 r1 -3x, next f1 -3x 0y, one -1x 2x, one -1x 3x, fact 1d"},
		{"", "And(Some(r A) All(r A))", "0 A, 1 And(Some(r A) All(r A)), 2 Some(r A), 3 All(r A)",
			"edge f0 r0 -2x, next f0 -2x 0y, all r0 -3x 0y, one -1x 2x, one -1x 3x, fact 1d"},
		// The same axiom twice: one atom, told once, and each rule's own clause.
		{"Sub(A B) Sub(A B)", "Top", "0 A, 1 B, 2 Or(Not(A) B)", "one -0x 1x -2x, one 2x, one 2x"},
		{"Eq(A A)", "Top", "0 A, 1 Or(Not(A) A)", "one 0x -0x -1x, one 1x, one 1x"},
		{"Dis(A B) Sub(A Not(B))", "Top", "0 A, 1 B, 2 Or(Not(A) Not(B))", "one -0x -1x -2x, one 2x, one 2x"},
		{"Is(x Some(r A)) Is(x Some(r A)) Is(y Some(r A))", "Some(r A)", "0 A, 1 Some(r A)", "edge f0 r0 -1x, next f0 -1x 0y, fact 1a, fact 1a, fact 1b, fact 1d"},
		{"Sub(Not(A) B)", "Or(A B)", "0 A, 1 B, 2 Or(A B)", "one 0x 1x -2x, one 2x, fact 2d"},
		{"Sub(A All(r B)) Is(x Not(Some(r Not(B))))", "Or(Not(A) All(r B))", "0 A, 1 B, 2 Or(Not(A) All(r B)), 3 All(r B)",
			"all r0 -3x 1y, one -0x -2x 3x, one 2x, fact 3a, fact 2d"},
	} {
		wantClausified(t, c.kb, c.some, c.atoms, c.clauses)
	}
}

func TestClausifyRules(t *testing.T) {
	for _, c := range []struct{ kb, atoms, clauses string }{
		{"", "", ""},
		{"Sub(A B)", "0 A, 1 B, 2 Or(Not(A) B)", "one -0x 1x -2x, one 2x"},
		{"Eq(A B)", "0 A, 1 B, 2 Or(Not(A) B), 3 Or(Not(B) A)", "one -0x 1x -2x, one 2x, one 0x -1x -3x, one 3x"},
		{"Dis(A B)", "0 A, 1 B, 2 Or(Not(A) Not(B))", "one -0x -1x -2x, one 2x"},
		// A rule is an atom even where it says nothing, or says that nothing is.
		{"Sub(A Top)", "0 A, 1 Or(Not(A) Top)", "one 1x"},
		{"Sub(Bot A)", "0 A, 1 Or(Top A)", "one 1x"},
		{"Sub(Top Bot)", "0 Or(Bot Bot)", "one -0x, one 0x"},
		{"Sub(Top A)", "0 A, 1 Or(Bot A)", "one 0x -1x, one 1x"},
		{"Eq(Bot Top)", "0 Or(Top Top), 1 Or(Bot Bot)", "one 0x, one -1x, one 1x"},
		{"Sub(A Some(r And(B Top)))", "0 A, 1 B, 2 Or(Not(A) Some(r And(B Top))), 3 Some(r And(B Top)), 4 And(B Top)",
			"one 1x -4x, edge f0 r0 -3x, next f0 -3x 4y, one -0x -2x 3x, one 2x"},
		{"Eq(A Some(r B))", "0 A, 1 B, 2 Or(Not(A) Some(r B)), 3 Some(r B), 4 Or(All(r Not(B)) A), 5 All(r Not(B))",
			"edge f0 r0 -3x, next f0 -3x 1y, one -0x -2x 3x, one 2x, all r0 -5x -1y, one 0x -4x 5x, one 4x"},
	} {
		wantClausified(t, c.kb, "Top", c.atoms, c.clauses)
	}
}

func TestClausifyRulesFirstThenAxioms(t *testing.T) {
	s := wantClausified(t, "Is(y And(A B)) Role(s r) Sub(A B) Rel(r y x) Is(x Not(B)) Role(r s) Dis(B C) Rel(t x x)", "Some(t D)",
		"0 A, 1 B, 2 C, 3 D, 4 Or(Not(A) B), 5 Or(Not(B) Not(C)), 6 And(A B), 7 Some(t D)",
		"one -0x 1x -4x, one 4x, one -1x -2x -5x, one 5x, one 0x -6x, one 1x -6x, fact 6b, role r1 r0, pair r0 1 0, fact -1a, role r0 r1, pair r2 0 0, edge f0 r2 -7x, next f0 -7x 3y, fact 7d")
	if !slices.Equal(texts(s.Roles), []string{"r", "s", "t"}) || !slices.Equal(texts(s.Who), []string{"x", "y"}) {
		t.Errorf("Roles %q, Who %q", s.Roles, s.Who)
	}
	wantClausified(t, "Role(r r)", "Top", "", "role r0 r0")
	wantClausified(t, "Is(z Top) Is(y Bot) Is(x A)", "A", "0 A", "fact, fact 0a, fact 0d")
	wantClausified(t, "Is(x Top)", "Bot", "", "fact")
	wantClausified(t, "Rel(r c b) Rel(r a c) Rel(r b a)", "Top", "", "pair r0 2 1, pair r0 0 2, pair r0 1 0")
	wantClausified(t, "Is(b A) Is(c A) Is(a A)", "Not(A)", "0 A", "fact 0b, fact 0c, fact 0a, fact -0d")
	// A word may be a role and an individual.
	s = wantClausified(t, "Rel(x r x) Rel(r r x) Is(r A)", "Top", "0 A", "pair r1 0 1, pair r0 0 1, fact 0a")
	if !slices.Equal(texts(s.Roles), []string{"r", "x"}) || !slices.Equal(texts(s.Who), []string{"r", "x"}) {
		t.Errorf("Roles %q, Who %q", s.Roles, s.Who)
	}
}

func TestClausifyNumbersNamesOfBothAscending(t *testing.T) {
	for _, c := range []struct{ kb, some, atoms, roles string }{
		{"Sub(D B)", "And(C And(E A))", "0 A, 1 B, 2 C, 3 D, 4 E, 5 Or(Not(D) B), 6 And(C And(E A)), 7 And(E A)", ""},
		{"Is(x Not(B))", "Or(Aa Or(A Ab))", "0 A, 1 Aa, 2 Ab, 3 B, 4 Or(Aa Or(A Ab)), 5 Or(A Ab)", ""},
		{"Role(t q)", "Some(s Top)", "0 Some(s Top)", "q s t"},
		{"Rel(t x x) Is(x All(s Top))", "Some(ss Top)", "0 All(s Top), 1 Some(ss Top)", "s ss t"},
		// Words are there even where no clause has them.
		{"Sub(A Top) Is(x All(r Top))", "All(s Or(Top B))", "0 A, 1 B, 2 Or(Not(A) Top), 3 All(r Top), 4 All(s Or(Top B)), 5 Or(Top B)", "r s"},
	} {
		s, code := impl.Clausify(readKb(t, c.kb), readCon(t, c.some))
		if got := strings.Join(atomLines(s), ", "); code != impl.ClWell || got != c.atoms || strings.Join(texts(s.Roles), " ") != c.roles {
			t.Errorf("%q and %s: %d, atoms %q, roles %q", c.kb, c.some, code, got, s.Roles)
		}
	}
}

// teller names concepts by the document's words. A literal is as the tests' lits have it; always and never are no literals.
type teller struct {
	atoms, roles, who []string
	funs              int
	list              []impl.Clause
}

const always, never = "always", ""

func (n *teller) name(c impl.Con) string {
	switch text := spell(c); {
	case text == "Top":
		return always
	case text == "Bot":
		return never
	case c.Kind == impl.CnNot:
		return "-" + n.name(c.Kids[0])
	case slices.Contains(n.atoms, text):
		return strconv.Itoa(slices.Index(n.atoms, text))
	default:
		n.atoms = append(n.atoms, text)
		q := strconv.Itoa(len(n.atoms) - 1)
		n.tell(c, "-"+q)
		return q
	}
}

func (n *teller) tell(c impl.Con, notIt string) {
	first := n.name(c.Kids[0])
	role := slices.Index(n.roles, string(c.Role))
	switch c.Kind {
	case impl.CnAnd, impl.CnOr:
		second := n.name(c.Kids[1])
		if c.Kind == impl.CnOr {
			n.one(notIt, first, second)
			return
		}
		n.one(notIt, first)
		n.one(notIt, second)
	case impl.CnAll:
		if first != always {
			n.list = append(n.list, along(role, notIt, first))
		}
	case impl.CnSome:
		n.list = append(n.list, edge(n.funs, role, notIt))
		if first == never {
			n.one(notIt)
		} else if first != always {
			n.list = append(n.list, next(n.funs, notIt, first))
		}
		n.funs++
	}
}

func (n *teller) one(of ...string) {
	if !slices.Contains(of, always) {
		n.list = append(n.list, one(strings.Join(of, " ")))
	}
}

func (n *teller) fact(c impl.Con, who int) {
	if of := n.name(turned(c, false)); of != always {
		inds := make([]string, impl.MaxWho)
		inds[who] = of
		n.list = append(n.list, fact(inds...))
	}
}

// turned is Nnf of a concept, or its Opposite, however great it is.
func turned(c impl.Con, negated bool) impl.Con {
	switch {
	case c.Kind == impl.CnNot:
		return turned(c.Kids[0], !negated)
	case c.Kind == impl.CnName && negated:
		return not(c)
	case c.Kind == impl.CnName:
		return c
	}
	out := impl.Con{Kind: c.Kind, Role: c.Role}
	if negated {
		out.Kind = []int{impl.CnBot, impl.CnTop, 0, 0, impl.CnOr, impl.CnAnd, impl.CnAll, impl.CnSome}[c.Kind]
	}
	for _, kid := range c.Kids {
		out.Kids = append(out.Kids, turned(kid, negated))
	}
	return out
}

// rulesByWords takes any number of axioms, of concepts however great.
func rulesByWords(k impl.Kb) []impl.Con {
	var list []impl.Con
	for _, x := range k.L {
		switch x.Kind {
		case impl.AxSub:
			list = append(list, or(turned(x.C, true), turned(x.D, false)))
		case impl.AxEq:
			list = append(list, or(turned(x.C, true), turned(x.D, false)), or(turned(x.D, true), turned(x.C, false)))
		case impl.AxDis:
			list = append(list, or(turned(x.C, true), turned(x.D, true)))
		}
	}
	return list
}

// wordsOf are all words of what is told and asked, however much it is.
func wordsOf(k impl.Kb, c impl.Con) *tally {
	n := &tally{}
	addCon := func(c impl.Con) {
		for _, at := range nodes(&c) {
			n.names, n.roles = append(n.names, string(at.Name)), append(n.roles, string(at.Role))
		}
	}
	addCon(c)
	for _, x := range k.L {
		addCon(x.C)
		addCon(x.D)
		n.roles = append(n.roles, string(x.R), string(x.S))
		n.inds = append(n.inds, string(x.A), string(x.B))
	}
	for _, list := range []*[]string{&n.names, &n.roles, &n.inds} {
		*list = slices.DeleteFunc(eachOfThem(*list), func(s string) bool { return s == "" })
	}
	return n
}

// clausifyByWords is another way to Clausify, by texts, and without a limit.
func clausifyByWords(k impl.Kb, c impl.Con) *teller {
	words := wordsOf(k, c)
	n := &teller{atoms: words.names, roles: words.roles, who: words.inds}
	for _, r := range rulesByWords(k) {
		n.one(n.name(r))
	}
	at := func(list []string, word []byte) int { return slices.Index(list, string(word)) }
	for _, x := range k.L {
		switch x.Kind {
		case impl.AxRole:
			n.list = append(n.list, raise(at(n.roles, x.R), at(n.roles, x.S)))
		case impl.AxIs:
			n.fact(x.C, at(n.who, x.A))
		case impl.AxRel:
			n.list = append(n.list, pairOf(at(n.roles, x.R), at(n.who, x.A), at(n.who, x.B)))
		}
	}
	n.fact(c, impl.MaxWho-1)
	return n
}

func (n *teller) big() bool {
	return len(n.roles) > impl.MaxRoles || len(n.atoms) > impl.MaxAtoms || n.funs > impl.MaxFuns
}

// anyCon draws a concept of the words that anyWorld has.
func (d *dice) anyCon(deep int) impl.Con {
	name := func() impl.Con { return named([]string{"A", "B", "C", "D"}[d.below(4)]) }
	role := []string{"r", "s", "t"}[d.below(3)]
	if deep <= 1 {
		return []impl.Con{top, bot, name(), name(), name(), name()}[d.below(6)]
	}
	switch d.below(8) {
	case 0:
		return name()
	case 1:
		return not(d.anyCon(deep - 1))
	case 2:
		return and(d.anyCon(deep-1), d.anyCon(deep-1))
	case 3:
		return or(d.anyCon(deep-1), d.anyCon(deep-1))
	case 4, 5:
		return some(role, d.anyCon(deep-1))
	}
	return every(role, d.anyCon(deep-1))
}

func (d *dice) anyAxiom(deep int) impl.Axiom {
	word := func(s string) string { return strings.Fields(s)[d.below(3)] }
	switch kind := d.below(8); kind {
	case 0, 1:
		return sub(d.anyCon(deep), d.anyCon(deep))
	case 2:
		return equal(d.anyCon(deep), d.anyCon(deep))
	case 3:
		return apart(d.anyCon(deep), d.anyCon(deep))
	case 4:
		return role(word("r s t"), word("r s t"))
	case 5, 6:
		return is(word("x y z"), d.anyCon(deep))
	}
	return rel(word("r s t"), word("x y z"), word("x y z"))
}

// drawnKbs are lists of drawn axioms, those among them that are KbOk.
func drawnKbs(count int) []impl.Kb {
	d := dice(11)
	var list []impl.Kb
	for len(list) < count {
		var k impl.Kb
		for range d.below(impl.MaxAxioms + 1) {
			k.L = append(k.L, d.anyAxiom(1+d.below(4)))
		}
		if impl.KbOk(k) {
			list = append(list, k)
		}
	}
	return list
}

func TestClausifyIsWhatTheWordsSay(t *testing.T) {
	codes := map[int]int{}
	asked := append(conceptsOf(3), edges()...)
	d := dice(3)
	for i, k := range append(someKbs(), drawnKbs(2000)...) {
		for _, c := range []impl.Con{top, asked[i*37%len(asked)], asked[i*101%len(asked)], d.anyCon(4)} {
			if !impl.ConOk(c) {
				continue
			}
			got, code := impl.Clausify(k, c)
			codes[code]++
			want := clausifyByWords(k, c)
			if want.big() != (code == impl.ClBig) {
				t.Fatalf("%s and %s: %d; atoms %q, roles %q, %d functions", spellKb(k), spell(c), code, want.atoms, want.roles, want.funs)
			}
			if code == impl.ClBig {
				wantNoCls(t, got, spellKb(k)+spell(c))
				continue
			}
			if !slices.EqualFunc(got.Atoms, want.atoms, func(c impl.Con, s string) bool { return spell(c) == s }) || !slices.Equal(texts(got.Roles), want.roles) ||
				!slices.Equal(texts(got.Who), want.who) || !slices.Equal(clauseLines(got), clauseLines(impl.Cls{L: want.list})) || code != impl.ClWell {
				t.Fatalf("%s and %s: %d\n%sroles %q, who %q; want\n%q\n%q", spellKb(k), spell(c), code, clsTextByWords(got), got.Roles, got.Who, want.atoms, clauseLines(impl.Cls{L: want.list}))
			}
			wantClausesOk(t, got)
		}
	}
	if codes[impl.ClWell] < 1000 || codes[impl.ClBig] < 100 {
		t.Error(codes, ": too few to tell")
	}
}

// wantClausesOk holds that what Clausify tells is ClsOk, but for atoms that are too great to be ConOk.
func wantClausesOk(t *testing.T, s impl.Cls) {
	t.Helper()
	if slices.ContainsFunc(s.L, func(c impl.Clause) bool { return !impl.ClauseOk(c) }) || len(s.L) > mostClauses {
		t.Fatalf("%sis not ClauseOk, or too long", clsTextByWords(s))
	}
	great := slices.ContainsFunc(s.Atoms, func(c impl.Con) bool { return !impl.ConOk(c) })
	if impl.ClsOk(s) == great {
		t.Fatalf("%sis ClsOk: %v", clsTextByWords(s), !great)
	}
}

func wantNoCls(t *testing.T, s impl.Cls, why string) {
	t.Helper()
	if len(s.Atoms) != 0 || len(s.Roles) != 0 || len(s.Who) != 0 || len(s.L) != 0 {
		t.Errorf("%s: not the zero value: %v", why, s)
	}
}

func wantCode(t *testing.T, k impl.Kb, c impl.Con, want int, why string) {
	t.Helper()
	s, code := impl.Clausify(k, c)
	if code != want {
		t.Errorf("%s: Clausify tells %d, not %d", why, code, want)
	}
	if code != impl.ClWell {
		wantNoCls(t, s, why)
	}
}

func TestClausifyMostRoles(t *testing.T) {
	for _, c := range []struct {
		kb, some string
		code     int
	}{
		{"", "Some(a Some(b Some(c Top)))", impl.ClWell},
		{"", "Some(a Some(b Some(c Some(d Top))))", impl.ClBig},
		{"", "Some(a Some(b Some(c Some(a Top))))", impl.ClWell},
		{"", "All(a All(b All(c All(d All(e Top)))))", impl.ClBig},
		{"Role(a b)", "Some(c Top)", impl.ClWell},
		{"Role(a b)", "And(Some(c Top) All(d Top))", impl.ClBig},
		{"Role(a b) Role(b c)", "Top", impl.ClWell},
		{"Role(a b) Role(b c)", "All(b Some(a Top))", impl.ClWell},
		{"Role(a b) Role(b c)", "Some(d Top)", impl.ClBig},
		{"Role(a b) Rel(c x y)", "Some(x Top)", impl.ClBig},
		{"Sub(Some(a A) All(b A)) Is(x Some(c A))", "A", impl.ClWell},
		{"Sub(Some(a A) All(b A)) Is(x Some(c A))", "Not(All(d A))", impl.ClBig},
		// A role counts even where it makes no clause.
		{"Role(a b) Role(b c)", "Or(Top All(d Top))", impl.ClBig},
	} {
		wantCode(t, readKb(t, c.kb), readCon(t, c.some), c.code, c.kb+" and "+c.some)
	}
}

// chain has deep - 1 of one kind, one within the other.
func chain(deep int, wrap func(impl.Con) impl.Con) impl.Con {
	c := named("A")
	for range deep - 1 {
		c = wrap(c)
	}
	return c
}

func somes(deep int, r string) impl.Con {
	return chain(deep, func(c impl.Con) impl.Con { return some(r, c) })
}

func alls(deep int, r string) impl.Con {
	return chain(deep, func(c impl.Con) impl.Con { return every(r, c) })
}

func TestClausifyMostAtoms(t *testing.T) {
	// A, three times five, and one of five more.
	base := []impl.Axiom{is("x", alls(6, "r")), is("x", alls(6, "s")), is("x", alls(6, "t")), is("x", chain(6, func(c impl.Con) impl.Con { return and(named("A"), c) }))}
	ors := func(n int) impl.Con { return chain(n+1, func(c impl.Con) impl.Con { return or(named("A"), c) }) }
	for _, c := range []struct {
		where string
		with  func(n int) (impl.Kb, impl.Con)
	}{
		{"some", func(n int) (impl.Kb, impl.Con) { return told(base...), ors(n) }},
		{"the last AxIs", func(n int) (impl.Kb, impl.Con) { return told(append(slices.Clone(base), is("y", ors(n)))...), top }},
		{"the first AxIs", func(n int) (impl.Kb, impl.Con) { return told(append([]impl.Axiom{is("y", ors(n))}, base...)...), top }},
		// The rule is one more.
		{"a rule", func(n int) (impl.Kb, impl.Con) { return told(append(slices.Clone(base), sub(top, ors(n-1)))...), top }},
		{"names", func(n int) (impl.Kb, impl.Con) {
			k := told(base...)
			for _, s := range []string{"B", "C", "D", "E"}[:n] {
				k.L = append(k.L, is("z", named(s)))
			}
			return k, top
		}},
	} {
		k, some := c.with(3)
		s, code := impl.Clausify(k, some)
		if code != impl.ClWell || len(s.Atoms) != impl.MaxAtoms || !impl.ClsOk(s) {
			t.Errorf("%s: MaxAtoms tell %d, %d atoms", c.where, code, len(s.Atoms))
		}
		k, some = c.with(4)
		wantCode(t, k, some, impl.ClBig, c.where+": MaxAtoms and one more")
		// What is named already is no atom more.
		k, some = c.with(3)
		k.L = append(k.L[:len(k.L):len(k.L)], is("x", base[0].C))
		if impl.KbOk(k) {
			wantCode(t, k, some, impl.ClWell, c.where+": MaxAtoms and one of them again")
			k.L[len(k.L)-1].C = and(bot, bot)
			wantCode(t, k, some, impl.ClBig, c.where+": MaxAtoms and one that has no name")
		}
	}
}

func TestClausifyMostFunctions(t *testing.T) {
	base := []impl.Axiom{is("x", somes(6, "r")), is("x", somes(6, "s"))}
	for _, c := range []struct {
		where string
		with  func(c impl.Con) (impl.Kb, impl.Con)
	}{
		{"some", func(c impl.Con) (impl.Kb, impl.Con) { return told(base...), c }},
		{"AxIs", func(c impl.Con) (impl.Kb, impl.Con) { return told(append(slices.Clone(base), is("y", c))...), top }},
		{"a rule", func(c impl.Con) (impl.Kb, impl.Con) { return told(append(slices.Clone(base), sub(top, c))...), top }},
	} {
		k, concept := c.with(somes(3, "t"))
		s, code := impl.Clausify(k, concept)
		var funs []int
		for _, c := range s.L {
			if c.Kind == impl.KdEdge {
				funs = append(funs, c.Fun)
			}
		}
		if code != impl.ClWell || !slices.Equal(funs, everybody(impl.MaxFuns)) {
			t.Errorf("%s: MaxFuns tell %d, %v", c.where, code, funs)
		}
		k, concept = c.with(somes(4, "t"))
		wantCode(t, k, concept, impl.ClBig, c.where+": MaxFuns and one more")
		k, concept = c.with(some("t", some("t", some("t", bot))))
		wantCode(t, k, concept, impl.ClBig, c.where+": MaxFuns and one of nobody")
		// Nor All, nor a Some that is there, is a function more.
		k, concept = c.with(and(somes(3, "t"), and(somes(4, "r"), alls(4, "t"))))
		wantCode(t, k, concept, impl.ClWell, c.where+": MaxFuns and some of them again")
	}
}

// Opposites count as they are named: Not of All is Some.
func TestClausifyFunctionsOfOpposites(t *testing.T) {
	k := told(is("x", not(alls(5, "r"))), is("x", not(alls(5, "s"))), is("x", not(alls(5, "t"))))
	wantCode(t, k, top, impl.ClWell, "twelve")
	wantCode(t, k, not(every("r", top)), impl.ClBig, "thirteen")
	wantCode(t, k, not(some("r", top)), impl.ClWell, "twelve and an All")
}

func roundCon() impl.Con {
	kids := []impl.Con{{Kind: impl.CnNot}}
	kids[0].Kids = kids
	return kids[0]
}

// refusedCons are not ConOk, some of them round about or wide.
func refusedCons() []impl.Con {
	var list []impl.Con
	for _, c := range []impl.Con{top, bot, named("A"), not(named("A")), and(top, bot), or(named("A"), top), some("r", top), every("r", named("A"))} {
		list = append(list, spoils(c)...)
	}
	return append(append(list, tooBig()...), roundCon(), impl.Con{Kind: impl.CnAnd, Kids: make([]impl.Con, 1<<20)})
}

// refusedKbs are not KbOk by each of its reasons.
func refusedKbs() []impl.Kb {
	a := func(s string) impl.Axiom { return is("x", named(s)) }
	return []impl.Kb{
		told(slices.Repeat([]impl.Axiom{a("A")}, impl.MaxAxioms+1)...),
		{L: make([]impl.Axiom, 1<<20)},
		told(a("A"), a("B"), a("C"), a("D"), a("E"), a("F")),
		told(role("a", "b"), role("c", "d")),
		told(is("a", top), is("b", top), is("c", top), is("d", top)),
		told(impl.Axiom{Kind: -1}),
		told(impl.Axiom{Kind: impl.AxRel + 1}),
		told(impl.Axiom{Kind: impl.AxRole, R: []byte("r")}),
		told(rel("R", "x", "y")),
		told(is("X", top)),
		told(sub(roundCon(), top)),
	}
}

func TestClausifyOfWhatIsNotOk(t *testing.T) {
	big := readCon(t, "Some(a Some(b Some(c Some(d Top))))")
	fine := fullKb()
	wantCode(t, fine, top, impl.ClWell, "fine")
	for i, c := range refusedCons() {
		why := fmt.Sprint("the wrong concept ", i)
		wantCode(t, impl.Kb{}, c, impl.ClForm, why)
		wantCode(t, fine, c, impl.ClForm, why)
		wantCode(t, told(is("x", c)), top, impl.ClForm, why)
		wantCode(t, told(sub(top, c)), top, impl.ClForm, why)
		// ClForm comes ahead of ClBig.
		wantCode(t, told(is("x", c)), big, impl.ClForm, why)
		wantCode(t, told(is("x", big)), c, impl.ClForm, why)
	}
	for i, k := range append(refusedKbs(), told(is("x", big))) {
		for _, c := range []impl.Con{top, named("A"), big, {Kind: 9}} {
			wantCode(t, k, c, impl.ClForm, fmt.Sprint("the wrong axioms ", i))
		}
	}
	wantCode(t, impl.Kb{}, big, impl.ClBig, "four roles")
}

// A rule may have more parts than ConOk allows: then it is an atom, but what has it is not ClsOk.
func TestClausifyRulesThatAreNoConcepts(t *testing.T) {
	for _, text := range []string{"Sub(A Not(Not(Not(Not(Not(B))))))", "Sub(Some(r Some(r Some(r Some(r Some(r A))))) B)", "Dis(Not(And(A And(A A))) And(And(A And(A A)) And(A And(A A))))"} {
		k := readKb(t, text)
		s, code := impl.Clausify(k, top)
		want := clausifyByWords(k, top)
		if code != impl.ClWell || !slices.Equal(clauseLines(s), clauseLines(impl.Cls{L: want.list})) || len(s.Atoms) != len(want.atoms) {
			t.Errorf("%s: %d, %q", text, code, clauseLines(s))
		}
		wantClausesOk(t, s)
		if slices.ContainsFunc(s.Atoms, func(c impl.Con) bool { return !impl.ConOk(c) }) {
			wantClsRefused(t, s, text)
		}
	}
	if s, _ := impl.Clausify(readKb(t, "Sub(Some(r Some(r Some(r Some(r Some(r A))))) B)"), top); impl.ClsOk(s) {
		t.Error("an atom of depth 7 is ClsOk")
	}
}

// setsOf has for each atom the elements of which its concept holds.
func setsOf(w impl.World, s impl.Cls) [][]bool {
	var sets [][]bool
	for _, c := range s.Atoms {
		of := impl.Extension(w, c)
		if !impl.ConOk(c) {
			of = extensionByWords(w, c)
		}
		flags := make([]bool, w.N)
		for _, e := range of {
			flags[e] = true
		}
		sets = append(sets, flags)
	}
	return sets
}

// holdsOfAll goes by the document's table, element by element, for each x and each y.
func holdsOfAll(w impl.World, s impl.Cls, c impl.Clause, sets [][]bool) bool {
	is := func(p impl.Part, e int) bool {
		for atom, set := range sets {
			if p.Pos>>atom&1 == 1 && set[e] || p.Neg>>atom&1 == 1 && !set[e] {
				return true
			}
		}
		return false
	}
	related := func(role, x, y int) bool { return flagOf(w.Roles, w.Rels, s.Roles[role], x*w.N+y) }
	for x := range w.N {
		for y := range w.N {
			switch {
			case c.Kind == impl.KdOne && !is(c.X, x),
				c.Kind == impl.KdAll && related(c.Role, x, y) && !is(c.X, x) && !is(c.Y, y),
				c.Kind == impl.KdRole && related(c.Role, x, y) && !related(c.Above, x, y):
				return false
			}
		}
	}
	return true
}

func ofAllKinds(c impl.Clause) bool {
	return c.Kind == impl.KdOne || c.Kind == impl.KdAll || c.Kind == impl.KdRole
}

// wantAllHold holds that in a model each clause that is of all holds, by both ways.
func wantAllHold(t *testing.T, w impl.World, k impl.Kb, s impl.Cls, count map[int]int) {
	t.Helper()
	sets := setsOf(w, s)
	fine := impl.ClsOk(s)
	for _, c := range s.L {
		if !ofAllKinds(c) {
			continue
		}
		count[c.Kind]++
		if !holdsOfAll(w, s, c, sets) || fine && !impl.ClauseHolds(w, s, c, sets) {
			t.Fatalf("%s has the model %v, in which %q does not hold:\n%s", spellKb(k), w, impl.ClauseText(c), clsTextByWords(s))
		}
	}
}

// trueAxioms draws what is so in a world.
func (d *dice) trueAxioms(w impl.World) impl.Kb {
	var k impl.Kb
	most := 1 + d.below(impl.MaxAxioms)
	for range 200 {
		x := d.anyAxiom(1 + d.below(4))
		if impl.AxiomOk(x) && satisfiesByWords(w, x) {
			k.L = append(k.L, x)
		}
		if len(k.L) == most {
			break
		}
	}
	return k
}

// Promise 6: in each model clauses of Clausify of what is told and Top hold, if they are KdOne, KdAll or KdRole.
func TestPromise6ClausesHoldInModels(t *testing.T) {
	d := dice(6)
	count := map[int]int{}
	models := 0
	kbs := someKbs()
	for i, w := range someWorlds() {
		if w.N > 10 {
			continue
		}
		for range 6 {
			k := d.trueAxioms(w)
			s, code := impl.Clausify(k, top)
			if code != impl.ClWell || !impl.IsModel(w, k) {
				continue
			}
			models++
			wantAllHold(t, w, k, s, count)
		}
		for at, k := range kbs {
			if (i+at)%3 == 0 && impl.IsModel(w, k) {
				s, _ := impl.Clausify(k, top)
				wantAllHold(t, w, k, s, count)
			}
		}
	}
	if models < 1000 || count[impl.KdOne] < 10000 || count[impl.KdAll] < 1000 || count[impl.KdRole] < 500 {
		t.Error(models, "models, clauses by their kinds: ", count, ": too few to tell")
	}
}

// Promise 6, and the other way round: where what is told of concepts and roles does not hold, a clause does not.
func TestPromise6ClausesHoldJustWhereItIsTold(t *testing.T) {
	count := map[bool]int{}
	worlds := someWorlds()
	for i, k := range drawnKbs(600) {
		s, code := impl.Clausify(k, top)
		if code != impl.ClWell || !impl.ClsOk(s) {
			continue
		}
		for at, w := range worlds {
			if (i+at)%7 > 0 || w.N > 10 {
				continue
			}
			sets := setsOf(w, s)
			fails := slices.ContainsFunc(k.L, func(x impl.Axiom) bool { return x.Kind <= impl.AxRole && !satisfiesByWords(w, x) })
			broken := slices.ContainsFunc(s.L, func(c impl.Clause) bool { return !impl.ClauseHolds(w, s, c, sets) })
			if fails != broken {
				t.Fatalf("%s in %v: %v, its clauses %v:\n%s", spellKb(k), w, !fails, !broken, clsTextByWords(s))
			}
			count[fails]++
		}
	}
	if count[true] < 1000 || count[false] < 1000 {
		t.Error(count, ": too few to tell")
	}
}

// What is told of some holds where its concept does, whatever there is: its clauses say what the atoms are.
func TestClausesOfSomeHoldInEachWorld(t *testing.T) {
	worlds := someWorlds()
	for i, c := range append(conceptsOf(3), edges()...) {
		s, code := impl.Clausify(impl.Kb{}, c)
		if (code == impl.ClBig) != clausifyByWords(impl.Kb{}, c).big() {
			t.Fatalf("%s: %d", spell(c), code)
		}
		for at, w := range worlds {
			if (i+at)%25 == 0 && w.N < 10 {
				wantAllHold(t, w, impl.Kb{}, s, map[int]int{})
			}
		}
	}
}

func wantClsFine(t *testing.T, s impl.Cls, why string) {
	t.Helper()
	if !impl.ClsOk(s) || string(impl.ClsText(s)) != clsTextByWords(s) {
		t.Errorf("%s: ClsOk is %v, the text %q", why, impl.ClsOk(s), impl.ClsText(s))
	}
	for i, c := range s.Atoms {
		if got := impl.AtomOf(s, c); got != i {
			t.Errorf("%s: AtomOf of the atom %d is %d", why, i, got)
		}
	}
	w := impl.World{N: 2}
	sets := slices.Repeat([][]bool{{true, false}}, len(s.Atoms))
	for _, c := range append(slices.Clone(s.L), fact()) {
		if !ofAllKinds(c) && !impl.ClauseHolds(w, s, c, sets) {
			t.Errorf("%s: %s is refused", why, impl.ClauseText(c))
		}
	}
	if impl.ClauseHolds(w, s, one(""), sets) {
		t.Errorf("%s: nothing holds", why)
	}
}

// wantClsRefused holds that each function of the chapter gives its fixed answer.
func wantClsRefused(t *testing.T, s impl.Cls, why string) {
	t.Helper()
	if impl.ClsOk(s) || len(impl.ClsText(s)) != 0 {
		t.Errorf("%s: ClsOk is %v, the text %q", why, impl.ClsOk(s), impl.ClsText(s))
	}
	for _, c := range append(slices.Clone(s.Atoms[:min(len(s.Atoms), 30)]), top, named("A"), named("B")) {
		if got := impl.AtomOf(s, c); got != -1 {
			t.Errorf("%s: AtomOf is %d", why, got)
		}
	}
	w := drawn(1, "A 0", "r 0-0")
	sets := slices.Repeat([][]bool{{true}}, len(s.Atoms))
	for _, c := range append(slices.Clone(s.L[:min(len(s.L), 30)]), one("0 -0"), along(0, "0 -0", ""), raise(0, 0), fact(), next(0, "", "0"), edge(0, 0, ""), pairOf(0, 0, 0)) {
		if impl.ClauseHolds(w, s, c, sets) {
			t.Errorf("%s: %s holds", why, impl.ClauseText(c))
		}
	}
}

func words(s string) [][]byte { return bytes.Fields([]byte(s)) }

// ordinaryCls has atoms of each kind, not only such as Clausify makes, and clauses of each kind.
func ordinaryCls() impl.Cls {
	return impl.Cls{Atoms: []impl.Con{named("B"), named("A"), top, not(not(named("A"))), and(named("A"), bot), some("z", top), every("r", bot), bot},
		Roles: words("r s"), Who: words("x y"),
		L: []impl.Clause{one("0 -7"), next(11, "-1", "7"), edge(3, 1, "-2"), along(1, "-4", "5"), raise(0, 1), raise(1, 1), fact("0", "", "-7", "6"), pairOf(1, 3, 2), one(""), one("")}}
}

func TestClsOk(t *testing.T) {
	wantClsFine(t, impl.Cls{}, "the zero value")
	wantClsFine(t, impl.Cls{Atoms: []impl.Con{}, Roles: [][]byte{}, Who: [][]byte{}, L: []impl.Clause{}}, "empty lists")
	wantClsFine(t, ordinaryCls(), "ordinary")
	wantClsFine(t, impl.Cls{Atoms: []impl.Con{named("A")}}, "an atom alone")
	wantClsFine(t, impl.Cls{L: []impl.Clause{one(""), fact()}}, "clauses without a literal")
	wantClsFine(t, impl.Cls{Who: words("r s"), Roles: words("r s")}, "words that are both")
}

func manyAtoms(n int) []impl.Con {
	var list []impl.Con
	for i := range n {
		list = append(list, named(string(rune('A'+i))))
	}
	return list
}

func TestClsLimits(t *testing.T) {
	s := impl.Cls{Atoms: manyAtoms(impl.MaxAtoms), Roles: words("a b c"), Who: words("a b c"), L: slices.Repeat([]impl.Clause{one("23 -0")}, mostClauses)}
	wantClsFine(t, s, "all limits met")
	for i, more := range []func(*impl.Cls){
		func(s *impl.Cls) { s.Atoms = manyAtoms(impl.MaxAtoms + 1) },
		func(s *impl.Cls) { s.Atoms = make([]impl.Con, 1<<20) },
		func(s *impl.Cls) { s.Roles = words("a b c d") },
		func(s *impl.Cls) { s.Roles = make([][]byte, 1<<20) },
		func(s *impl.Cls) { s.Who = words("a b c d") },
		func(s *impl.Cls) { s.L = append(s.L[:mostClauses:mostClauses], one("0")) },
		func(s *impl.Cls) { s.L = append(s.L[:mostClauses:mostClauses], fact()) },
		func(s *impl.Cls) { s.L = make([]impl.Clause, 1<<20) },
	} {
		over := s
		more(&over)
		wantClsRefused(t, over, fmt.Sprint("a limit is passed: ", i))
	}
}

func TestClsOfWrongAtoms(t *testing.T) {
	for i, c := range slices.Concat(spoils(named("A")), spoils(and(named("A"), top)), spoils(every("r", top)), tooBig(), []impl.Con{roundCon()}) {
		for at := range 3 {
			s := impl.Cls{Atoms: []impl.Con{named("X"), named("Y"), named("Z")}}
			s.Atoms[at] = c
			wantClsRefused(t, s, fmt.Sprint("the wrong atom ", i, " at ", at))
		}
	}
	for _, c := range append(conceptsOf(2), edges()...) {
		for _, s := range []impl.Cls{{Atoms: []impl.Con{c, cloneCon(c)}}, {Atoms: []impl.Con{c, named("X"), c}}, {Atoms: []impl.Con{named("X"), named("Y"), c, roomyCon(c)}}} {
			wantClsRefused(t, s, "two alike: "+spell(c))
		}
	}
	wantClsFine(t, impl.Cls{Atoms: []impl.Con{and(named("A"), named("B")), and(named("B"), named("A")), or(named("A"), named("B")), some("r", top), some("s", top), every("r", top)}}, "no two alike")
	wantClsRefused(t, impl.Cls{Atoms: []impl.Con{roundCon(), roundCon()}}, "two that go round")
}

func TestClsOfWrongWords(t *testing.T) {
	for _, wrong := range [][][]byte{
		words("s r"), words("r r"), words("a c b"), words("b a c"), words("rr r"), words("R"), words("r R"), words("abcdefg"), words("a1"),
		{nil}, {[]byte("")}, {nil, []byte("r")}, {[]byte("r"), []byte("s ")}, {[]byte("r"), nil},
	} {
		wantClsRefused(t, impl.Cls{Roles: wrong}, fmt.Sprintf("Roles %q", wrong))
		wantClsRefused(t, impl.Cls{Who: wrong}, fmt.Sprintf("Who %q", wrong))
		s := ordinaryCls()
		s.Who = wrong
		wantClsRefused(t, s, fmt.Sprintf("Who %q", wrong))
	}
	for _, right := range []string{"r s", "r rr s", "a abcdef b"} {
		wantClsFine(t, impl.Cls{Roles: words(right), Who: words(right)}, right)
	}
}

// strayClauses have a literal that three atoms, or a role that two roles have not, each in one place.
func strayClauses() []impl.Clause {
	list := []impl.Clause{edge(0, 2, ""), along(2, "", ""), raise(2, 0), raise(0, 2), raise(2, 2), pairOf(2, 0, 0)}
	for _, l := range []string{"3", "-3", "23", "-23", "0 -1 3", "2 -23"} {
		list = append(list, one(l), next(0, l, "0"), next(0, "", l), edge(0, 0, l), along(1, l, ""), along(1, "", l), fact(l), fact("", l), fact("", "", l), fact("", "", "", l))
	}
	return list
}

// homeClauses have just what three atoms and two roles have, at the most.
func homeClauses() []impl.Clause {
	list := []impl.Clause{edge(11, 1, ""), along(1, "", ""), raise(1, 0), raise(0, 1), raise(1, 1), pairOf(1, 3, 3), fact()}
	for _, l := range []string{"2", "-2", "0 1 2 -0 -1 -2"} {
		list = append(list, one(l), next(11, l, "2"), next(11, "", l), edge(11, 1, l), along(1, l, l), along(1, "", l), fact(l, l, l, l), fact("", "", "", l))
	}
	return list
}

func wrongClauses() []impl.Clause {
	return []impl.Clause{{Kind: -1}, {Kind: 7}, {Kind: math.MinInt}, {Kind: impl.KdFact}, {Kind: impl.KdNext}, next(12, "", "0"), next(-1, "", "0"), edge(0, 3, ""), edge(0, -1, ""),
		along(-1, "", ""), raise(0, 3), raise(-1, 0), pairOf(0, 4, 0), pairOf(0, 0, -1), {X: impl.Part{Pos: -1}}, {X: impl.Part{Neg: 1 << impl.MaxAtoms}}, {X: lits("0"), Role: 1},
		{X: lits("0"), Y: lits("0")}, {X: lits("0"), Inds: make([]impl.Part, impl.MaxWho)}, {Kind: impl.KdFact, Inds: make([]impl.Part, impl.MaxWho+1)}, {Kind: impl.KdAll, Fun: 1}}
}

func TestClsOfClausesThatStray(t *testing.T) {
	base := impl.Cls{Atoms: manyAtoms(3), Roles: words("r s"), L: []impl.Clause{one("0"), raise(0, 1)}}
	with := func(c impl.Clause, at int) impl.Cls {
		s := base
		s.L = slices.Insert(slices.Clone(base.L), at, c)
		return s
	}
	for at := range 3 {
		for _, c := range homeClauses() {
			wantClsFine(t, with(c, at), "with "+clauseTextByWords(c))
		}
		for _, c := range strayClauses() {
			wantClsRefused(t, with(c, at), "with "+clauseTextByWords(c))
		}
		for _, c := range wrongClauses() {
			wantClsRefused(t, with(c, at), fmt.Sprint("with ", c))
		}
	}
	// Without any role a clause that has none still fits.
	wantClsFine(t, impl.Cls{Atoms: manyAtoms(1), L: []impl.Clause{one("0"), next(0, "0", "-0"), fact("0")}}, "no roles")
	for _, c := range []impl.Clause{edge(0, 0, ""), along(0, "", ""), raise(0, 0), pairOf(0, 0, 0)} {
		wantClsRefused(t, impl.Cls{Atoms: manyAtoms(1), L: []impl.Clause{c}}, "no roles: "+clauseTextByWords(c))
	}
	for _, c := range []impl.Clause{one("0"), next(0, "", "0"), fact("", "-0")} {
		wantClsRefused(t, impl.Cls{L: []impl.Clause{c}}, "no atoms: "+clauseTextByWords(c))
	}
}

func wantAtom(t *testing.T, s impl.Cls, text string, want int) {
	t.Helper()
	if got := impl.AtomOf(s, readCon(t, text)); got != want {
		t.Errorf("AtomOf of %s is %d, not %d", text, got, want)
	}
}

func TestAtomOf(t *testing.T) {
	s, _ := impl.Clausify(readKb(t, "Sub(A Some(r And(B Top))) Is(x All(r Not(A)))"), readCon(t, "Not(Or(A C))"))
	for i, text := range strings.Fields("A_ B_ C_ Or(Not(A)_Some(r_And(B_Top))) Some(r_And(B_Top)) And(B_Top) All(r_Not(A)) And(Not(A)_Not(C))") {
		wantAtom(t, s, strings.TrimSpace(strings.ReplaceAll(text, "_", " ")), i)
	}
	// It must be the very concept, not one that holds of the same, or its opposite.
	for _, text := range []string{"D", "Top", "Bot", "Not(A)", "Not(Not(A))", "And(Top B)", "Some(s And(B Top))", "All(r And(B Top))", "Some(r B)", "Not(Or(A C))", "Or(A C)", "Not(Some(r A))", "And(Not(C) Not(A))"} {
		wantAtom(t, s, text, -1)
	}
	s = ordinaryCls()
	for i, text := range []string{"B", "A", "Top", "Not(Not(A))", "And(A Bot)", "Some(z Top)", "All(r Bot)", "Bot"} {
		wantAtom(t, s, text, i)
	}
	wantAtom(t, s, "Not(A)", -1)
	wantAtom(t, impl.Cls{}, "Top", -1)
	s = impl.Cls{Atoms: manyAtoms(impl.MaxAtoms)}
	wantAtom(t, s, "X", impl.MaxAtoms-1)
	wantAtom(t, s, "Y", -1)
}

func TestAtomOfWrongConcepts(t *testing.T) {
	s := ordinaryCls()
	for i, c := range slices.Concat(spoils(named("A")), spoils(top), spoils(some("z", top)), tooBig(), []impl.Con{roundCon()}) {
		if got := impl.AtomOf(s, c); got != -1 {
			t.Errorf("AtomOf of the wrong concept %d is %d", i, got)
		}
		// Nor is it an atom where it is one: then what has it is not ClsOk.
		if got := impl.AtomOf(impl.Cls{Atoms: []impl.Con{c}}, c); got != -1 {
			t.Errorf("AtomOf of the wrong concept %d, which is the atom, is %d", i, got)
		}
	}
}

func TestClsText(t *testing.T) {
	for _, c := range []struct {
		s    impl.Cls
		want []string
	}{
		{impl.Cls{}, nil},
		{impl.Cls{Roles: words("r"), Who: words("x")}, nil},
		{impl.Cls{Atoms: []impl.Con{named("A")}}, []string{"0 A"}},
		{impl.Cls{L: []impl.Clause{one(""), fact(), one("")}}, []string{"one", "fact", "one"}},
		{ordinaryCls(), []string{"0 B", "1 A", "2 Top", "3 Not(Not(A))", "4 And(A Bot)", "5 Some(z Top)", "6 All(r Bot)", "7 Bot",
			"one 0x -7x", "next f11 -1x 7y", "edge f3 r1 -2x", "all r1 -4x 5y", "role r0 r1", "role r1 r1", "fact 0a -7c 6d", "pair r1 3 2", "one", "one"}},
	} {
		var want string
		for _, line := range c.want {
			want += line + "\n"
		}
		if got := string(impl.ClsText(c.s)); got != want {
			t.Errorf("ClsText is %q, not %q", got, want)
		}
	}
	s := impl.Cls{Atoms: manyAtoms(impl.MaxAtoms), L: slices.Repeat([]impl.Clause{one("23")}, mostClauses)}
	if got := string(impl.ClsText(s)); got != clsTextByWords(s) || !strings.Contains(got, "\n9 J\n10 K\n") || strings.Count(got, "\n") != impl.MaxAtoms+mostClauses {
		t.Errorf("%q", got)
	}
}

// flagsBy makes a flag of each byte: 1 is true.
func flagsBy(s string) []bool {
	var flags []bool
	for i := range s {
		flags = append(flags, s[i] == '1')
	}
	return flags
}

func flagLists(s string) [][]bool {
	var lists [][]bool
	for _, f := range strings.Fields(s) {
		lists = append(lists, flagsBy(f))
	}
	return lists
}

func wantHolds(t *testing.T, w impl.World, s impl.Cls, c impl.Clause, sets string, want bool) {
	t.Helper()
	if got := impl.ClauseHolds(w, s, c, flagLists(sets)); got != want {
		t.Errorf("ClauseHolds of %s with %s in %v is %v", impl.ClauseText(c), sets, w, got)
	}
}

func TestClauseHoldsOfEachKind(t *testing.T) {
	s := impl.Cls{Atoms: []impl.Con{named("A"), named("B")}, Roles: words("r s")}
	w := drawn(3, "r 0-1", "s 0-1 2-2")
	for _, c := range []struct {
		clause impl.Clause
		sets   string
		want   bool
	}{
		{one("0"), "111 000", true},
		{one("0"), "110 111", false},
		{one("0"), "011 111", false},
		{one("-0"), "000 111", true},
		{one("-0"), "001 000", false},
		{one("0 1"), "101 010", true},
		{one("0 1"), "101 100", false},
		{one("0 -1"), "100 100", true},
		{one("0 -1"), "100 110", false},
		{one("0 -0"), "100 000", true},
		{one(""), "111 111", false},
		{one(""), "000 000", false},
		// r leads from 0 to 1 alone: X is asked of 0, Y of 1.
		{along(0, "0", ""), "100 000", true},
		{along(0, "0", ""), "011 111", false},
		{along(0, "", "0"), "010 000", true},
		{along(0, "", "0"), "101 111", false},
		{along(0, "0", "1"), "000 010", true},
		{along(0, "0", "1"), "100 000", true},
		{along(0, "0", "1"), "011 101", false},
		{along(0, "-0", "-1"), "100 010", false},
		{along(0, "-0", "-1"), "011 010", true},
		{along(0, "-0", "-1"), "100 101", true},
		{along(0, "", ""), "111 111", false},
		{along(0, "0 1", ""), "000 100", true},
		{along(0, "", "-0 1"), "010 000", false},
		{along(1, "0", ""), "101 000", true},
		{along(1, "0", ""), "110 000", false},
		{along(1, "", "0"), "011 000", true},
		{along(1, "", "0"), "110 000", false},
		{along(1, "0", "1"), "100 001", true},
		{along(1, "0", "1"), "001 010", true},
		{along(1, "0", "1"), "010 100", false},
		{raise(0, 1), "000 000", true},
		{raise(1, 0), "111 111", false},
		{raise(0, 0), "000 000", true},
		{raise(1, 1), "000 000", true},
		{next(0, "", "0"), "000 000", true},
		{next(0, "0", "0"), "000 000", true},
		{edge(0, 0, ""), "000 000", true},
		{edge(11, 1, "-0"), "111 111", true},
		{fact(), "000 000", true},
		{fact("0", "0", "0", "0"), "000 000", true},
		{pairOf(0, 2, 2), "000 000", true},
		{pairOf(1, 3, 0), "000 000", true},
	} {
		wantHolds(t, w, s, c.clause, c.sets, c.want)
	}
}

func TestClauseHoldsInWorldsOfOne(t *testing.T) {
	s := impl.Cls{Atoms: []impl.Con{named("A")}, Roles: words("r s")}
	for _, c := range []struct {
		clause               impl.Clause
		loneIn, lone, in, no bool
	}{
		// loneIn and lone: nobody is related, the atom holds or not; in and no: it is related to itself by r.
		{one("0"), true, false, true, false},
		{one("-0"), false, true, false, true},
		{one(""), false, false, false, false},
		{along(0, "", ""), true, true, false, false},
		{along(0, "0", ""), true, true, true, false},
		{along(0, "", "0"), true, true, true, false},
		{along(0, "-0", "0"), true, true, true, true},
		{along(0, "-0", "-0"), true, true, false, true},
		{along(1, "", ""), true, true, true, true},
		{raise(0, 1), true, true, false, false},
		{raise(1, 0), true, true, true, true},
		{next(0, "", "0"), true, true, true, true},
		{fact(), true, true, true, true},
	} {
		wantHolds(t, drawn(1, "r", "s"), s, c.clause, "1", c.loneIn)
		wantHolds(t, drawn(1, "r", "s"), s, c.clause, "0", c.lone)
		wantHolds(t, drawn(1, "r 0-0", "s"), s, c.clause, "1", c.in)
		wantHolds(t, drawn(1, "r 0-0", "s"), s, c.clause, "0", c.no)
	}
}

// The atoms hold of whom their sets have, whatever the world's own names have.
func TestClauseHoldsGoesBySets(t *testing.T) {
	s := impl.Cls{Atoms: []impl.Con{named("A"), top}, Roles: words("r")}
	w := drawn(2, "A 0 1", "r 0-1", "x=0")
	wantHolds(t, w, s, one("0"), "00 11", false)
	wantHolds(t, w, s, one("-0"), "00 11", true)
	wantHolds(t, w, s, one("1"), "11 10", false)
	wantHolds(t, w, s, along(0, "", "0"), "10 11", false)
}

// A role of Cls that the world does not have relates nobody; one that only the world has is no role of Cls.
func TestClauseHoldsOfRolesThatTheWorldDoesNotHave(t *testing.T) {
	s := impl.Cls{Roles: words("q r z")}
	w := drawn(2, "a 0-0 0-1 1-0 1-1", "r 0-1")
	wantHolds(t, w, s, along(0, "", ""), "", true)
	wantHolds(t, w, s, along(1, "", ""), "", false)
	wantHolds(t, w, s, along(2, "", ""), "", true)
	wantHolds(t, w, s, raise(0, 1), "", true)
	wantHolds(t, w, s, raise(1, 0), "", false)
	wantHolds(t, w, s, raise(0, 2), "", true)
	wantHolds(t, w, s, raise(1, 2), "", false)
	wantHolds(t, impl.World{N: 1}, s, raise(1, 2), "", true)
}

func TestClauseHoldsIsWhatTheWordsSay(t *testing.T) {
	s := impl.Cls{Atoms: []impl.Con{named("A"), named("B")}, Roles: words("r s")}
	list := slices.DeleteFunc(smallClauses(), func(c impl.Clause) bool { return !ofAllKinds(c) })
	count := map[bool]int{}
	d := dice(9)
	for i := range 4 * 16 {
		n := 1 + i%4
		w := d.anyWorld(n)
		if n <= 2 {
			w = bitWorld(n, 0, 0, i>>1, i>>2*3, 0, 0)
		}
		for range 12 {
			sets := [][]bool{make([]bool, n), make([]bool, n)}
			for e := range n {
				sets[0][e], sets[1][e] = d.below(2) == 0, d.below(2) == 0
			}
			for _, c := range list {
				want := holdsOfAll(w, s, c, sets)
				count[want]++
				if impl.ClauseHolds(w, s, c, sets) != want {
					t.Fatalf("ClauseHolds of %s with %v in %v is %v", impl.ClauseText(c), sets, w, !want)
				}
			}
		}
	}
	if count[true] < 10000 || count[false] < 10000 {
		t.Error(count, ": too few to tell")
	}
}

func TestClauseHoldsInTheGreatestWorlds(t *testing.T) {
	n := impl.MaxDomain
	w := fullWorld(n)
	s := impl.Cls{Atoms: manyAtoms(impl.MaxAtoms), Roles: words("a r s")}
	d := dice(4)
	for range 20 {
		var sets [][]bool
		for range impl.MaxAtoms {
			flags := make([]bool, n)
			for e := range flags {
				flags[e] = d.below(4) > 0
			}
			sets = append(sets, flags)
		}
		for _, c := range []impl.Clause{one("23"), one("0 1 2 3 4 5 6 7"), one("22 -23"), along(1, "23", "-0"), along(0, "0 1 2 3 4 5 6 7 8 9", ""), along(2, "3 -4", "5 23"), raise(0, 1), raise(1, 1), one("0 -0")} {
			if want := holdsOfAll(w, s, c, sets); impl.ClauseHolds(w, s, c, sets) != want {
				t.Fatalf("ClauseHolds of %s is %v", impl.ClauseText(c), !want)
			}
		}
	}
	// The last of all may be the one of whom it does not hold.
	sets := slices.Repeat([][]bool{slices.Repeat([]bool{true}, n)}, impl.MaxAtoms)
	if !impl.ClauseHolds(w, s, one("23"), sets) {
		t.Error("it holds of all")
	}
	sets[23] = slices.Concat(sets[0][:n-1], []bool{false})
	if impl.ClauseHolds(w, s, one("23"), sets) {
		t.Error("it does not hold of the last")
	}
}

// rightAsked are clauses of each kind that hold in a world of two where all flags are true.
func rightAsked() []impl.Clause {
	return []impl.Clause{one("0"), next(0, "", "0"), edge(0, 0, "0"), along(1, "1", ""), raise(0, 1), fact("0"), pairOf(0, 0, 0)}
}

func TestClauseHoldsWithTooFewOrTooMany(t *testing.T) {
	s := impl.Cls{Atoms: []impl.Con{named("A"), named("B")}, Roles: words("r s")}
	w := drawn(2, "r 0-1", "s 0-1")
	for _, c := range rightAsked() {
		wantHolds(t, w, s, c, "11 11", true)
		for _, sets := range []string{"", "11", "11 11 11", "1 11", "11 1", "111 11", "11 111", "1 1", "111 111", "1111", "1 111"} {
			wantHolds(t, w, s, c, sets, false)
		}
		for _, sets := range [][][]bool{nil, {nil, nil}, {{true, true}, nil}, {nil, {true, true}}, make([][]bool, 1<<20)} {
			if impl.ClauseHolds(w, s, c, sets) {
				t.Errorf("%s holds with %d sets", impl.ClauseText(c), len(sets))
			}
		}
		// What is behind the lengths is no set and no flag.
		room := flagLists("11 11 11")
		if !impl.ClauseHolds(w, s, c, room[:2]) || impl.ClauseHolds(w, s, c, room[:1]) || impl.ClauseHolds(w, s, c, [][]bool{room[0], room[1][:1]}) {
			t.Errorf("%s: what lies behind the lengths is read", impl.ClauseText(c))
		}
	}
	none := impl.Cls{Roles: words("r")}
	wantHolds(t, w, none, fact(), "", true)
	wantHolds(t, w, none, fact(), "11", false)
	wantHolds(t, w, none, raise(0, 0), "", true)
	wantHolds(t, w, none, raise(0, 0), "11", false)
}

func TestClauseHoldsOfClausesThatStray(t *testing.T) {
	s := impl.Cls{Atoms: manyAtoms(3), Roles: words("r s")}
	w := drawn(1, "r", "s")
	for _, c := range strayClauses() {
		wantHolds(t, w, s, c, "1 1 1", false)
		wantHolds(t, w, s, c, "0 0 0", false)
	}
	for _, c := range wrongClauses() {
		wantHolds(t, w, s, c, "1 1 1", false)
		wantHolds(t, w, s, c, "0 0 0", false)
	}
	for _, c := range homeClauses() {
		wantHolds(t, w, s, c, "1 1 1", c.Kind != impl.KdOne || c.X.Pos != 0)
		wantHolds(t, w, s, c, "0 0 0", c.Kind != impl.KdOne || c.X.Neg != 0)
	}
}

func TestClauseHoldsOfWrongArguments(t *testing.T) {
	s := impl.Cls{Atoms: []impl.Con{named("A"), named("B")}, Roles: words("r s")}
	w := drawn(2, "A 0", "r 0-1", "s 0-1", "x=0")
	for _, c := range rightAsked() {
		wantHolds(t, w, s, c, "11 11", true)
		for i, spoil := range []func(*impl.World){
			func(w *impl.World) { w.N = 0 },
			func(w *impl.World) { w.N = -1 },
			func(w *impl.World) { w.N = 3 },
			func(w *impl.World) { w.N = math.MaxInt },
			func(w *impl.World) { w.Names = words("a") },
			func(w *impl.World) { w.Sets = nil },
			func(w *impl.World) { w.Roles = words("s r") },
			func(w *impl.World) { w.Rels = w.Rels[:1] },
			func(w *impl.World) { w.At = []int{2} },
			func(w *impl.World) { w.Inds = words("X") },
		} {
			wrong := w
			spoil(&wrong)
			if impl.ClauseHolds(wrong, s, c, flagLists("11 11")) || impl.ClauseHolds(wrong, s, c, flagLists("111 111")) || impl.ClauseHolds(wrong, s, c, [][]bool{{}, {}}) {
				t.Errorf("%s holds in the wrong world %d", impl.ClauseText(c), i)
			}
		}
		for i, spoil := range []func(*impl.Cls){
			func(s *impl.Cls) { s.Atoms = []impl.Con{named("A"), named("A")} },
			func(s *impl.Cls) { s.Atoms = []impl.Con{named("A"), roundCon()} },
			func(s *impl.Cls) { s.Roles = words("s r") },
			func(s *impl.Cls) { s.Roles = words("r s t u") },
			func(s *impl.Cls) { s.Who = words("X") },
			func(s *impl.Cls) { s.L = []impl.Clause{one("2")} },
			func(s *impl.Cls) { s.L = []impl.Clause{raise(0, 2)} },
			func(s *impl.Cls) { s.L = make([]impl.Clause, mostClauses+1) },
			func(s *impl.Cls) { s.L = []impl.Clause{{Kind: 9}} },
		} {
			wrong := s
			spoil(&wrong)
			if impl.ClauseHolds(w, wrong, c, flagLists("11 11")) {
				t.Errorf("%s holds of the wrong clauses %d", impl.ClauseText(c), i)
			}
		}
	}
	wide := impl.World{N: impl.MaxDomain + 1}
	if impl.ClauseHolds(wide, impl.Cls{}, fact(), nil) || impl.ClauseHolds(impl.World{}, impl.Cls{}, fact(), nil) || !impl.ClauseHolds(impl.World{N: impl.MaxDomain}, impl.Cls{}, fact(), nil) {
		t.Error("how many elements there may be")
	}
}

// roomyCls is s, with other things behind the length of each list.
func roomyCls(s impl.Cls) impl.Cls {
	atoms := make([]impl.Con, 0, len(s.Atoms)+2)
	for _, c := range s.Atoms {
		atoms = append(atoms, roomyCon(c))
	}
	list := make([]impl.Clause, 0, len(s.L)+2)
	for _, c := range s.L {
		list = append(list, roomyClause(c))
	}
	return impl.Cls{Atoms: append(atoms, named("Other"), impl.Con{Kind: 77})[:len(s.Atoms)], Roles: roomyWords(s.Roles), Who: roomyWords(s.Who),
		L: append(list, one("0"), impl.Clause{Kind: 77})[:len(s.L)]}
}

func TestClausifySharesNoMemory(t *testing.T) {
	asked := append(conceptsOf(2), edges()...)
	for i, plain := range append(someKbs(), drawnKbs(150)...) {
		k, c := roomyKb(plain), roomyCon(asked[i*13%len(asked)])
		before := snapshot(k) + snapshot(c)
		s, code := impl.Clausify(k, c)
		wantApart(t, s, k, c)
		if snapshot(k)+snapshot(c) != before {
			t.Fatalf("%s or %s is changed", spellKb(plain), spell(c))
		}
		want, wantCode := impl.Clausify(plain, cloneCon(c))
		if code != wantCode || !sameCls(s, want) {
			t.Fatalf("%s and %s: what lies behind the lengths is read", spellKb(plain), spell(c))
		}
	}
}

func TestClsFunctionsShareNoMemory(t *testing.T) {
	w := drawn(2, "A 0", "B 1", "r 0-1", "s 0-1 1-1", "x=0")
	for i, k := range append(someKbs(), fullKb()) {
		plain, code := impl.Clausify(k, named("A"))
		if i%4 > 0 || code != impl.ClWell || !impl.ClsOk(plain) {
			continue
		}
		s, sets := roomyCls(plain), roomyFlags(setsOf(w, plain))
		before := snapshot(s) + snapshot(sets)
		text := impl.ClsText(s)
		wantApart(t, text, s)
		if string(text) != clsTextByWords(plain) {
			t.Fatalf("%q: what lies behind the lengths is read", text)
		}
		for k := range text[:cap(text)] {
			text[:cap(text)][k] = '?'
		}
		wantClsFine(t, s, "with other things behind the lengths")
		for at, c := range s.Atoms {
			if impl.AtomOf(s, roomyCon(c)) != at {
				t.Fatalf("%s: what lies behind the lengths is read", spell(c))
			}
		}
		for _, c := range s.L {
			if impl.ClauseHolds(roomyWorld(w), s, c, sets) != holdsOfAll(w, plain, c, sets) {
				t.Fatalf("%s: what lies behind the lengths is read", impl.ClauseText(c))
			}
		}
		if snapshot(s)+snapshot(sets) != before {
			t.Fatalf("%sis changed", clsTextByWords(plain))
		}
	}
}

// Lists of the arguments may be one and the same.
func TestClausifyOfListsThatShareMemory(t *testing.T) {
	kids := []impl.Con{named("A"), named("A")}
	c := impl.Con{Kind: impl.CnAnd, Kids: kids}
	word := []byte("r")
	k := told(impl.Axiom{Kind: impl.AxSub, C: c, D: c}, impl.Axiom{Kind: impl.AxRole, R: word, S: word}, impl.Axiom{Kind: impl.AxRel, R: word, A: word, B: word})
	s, code := impl.Clausify(k, c)
	wantApart(t, s, k, c)
	if got := strings.Join(clauseLines(s), ", "); code != impl.ClWell || got != "one -0x -2x, one 0x -3x, one 0x -3x, one -1x 2x 3x, one 1x, role r0 r0, pair r0 0 0, fact 3d" {
		t.Error(code, got)
	}
	flags := []bool{true, false}
	if !impl.ClauseHolds(impl.World{N: 2}, impl.Cls{Atoms: manyAtoms(2)}, one("0 -1"), [][]bool{flags, flags}) || !flags[0] || flags[1] {
		t.Error(flags)
	}
}

func TestClausifyAnswersStayTheSame(t *testing.T) {
	k, c := fullKb(), edges()[0]
	ask := func() string {
		s, code := impl.Clausify(k, c)
		return fmt.Sprint(code, s, string(impl.ClsText(s)), impl.AtomOf(s, named("C")))
	}
	first := ask()
	impl.Clausify(told(sub(named("X"), some("p", named("Y")))), named("Z"))
	impl.Clausify(impl.Kb{}, readCon(t, "Some(a Some(b Some(c Some(d Top))))"))
	for range 20 {
		if ask() != first {
			t.Fatal("an answer hangs on an earlier call")
		}
	}
}
