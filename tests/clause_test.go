package tests

import (
	"cmp"
	"fmt"
	"math"
	"slices"
	"strconv"
	"strings"
	"testing"

	"loop.example/g00534/impl"
)

const allAtoms = 1<<impl.MaxAtoms - 1

// lits makes a part by its literals: "0 -3" are the atom 0 and not the atom 3.
func lits(s string) impl.Part {
	var p impl.Part
	for _, l := range strings.Fields(s) {
		atom, _ := strconv.Atoi(strings.TrimPrefix(l, "-"))
		if l[0] == '-' {
			p.Neg |= 1 << atom
		} else {
			p.Pos |= 1 << atom
		}
	}
	return p
}

func one(x string) impl.Clause { return impl.Clause{Kind: impl.KdOne, X: lits(x)} }

func next(f int, x, y string) impl.Clause {
	return impl.Clause{Kind: impl.KdNext, Fun: f, X: lits(x), Y: lits(y)}
}

func edge(f, r int, x string) impl.Clause {
	return impl.Clause{Kind: impl.KdEdge, Fun: f, Role: r, X: lits(x)}
}

func along(r int, x, y string) impl.Clause {
	return impl.Clause{Kind: impl.KdAll, Role: r, X: lits(x), Y: lits(y)}
}

func raise(r, s int) impl.Clause { return impl.Clause{Kind: impl.KdRole, Role: r, Above: s} }

// fact makes the Inds of the first somebodies; of the others there is nothing.
func fact(of ...string) impl.Clause {
	c := impl.Clause{Kind: impl.KdFact, Inds: make([]impl.Part, impl.MaxWho)}
	for i, s := range of {
		c.Inds[i] = lits(s)
	}
	return c
}

func pairOf(r, a, b int) impl.Clause { return impl.Clause{Kind: impl.KdPair, Role: r, A: a, B: b} }

func cloneClause(c impl.Clause) impl.Clause {
	c.Inds = slices.Clone(c.Inds)
	return c
}

// fewAtoms are all parts of so many atoms.
func fewAtoms(atoms int) []impl.Part {
	var list []impl.Part
	for i := range 1 << (2 * atoms) {
		list = append(list, impl.Part{Pos: i & (1<<atoms - 1), Neg: i >> atoms})
	}
	return list
}

// smallClauses are all of two atoms, two roles, two functions, but of KdFact some: those of one literal at most
// and all of one somebody among them.
func smallClauses() []impl.Clause {
	var list []impl.Clause
	parts := fewAtoms(2)
	for _, x := range parts {
		list = append(list, impl.Clause{Kind: impl.KdOne, X: x})
		for i := range 2 {
			for _, y := range parts {
				if y != (impl.Part{}) {
					list = append(list, impl.Clause{Kind: impl.KdNext, Fun: i, X: x, Y: y})
				}
				list = append(list, impl.Clause{Kind: impl.KdAll, Role: i, X: x, Y: y})
			}
			list = append(list, impl.Clause{Kind: impl.KdEdge, Fun: i, X: x}, impl.Clause{Kind: impl.KdEdge, Fun: i, Role: 1, X: x})
		}
	}
	for i := range 4 {
		list = append(list, raise(i&1, i>>1), pairOf(i&1, i>>1, 0), pairOf(i&1, 0, i>>1))
		for _, p := range parts {
			c := fact()
			c.Inds[i] = p
			list = append(list, c)
		}
	}
	d := dice(5)
	for range 120 {
		c := fact()
		for i := range c.Inds {
			c.Inds[i] = parts[d.below(len(parts))]
		}
		list = append(list, c)
	}
	return list
}

// greatClauses meet the limits, of each kind.
func greatClauses() []impl.Clause {
	f, r, who := impl.MaxFuns-1, impl.MaxRoles-1, impl.MaxWho-1
	whole := impl.Part{Pos: allAtoms, Neg: allAtoms}
	last := lits("23")
	list := []impl.Clause{raise(r, r), raise(0, r), raise(r, 0), pairOf(r, who, who), pairOf(0, 0, who), pairOf(0, who, 0), pairOf(r, 0, 0), fact()}
	for _, p := range []impl.Part{{}, last, lits("-23"), lits("-0"), {Pos: allAtoms}, {Neg: allAtoms}, whole} {
		list = append(list, impl.Clause{X: p}, impl.Clause{Kind: impl.KdEdge, Fun: f, Role: r, X: p},
			impl.Clause{Kind: impl.KdNext, Fun: f, X: p, Y: last}, impl.Clause{Kind: impl.KdNext, Fun: f, X: p, Y: whole},
			impl.Clause{Kind: impl.KdAll, Role: r, X: p}, impl.Clause{Kind: impl.KdAll, Role: r, X: last, Y: p},
			impl.Clause{Kind: impl.KdFact, Inds: []impl.Part{p, p, p, p}})
		for i := range impl.MaxWho {
			c := fact()
			c.Inds[i] = p
			list = append(list, c)
		}
	}
	return list
}

func rightClauses() []impl.Clause { return append(smallClauses(), greatClauses()...) }

// wantClauseRefused holds that each function of the chapter gives its fixed answer.
func wantClauseRefused(t *testing.T, c impl.Clause, why string) {
	t.Helper()
	if impl.ClauseOk(c) || impl.Empty(c) || impl.Taut(c) || len(impl.ClauseText(c)) != 0 {
		t.Errorf("%s: %v is ClauseOk, Empty, Taut or has a text: %v, %v, %v, %q", why, c, impl.ClauseOk(c), impl.Empty(c), impl.Taut(c), impl.ClauseText(c))
	}
	others := []impl.Clause{c, one(""), one("0 -0"), next(0, "0", "1"), edge(0, 0, ""), along(0, "", ""), raise(0, 0), fact(), fact("0", "1", "2", "3"), pairOf(0, 0, 0)}
	for _, b := range others {
		if impl.Stronger(c, b) || impl.Stronger(b, c) || impl.ClauseCmp(c, b) != 0 || impl.ClauseCmp(b, c) != 0 {
			t.Errorf("%s: %v is held against %v: %v, %v, %d, %d", why, c, b, impl.Stronger(c, b), impl.Stronger(b, c), impl.ClauseCmp(c, b), impl.ClauseCmp(b, c))
		}
	}
}

func wantClauseFine(t *testing.T, c impl.Clause, why string) {
	t.Helper()
	if !impl.ClauseOk(c) || !impl.Stronger(c, c) || impl.ClauseCmp(c, c) != 0 || len(impl.ClauseText(c)) == 0 {
		t.Errorf("%s: %v is refused", why, c)
	}
}

func TestClauseOk(t *testing.T) {
	for _, c := range rightClauses() {
		wantClauseFine(t, c, "right")
		if c.Kind != impl.KdFact {
			c.Inds = []impl.Part{}
			wantClauseFine(t, c, "an empty list")
		}
	}
	wantClauseFine(t, impl.Clause{}, "the zero value")
}

func TestClausesOfWrongKind(t *testing.T) {
	for _, kind := range []int{math.MinInt, -6, -2, -1, 7, 8, 13, 256, 1 << 32, math.MaxInt} {
		for _, c := range []impl.Clause{one(""), one("0"), next(1, "0", "1"), edge(0, 0, ""), along(1, "0", "1"), raise(0, 1), raise(1, 1), fact(), fact("0"), pairOf(1, 2, 3)} {
			c.Kind = kind
			wantClauseRefused(t, c, fmt.Sprint("the kind ", kind))
		}
	}
}

// plain has each kind with all that it has being 0, but for what it must have.
func plain() []impl.Clause {
	return []impl.Clause{one(""), next(0, "", "0"), edge(0, 0, ""), along(0, "", ""), raise(0, 0), fact(), pairOf(0, 0, 0)}
}

// kindFields are what each kind has, by the document's table.
var kindFields = []string{"X", "Fun X Y", "Fun Role X", "Role X Y", "Role Above", "Inds", "Role A B"}

func clauseHas(kind int, field string) bool {
	return slices.Contains(strings.Fields(kindFields[kind]), field)
}

func TestNumbersOfClauses(t *testing.T) {
	for _, field := range []struct {
		name  string
		limit int
		at    func(c *impl.Clause) *int
	}{
		{"Fun", impl.MaxFuns, func(c *impl.Clause) *int { return &c.Fun }},
		{"Role", impl.MaxRoles, func(c *impl.Clause) *int { return &c.Role }},
		{"Above", impl.MaxRoles, func(c *impl.Clause) *int { return &c.Above }},
		{"A", impl.MaxWho, func(c *impl.Clause) *int { return &c.A }},
		{"B", impl.MaxWho, func(c *impl.Clause) *int { return &c.B }},
	} {
		for _, c := range plain() {
			for _, n := range []int{math.MinInt, -1 << 32, -2, -1, 0, 1, field.limit - 1, field.limit, field.limit + 1, 100, 1 << 32, math.MaxInt} {
				*field.at(&c) = n
				why := fmt.Sprint(field.name, " of ", n)
				if n == 0 || clauseHas(c.Kind, field.name) && n > 0 && n < field.limit {
					wantClauseFine(t, c, why)
				} else {
					wantClauseRefused(t, c, why)
				}
			}
		}
	}
}

func TestPartsOfClauses(t *testing.T) {
	masks := []int{math.MinInt, -allAtoms, -2, -1, 0, 1, 1 << 23, allAtoms - 1, allAtoms, allAtoms + 1, allAtoms + 2, 1 << 32, 1<<32 + 1, math.MaxInt}
	for _, field := range []struct {
		name string
		at   func(c *impl.Clause) *impl.Part
	}{
		{"X", func(c *impl.Clause) *impl.Part { return &c.X }},
		{"Y", func(c *impl.Clause) *impl.Part { return &c.Y }},
		{"Inds", func(c *impl.Clause) *impl.Part { return &c.Inds[0] }},
		{"Inds", func(c *impl.Clause) *impl.Part { return &c.Inds[1] }},
		{"Inds", func(c *impl.Clause) *impl.Part { return &c.Inds[2] }},
		{"Inds", func(c *impl.Clause) *impl.Part { return &c.Inds[3] }},
	} {
		for _, c := range plain() {
			if field.name == "Inds" && c.Kind != impl.KdFact {
				continue
			}
			for _, pos := range masks {
				for _, neg := range masks {
					c := cloneClause(c)
					*field.at(&c) = impl.Part{Pos: pos, Neg: neg}
					fits := pos >= 0 && pos <= allAtoms && neg >= 0 && neg <= allAtoms
					none := pos == 0 && neg == 0
					why := fmt.Sprint(field.name, " of ", pos, " and ", neg)
					if none && !(c.Kind == impl.KdNext && field.name == "Y") || !none && fits && clauseHas(c.Kind, field.name) {
						wantClauseFine(t, c, why)
					} else {
						wantClauseRefused(t, c, why)
					}
				}
			}
		}
	}
}

func TestNextNeedsALiteralInY(t *testing.T) {
	for _, x := range []string{"", "0", "-0", "0 -0", "23"} {
		wantClauseRefused(t, next(0, x, ""), "nothing in Y")
		wantClauseRefused(t, next(impl.MaxFuns-1, x, ""), "nothing in Y")
		wantClauseFine(t, next(0, x, "0"), "an atom in Y")
		wantClauseFine(t, next(0, x, "-0"), "not an atom in Y")
		wantClauseFine(t, next(0, x, "-23"), "not an atom in Y")
		wantClauseFine(t, along(0, x, ""), "nothing in Y of KdAll")
	}
}

func TestHowManyInds(t *testing.T) {
	for _, c := range plain() {
		for _, n := range []int{0, 1, 2, 3, 4, 5, 6, 8, 1 << 16} {
			for _, p := range []impl.Part{{}, lits("0"), lits("-1 1")} {
				c.Inds = slices.Repeat([]impl.Part{p}, n)
				why := fmt.Sprint(n, " of Inds")
				if c.Kind == impl.KdFact && n == impl.MaxWho || c.Kind != impl.KdFact && n == 0 {
					wantClauseFine(t, c, why)
				} else {
					wantClauseRefused(t, c, why)
				}
			}
		}
	}
	wantClauseRefused(t, impl.Clause{Kind: impl.KdFact}, "no Inds")
	// What lies behind the length may be just what lacks, or what is too much.
	c := fact("0", "1", "2", "3")
	c.Inds = c.Inds[:3]
	wantClauseRefused(t, c, "the last behind the length")
	c.Inds = append(fact("0", "1", "2", "3").Inds, impl.Part{Pos: -1})[:impl.MaxWho]
	wantClauseFine(t, c, "a wrong one behind the length")
}

// literalTexts tells each part's literals, by the document's words, bit by bit.
func literalTexts(c impl.Clause) [][]string {
	var list [][]string
	for i, p := range append([]impl.Part{c.X, c.Y}, c.Inds...) {
		var of []string
		for atom := range impl.MaxAtoms {
			for _, s := range []struct {
				mask int
				dash string
			}{{p.Pos, ""}, {p.Neg, "-"}} {
				if s.mask/(1<<atom)%2 == 1 {
					of = append(of, s.dash+strconv.Itoa(atom)+"xyabcd"[i:i+1])
				}
			}
		}
		list = append(list, of)
	}
	return list
}

func clauseTextByWords(c impl.Clause) string {
	words := []string{strings.Fields("one next edge all role fact pair")[c.Kind]}
	for _, f := range []struct {
		name, mark string
		n          int
	}{{"Fun", "f", c.Fun}, {"Role", "r", c.Role}, {"Above", "r", c.Above}, {"A", "", c.A}, {"B", "", c.B}} {
		if clauseHas(c.Kind, f.name) {
			words = append(words, f.mark+strconv.Itoa(f.n))
		}
	}
	return strings.Join(append(words, slices.Concat(literalTexts(c)...)...), " ")
}

func TestClauseText(t *testing.T) {
	for _, c := range []struct {
		clause impl.Clause
		want   string
	}{
		{one(""), "one"},
		{one("0"), "one 0x"},
		{one("-0 0"), "one 0x -0x"},
		{one("10 -9 2 -10"), "one 2x -9x 10x -10x"},
		{one("23 -23 -22"), "one -22x 23x -23x"},
		{next(0, "", "0"), "next f0 0y"},
		{next(3, "-2", "1 -0 -3"), "next f3 -2x -0y 1y -3y"},
		{next(11, "5 4", "3 -3"), "next f11 4x 5x 3y -3y"},
		{edge(0, 0, ""), "edge f0 r0"},
		{edge(10, 2, "-7"), "edge f10 r2 -7x"},
		{along(0, "", ""), "all r0"},
		{along(1, "-4", ""), "all r1 -4x"},
		{along(2, "", "-4"), "all r2 -4y"},
		{along(2, "4 -5", "4 -4"), "all r2 4x -5x 4y -4y"},
		{raise(0, 0), "role r0 r0"},
		{raise(1, 2), "role r1 r2"},
		{raise(2, 1), "role r2 r1"},
		{fact(), "fact"},
		{fact("", "0 2"), "fact 0b 2b"},
		{fact("1 -1", "-0", "", "23"), "fact 1a -1a -0b 23d"},
		{fact("", "", "-3"), "fact -3c"},
		{pairOf(0, 0, 0), "pair r0 0 0"},
		{pairOf(1, 2, 3), "pair r1 2 3"},
		{pairOf(2, 3, 0), "pair r2 3 0"},
	} {
		if got := string(impl.ClauseText(c.clause)); got != c.want {
			t.Errorf("ClauseText of %v is %q, not %q", c.clause, got, c.want)
		}
	}
	for _, c := range rightClauses() {
		if got := string(impl.ClauseText(c)); got != clauseTextByWords(c) {
			t.Errorf("ClauseText of %v is %q, not %q", c, got, clauseTextByWords(c))
		}
	}
}

func TestEmpty(t *testing.T) {
	if !impl.Empty(impl.Clause{}) || !impl.Empty(one("")) || !impl.Empty(fact()) {
		t.Error("what has no literal is not Empty")
	}
	for _, c := range []impl.Clause{edge(0, 0, ""), along(0, "", ""), next(0, "", "0"), raise(0, 0), raise(0, 1), pairOf(0, 0, 0)} {
		if impl.Empty(c) {
			t.Errorf("%s is Empty", impl.ClauseText(c))
		}
	}
	for atom := range impl.MaxAtoms {
		for _, dash := range []string{"", "-"} {
			l := dash + strconv.Itoa(atom)
			for _, c := range []impl.Clause{one(l), fact(l), fact("", l), fact("", "", l), fact("", "", "", l)} {
				if impl.Empty(c) {
					t.Errorf("%s is Empty", impl.ClauseText(c))
				}
			}
		}
	}
	for _, c := range rightClauses() {
		bare := len(slices.Concat(literalTexts(c)...)) == 0
		if got := impl.Empty(c); got != (bare && (c.Kind == impl.KdOne || c.Kind == impl.KdFact)) {
			t.Errorf("Empty of %s is %v", impl.ClauseText(c), got)
		}
	}
}

// tautByWords looks for a literal and the same with a dash.
func tautByWords(c impl.Clause) bool {
	list := slices.Concat(literalTexts(c)...)
	return c.Kind == impl.KdRole && c.Role == c.Above ||
		slices.ContainsFunc(list, func(l string) bool { return slices.Contains(list, "-"+l) })
}

func wantTaut(t *testing.T, want bool, list ...impl.Clause) {
	t.Helper()
	for _, c := range list {
		if got := impl.Taut(c); got != want || !impl.ClauseOk(c) {
			t.Errorf("Taut of %v, %s, is %v", c, impl.ClauseText(c), got)
		}
	}
}

func TestTaut(t *testing.T) {
	for i := range impl.MaxRoles {
		for k := range impl.MaxRoles {
			wantTaut(t, i == k, raise(i, k))
			wantTaut(t, false, edge(i, k, ""), pairOf(i, k, k), pairOf(i, i, k), along(i, "", ""))
		}
	}
	for atom := range impl.MaxAtoms {
		l := strconv.Itoa(atom)
		other := strconv.Itoa((atom + 1) % impl.MaxAtoms)
		both := l + " -" + l
		wantTaut(t, true, one(both), one(both+" "+other), next(1, both, other), next(1, other, both), next(1, "", both), edge(1, 2, both),
			along(1, both, ""), along(1, "", both), along(2, "-"+other, both), fact(both), fact("", both), fact("", "", both), fact("", "", "", both),
			fact(l, "-"+l, both, "-"+other))
		// An atom in one part, and not it in another one, are of two.
		wantTaut(t, false, one(l), one("-"+l), one(l+" -"+other), next(1, l, "-"+l), next(1, "-"+l, l), next(1, l, l), edge(1, 1, l), along(1, l, "-"+l), along(1, "-"+l, l),
			along(0, l, l), fact(l, "-"+l), fact("-"+l, "", l), fact("", l, "", "-"+l), fact(l, l, l, l), fact("-"+l, l+" -"+other, "-"+l, l))
	}
	wantTaut(t, false, one(""), fact(), impl.Clause{X: impl.Part{Pos: allAtoms}}, impl.Clause{X: impl.Part{Neg: allAtoms}}, impl.Clause{X: impl.Part{Pos: 0xaaaaaa, Neg: 0x555555}})
	wantTaut(t, true, impl.Clause{X: impl.Part{Pos: 0xaaaaaa, Neg: 0x555557}}, impl.Clause{X: impl.Part{Pos: 0xaaaaaa, Neg: 0xd55555}})
	for _, c := range rightClauses() {
		wantTaut(t, tautByWords(c), c)
	}
}

// literalsIn tells whether each of low is in high, the marks of their parts left away.
func literalsIn(low, high []string) bool {
	return !slices.ContainsFunc(low, func(l string) bool {
		return !slices.ContainsFunc(high, func(h string) bool { return h[:len(h)-1] == l[:len(l)-1] })
	})
}

// strongerByWords goes by the document's sentence, literal by literal.
func strongerByWords(a, b impl.Clause) bool {
	of, in := literalTexts(a), literalTexts(b)
	if a.Kind == impl.KdOne {
		if b.Kind == impl.KdFact {
			in = in[2:]
		}
		return b.Kind != impl.KdRole && b.Kind != impl.KdPair &&
			slices.ContainsFunc(in, func(high []string) bool { return literalsIn(of[0], high) })
	}
	if a.Kind != b.Kind || a.Fun != b.Fun || a.Role != b.Role || a.Above != b.Above || a.A != b.A || a.B != b.B {
		return false
	}
	for i := range of {
		if !literalsIn(of[i], in[i]) {
			return false
		}
	}
	return true
}

func wantStronger(t *testing.T, a, b impl.Clause, want bool) {
	t.Helper()
	if got := impl.Stronger(a, b); got != want || !impl.ClauseOk(a) || !impl.ClauseOk(b) {
		t.Errorf("Stronger of %q and %q is %v", impl.ClauseText(a), impl.ClauseText(b), got)
	}
}

func TestOneIsStrongerThanOtherKinds(t *testing.T) {
	for _, x := range []string{"0", "-0", "0 1", "0 -1", "0 -0", "-22 23", "3 -4 5"} {
		a := one(x)
		within := []impl.Clause{one(x), next(2, x, "7"), next(2, "7", x), next(2, x, x), edge(1, 2, x), along(2, x, ""), along(2, "", x), along(0, "7", x), along(0, x, x),
			fact(x), fact("", x), fact("7", "", x), fact("", "-7", "", x), fact(x, x, x, x)}
		for _, b := range within {
			wantStronger(t, a, b, true)
			wantStronger(t, one(""), b, true)
			wantStronger(t, b, a, b.Kind == impl.KdOne)
			// What it has beside makes it weaker still.
			wide := cloneClause(b)
			wide.X.Pos |= clauseBits(b, "X", 1<<20)
			for i := range wide.Inds {
				wide.Inds[i].Neg |= 1 << 19
			}
			wantStronger(t, a, wide, true)
			wantStronger(t, wide, a, false)
			// One literal more than the other one has anywhere.
			for _, more := range []string{"20", "-20", "-7 21"} {
				wantStronger(t, one(x+" "+more), b, false)
			}
		}
		for _, b := range []impl.Clause{raise(0, 0), raise(0, 1), raise(2, 1), pairOf(0, 0, 0), pairOf(1, 2, 3)} {
			wantStronger(t, a, b, false)
			wantStronger(t, b, a, false)
			wantStronger(t, one(""), b, false)
			wantStronger(t, b, one(""), false)
		}
	}
}

// clauseBits are bits for a part, if the kind has it.
func clauseBits(c impl.Clause, field string, bits int) int {
	if clauseHas(c.Kind, field) {
		return bits
	}
	return 0
}

func TestLiteralsSpreadOverParts(t *testing.T) {
	a := one("0 -1")
	for _, b := range []impl.Clause{
		next(0, "0", "-1"), next(0, "-1", "0"), next(0, "0 1", "-1"), next(0, "-1 2", "0 1"),
		along(0, "0", "-1"), along(0, "-1", "0"), along(2, "0 1 2", "-0 -1 -2"),
		edge(0, 0, "0"), edge(0, 0, "-1"), edge(0, 0, "0 1"), edge(0, 0, "-0 -1"), edge(0, 0, ""),
		fact("0", "-1"), fact("-1", "0"), fact("0", "", "-1"), fact("0", "", "", "-1"), fact("", "0", "-1"), fact("", "0", "", "-1"), fact("", "", "0", "-1"), fact("", "", "-1", "0"),
		fact("0", "0", "0", "-1"), fact("0 1 -2", "-0 1", "-0 -1", "1"), fact(),
		one("0"), one("-1"), one("0 1"), one("-0 -1"), one("1 -0"), one(""),
	} {
		wantStronger(t, a, b, false)
	}
	for _, b := range []impl.Clause{next(0, "0", "0 -1"), along(0, "-1 0", "-1"), fact("0", "-1", "0 -1"), fact("0", "-1", "", "2 0 -1")} {
		wantStronger(t, a, b, true)
	}
}

// wantPart asks for two of one kind that differ in the literals of one part.
func wantPart(t *testing.T, low, high impl.Clause) {
	t.Helper()
	wantStronger(t, low, high, true)
	wantStronger(t, high, low, false)
	wantStronger(t, low, low, true)
	wantStronger(t, high, high, true)
}

func TestStrongerOfOneKind(t *testing.T) {
	for _, c := range []struct{ low, high, apart string }{{"0", "0 1", "1"}, {"", "23", "-23"}, {"", "-23", "23"}, {"-1", "-1 1", "1"}, {"0 -2", "0 -0 -2", "2 -0"}} {
		wantPart(t, one(c.low), one(c.high))
		wantPart(t, next(3, c.low, "5"), next(3, c.high, "5"))
		wantPart(t, next(3, "5", c.low+" 6"), next(3, "5", c.high+" 6"))
		wantPart(t, edge(3, 1, c.low), edge(3, 1, c.high))
		wantPart(t, along(2, c.low, "5"), along(2, c.high, "5"))
		wantPart(t, along(2, "5", c.low), along(2, "5", c.high))
		for i := range impl.MaxWho {
			of := []string{"4", "-5", "6", "7 -7"}
			low, high := slices.Clone(of), slices.Clone(of)
			low[i], high[i] = c.low, c.high
			wantPart(t, fact(low...), fact(high...))
			high[i] = c.apart
			wantStronger(t, fact(low...), fact(high...), c.low == "")
			wantStronger(t, fact(high...), fact(low...), false)
		}
		wantStronger(t, edge(3, 1, c.apart), edge(3, 1, c.low), false)
		wantStronger(t, along(2, "5", c.apart), along(2, "5", c.low), false)
		wantStronger(t, next(3, "5", "6 "+c.apart), next(3, "5", "6 "+c.low), false)
	}
	// Another kind than KdOne is held part against part: what is in X of one is not looked for in Y of the other.
	wantStronger(t, next(0, "0", "1"), next(0, "1", "0"), false)
	wantStronger(t, next(0, "", "1"), next(0, "1", "0"), false)
	wantStronger(t, along(0, "0", ""), along(0, "", "0"), false)
	wantStronger(t, along(0, "", "0"), along(0, "0", ""), false)
	wantStronger(t, fact("0"), fact("", "0"), false)
	wantStronger(t, fact("", "0"), fact("0", "", "0", "0"), false)
	// Nor is one of another kind that would say as much.
	wantStronger(t, fact(), one(""), false)
	wantStronger(t, fact(), fact("0"), true)
	wantStronger(t, along(0, "", ""), edge(0, 0, ""), false)
	wantStronger(t, edge(0, 0, ""), next(0, "", "0"), false)
	wantStronger(t, along(0, "0", ""), one("0"), false)
}

func TestStrongerByWhatIsNoPart(t *testing.T) {
	for _, list := range [][]impl.Clause{
		{next(0, "0", "1"), next(1, "0", "1"), next(impl.MaxFuns-1, "0", "1")},
		{edge(0, 0, "0"), edge(1, 0, "0"), edge(0, 1, "0"), edge(1, 1, "0"), edge(impl.MaxFuns-1, 2, "0")},
		{along(0, "0", "1"), along(1, "0", "1"), along(2, "0", "1")},
		{raise(0, 0), raise(0, 1), raise(1, 0), raise(1, 1), raise(1, 2), raise(2, 1), raise(0, 2), raise(2, 2)},
		{pairOf(0, 0, 0), pairOf(1, 0, 0), pairOf(0, 1, 0), pairOf(0, 0, 1), pairOf(0, 1, 1), pairOf(2, 3, 1), pairOf(2, 1, 3), pairOf(2, 3, 3)},
		{next(0, "0", "1"), edge(0, 0, "0"), along(0, "0", "1"), raise(0, 0), fact("0", "1"), pairOf(0, 0, 0)},
	} {
		for i, a := range list {
			for k, b := range list {
				wantStronger(t, a, b, i == k)
			}
		}
	}
}

func TestStrongerIsWhatTheWordsSay(t *testing.T) {
	list := rightClauses()
	found := map[bool]int{}
	for i, a := range list {
		for k, b := range list {
			// A KdOne against all, two of one other kind and of two others now and then.
			if a.Kind != impl.KdOne && (i*3+k)%4 > 0 {
				continue
			}
			want := strongerByWords(a, b)
			found[want]++
			if impl.Stronger(a, b) != want {
				t.Fatalf("Stronger of %q and %q is %v", impl.ClauseText(a), impl.ClauseText(b), !want)
			}
		}
	}
	if found[true] < 1000 || found[false] < 1000 {
		t.Error(found, ": too few to tell")
	}
}

// Promise 5: what is stronger than what is stronger is.
func TestPromise5StrongerInARow(t *testing.T) {
	var list []impl.Clause
	for i, c := range rightClauses() {
		if c.Kind <= impl.KdOne || c.Fun == 0 && c.Role == 0 && i%3 > 0 || i%5 == 0 {
			list = append(list, c)
		}
	}
	over := make([][]int, len(list))
	rows := 0
	for i, a := range list {
		if !impl.Stronger(a, a) {
			t.Fatalf("%q is not stronger than itself", impl.ClauseText(a))
		}
		for k, b := range list {
			if impl.Stronger(a, b) {
				over[i] = append(over[i], k)
			}
		}
	}
	for i, a := range list {
		for _, k := range over[i] {
			for _, m := range over[k] {
				if i != k && k != m {
					rows++
				}
				if !slices.Contains(over[i], m) {
					t.Fatalf("%q is stronger than %q, which is than %q", impl.ClauseText(a), impl.ClauseText(list[k]), impl.ClauseText(list[m]))
				}
			}
			// Each stronger than the other are two only if they are alike.
			if slices.Contains(over[k], i) != (impl.ClauseCmp(a, list[k]) == 0) {
				t.Fatalf("%q and %q are each stronger", impl.ClauseText(a), impl.ClauseText(list[k]))
			}
		}
	}
	if rows < 10000 {
		t.Error(rows, " rows of three: too few to tell")
	}
}

// scene is what there may be: two atoms, two roles, two functions, and who the somebodies are.
type scene struct {
	n    int
	atom [2]int
	rel  [2][]bool
	next [2][]int
	who  [impl.MaxWho]int
}

// is tells whether one of a part's literals holds of e.
func (s scene) is(p impl.Part, e int) bool {
	for i, set := range s.atom {
		in := set>>e&1 == 1
		if p.Pos>>i&1 == 1 && in || p.Neg>>i&1 == 1 && !in {
			return true
		}
	}
	return false
}

// holds goes by the document's table.
func (s scene) holds(c impl.Clause) bool {
	related := func(role, from, to int) bool { return s.rel[role][from*s.n+to] }
	switch c.Kind {
	case impl.KdFact:
		for i, p := range c.Inds {
			if s.is(p, s.who[i]) {
				return true
			}
		}
		return false
	case impl.KdPair:
		return related(c.Role, s.who[c.A], s.who[c.B])
	}
	for x := range s.n {
		next := s.next[c.Fun&1][x]
		switch c.Kind {
		case impl.KdOne:
			if !s.is(c.X, x) {
				return false
			}
		case impl.KdNext:
			if !s.is(c.X, x) && !s.is(c.Y, next) {
				return false
			}
		case impl.KdEdge:
			if !s.is(c.X, x) && !related(c.Role, x, next) {
				return false
			}
		}
		for y := range s.n {
			if c.Kind == impl.KdAll && !s.is(c.X, x) && !s.is(c.Y, y) && related(c.Role, x, y) ||
				c.Kind == impl.KdRole && related(c.Role, x, y) && !related(c.Above, x, y) {
				return false
			}
		}
	}
	return true
}

// someScenes have each choice of atoms of one to four elements, each with all functions of two elements, some of more,
// and with nobody, everybody and some being related.
func someScenes() []scene {
	var list []scene
	d := dice(7)
	for _, n := range []int{1, 2, 3, 4} {
		for atoms := range 1 << (2 * n) {
			for turn := range 24 {
				if n > 2 && turn > 5 {
					break
				}
				list = append(list, d.anyScene(n, atoms, turn))
			}
		}
	}
	return list
}

func (d *dice) anyScene(n, atoms, turn int) scene {
	s := scene{n: n, atom: [2]int{atoms & (1<<n - 1), atoms >> n}}
	for i := range 2 {
		s.rel[i] = make([]bool, n*n)
		for at := range s.rel[i] {
			s.rel[i][at] = (turn+i)%3 == 0 || (turn+i)%3 == 1 && d.below(2) == 0
		}
		for e := range n {
			to := d.below(n)
			if turn < 4 {
				// Of two elements these are all functions there are.
				to = (e + turn>>(e&1)) % n
			}
			s.next[i] = append(s.next[i], to)
		}
	}
	for i := range s.who {
		s.who[i] = d.below(n)
		if turn%2 == 0 {
			s.who[i] = i % n
		}
	}
	return s
}

// where tells by a bit for each scene whether the clause holds there.
func where(scenes []scene, c impl.Clause) []uint64 {
	out := make([]uint64, len(scenes)/64+1)
	for i, s := range scenes {
		if s.holds(c) {
			out[i/64] |= 1 << (i % 64)
		}
	}
	return out
}

func onlyWhere(a, b []uint64) bool {
	for i := range a {
		if a[i]&^b[i] != 0 {
			return false
		}
	}
	return true
}

// Promise 5: what is stronger holds only where the other one does; a KdOne is, where the other one can fail, stronger just then.
func TestPromise5StrongerHoldsOnlyWhere(t *testing.T) {
	scenes := someScenes()
	list := smallClauses()
	var at [][]uint64
	for _, c := range list {
		at = append(at, where(scenes, c))
	}
	stronger, others := 0, 0
	for i, a := range list {
		for k, b := range list {
			got, only := impl.Stronger(a, b), onlyWhere(at[i], at[k])
			if got && !only {
				t.Fatalf("%q is stronger than %q, and holds where that does not", impl.ClauseText(a), impl.ClauseText(b))
			}
			if got && i != k {
				stronger++
			}
			if a.Kind != impl.KdOne || b.Kind == impl.KdRole || b.Kind == impl.KdPair || impl.Taut(b) {
				continue
			}
			others++
			if only && !got {
				t.Fatalf("%q is not stronger than %q, and holds only where that does", impl.ClauseText(a), impl.ClauseText(b))
			}
		}
	}
	if stronger < 10000 || others < 5000 {
		t.Errorf("%d are stronger, %d may be: too few to tell", stronger, others)
	}
}

// Promise 5: Taut ones hold whatever there is; and each other one fails somewhere.
func TestPromise5TautHoldsEverywhere(t *testing.T) {
	scenes := someScenes()
	count := map[bool]int{}
	for _, c := range smallClauses() {
		fails := slices.ContainsFunc(scenes, func(s scene) bool { return !s.holds(c) })
		if impl.Taut(c) == fails {
			t.Errorf("Taut of %q is %v, and there is a scene where it fails: %v", impl.ClauseText(c), impl.Taut(c), fails)
		}
		count[fails]++
	}
	if count[true] < 100 || count[false] < 100 {
		t.Error(count, ": too few to tell")
	}
}

// numbersOf are what ClauseCmp goes by, in their order.
func numbersOf(c impl.Clause) []int {
	list := []int{c.Kind, c.Fun, c.Role, c.Above, c.X.Pos, c.X.Neg, c.Y.Pos, c.Y.Neg, c.A, c.B}
	for _, p := range c.Inds {
		list = append(list, p.Pos, p.Neg)
	}
	return list
}

func TestClauseCmpByEachField(t *testing.T) {
	// Each is less than the next, and what comes later in the order goes down as far as it can.
	for _, row := range [][]impl.Clause{
		{one("23 -23"), next(0, "", "0"), edge(0, 0, ""), along(0, "", ""), raise(0, 0), fact(), pairOf(0, 0, 0)},
		{one("23 -23"), pairOf(0, 0, 0)},
		{next(11, "23 -23", "23 -23"), edge(0, 0, "")},
		{edge(11, 2, "23"), along(0, "", "")},
		{along(2, "23", "23"), raise(0, 0)},
		{raise(2, 2), fact()},
		{fact("23", "23", "23", "23"), pairOf(0, 0, 0)},
		{next(0, "23 -23", "23 -23"), next(1, "-1", "-1"), next(1, "1", "-0"), next(2, "", "0"), next(10, "", "0"), next(11, "", "0")},
		{edge(0, 2, "23"), edge(1, 0, ""), edge(1, 1, ""), edge(1, 2, "0"), edge(2, 0, "")},
		{along(0, "23", "23"), along(1, "", ""), along(1, "", "1"), along(1, "-0", ""), along(1, "0", ""), along(2, "", "")},
		{raise(0, 0), raise(0, 1), raise(0, 2), raise(1, 0), raise(1, 1), raise(2, 0), raise(2, 2)},
		{pairOf(0, 3, 3), pairOf(1, 0, 0), pairOf(1, 0, 1), pairOf(1, 0, 3), pairOf(1, 1, 0), pairOf(1, 3, 0), pairOf(2, 0, 0), pairOf(2, 0, 2)},
		{one(""), one("-0"), one("-23"), one("0"), one("0 -0"), one("0 -1"), one("1"), one("0 1"), one("2"), one("23")},
		{next(0, "", "-0"), next(0, "", "0"), next(0, "", "1 -0"), next(0, "-0", "-0"), next(0, "0", "-0"), next(0, "0", "0"), next(0, "1", "-0")},
		{along(0, "", ""), along(0, "", "-5"), along(0, "", "5"), along(0, "", "5 -5"), along(0, "-5", "-4"), along(0, "-5", "4"), along(0, "5", ""), along(0, "5", "-4")},
		{fact(), fact("", "", "", "-0"), fact("", "", "", "0"), fact("", "", "-0", ""), fact("", "", "0", "23 -23"), fact("", "", "1", ""), fact("", "-0"), fact("", "-1"), fact("", "0"), fact("-0"), fact("-0", "", "", "3"), fact("-0", "3"), fact("0"), fact("0 -0"), fact("1")},
	} {
		for i, a := range row {
			for k, b := range row {
				if got := impl.ClauseCmp(a, b); got != cmp.Compare(i, k) || !impl.ClauseOk(a) {
					t.Errorf("ClauseCmp of %q and %q is %d", impl.ClauseText(a), impl.ClauseText(b), got)
				}
			}
		}
	}
}

// Promise 5: clauses are in order.
func TestPromise5ClausesAreInOrder(t *testing.T) {
	list := rightClauses()
	for i, a := range list {
		for k, b := range list {
			got := impl.ClauseCmp(a, b)
			if got != slices.Compare(numbersOf(a), numbersOf(b)) || got != -impl.ClauseCmp(b, a) || i == k && got != 0 {
				t.Fatalf("ClauseCmp of %q and %q is %d, the other way round %d", impl.ClauseText(a), impl.ClauseText(b), got, impl.ClauseCmp(b, a))
			}
		}
	}
	d := dice(3)
	for range 200000 {
		a, b, c := list[d.below(len(list))], list[d.below(len(list))], list[d.below(len(list))]
		if impl.ClauseCmp(a, b) <= 0 && impl.ClauseCmp(b, c) <= 0 && impl.ClauseCmp(a, c) > 0 {
			t.Fatalf("%q, %q, %q are not in order", impl.ClauseText(a), impl.ClauseText(b), impl.ClauseText(c))
		}
	}
	slices.SortFunc(list, impl.ClauseCmp)
	for i := 1; i < len(list); i++ {
		alike := string(impl.ClauseText(list[i-1])) == string(impl.ClauseText(list[i]))
		if got := impl.ClauseCmp(list[i-1], list[i]); got > 0 || (got == 0) != alike {
			t.Fatalf("%q and %q: %d", impl.ClauseText(list[i-1]), impl.ClauseText(list[i]), got)
		}
	}
}

func wantGreatest(t *testing.T, p impl.Part, atom int, not, ok bool) {
	t.Helper()
	if gotAtom, gotNot, gotOk := impl.Greatest(p); gotAtom != atom || gotNot != not || gotOk != ok {
		t.Errorf("Greatest of %v is %d, %v, %v", p, gotAtom, gotNot, gotOk)
	}
}

func TestGreatest(t *testing.T) {
	for atom := range impl.MaxAtoms {
		bit := 1 << atom
		for _, less := range []int{0, bit - 1, (bit - 1) & 0x555555, bit / 2} {
			for _, other := range []int{0, bit - 1, (bit - 1) & 0xaaaaaa, bit / 2} {
				wantGreatest(t, impl.Part{Pos: bit | less, Neg: other}, atom, false, true)
				wantGreatest(t, impl.Part{Pos: less, Neg: bit | other}, atom, true, true)
				wantGreatest(t, impl.Part{Pos: bit | less, Neg: bit | other}, atom, true, true)
			}
		}
	}
	wantGreatest(t, lits("0"), 0, false, true)
	wantGreatest(t, lits("-0"), 0, true, true)
	wantGreatest(t, impl.Part{Pos: allAtoms}, 23, false, true)
	wantGreatest(t, impl.Part{Neg: allAtoms}, 23, true, true)
	wantGreatest(t, impl.Part{Pos: allAtoms, Neg: allAtoms}, 23, true, true)
	wantGreatest(t, impl.Part{Pos: allAtoms, Neg: allAtoms >> 1}, 23, false, true)
	wantGreatest(t, impl.Part{}, 0, false, false)
	for _, wrong := range []int{math.MinInt, -1 << 32, -allAtoms, -2, -1, allAtoms + 1, allAtoms + 2, 1 << 32, 1 << 62, math.MaxInt} {
		for _, right := range []int{0, 1, 6, allAtoms, wrong} {
			wantGreatest(t, impl.Part{Pos: wrong, Neg: right}, 0, false, false)
			wantGreatest(t, impl.Part{Pos: right, Neg: wrong}, 0, false, false)
		}
	}
}

// roomyClause is c, with other things behind the length of its list.
func roomyClause(c impl.Clause) impl.Clause {
	room := append(make([]impl.Part, 0, len(c.Inds)+5), c.Inds...)
	c.Inds = append(room, lits("0 1 -1"), impl.Part{Pos: -1, Neg: -1}, lits("2"), lits("3"), lits("4"))[:len(c.Inds)]
	return c
}

func TestClausesShareNoMemory(t *testing.T) {
	list := rightClauses()
	for i, plain := range list {
		c, other := roomyClause(plain), roomyClause(list[(i*7+3)%len(list)])
		before, otherBefore := snapshot(c), snapshot(other)
		wantClauseFine(t, c, "with other things behind the length")
		text := impl.ClauseText(c)
		wantApart(t, text, c)
		if string(text) != string(impl.ClauseText(plain)) || impl.Empty(c) != impl.Empty(plain) || impl.Taut(c) != impl.Taut(plain) ||
			impl.Stronger(c, other) != strongerByWords(plain, other) || impl.Stronger(other, c) != strongerByWords(other, plain) ||
			impl.ClauseCmp(c, other) != slices.Compare(numbersOf(plain), numbersOf(other)) {
			t.Fatalf("%q: what lies behind the length is read", text)
		}
		if snapshot(c) != before || snapshot(other) != otherBefore {
			t.Fatalf("%q is changed", text)
		}
		// What is answered is the caller's own: writing into it changes nothing.
		for k := range text[:cap(text)] {
			text[:cap(text)][k] = '?'
		}
		if string(impl.ClauseText(c)) != clauseTextByWords(plain) {
			t.Fatalf("the text of %v is kept", plain)
		}
	}
}

// Both clauses may have one and the same list.
func TestClausesWhoseListsShareMemory(t *testing.T) {
	a := fact("0", "-1", "2", "3 -3")
	b := a
	wantStronger(t, a, b, true)
	if impl.ClauseCmp(a, b) != 0 || !impl.Taut(a) || string(impl.ClauseText(b)) != "fact 0a -1b 2c 3d -3d" {
		t.Errorf("%q", impl.ClauseText(b))
	}
	if !slices.Equal(a.Inds, fact("0", "-1", "2", "3 -3").Inds) {
		t.Error(a)
	}
}
