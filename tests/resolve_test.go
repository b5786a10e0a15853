package tests

import (
	"fmt"
	"math"
	"slices"
	"strconv"
	"strings"
	"testing"

	"loop.example/g00534/impl"
)

func sameClause(a, b impl.Clause) bool { return slices.Equal(numbersOf(a), numbersOf(b)) }

func clauseTexts(list []impl.Clause) string {
	return strings.Join(clauseLines(impl.Cls{L: list}), ", ")
}

// wantFollows asks for what follows of both, whichever is the first: no two kinds follow in both orders.
func wantFollows(t *testing.T, a, b impl.Clause, want ...impl.Clause) {
	t.Helper()
	for _, both := range [][2]impl.Clause{{a, b}, {b, a}} {
		if !impl.ClauseOk(both[0]) || !impl.ClauseOk(both[1]) {
			t.Fatalf("%v or %v is not ClauseOk", a, b)
		}
		if got := impl.Resolve(both[0], both[1]); !slices.EqualFunc(got, want, sameClause) {
			t.Errorf("of %q and %q follows %q, not %q", clauseTextByWords(both[0]), clauseTextByWords(both[1]), clauseTexts(got), clauseTexts(want))
		}
	}
}

func TestResolveOneAndOne(t *testing.T) {
	wantFollows(t, one("0 1"), one("-1"), one("0"))
	wantFollows(t, one("0"), one("-0"), one(""))
	wantFollows(t, one("23"), one("-23"), one(""))
	wantFollows(t, one("0 -1 5"), one("2 -3 -5"), one("0 -1 2 -3"))
	wantFollows(t, one("0 1 2"), one("0 1 -2"), one("0 1"))
	wantFollows(t, one("0 2"), one("-0 -2"), one("0 -0"))
	// By the greatest alone: other atoms that one has, and the other one not, do not meet.
	wantFollows(t, one("0 1"), one("-0"))
	wantFollows(t, one("0 1"), one("-0 2"))
	wantFollows(t, one("0 1"), one("2 -1"))
	wantFollows(t, one("1"), one("-1 2"))
	wantFollows(t, one("1 2"), one("-1 2"))
	wantFollows(t, one("1 -2"), one("-1 -2"))
	wantFollows(t, one("0"), one("-1"))
	wantFollows(t, one("0"), one("0"))
	wantFollows(t, one("-0"), one("-0"))
	wantFollows(t, one(""), one("0"))
	wantFollows(t, one(""), one("-0"))
	wantFollows(t, one(""), one(""))
}

// Of a part that has an atom and not it, not it is the greatest; the atom stays.
func TestResolveWhatHasBoth(t *testing.T) {
	wantFollows(t, one("5 -5"), one("5"), one("5"))
	wantFollows(t, one("0 5 -5"), one("1 5"), one("0 1 5"))
	wantFollows(t, one("5 -5"), one("-5"))
	wantFollows(t, one("5 -5"), one("5 -5"))
	wantFollows(t, next(1, "0", "5 -5"), one("2 5"), next(1, "0", "2 5"))
	wantFollows(t, next(1, "0", "5"), one("2 5 -5"), next(1, "0", "2 5"))
	wantFollows(t, next(1, "0", "5"), next(1, "1", "5 -5"), next(1, "0 1", "5"))
	wantFollows(t, fact("1", "5 -5"), fact("2", "5"), fact("1 2", "5"))
	wantFollows(t, fact("1", "5"), one("5 -5"), fact("1", "5"))
}

func TestResolveNextAndOne(t *testing.T) {
	wantFollows(t, next(3, "0 -1", "2 4"), one("-2 -4"), next(3, "0 -1", "2 -2"))
	wantFollows(t, next(11, "-23", "-4"), one("1 4"), next(11, "-23", "1"))
	wantFollows(t, next(0, "", "2 4"), one("-4"), next(0, "", "2"))
	wantFollows(t, next(1, "7", "4"), one("-4 3"), next(1, "7", "3"))
	// Nothing is left in Y: it is KdOne of X, and has no Fun.
	wantFollows(t, next(3, "0 -1", "4"), one("-4"), one("0 -1"))
	wantFollows(t, next(11, "", "-4"), one("4"), one(""))
	wantFollows(t, next(2, "4 -4", "-4"), one("4"), one("4 -4"))
	// X of the first is not looked at.
	wantFollows(t, next(3, "4", "2"), one("-4"))
	wantFollows(t, next(3, "4", "2"), one("-4 -2"))
	wantFollows(t, next(3, "9", "2"), one("-2"), one("9"))
	wantFollows(t, next(3, "0", "2 4"), one("-2"))
	wantFollows(t, next(3, "0", "2"), one("-2 4"))
	wantFollows(t, next(3, "0", "2"), one("2"))
	wantFollows(t, next(3, "0", "-2"), one("-2"))
	wantFollows(t, next(3, "0", "2"), one(""))
}

func TestResolveNextAndNext(t *testing.T) {
	wantFollows(t, next(3, "0 -1", "2 4"), next(3, "1 2", "-3 -4"), next(3, "0 -1 1 2", "2 -3"))
	wantFollows(t, next(0, "0", "4"), next(0, "1", "-4 3"), next(0, "0 1", "3"))
	wantFollows(t, next(11, "", "1 4"), next(11, "", "-4"), next(11, "", "1"))
	wantFollows(t, next(3, "0", "4"), next(3, "-1", "-4"), one("0 -1"))
	wantFollows(t, next(3, "", "4"), next(3, "", "-4"), one(""))
	// Of two functions nothing follows, nor by X.
	for f := range impl.MaxFuns {
		for g := range impl.MaxFuns {
			if f == g {
				wantFollows(t, next(f, "0", "4"), next(g, "1", "-4"), one("0 1"))
				wantFollows(t, next(f, "0", "4 3"), next(g, "1", "-4"), next(f, "0 1", "3"))
			} else {
				wantFollows(t, next(f, "0", "4"), next(g, "1", "-4"))
			}
		}
	}
	wantFollows(t, next(3, "4", "0"), next(3, "-4", "1"))
	wantFollows(t, next(3, "4", "0"), next(3, "1", "-4"))
	wantFollows(t, next(3, "0", "4"), next(3, "1", "4"))
	wantFollows(t, next(3, "0", "4"), next(3, "0", "4"))
	wantFollows(t, next(3, "0", "3 4"), next(3, "0", "-3"))
}

func TestResolveEdgeAndAll(t *testing.T) {
	for r := range impl.MaxRoles {
		for s := range impl.MaxRoles {
			for _, c := range []struct {
				edge, all, follows impl.Clause
			}{
				{edge(2, r, "-0"), along(s, "-1", "4"), next(2, "-0 -1", "4")},
				{edge(0, r, ""), along(s, "", "4 -3"), next(0, "", "4 -3")},
				{edge(11, r, "0 -0"), along(s, "0 2", "23"), next(11, "0 -0 2", "23")},
				// Parts that would meet do not: there is no atom in what is between them.
				{edge(5, r, "7"), along(s, "-7", "7"), next(5, "7 -7", "7")},
				// Without a literal in Y it is KdOne.
				{edge(11, r, "-0"), along(s, "-1", ""), one("-0 -1")},
				{edge(11, r, ""), along(s, "", ""), one("")},
			} {
				if r == s {
					wantFollows(t, c.edge, c.all, c.follows)
				} else {
					wantFollows(t, c.edge, c.all)
				}
			}
		}
	}
}

func TestResolveWithRole(t *testing.T) {
	for r := range impl.MaxRoles {
		for s := range impl.MaxRoles {
			for above := range impl.MaxRoles {
				var want [4][]impl.Clause
				if r == s {
					want = [4][]impl.Clause{{edge(11, above, "-0 3")}, {edge(0, above, "")}, {pairOf(above, 2, 3)}, {pairOf(above, 0, 0)}}
				}
				for i, c := range []impl.Clause{edge(11, r, "-0 3"), edge(0, r, ""), pairOf(r, 2, 3), pairOf(r, 0, 0)} {
					wantFollows(t, c, raise(s, above), want[i]...)
				}
			}
			// Two KdRole, or one and KdAll, say nothing together.
			wantFollows(t, raise(r, s), raise(s, r))
			wantFollows(t, raise(r, s), raise(r, s))
			wantFollows(t, raise(r, s), along(r, "0", "1"))
			wantFollows(t, raise(r, s), along(s, "0", "1"))
		}
	}
}

func TestResolveFactAndFact(t *testing.T) {
	wantFollows(t, fact("0", "1 4"), fact("2", "-3 -4"), fact("0 2", "1 -3"))
	wantFollows(t, fact("0"), fact("-0"), fact())
	wantFollows(t, fact("0 1"), fact("-1"), fact("0"))
	for who := range impl.MaxWho {
		a, b, want := fact(), fact(), fact()
		for i := range who {
			a.Inds[i], b.Inds[i], want.Inds[i] = lits("0 -7"), lits("-0 6"), lits("0 -0 6 -7")
		}
		// The somebodies ahead of the last have what would meet: it stays.
		a.Inds[who], b.Inds[who], want.Inds[who] = lits("1 9"), lits("-2 -9"), lits("1 -2")
		wantFollows(t, a, b, want)
		a.Inds[who], b.Inds[who], want.Inds[who] = lits("-9"), lits("9"), impl.Part{}
		wantFollows(t, a, b, want)
	}
	// The last somebody of both must be the same, and its parts must meet.
	wantFollows(t, fact("4"), fact("-4", "1"))
	wantFollows(t, fact("4"), fact("", "-4"))
	wantFollows(t, fact("4", "1"), fact("-4", "2"))
	wantFollows(t, fact("4", "", "", "1"), fact("-4", "", "", "1"))
	wantFollows(t, fact("4", "", "1"), fact("-4", "", "", "-1"))
	wantFollows(t, fact("", "4 5"), fact("", "-4"))
	wantFollows(t, fact("", "4"), fact("", "4"))
	wantFollows(t, fact("4", "", "5"), fact("-4", "", "-5"), fact("4 -4"))
	// One that has no literal has no last somebody.
	wantFollows(t, fact(), fact())
	wantFollows(t, fact(), fact("0"))
	wantFollows(t, fact(), fact("", "", "", "-0"))
}

func TestResolveFactAndOne(t *testing.T) {
	for who := range impl.MaxWho {
		a, want := fact(), fact()
		for i := range who {
			a.Inds[i], want.Inds[i] = lits("-0 9"), lits("-0 9")
		}
		a.Inds[who], want.Inds[who] = lits("1 9"), lits("1 -2")
		wantFollows(t, a, one("-2 -9"), want)
		a.Inds[who], want.Inds[who] = lits("-9"), impl.Part{}
		wantFollows(t, a, one("9"), want)
		wantFollows(t, a, one("-9"))
		wantFollows(t, a, one("8"))
		wantFollows(t, a, one("9 10"))
		wantFollows(t, a, one(""))
	}
	wantFollows(t, fact("23"), one("-23"), fact())
	// Of others than the last nothing follows.
	wantFollows(t, fact("4", "1"), one("-4"))
	wantFollows(t, fact("4", "4", "", "1"), one("-4"))
	wantFollows(t, fact("4", "1"), one("-1"), fact("4"))
	wantFollows(t, fact("", "1 4"), one("-1"))
	wantFollows(t, fact(), one("0"))
	wantFollows(t, fact(), one("-0"))
	wantFollows(t, fact(), one(""))
}

func TestResolvePairAndAll(t *testing.T) {
	for r := range impl.MaxRoles {
		for a := range impl.MaxWho {
			for b := range impl.MaxWho {
				x, y := lits("-1 3"), lits("4 -5")
				want := fact()
				want.Inds[a], want.Inds[b] = x, y
				if a == b {
					want.Inds[a] = lits("-1 3 4 -5")
				}
				wantFollows(t, pairOf(r, a, b), along(r, "-1 3", "4 -5"), want)
				wantFollows(t, pairOf(r, a, b), along((r+1)%impl.MaxRoles, "-1 3", "4 -5"))
				want = fact()
				want.Inds[a] = x
				wantFollows(t, pairOf(r, a, b), along(r, "-1 3", ""), want)
				want = fact()
				want.Inds[b] = y
				wantFollows(t, pairOf(r, a, b), along(r, "", "4 -5"), want)
				wantFollows(t, pairOf(r, a, b), along(r, "", ""), fact())
			}
		}
	}
	wantFollows(t, pairOf(0, 2, 2), along(0, "-1", "1"), fact("", "", "1 -1"))
}

// Kinds by kinds: of those that no rule names nothing follows, whatever they have.
func TestResolveKindsOfWhichNothingFollows(t *testing.T) {
	rules := map[[2]int]int{{impl.KdOne, impl.KdOne}: 0, {impl.KdNext, impl.KdOne}: 0, {impl.KdNext, impl.KdNext}: 0, {impl.KdEdge, impl.KdAll}: 0, {impl.KdEdge, impl.KdRole}: 0,
		{impl.KdPair, impl.KdRole}: 0, {impl.KdFact, impl.KdFact}: 0, {impl.KdFact, impl.KdOne}: 0, {impl.KdPair, impl.KdAll}: 0}
	list := rightClauses()
	for _, a := range list {
		for _, b := range list {
			both, turned := [2]int{a.Kind, b.Kind}, [2]int{b.Kind, a.Kind}
			_, first := rules[both]
			_, second := rules[turned]
			got := impl.Resolve(a, b)
			switch {
			case !first && !second && len(got) > 0, len(got) > 1:
				t.Fatalf("of %q and %q follows %q", clauseTextByWords(a), clauseTextByWords(b), clauseTexts(got))
			case len(got) == 1 && first:
				rules[both]++
			case len(got) == 1:
				rules[turned]++
			}
		}
	}
	for kinds, n := range rules {
		if n < 10 {
			t.Error(kinds, n, ": too few to tell")
		}
	}
}

// others are a part's literals without one.
func others(p []string, l string) []string {
	return slices.DeleteFunc(slices.Clone(p), func(s string) bool { return s == l })
}

// meetByWords takes literals as the tests' lits have them.
func meetByWords(p, q []string) (string, bool) {
	greatest := func(p []string) string {
		best := ""
		for _, l := range p {
			atom, _ := strconv.Atoi(strings.TrimPrefix(l, "-"))
			most, _ := strconv.Atoi(strings.TrimPrefix(best, "-"))
			if best == "" || atom > most || atom == most && l[0] == '-' {
				best = l
			}
		}
		return best
	}
	g, h := greatest(p), greatest(q)
	if g == "" || h == "" || "-"+g != h && g != "-"+h {
		return "", false
	}
	return strings.Join(append(others(p, g), others(q, h)...), " "), true
}

// partWords are the literals of X, of Y, and of each of Inds, their marks left away.
func partWords(c impl.Clause) [][]string {
	list := literalTexts(c)
	for _, p := range list {
		for i := range p {
			p[i] = p[i][:len(p[i])-1]
		}
	}
	return list
}

func both(p, q []string) string { return strings.Join(append(slices.Clone(p), q...), " ") }

func nextByWords(f int, x, y string) []impl.Clause {
	if strings.TrimSpace(y) == "" {
		return []impl.Clause{one(x)}
	}
	return []impl.Clause{next(f, x, y)}
}

func lastByWords(inds [][]string) int {
	last := -1
	for i, p := range inds {
		if len(p) > 0 {
			last = i
		}
	}
	return last
}

func factsByWords(a, b [][]string) []impl.Clause {
	who := lastByWords(a)
	if who == -1 || who != lastByWords(b) {
		return nil
	}
	of, ok := meetByWords(a[who], b[who])
	if !ok {
		return nil
	}
	var inds []string
	for i := range a {
		inds = append(inds, both(a[i], b[i]))
	}
	inds[who] = of
	return []impl.Clause{fact(inds...)}
}

func meetPartsByWords(p, q []string, make func(string) []impl.Clause) []impl.Clause {
	if of, ok := meetByWords(p, q); ok {
		return make(of)
	}
	return nil
}

// firstByWords goes rule by rule through the document's list, literal by literal.
func firstByWords(a, b impl.Clause) []impl.Clause {
	p, q := partWords(a), partWords(b)
	words := strings.Fields("one next edge all role fact pair")
	switch rule := words[a.Kind] + " " + words[b.Kind]; {
	case rule == "one one":
		return meetPartsByWords(p[0], q[0], func(of string) []impl.Clause { return []impl.Clause{one(of)} })
	case rule == "next one":
		return meetPartsByWords(p[1], q[0], func(of string) []impl.Clause { return nextByWords(a.Fun, both(p[0], nil), of) })
	case rule == "next next" && a.Fun == b.Fun:
		return meetPartsByWords(p[1], q[1], func(of string) []impl.Clause { return nextByWords(a.Fun, both(p[0], q[0]), of) })
	case rule == "edge all" && a.Role == b.Role:
		return nextByWords(a.Fun, both(p[0], q[0]), both(q[1], nil))
	case rule == "edge role" && a.Role == b.Role:
		return []impl.Clause{edge(a.Fun, b.Above, both(p[0], nil))}
	case rule == "pair role" && a.Role == b.Role:
		return []impl.Clause{pairOf(b.Above, a.A, a.B)}
	case rule == "fact fact":
		return factsByWords(p[2:], q[2:])
	case rule == "fact one" && lastByWords(p[2:]) >= 0:
		inds := make([][]string, impl.MaxWho)
		inds[lastByWords(p[2:])] = q[0]
		return factsByWords(p[2:], inds)
	case rule == "pair all" && a.Role == b.Role:
		inds := make([]string, impl.MaxWho)
		inds[a.A] += both(q[0], nil) + " "
		inds[a.B] += both(q[1], nil)
		return []impl.Clause{fact(inds...)}
	}
	return nil
}

func resolveByWords(a, b impl.Clause) []impl.Clause {
	if !impl.ClauseOk(a) || !impl.ClauseOk(b) {
		return nil
	}
	list := firstByWords(a, b)
	if a.Kind != b.Kind {
		list = append(list, firstByWords(b, a)...)
	}
	return list
}

func (d *dice) anyPart(atoms, least, most int) impl.Part {
	var p impl.Part
	for range least + d.below(most-least+1) {
		if bit := 1 << d.below(atoms); d.below(2) == 0 {
			p.Pos |= bit
		} else {
			p.Neg |= bit
		}
	}
	return p
}

// anyClause draws one of any kind; parts have no more than most literals, and those that need some no fewer than least.
func (d *dice) anyClause(atoms, least, most int) impl.Clause {
	f, r := d.below(3), d.below(impl.MaxRoles)
	few := func() impl.Part { return d.anyPart(atoms, 0, most) }
	some := func() impl.Part { return d.anyPart(atoms, least, most) }
	switch d.below(12) {
	case 0:
		return impl.Clause{Kind: impl.KdEdge, Fun: f, Role: r, X: few()}
	case 1:
		return impl.Clause{Kind: impl.KdAll, Role: r, X: few(), Y: few()}
	case 2:
		return raise(r, d.below(impl.MaxRoles))
	case 3:
		return pairOf(r, d.below(impl.MaxWho), d.below(impl.MaxWho))
	case 4, 5:
		return impl.Clause{Kind: impl.KdNext, Fun: f, X: few(), Y: some()}
	case 6, 7:
		c := fact()
		for range 1 + d.below(2) {
			c.Inds[d.below(impl.MaxWho)] = some()
		}
		return c
	}
	return impl.Clause{X: some()}
}

func (d *dice) anyClauses(count, atoms, least, most int) []impl.Clause {
	var list []impl.Clause
	for range count {
		list = append(list, d.anyClause(atoms, least, most))
	}
	return list
}

func TestResolveIsWhatTheWordsSay(t *testing.T) {
	d := dice(71)
	list := rightClauses()
	found := 0
	check := func(a, b impl.Clause) {
		got, want := impl.Resolve(a, b), resolveByWords(a, b)
		if !slices.EqualFunc(got, want, sameClause) {
			t.Fatalf("of %q and %q follows %q, not %q", clauseTextByWords(a), clauseTextByWords(b), clauseTexts(got), clauseTexts(want))
		}
		found += len(got)
	}
	for range 60000 {
		check(list[d.below(len(list))], list[d.below(len(list))])
		atoms := []int{2, 3, 6, impl.MaxAtoms}[d.below(4)]
		check(d.anyClause(atoms, 1, 1+d.below(5)), d.anyClause(atoms, 1, 1+d.below(5)))
	}
	if found < 5000 {
		t.Error(found, ": too few to tell")
	}
}

// Promise 7: what follows of ClauseOk ones is.
func TestPromise7WhatFollowsIsClauseOk(t *testing.T) {
	d := dice(72)
	kinds := map[int]int{}
	list := append(rightClauses(), d.anyClauses(400, impl.MaxAtoms, 1, 3)...)
	for i, a := range list {
		for k, b := range list {
			if (i*3+k)%4 > 0 {
				continue
			}
			for _, c := range impl.Resolve(a, b) {
				if kinds[c.Kind]++; !impl.ClauseOk(c) {
					t.Fatalf("of %q and %q follows %v", clauseTextByWords(a), clauseTextByWords(b), c)
				}
			}
		}
	}
	for _, kind := range []int{impl.KdOne, impl.KdNext, impl.KdEdge, impl.KdFact, impl.KdPair} {
		if kinds[kind] < 50 {
			t.Error(kinds, ": too few to tell")
		}
	}
}

// chosen tells whether one of the part's literals holds, where just the atoms of the choice do.
func chosen(p impl.Part, choice int) bool { return p.Pos&choice != 0 || p.Neg&^choice != 0 }

// Promise 7: what follows of two KdOne holds where both do, Taut ones among them.
func TestPromise7WhatFollowsOfTwoHoldsWhereBothDo(t *testing.T) {
	const atoms = 6
	d := dice(73)
	found, taut := 0, 0
	check := func(a, b impl.Clause) {
		for _, c := range impl.Resolve(a, b) {
			found++
			if impl.Taut(a) || impl.Taut(b) {
				taut++
			}
			if c.Kind != impl.KdOne {
				t.Fatalf("of %q and %q follows %q", clauseTextByWords(a), clauseTextByWords(b), clauseTextByWords(c))
			}
			for choice := range 1 << atoms {
				if chosen(a.X, choice) && chosen(b.X, choice) && !chosen(c.X, choice) {
					t.Fatalf("of %q and %q follows %q, which fails where the atoms %b hold", clauseTextByWords(a), clauseTextByWords(b), clauseTextByWords(c), choice)
				}
			}
		}
	}
	for range 40000 {
		check(impl.Clause{X: d.anyPart(atoms, 0, 5)}, impl.Clause{X: d.anyPart(atoms, 0, 5)})
	}
	for _, p := range fewAtoms(3) {
		for _, q := range fewAtoms(3) {
			check(impl.Clause{X: p}, impl.Clause{X: q})
		}
	}
	if found < 3000 || taut < 300 {
		t.Error(found, taut, ": too few to tell")
	}
}

// What follows of two of any kinds holds where both do.
func TestWhatFollowsHoldsInEachScene(t *testing.T) {
	var scenes []scene
	for i, s := range someScenes() {
		if i%3 == 0 {
			scenes = append(scenes, s)
		}
	}
	list := smallClauses()
	at := map[string][]uint64{}
	holds := func(c impl.Clause) []uint64 {
		text := clauseTextByWords(c)
		if at[text] == nil {
			at[text] = where(scenes, c)
		}
		return at[text]
	}
	var of [][]uint64
	for _, c := range list {
		of = append(of, holds(c))
	}
	kinds := map[[2]int]int{}
	for i, a := range list {
		for k, b := range list {
			for _, c := range impl.Resolve(a, b) {
				kinds[[2]int{a.Kind, b.Kind}]++
				only := slices.Clone(of[i])
				for w := range only {
					only[w] &= of[k][w]
				}
				if !onlyWhere(only, holds(c)) {
					t.Fatalf("%q follows of %q and %q, and fails where both hold", clauseTextByWords(c), clauseTextByWords(a), clauseTextByWords(b))
				}
			}
		}
	}
	if len(kinds) != 15 {
		t.Error(kinds, ": too few to tell")
	}
}

func wantRun(t *testing.T, l []impl.Clause, code int, lines ...string) impl.Run {
	t.Helper()
	r := impl.Saturate(l)
	if got := runTextByWords(r); r.Code != code || got != strings.Join(append(lines, ""), "\n") {
		t.Errorf("Saturate of %q tells %d,\n%swant %d,\n%s", clauseTexts(l), r.Code, got, code, strings.Join(lines, "\n"))
	}
	wantRunFine(t, r)
	return r
}

func runTextByWords(r impl.Run) string {
	var out strings.Builder
	for i, s := range r.L {
		fmt.Fprint(&out, i, " ", clauseTextByWords(s.C))
		if s.A != -1 {
			fmt.Fprint(&out, " of ", s.A, " ", s.B)
		}
		fmt.Fprintln(&out)
	}
	return out.String()
}

// neededByWords adds until nothing is new.
func neededByWords(r impl.Run) []int {
	if len(r.L) == 0 {
		return nil
	}
	list := []int{len(r.L) - 1}
	for at := 0; at < len(list); at++ {
		for _, of := range []int{r.L[list[at]].A, r.L[list[at]].B} {
			if of != -1 && !slices.Contains(list, of) {
				list = append(list, of)
			}
		}
	}
	slices.Sort(list)
	return list
}

func wantRunFine(t *testing.T, r impl.Run) {
	t.Helper()
	for i := range r.L {
		if !impl.StepOk(r, i) {
			t.Fatalf("the step %d of\n%sis not StepOk", i, runTextByWords(r))
		}
	}
	if !impl.RunOk(r) || string(impl.RunText(r)) != runTextByWords(r) || !slices.Equal(impl.Needed(r), neededByWords(r)) {
		t.Fatalf("RunOk %v, Needed %v, RunText\n%sof %d,\n%s", impl.RunOk(r), impl.Needed(r), impl.RunText(r), r.Code, runTextByWords(r))
	}
}

func wantRunRefused(t *testing.T, r impl.Run, why string) {
	t.Helper()
	if impl.RunOk(r) || len(impl.Needed(r)) != 0 || len(impl.RunText(r)) != 0 {
		t.Errorf("%s: RunOk %v, Needed %v, RunText %q", why, impl.RunOk(r), impl.Needed(r), impl.RunText(r))
	}
}

func TestSaturateInItsOrder(t *testing.T) {
	wantRun(t, nil, impl.RsOpen)
	wantRun(t, []impl.Clause{one("0")}, impl.RsOpen, "0 one 0x")
	wantRun(t, []impl.Clause{one("0"), one("1 -0"), one("-1")}, impl.RsRefuted,
		"0 one 0x", "1 one -0x 1x", "2 one -1x", "3 one -0x of 2 1", "4 one of 3 0")
	// For each i the first k comes first; what follows comes behind all that were told.
	wantRun(t, []impl.Clause{one("0 5"), one("1 5"), one("-5 2"), one("-5 3")}, impl.RsOpen,
		"0 one 0x 5x", "1 one 1x 5x", "2 one 2x -5x", "3 one 3x -5x",
		"4 one 0x 2x of 2 0", "5 one 1x 2x of 2 1", "6 one 0x 3x of 3 0", "7 one 1x 3x of 3 1")
	wantRun(t, []impl.Clause{one("-5 3"), one("-5 2"), one("1 5"), one("0 5")}, impl.RsOpen,
		"0 one 3x -5x", "1 one 2x -5x", "2 one 1x 5x", "3 one 0x 5x",
		"4 one 1x 3x of 2 0", "5 one 1x 2x of 2 1", "6 one 0x 3x of 3 0", "7 one 0x 2x of 3 1")
	// What follows is gone through, too, and meets what was told and itself followed.
	wantRun(t, []impl.Clause{one("-3 2"), one("-2 1"), one("-1 0"), one("3"), one("-0 4")}, impl.RsOpen,
		"0 one 2x -3x", "1 one 1x -2x", "2 one 0x -1x", "3 one 3x", "4 one -0x 4x",
		"5 one 2x of 3 0", "6 one 1x of 5 1", "7 one 0x of 6 2")
	// The later one is A, whichever the rule has as its first.
	wantRun(t, []impl.Clause{next(2, "-0", "1"), one("-1")}, impl.RsOpen,
		"0 next f2 -0x 1y", "1 one -1x", "2 one -0x of 1 0")
	wantRun(t, []impl.Clause{one("-1"), next(2, "-0", "1")}, impl.RsOpen,
		"0 one -1x", "1 next f2 -0x 1y", "2 one -0x of 1 0")
}

func TestSaturateThroughAllKinds(t *testing.T) {
	// A Some and an All along a role above, and a pair, each told of somebody.
	wantRun(t, []impl.Clause{edge(0, 0, "-1"), next(0, "-1", "0"), along(1, "-2", "-0"), raise(0, 1), fact("1"), fact("2")}, impl.RsRefuted,
		"0 edge f0 r0 -1x", "1 next f0 -1x 0y", "2 all r1 -2x -0y", "3 role r0 r1", "4 fact 1a", "5 fact 2a",
		"6 edge f0 r1 -1x of 3 0", "7 next f0 -1x -2x -0y of 6 2", "8 one -1x -2x of 7 1",
		"9 fact -1a of 8 5", "10 fact of 9 4")
	wantRun(t, []impl.Clause{pairOf(0, 0, 2), raise(0, 2), along(2, "-3", "4"), fact("3"), fact("", "", "-4")}, impl.RsRefuted,
		"0 pair r0 0 2", "1 role r0 r2", "2 all r2 -3x 4y", "3 fact 3a", "4 fact -4c",
		"5 pair r2 0 2 of 1 0", "6 fact -3a 4c of 5 2", "7 fact -3a of 6 4", "8 fact of 7 3")
}

func TestSaturateKeepsNot(t *testing.T) {
	// Taut ones, told or following.
	wantRun(t, []impl.Clause{one("0 -0"), raise(1, 1), next(0, "0", "1 -1"), fact("2 -2"), one("3")}, impl.RsOpen, "0 one 3x")
	wantRun(t, []impl.Clause{one("0 5"), one("-0 -5")}, impl.RsOpen, "0 one 0x 5x", "1 one -0x -5x")
	wantRun(t, []impl.Clause{raise(0, 1), raise(1, 0)}, impl.RsOpen, "0 role r0 r1", "1 role r1 r0")
	// Twice the same, told or following.
	wantRun(t, []impl.Clause{one("0"), one("0"), raise(0, 1), raise(0, 1), fact("", "1"), fact("", "1")}, impl.RsOpen, "0 one 0x", "1 role r0 r1", "2 fact 1b")
	wantRun(t, []impl.Clause{one("0 5"), one("1 5"), one("-5"), one("0 1")}, impl.RsOpen,
		"0 one 0x 5x", "1 one 1x 5x", "2 one -5x", "3 one 0x 1x", "4 one 0x of 2 0", "5 one 1x of 2 1")
	wantRun(t, []impl.Clause{one("0 5"), one("-5"), one("0")}, impl.RsOpen, "0 one 0x 5x", "1 one -5x", "2 one 0x")
	// Where a stronger one was kept; a stronger one that comes later is kept, and what was kept stays.
	wantRun(t, []impl.Clause{one("0"), one("0 1"), next(3, "0 2", "4"), next(3, "2", "-4 0"), fact("", "0 7"), edge(1, 1, "0"), along(1, "", "0")}, impl.RsOpen, "0 one 0x")
	wantRun(t, []impl.Clause{one("0 1"), one("0")}, impl.RsOpen, "0 one 0x 1x", "1 one 0x")
	wantRun(t, []impl.Clause{next(3, "1", "4"), next(3, "1 2", "4"), next(2, "1 2", "4"), next(3, "1", "4 5")}, impl.RsOpen, "0 next f3 1x 4y", "1 next f2 1x 2x 4y")
	wantRun(t, []impl.Clause{one("2 5"), one("1 -5"), one("2")}, impl.RsOpen, "0 one 2x 5x", "1 one 1x -5x", "2 one 2x")
}

func TestSaturateEndsAtOnce(t *testing.T) {
	// Also among those that were told: whatever comes behind it is not kept.
	wantRun(t, []impl.Clause{one("")}, impl.RsRefuted, "0 one")
	wantRun(t, []impl.Clause{fact()}, impl.RsRefuted, "0 fact")
	wantRun(t, []impl.Clause{one("0"), one(""), one("1"), fact()}, impl.RsRefuted, "0 one 0x", "1 one")
	wantRun(t, []impl.Clause{one("0"), one("-0"), fact(), one("")}, impl.RsRefuted, "0 one 0x", "1 one -0x", "2 fact")
	wantRun(t, []impl.Clause{along(0, "", ""), edge(1, 0, ""), one("1"), one("-1"), one("2")}, impl.RsRefuted,
		"0 all r0", "1 edge f1 r0", "2 one 1x", "3 one -1x", "4 one 2x", "5 one of 1 0")
	wantRun(t, []impl.Clause{pairOf(1, 2, 3), along(1, "", ""), one("1"), one("-1")}, impl.RsRefuted,
		"0 pair r1 2 3", "1 all r1", "2 one 1x", "3 one -1x", "4 fact of 1 0")
	// A KdAll, or a KdEdge, that has no literal is not Empty.
	wantRun(t, []impl.Clause{along(0, "", ""), edge(0, 1, "")}, impl.RsOpen, "0 all r0", "1 edge f0 r1")
}

// idle are clauses of which nothing follows, and none of which is stronger than another: each has three of the atoms 0 to 15.
func idle(count int) []impl.Clause {
	var list []impl.Clause
	for i := 0; i < 1<<16 && len(list) < count; i++ {
		if c := (impl.Clause{X: impl.Part{Pos: i}}); len(literalTexts(c)[0]) == 3 {
			list = append(list, c)
		}
	}
	return list
}

func wantFull(t *testing.T, l []impl.Clause, code, steps int) {
	t.Helper()
	r := impl.Saturate(l)
	if r.Code != code || len(r.L) != steps {
		t.Errorf("Saturate of %d tells %d, %d steps, not %d, %d", len(l), r.Code, len(r.L), code, steps)
	}
	wantRunFine(t, r)
}

func TestSaturateMostKept(t *testing.T) {
	most := impl.MaxKept
	wantFull(t, idle(most), impl.RsOpen, most)
	wantFull(t, idle(most-1), impl.RsOpen, most-1)
	with := func(count int, more ...impl.Clause) []impl.Clause { return append(idle(count-len(more)), more...) }
	// One follows: it is the last that is kept, or the first for which there is no room.
	wantFull(t, with(most-1, one("17 20"), one("18 -20")), impl.RsOpen, most)
	wantFull(t, with(most, one("17 20"), one("18 -20")), impl.RsFull, most)
	wantFull(t, append([]impl.Clause{one("17 20"), one("18 -20")}, idle(most-2)...), impl.RsFull, most)
	wantFull(t, with(most-1, pairOf(0, 0, 1), raise(0, 1)), impl.RsOpen, most)
	wantFull(t, with(most, pairOf(0, 0, 1), raise(0, 1)), impl.RsFull, most)
	// Two follow, with room for one.
	wantFull(t, with(most-1, one("17 20"), one("18 -20"), one("19 -20")), impl.RsFull, most)
	// What is not kept needs no room.
	wantFull(t, with(most, one("17 20"), one("-17 -20")), impl.RsOpen, most)
	wantFull(t, with(most, one("0 1 20"), one("2 -20")), impl.RsOpen, most)
	// One that is Empty needs room as any other one.
	wantFull(t, with(most-1, one("20"), one("-20")), impl.RsRefuted, most)
	wantFull(t, with(most, one("20"), one("-20")), impl.RsFull, most)
	wantFull(t, with(most, one("")), impl.RsRefuted, most)
	wantFull(t, with(most, fact()), impl.RsRefuted, most)
	// It ends with the first that there is no room for, even if an Empty one would come.
	wantFull(t, with(most-1, one("17 21"), one("18 -21"), one("20"), one("-20")), impl.RsFull, most)
	wantFull(t, with(most-1, one("20"), one("-20"), one("17 21"), one("18 -21")), impl.RsRefuted, most)
	// Among those that were told, too, what is not kept leaves room.
	wantFull(t, with(most, one("17 20"), one("18 -20"), one("0 -0")), impl.RsOpen, most)
	wantFull(t, slices.Repeat([]impl.Clause{one("0 -0")}, most), impl.RsOpen, 0)
	wantFull(t, slices.Repeat([]impl.Clause{one("0")}, most), impl.RsOpen, 1)
}

func wantNoRun(t *testing.T, l []impl.Clause, why string) {
	t.Helper()
	if r := impl.Saturate(l); r.Code != impl.RsForm || len(r.L) != 0 {
		t.Errorf("%s: Saturate tells %d, %d steps", why, r.Code, len(r.L))
	} else {
		wantRunFine(t, r)
	}
}

func TestSaturateOfWhatIsNotOk(t *testing.T) {
	wantNoRun(t, idle(impl.MaxKept+1), "one more than MaxKept")
	wantNoRun(t, slices.Repeat([]impl.Clause{one("0 -0")}, impl.MaxKept+1), "Taut ones, one more than MaxKept")
	wantNoRun(t, slices.Repeat([]impl.Clause{one("")}, impl.MaxKept+1), "Empty ones, one more than MaxKept")
	wantNoRun(t, make([]impl.Clause, 1<<20), "far more than MaxKept")
	for i, c := range wrongClauses() {
		why := fmt.Sprint("the wrong clause ", i)
		wantNoRun(t, []impl.Clause{c}, why)
		wantNoRun(t, []impl.Clause{one("0"), c, one("1")}, why)
		// Even behind one that is Empty, where it would never be kept.
		wantNoRun(t, []impl.Clause{one(""), c}, why)
		wantNoRun(t, append(idle(impl.MaxKept-1), c), why)
	}
}

func TestResolveOfWhatIsNotOk(t *testing.T) {
	for _, wrong := range wrongClauses() {
		for _, c := range append(plain(), one("0"), one("-0"), fact("", "0"), fact("", "-0"), along(0, "0", "1"), next(0, "", "-0"), wrong) {
			if got := append(impl.Resolve(wrong, c), impl.Resolve(c, wrong)...); len(got) != 0 {
				t.Errorf("of %v and %v follows %q", wrong, c, clauseTexts(got))
			}
		}
	}
	// Each would have what follows, were it not for one field.
	for _, c := range []struct {
		a, b  impl.Clause
		spoil func(*impl.Clause)
	}{
		{one("0"), one("-0"), func(c *impl.Clause) { c.Role = 1 }},
		{one("0"), one("-0"), func(c *impl.Clause) { c.X.Neg |= 1 << 24 }},
		{next(1, "0", "1"), one("-1"), func(c *impl.Clause) { c.Fun = impl.MaxFuns }},
		{next(1, "0", "1"), next(1, "0", "-1"), func(c *impl.Clause) { c.X.Pos = -1 }},
		{edge(1, 1, "0"), along(1, "2", "1"), func(c *impl.Clause) { c.A = 1 }},
		{edge(1, 1, "0"), raise(1, 2), func(c *impl.Clause) { c.Y = lits("0") }},
		{pairOf(1, 0, 1), raise(1, 2), func(c *impl.Clause) { c.B = impl.MaxWho }},
		{fact("0"), fact("-0"), func(c *impl.Clause) { c.Inds = c.Inds[:3] }},
		{fact("0"), fact("-0"), func(c *impl.Clause) { c.Inds = append(c.Inds[:4:4], impl.Part{}) }},
		{fact("0"), one("-0"), func(c *impl.Clause) { c.Inds = nil }},
		{pairOf(1, 0, 1), along(1, "2", "1"), func(c *impl.Clause) { c.A = -1 }},
	} {
		if len(impl.Resolve(c.a, c.b)) != 1 || len(impl.Resolve(c.b, c.a)) != 1 {
			t.Fatalf("of %v and %v nothing follows", c.a, c.b)
		}
		wrong := cloneClause(c.a)
		c.spoil(&wrong)
		if got := append(impl.Resolve(wrong, c.b), impl.Resolve(c.b, wrong)...); len(got) != 0 {
			t.Errorf("of %v and %v follows %q", wrong, c.b, clauseTexts(got))
		}
	}
}

func sameStep(a, b impl.Step) bool { return a.A == b.A && a.B == b.B && sameClause(a.C, b.C) }

// saturateByWords is another way to Saturate, sentence by sentence, with resolveByWords.
func saturateByWords(l []impl.Clause) impl.Run {
	var r impl.Run
	keep := func(c impl.Clause, a, b int) bool {
		if impl.Taut(c) || slices.ContainsFunc(r.L, func(s impl.Step) bool { return impl.Stronger(s.C, c) }) {
			return true
		}
		if len(r.L) == impl.MaxKept {
			r.Code = impl.RsFull
			return false
		}
		r.L = append(r.L, impl.Step{C: c, A: a, B: b})
		if impl.Empty(c) {
			r.Code = impl.RsRefuted
		}
		return r.Code == impl.RsOpen
	}
	for _, c := range l {
		if !keep(c, -1, -1) {
			return r
		}
	}
	for i := 0; i < len(r.L); i++ {
		for k := 0; k <= i; k++ {
			for _, c := range resolveByWords(r.L[i].C, r.L[k].C) {
				if !keep(c, i, k) {
					return r
				}
			}
		}
	}
	return r
}

// drawnLists are lists of clauses that end in each of the ways.
func drawnLists(count int) [][]impl.Clause {
	d := dice(74)
	var lists [][]impl.Clause
	for i := range count {
		atoms := []int{2, 3, 5, 8, 16, impl.MaxAtoms}[d.below(6)]
		least := 1 + d.below(3)
		l := d.anyClauses(1+d.below(60), atoms, least, least+d.below(2))
		if i%25 == 7 {
			l = d.manyFollow()
		}
		lists = append(lists, l)
	}
	return lists
}

// manyFollow draws clauses of which, most times, more follow than there is room for.
func (d *dice) manyFollow() []impl.Clause {
	var list []impl.Clause
	for range 40 + d.below(60) {
		x := d.anyPart(impl.MaxAtoms, 5, 5)
		if d.below(5) == 0 {
			c := fact()
			c.Inds[d.below(impl.MaxWho)] = x
			list = append(list, c)
		} else {
			list = append(list, impl.Clause{X: x})
		}
	}
	return list
}

func TestSaturateIsWhatTheWordsSay(t *testing.T) {
	codes := map[int]int{}
	for _, l := range drawnLists(900) {
		got := impl.Saturate(l)
		codes[got.Code]++
		if want := saturateByWords(l); got.Code != want.Code || !slices.EqualFunc(got.L, want.L, sameStep) {
			t.Fatalf("Saturate of %q tells %d,\n%swant %d,\n%s", clauseTexts(l), got.Code, runTextByWords(got), want.Code, runTextByWords(want))
		}
	}
	if codes[impl.RsOpen] < 100 || codes[impl.RsRefuted] < 100 || codes[impl.RsFull] < 20 {
		t.Error(codes, ": too few to tell")
	}
}

// Promise 7: what Saturate keeps was told, in its order, or follows, step by step.
func TestPromise7EachStepWasToldOrFollows(t *testing.T) {
	told, follow := 0, 0
	for _, l := range drawnLists(600) {
		r := impl.Saturate(l)
		at := 0
		for i, s := range r.L {
			if s.A == -1 && s.B == -1 {
				told++
				for at < len(l) && !sameClause(l[at], s.C) {
					at++
				}
				if at == len(l) || i > 0 && r.L[i-1].A != -1 {
					t.Fatalf("the step %d of\n%swas not told, or behind what follows", i, runTextByWords(r))
				}
				at++
				continue
			}
			follow++
			if s.B < 0 || s.B > s.A || s.A >= i || !slices.ContainsFunc(resolveByWords(r.L[s.A].C, r.L[s.B].C), func(c impl.Clause) bool { return sameClause(c, s.C) }) {
				t.Fatalf("the step %d of\n%sdoes not follow", i, runTextByWords(r))
			}
		}
		wantRunFine(t, r)
	}
	if told < 2000 || follow < 2000 {
		t.Error(told, follow, ": too few to tell")
	}
}

// Promise 7: where it tells RsOpen, whatever follows of two that were kept is Taut, or one that was kept is stronger.
func TestPromise7NothingIsLeftWhereItIsOpen(t *testing.T) {
	runs, found := 0, 0
	for _, l := range drawnLists(900) {
		r := impl.Saturate(l)
		kept := func(c impl.Clause) bool {
			return impl.Taut(c) || slices.ContainsFunc(r.L, func(s impl.Step) bool { return impl.Stronger(s.C, c) || sameClause(s.C, c) })
		}
		if r.Code != impl.RsOpen {
			continue
		}
		runs++
		for _, c := range l {
			if !kept(c) {
				t.Fatalf("%q was told, and is not kept in\n%s", clauseTextByWords(c), runTextByWords(r))
			}
		}
		for _, a := range r.L {
			for _, b := range r.L {
				for _, c := range impl.Resolve(a.C, b.C) {
					if found++; !kept(c) {
						t.Fatalf("%q, which follows of %q and %q, is not kept in\n%s", clauseTextByWords(c), clauseTextByWords(a.C), clauseTextByWords(b.C), runTextByWords(r))
					}
				}
			}
		}
	}
	if runs < 100 || found < 1000 {
		t.Error(runs, found, ": too few to tell")
	}
}

// What was kept is no Taut one, and none for which a stronger one was kept ahead of it.
func TestWhatIsKeptIsNew(t *testing.T) {
	for _, l := range drawnLists(300) {
		r := impl.Saturate(l)
		for i, s := range r.L {
			if impl.Taut(s.C) || slices.ContainsFunc(r.L[:i], func(ahead impl.Step) bool { return strongerByWords(ahead.C, s.C) }) {
				t.Fatalf("the step %d of\n%sis nothing new", i, runTextByWords(r))
			}
		}
	}
}

// Of KdOne alone: where Saturate refutes them no choice of atoms is left, and where it does not one is.
func TestSaturateRefutesJustWhatCannotBe(t *testing.T) {
	d := dice(75)
	count := map[int]int{}
	for range 4000 {
		var l []impl.Clause
		for range 1 + d.below(14) {
			l = append(l, impl.Clause{X: d.anyPart(5, 1, 3)})
		}
		can := false
		for choice := range 1 << 5 {
			can = can || !slices.ContainsFunc(l, func(c impl.Clause) bool { return !chosen(c.X, choice) })
		}
		r := impl.Saturate(l)
		count[r.Code]++
		if (r.Code == impl.RsRefuted) == can || r.Code == impl.RsFull {
			t.Fatalf("Saturate of %q tells %d, and it can be: %v", clauseTexts(l), r.Code, can)
		}
	}
	if count[impl.RsOpen] < 200 || count[impl.RsRefuted] < 200 {
		t.Error(count, ": too few to tell")
	}
}

// wantEndIsTold holds that a run ends with what is Empty just if it is refuted.
func wantEndIsTold(t *testing.T, r impl.Run) {
	t.Helper()
	for i, s := range r.L {
		bare := len(slices.Concat(literalTexts(s.C)...)) == 0 && (s.C.Kind == impl.KdOne || s.C.Kind == impl.KdFact)
		if bare != (i == len(r.L)-1 && r.Code == impl.RsRefuted) {
			t.Fatalf("%d:\n%s", r.Code, runTextByWords(r))
		}
	}
	if r.Code == impl.RsRefuted && len(r.L) == 0 {
		t.Fatal("nothing is refuted")
	}
}

// wantKeptHolds holds that in a model all that is kept of its clauses that is of all holds.
func wantKeptHolds(t *testing.T, w impl.World, k impl.Kb, count map[string]int) {
	t.Helper()
	if s, code := impl.Clausify(k, top); code == impl.ClWell {
		r := impl.Saturate(s.L)
		if r.Code == impl.RsRefuted {
			t.Fatalf("%s has the model %v, and is refuted:\n%s", spellKb(k), w, runTextByWords(r))
		}
		wantStepsHold(t, w, k, s, r, count)
	}
}

func wantStepsHold(t *testing.T, w impl.World, k impl.Kb, s impl.Cls, r impl.Run, count map[string]int) {
	t.Helper()
	wantEndIsTold(t, r)
	sets := setsOf(w, s)
	fine := impl.ClsOk(s)
	for _, step := range r.L {
		if !ofAllKinds(step.C) {
			continue
		}
		word := strings.Fields(clauseTextByWords(step.C))[0]
		if count[word]++; step.A != -1 {
			count["follows"]++
		}
		if !holdsOfAll(w, s, step.C, sets) || fine && !impl.ClauseHolds(w, s, step.C, sets) {
			t.Fatalf("%s has the model %v, in which %q does not hold:\n%s%s", spellKb(k), w, clauseTextByWords(step.C), clsTextByWords(s), runTextByWords(r))
		}
	}
}

// Promise 8, its part of this chapter: all that is kept that is KdOne, KdAll or KdRole holds in each model.
func TestPromise8WhatIsKeptHoldsInModels(t *testing.T) {
	d := dice(8)
	count := map[string]int{}
	kbs := someKbs()
	for i, w := range someWorlds() {
		if w.N > 10 {
			continue
		}
		for range 6 {
			if k := d.trueAxioms(w); impl.IsModel(w, k) {
				wantKeptHolds(t, w, k, count)
			}
		}
		for at, k := range kbs {
			if (i+at)%3 == 0 && impl.IsModel(w, k) {
				wantKeptHolds(t, w, k, count)
			}
		}
	}
	if count["one"] < 10000 || count["all"] < 1000 || count["role"] < 500 || count["follows"] < 2000 {
		t.Error(count, ": too few to tell")
	}
}

// Promise 8: of drawn knowledge a run ends with nothing just if it is refuted; and then no world is a model.
func TestPromise8EndsWithNothingJustIfRefuted(t *testing.T) {
	codes := map[int]int{}
	worlds := someWorlds()
	for i, k := range drawnKbs(1500) {
		s, code := impl.Clausify(k, top)
		if code != impl.ClWell {
			continue
		}
		r := impl.Saturate(s.L)
		codes[r.Code]++
		wantEndIsTold(t, r)
		wantRunFine(t, r)
		if r.Code != impl.RsRefuted {
			continue
		}
		for at, w := range worlds {
			if (i+at)%5 == 0 && w.N < 10 && impl.IsModel(w, k) {
				t.Fatalf("%s has the model %v, and is refuted:\n%s", spellKb(k), w, runTextByWords(r))
			}
		}
	}
	if codes[impl.RsOpen] < 500 || codes[impl.RsRefuted] < 100 {
		t.Error(codes, ": too few to tell")
	}
}

// What is told of concepts is refuted as it should be.
func TestSaturateOfWhatIsTold(t *testing.T) {
	for _, c := range []struct {
		kb, some string
		code     int
	}{
		{"", "Top", impl.RsOpen},
		{"", "Bot", impl.RsRefuted},
		{"", "And(A Not(A))", impl.RsRefuted},
		{"", "Or(A Not(A))", impl.RsOpen},
		{"", "And(Some(r A) All(r Not(A)))", impl.RsRefuted},
		{"", "And(Some(r A) All(s Not(A)))", impl.RsOpen},
		{"Role(r s)", "And(Some(r A) All(s Not(A)))", impl.RsRefuted},
		{"Role(s r)", "And(Some(r A) All(s Not(A)))", impl.RsOpen},
		{"Role(r t) Role(t s)", "And(Some(r A) All(s Not(A)))", impl.RsRefuted},
		{"Sub(A B) Sub(B C)", "And(A Not(C))", impl.RsRefuted},
		{"Sub(A B) Sub(B C)", "And(C Not(A))", impl.RsOpen},
		{"Sub(A Some(r A))", "A", impl.RsOpen},
		{"Sub(A Some(r B)) Sub(B Bot)", "A", impl.RsRefuted},
		{"Dis(A B) Is(x A) Is(x B)", "Top", impl.RsRefuted},
		{"Dis(A B) Is(x A) Is(y B)", "Top", impl.RsOpen},
		{"Rel(r x y) Is(x All(r A)) Is(y Not(A))", "Top", impl.RsRefuted},
		{"Rel(r y x) Is(x All(r A)) Is(y Not(A))", "Top", impl.RsOpen},
		{"Rel(r x x) Is(x All(r Not(A))) Is(x A)", "Top", impl.RsRefuted},
		{"Role(r s) Rel(r x y) Is(x All(s A)) Is(y Not(A))", "Top", impl.RsRefuted},
	} {
		s, _ := impl.Clausify(readKb(t, c.kb), readCon(t, c.some))
		r := impl.Saturate(s.L)
		wantEndIsTold(t, r)
		wantRunFine(t, r)
		if r.Code != c.code {
			t.Errorf("%s and %s: %d, not %d:\n%s", c.kb, c.some, r.Code, c.code, runTextByWords(r))
		}
	}
}

func toldStep(c impl.Clause) impl.Step { return impl.Step{C: c, A: -1, B: -1} }

func ofSteps(c impl.Clause, a, b int) impl.Step { return impl.Step{C: c, A: a, B: b} }

func cloneRun(r impl.Run) impl.Run {
	r.L = slices.Clone(r.L)
	for i := range r.L {
		r.L[i].C = cloneClause(r.L[i].C)
	}
	return r
}

func wantStep(t *testing.T, r impl.Run, i int, want bool, why string) {
	t.Helper()
	if got := impl.StepOk(r, i); got != want {
		t.Errorf("%s: StepOk of the step %d is %v", why, i, got)
	}
}

func ordinaryRun() impl.Run {
	return impl.Run{Code: impl.RsRefuted, L: []impl.Step{toldStep(one("0")), toldStep(one("1 -0")), toldStep(one("-1")), ofSteps(one("-0"), 2, 1), ofSteps(one(""), 3, 0)}}
}

func TestStepOk(t *testing.T) {
	r := ordinaryRun()
	for i := range r.L {
		wantStep(t, r, i, true, "ordinary")
	}
	for _, i := range []int{-1, -2, 5, 6, impl.MaxKept, math.MinInt, math.MaxInt} {
		wantStep(t, r, i, false, "no step")
		wantStep(t, impl.Run{}, i, false, "no steps")
	}
	wantStep(t, impl.Run{}, 0, false, "no steps")
	// Whatever the Code is.
	for _, code := range []int{math.MinInt, -1, 0, 2, 3, 4, math.MaxInt} {
		r.Code = code
		for i := range r.L {
			wantStep(t, r, i, true, "another Code")
		}
	}
	// What was told need not be new: Taut, twice the same, weaker, behind what is Empty.
	r = impl.Run{L: []impl.Step{toldStep(one("")), toldStep(one("0 -0")), toldStep(one("0")), toldStep(one("0")), toldStep(one("0 1")), ofSteps(one("0 -0"), 6, 7)}}
	for i := range 5 {
		wantStep(t, r, i, true, "nothing new")
	}
	wantStep(t, r, 5, false, "of steps that there are not")
}

func TestStepOkOfBentNumbers(t *testing.T) {
	for _, n := range []int{math.MinInt, -300, -2, -1, 3, 4, 5, 299, 300, 1 << 32, math.MaxInt} {
		for _, at := range []func(s *impl.Step){
			func(s *impl.Step) { s.A = n },
			func(s *impl.Step) { s.B = n },
			func(s *impl.Step) { s.A, s.B = n, n },
		} {
			r := ordinaryRun()
			at(&r.L[3])
			both := n == -1 && r.L[3].A == r.L[3].B
			wantStep(t, r, 3, both, fmt.Sprint("bent to ", r.L[3].A, " and ", r.L[3].B))
			wantStep(t, r, 4, true, "behind it")
			if both {
				wantRunFine(t, r)
			} else {
				wantRunRefused(t, r, "a bent number")
			}
		}
	}
	// Each number of a step ahead: it is right for those alone of which it follows, in either order.
	for a := range 3 {
		for b := range 3 {
			r := ordinaryRun()
			r.L[3].A, r.L[3].B = a, b
			wantStep(t, r, 3, a == 2 && b == 1 || a == 1 && b == 2, fmt.Sprint("of ", a, " and ", b))
		}
	}
	// A told one whose numbers are 0 says that it follows of the first.
	r := impl.Run{L: []impl.Step{{C: one("0")}}}
	wantStep(t, r, 0, false, "the first step of itself")
	wantRunRefused(t, r, "the first step of itself")
}

// Those that a step names must be ahead of it, even where it would follow of them.
func TestStepOkOfStepsThatAreNotAhead(t *testing.T) {
	for _, c := range []struct {
		a, b int
		fine bool
	}{{0, 1, true}, {1, 0, true}, {0, 4, false}, {4, 0, false}, {3, 1, false}, {1, 3, false}, {3, 4, false}, {4, 3, false}} {
		r := impl.Run{L: []impl.Step{toldStep(one("0 5")), toldStep(one("-5")), ofSteps(one("0"), c.a, c.b), toldStep(one("0 5")), toldStep(one("-5"))}}
		wantStep(t, r, 2, c.fine, fmt.Sprint("the step 2 of ", c.a, " and ", c.b))
		if !c.fine {
			wantRunRefused(t, r, fmt.Sprint("the step 2 of ", c.a, " and ", c.b))
		}
	}
	// It would follow of itself and one that is Taut.
	for _, both := range [][2]int{{0, 1}, {1, 0}} {
		r := impl.Run{L: []impl.Step{toldStep(one("5 -5")), ofSteps(one("5"), both[0], both[1])}}
		wantStep(t, r, 1, false, "of itself")
		wantRunRefused(t, r, "of itself")
		r.L = slices.Insert(r.L, 0, toldStep(one("5")))
		wantStep(t, r, 2, true, "of one that is alike")
	}
}

func TestStepOkOfBentClauses(t *testing.T) {
	for _, c := range []impl.Clause{one(""), one("0"), one("-0 1"), one("-0 -1"), one("-1"), fact("-0"), next(0, "-0", "1"), edge(0, 0, "-0")} {
		r := ordinaryRun()
		r.L[3].C = c
		wantStep(t, r, 3, false, "another clause: "+clauseTextByWords(c))
		wantRunRefused(t, r, "another clause")
	}
	for i, c := range wrongClauses() {
		for at := range 5 {
			r := ordinaryRun()
			r.L[at].C = c
			for k, s := range r.L {
				wantStep(t, r, k, k != at && s.A != at && s.B != at, fmt.Sprint("the wrong clause ", i, " at ", at))
			}
			wantRunRefused(t, r, fmt.Sprint("the wrong clause ", i, " at ", at))
		}
	}
	// One that has just what follows, and one number that its kind has not.
	r := ordinaryRun()
	r.L[3].C.Fun = 1
	wantStep(t, r, 3, false, "a Fun of KdOne")
	r.L[3].C.Fun = 0
	r.L[3].C.Inds = []impl.Part{}
	wantStep(t, r, 3, true, "an empty list")
}

// stepByWords is another way to StepOk.
func stepByWords(r impl.Run, i int) bool {
	s := r.L[i]
	if s.A == -1 && s.B == -1 {
		return impl.ClauseOk(s.C)
	}
	return s.A >= 0 && s.A < i && s.B >= 0 && s.B < i &&
		slices.ContainsFunc(resolveByWords(r.L[s.A].C, r.L[s.B].C), func(c impl.Clause) bool { return sameClause(c, s.C) })
}

func TestStepOkAndRunOkOfBentRuns(t *testing.T) {
	d := dice(76)
	count := map[bool]int{}
	for _, l := range drawnLists(400) {
		plain := impl.Saturate(l)
		if len(plain.L) > 60 || len(plain.L) == 0 {
			continue
		}
		for range 6 {
			r := cloneRun(plain)
			at := d.below(len(r.L))
			switch d.below(6) {
			case 0:
				r.L[at].A = d.below(len(r.L)+3) - 2
			case 1:
				r.L[at].B = d.below(len(r.L)+3) - 2
			case 2:
				r.L[at].C = d.anyClause(4, 1, 2)
			case 3:
				r.L = r.L[:at]
			case 4:
				r.L[at].A, r.L[at].B = r.L[at].B, r.L[at].A
			case 5:
				r.Code = d.below(6) - 1
			}
			fine := r.Code >= impl.RsOpen && r.Code <= impl.RsForm && (r.Code != impl.RsForm || len(r.L) == 0)
			for i := range r.L {
				want := stepByWords(r, i)
				wantStep(t, r, i, want, "a bent run")
				fine = fine && want
			}
			end := len(r.L) > 0 && impl.Empty(r.L[len(r.L)-1].C)
			fine = fine && end == (r.Code == impl.RsRefuted)
			if count[fine]++; fine {
				wantRunFine(t, r)
			} else {
				wantRunRefused(t, r, "a bent run")
			}
		}
	}
	if count[true] < 100 || count[false] < 100 {
		t.Error(count, ": too few to tell")
	}
}

func TestRunOkCodes(t *testing.T) {
	open := impl.Run{L: []impl.Step{toldStep(one("0"))}}
	for code, fine := range map[int]bool{impl.RsOpen: true, impl.RsFull: true, impl.RsRefuted: false, impl.RsForm: false, -1: false, 4: false, math.MinInt: false, math.MaxInt: false} {
		r := open
		r.Code = code
		if fine {
			wantRunFine(t, r)
		} else {
			wantRunRefused(t, r, fmt.Sprint("the Code ", code))
		}
	}
	for code, fine := range map[int]bool{impl.RsOpen: true, impl.RsFull: true, impl.RsRefuted: false, impl.RsForm: true, -1: false, 4: false, math.MinInt: false, math.MaxInt: false} {
		for _, r := range []impl.Run{{Code: code}, {Code: code, L: []impl.Step{}}} {
			if fine {
				wantRunFine(t, r)
			} else {
				wantRunRefused(t, r, fmt.Sprint("no steps and the Code ", code))
			}
		}
	}
	for _, end := range []impl.Clause{one(""), fact()} {
		for code := -1; code <= 4; code++ {
			r := impl.Run{Code: code, L: []impl.Step{toldStep(one("0")), toldStep(end)}}
			if code == impl.RsRefuted {
				wantRunFine(t, r)
			} else {
				wantRunRefused(t, r, fmt.Sprint("an Empty last step and the Code ", code))
			}
			// It is the last that counts.
			r.L = append(r.L, toldStep(one("1")))
			if code == impl.RsOpen || code == impl.RsFull {
				wantRunFine(t, r)
			} else {
				wantRunRefused(t, r, fmt.Sprint("an Empty step ahead of the last and the Code ", code))
			}
		}
	}
	// Without a literal others are not Empty.
	for _, c := range []impl.Clause{edge(0, 0, ""), along(0, "", ""), raise(0, 1), pairOf(0, 0, 0)} {
		wantRunFine(t, impl.Run{L: []impl.Step{toldStep(c)}})
		wantRunRefused(t, impl.Run{L: []impl.Step{toldStep(c)}, Code: impl.RsRefuted}, clauseTextByWords(c))
	}
}

func TestRunsOfMostSteps(t *testing.T) {
	for _, c := range []impl.Clause{one("0"), fact("1", "-2")} {
		r := impl.Run{L: slices.Repeat([]impl.Step{toldStep(c)}, impl.MaxKept)}
		wantRunFine(t, r)
		wantStep(t, r, impl.MaxKept-1, true, "MaxKept steps")
		wantStep(t, r, impl.MaxKept, false, "behind MaxKept steps")
		r.L = append(r.L, toldStep(c))
		for _, i := range []int{0, 1, impl.MaxKept - 1, impl.MaxKept} {
			wantStep(t, r, i, false, "one more than MaxKept")
		}
		wantRunRefused(t, r, "one more than MaxKept")
		r.Code = impl.RsForm
		wantRunRefused(t, r, "one more than MaxKept, with RsForm")
	}
	wide := impl.Run{L: make([]impl.Step, 1<<20)}
	wantStep(t, wide, 0, false, "far more than MaxKept")
	wantRunRefused(t, wide, "far more than MaxKept")
	// The last of MaxKept may follow of the two ahead of it.
	r := impl.Run{L: slices.Repeat([]impl.Step{toldStep(one("0"))}, impl.MaxKept), Code: impl.RsRefuted}
	r.L[298] = toldStep(one("-0"))
	r.L[299] = ofSteps(one(""), 298, 297)
	wantRunFine(t, r)
	if got := impl.Needed(r); !slices.Equal(got, []int{297, 298, 299}) {
		t.Error(got)
	}
}

func wantNeeded(t *testing.T, r impl.Run, want ...int) {
	t.Helper()
	if got := impl.Needed(r); !impl.RunOk(r) || !slices.Equal(got, want) {
		t.Errorf("Needed of\n%sis %v, not %v", runTextByWords(r), got, want)
	}
}

func TestNeeded(t *testing.T) {
	wantNeeded(t, ordinaryRun(), 0, 1, 2, 3, 4)
	wantNeeded(t, impl.Run{})
	wantNeeded(t, impl.Run{Code: impl.RsForm})
	wantNeeded(t, impl.Run{L: []impl.Step{toldStep(one("0"))}}, 0)
	// A last step that was told needs no other one.
	wantNeeded(t, impl.Run{L: []impl.Step{toldStep(one("0")), toldStep(one("-0")), ofSteps(one(""), 1, 0), toldStep(one("2"))}}, 3)
	// What is beside the way is left away, and what is needed twice is there once.
	r := wantRun(t, []impl.Clause{one("7"), one("0 5"), one("4 6"), one("1 -6"), one("-5"), one("-0")}, impl.RsRefuted,
		"0 one 7x", "1 one 0x 5x", "2 one 4x 6x", "3 one 1x -6x", "4 one -5x", "5 one -0x", "6 one 1x 4x of 3 2", "7 one 0x of 4 1", "8 one of 7 5")
	wantNeeded(t, r, 1, 4, 5, 7, 8)
	r = impl.Run{L: []impl.Step{toldStep(one("0 5")), toldStep(one("-5")), ofSteps(one("0"), 1, 0), toldStep(one("1 -0")), ofSteps(one("0"), 0, 1)}}
	wantNeeded(t, r, 0, 1, 4)
	r = impl.Run{L: []impl.Step{toldStep(one("5")), toldStep(one("1 -5")), ofSteps(one("1"), 0, 1), toldStep(one("-1 -5")), ofSteps(one("-1"), 3, 0), ofSteps(one(""), 4, 2)}, Code: impl.RsRefuted}
	wantNeeded(t, r, 0, 1, 2, 3, 4, 5)
}

// What is needed is by itself a run, its numbers changed over.
func TestNeededIsARunByItself(t *testing.T) {
	less := 0
	for _, l := range drawnLists(300) {
		r := impl.Saturate(l)
		needed := impl.Needed(r)
		if len(needed) < len(r.L) {
			less++
		}
		var alone impl.Run
		for _, i := range needed {
			s := r.L[i]
			if s.A != -1 {
				s.A, s.B = slices.Index(needed, s.A), slices.Index(needed, s.B)
			}
			alone.L = append(alone.L, s)
		}
		alone.Code = r.Code
		wantRunFine(t, alone)
		if len(alone.L) > 0 && len(impl.Needed(alone)) != len(alone.L) {
			t.Fatalf("not all of\n%sis needed", runTextByWords(alone))
		}
	}
	if less < 50 {
		t.Error(less, ": too few to tell")
	}
}

func TestRunText(t *testing.T) {
	if got := string(impl.RunText(ordinaryRun())); got != "0 one 0x\n1 one -0x 1x\n2 one -1x\n3 one -0x of 2 1\n4 one of 3 0\n" {
		t.Errorf("%q", got)
	}
	r := impl.Run{L: []impl.Step{toldStep(edge(10, 2, "-7")), toldStep(along(2, "", "-4")), toldStep(raise(2, 0)), toldStep(pairOf(2, 3, 0)), toldStep(fact("1 -1", "-0", "", "23")),
		ofSteps(next(10, "-7", "-4"), 0, 1), ofSteps(edge(10, 0, "-7"), 2, 0), ofSteps(pairOf(0, 3, 0), 3, 2), ofSteps(fact("-4"), 3, 1)}}
	want := "0 edge f10 r2 -7x\n1 all r2 -4y\n2 role r2 r0\n3 pair r2 3 0\n4 fact 1a -1a -0b 23d\n5 next f10 -7x -4y of 0 1\n6 edge f10 r0 -7x of 2 0\n7 pair r0 3 0 of 3 2\n8 fact -4a of 3 1\n"
	if got := string(impl.RunText(r)); got != want {
		t.Errorf("%q, not %q", got, want)
	}
	if got := impl.RunText(impl.Run{}); len(got) != 0 {
		t.Errorf("%q", got)
	}
	wantRunFine(t, impl.Saturate(idle(impl.MaxKept)))
}

func TestResolveSharesNoMemory(t *testing.T) {
	d := dice(77)
	list := append(smallClauses()[:300], d.anyClauses(600, 4, 1, 2)...)
	found := map[int]int{}
	for range 60000 {
		plainA, plainB := list[d.below(len(list))], list[d.below(len(list))]
		a, b := roomyClause(plainA), roomyClause(plainB)
		before := snapshot(a) + snapshot(b)
		got := impl.Resolve(a, b)
		wantApart(t, got, a, b)
		if snapshot(a)+snapshot(b) != before {
			t.Fatalf("%q or %q is changed", clauseTextByWords(plainA), clauseTextByWords(plainB))
		}
		if !slices.EqualFunc(got, impl.Resolve(plainA, plainB), sameClause) {
			t.Fatalf("%q and %q: what lies behind the lengths is read", clauseTextByWords(plainA), clauseTextByWords(plainB))
		}
		for _, c := range got {
			found[c.Kind]++
		}
	}
	for _, kind := range []int{impl.KdOne, impl.KdNext, impl.KdEdge, impl.KdFact, impl.KdPair} {
		if found[kind] < 20 {
			t.Error(found, ": too few to tell")
		}
	}
	// Both may have one and the same list.
	a := fact("0", "-1 1", "5")
	b := a
	if got := impl.Resolve(a, b); len(got) != 0 || !sameClause(a, fact("0", "-1 1", "5")) {
		t.Error(got, a)
	}
}

func roomyClauses(l []impl.Clause) []impl.Clause {
	list := make([]impl.Clause, 0, len(l)+3)
	for _, c := range l {
		list = append(list, roomyClause(c))
	}
	return append(list, one(""), impl.Clause{Kind: 77}, fact())[:len(l)]
}

func roomyRun(r impl.Run) impl.Run {
	list := make([]impl.Step, 0, len(r.L)+3)
	for _, s := range r.L {
		list = append(list, ofSteps(roomyClause(s.C), s.A, s.B))
	}
	r.L = append(list, toldStep(one("")), impl.Step{C: impl.Clause{Kind: 77}}, toldStep(fact()))[:len(r.L)]
	return r
}

func sameRun(a, b impl.Run) bool { return a.Code == b.Code && slices.EqualFunc(a.L, b.L, sameStep) }

func TestSaturateSharesNoMemory(t *testing.T) {
	codes := map[int]int{}
	for _, plain := range drawnLists(150) {
		l := roomyClauses(plain)
		before := snapshot(l)
		r := impl.Saturate(l)
		codes[r.Code]++
		wantApart(t, r, l)
		if snapshot(l) != before {
			t.Fatalf("%q is changed", clauseTexts(plain))
		}
		if !sameRun(r, impl.Saturate(plain)) {
			t.Fatalf("%q: what lies behind the lengths is read", clauseTexts(plain))
		}
	}
	if codes[impl.RsOpen] < 10 || codes[impl.RsRefuted] < 10 || codes[impl.RsFull] < 2 {
		t.Error(codes, ": too few to tell")
	}
	// Those that were told may have one and the same list, and so may one that is told twice.
	a, b := fact("0", "1"), pairOf(0, 1, 2)
	c := a
	c.Inds = a.Inds[:4:4]
	b.Inds = a.Inds[:0]
	l := []impl.Clause{a, b, c, a}
	r := impl.Saturate(l)
	wantApart(t, r, l)
	if len(r.L) != 2 || !sameClause(a, fact("0", "1")) {
		t.Error(r, a)
	}
	r.L[0].C.Inds[0].Pos = 77
	if !sameClause(a, fact("0", "1")) {
		t.Error("an answer shares memory with an argument")
	}
}

func TestRunFunctionsShareNoMemory(t *testing.T) {
	for _, l := range drawnLists(120) {
		plain := impl.Saturate(l)
		if len(plain.L) > 100 {
			continue
		}
		r := roomyRun(plain)
		before := snapshot(r)
		wantRunFine(t, r)
		needed, text := impl.Needed(r), impl.RunText(r)
		wantApart(t, needed, r)
		wantApart(t, text, r)
		for k := range text[:cap(text)] {
			text[:cap(text)][k] = '?'
		}
		for k := range needed[:cap(needed)] {
			needed[:cap(needed)][k] = -7
		}
		wantRunFine(t, r)
		if snapshot(r) != before {
			t.Fatalf("\n%sis changed", runTextByWords(plain))
		}
		// The steps behind the length are none.
		wantStep(t, r, len(plain.L), false, "behind the length")
	}
	// What lies behind the length may be just what a step says that it follows of.
	whole := ordinaryRun()
	r := impl.Run{L: slices.Clone(whole.L)[:3]}
	wantRunFine(t, r)
	wantStep(t, r, 3, false, "behind the length")
}

func TestResolveAnswersStayTheSame(t *testing.T) {
	lists := drawnLists(12)
	ask := func() string {
		var out strings.Builder
		for _, l := range lists {
			r := impl.Saturate(l)
			fmt.Fprint(&out, r, string(impl.RunText(r)), impl.Needed(r), impl.Resolve(l[0], l[len(l)-1]))
		}
		return out.String()
	}
	first := ask()
	impl.Saturate([]impl.Clause{one("0"), one("-0")})
	impl.Saturate([]impl.Clause{{Kind: 9}})
	for range 5 {
		if ask() != first {
			t.Fatal("an answer hangs on an earlier call")
		}
	}
}
