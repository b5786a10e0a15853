package tests

import (
	"bytes"
	"fmt"
	"math"
	"slices"
	"strings"
	"testing"

	"loop.example/g00534/impl"
)

func conTexts(list []impl.Con) []string {
	var out []string
	for _, c := range list {
		out = append(out, spell(c))
	}
	return out
}

func readCons(t *testing.T, list ...string) []impl.Con {
	t.Helper()
	var out []impl.Con
	for _, s := range list {
		out = append(out, readCon(t, s))
	}
	return out
}

// sources are what items are parts of, by the document's words.
func sources(k impl.Kb, c impl.Con) []impl.Con {
	list, _ := impl.Rules(k)
	for _, x := range k.L {
		if x.Kind == impl.AxIs {
			nnf, _ := impl.Nnf(x.C)
			list = append(list, nnf)
		}
	}
	nnf, _ := impl.Nnf(c)
	return append(list, nnf)
}

// itemsByWords finds items in texts, however many there are: what begins with Some, All or a name.
func itemsByWords(k impl.Kb, c impl.Con) []string {
	var out []string
	for _, part := range partTexts(strings.Join(conTexts(sources(k, c)), " ")) {
		if word := upperStart.FindString(part); word == "Some" || word == "All" || !slices.Contains(keptWords, word) {
			out = append(out, part)
		}
	}
	return eachOnce(out)
}

func wantItems(t *testing.T, kb, some string, want ...string) {
	t.Helper()
	k, c := readKb(t, kb), readCon(t, some)
	items, ok := impl.Items(k, c)
	if !ok || !slices.Equal(conTexts(items), want) {
		t.Errorf("Items of %q and %s: %q, %v; want %q", kb, some, conTexts(items), ok, want)
	}
	if own := itemsByWords(k, c); !slices.Equal(own, want) {
		t.Errorf("%q and %s: the test's own way tells %q", kb, some, own)
	}
}

func wantNoItems(t *testing.T, k impl.Kb, c impl.Con, why string) {
	t.Helper()
	if items, ok := impl.Items(k, c); ok || len(items) != 0 {
		t.Errorf("%s: Items tells %d, %v", why, len(items), ok)
	}
}

func TestItemsOfEachKind(t *testing.T) {
	wantItems(t, "", "Top")
	wantItems(t, "", "Bot")
	wantItems(t, "", "A", "A")
	wantItems(t, "", "Not(A)", "A")
	wantItems(t, "", "And(B A)", "B", "A")
	wantItems(t, "", "Or(B Not(A))", "B", "A")
	wantItems(t, "", "And(Top Bot)")
	wantItems(t, "", "Some(r A)", "Some(r A)", "A")
	wantItems(t, "", "All(r A)", "All(r A)", "A")
	wantItems(t, "", "Some(r Top)", "Some(r Top)")
	wantItems(t, "", "All(r Not(A))", "All(r Not(A))", "A")
	// Not stands ahead of names alone: what is an item has been turned.
	wantItems(t, "", "Not(Some(r A))", "All(r Not(A))", "A")
	wantItems(t, "", "Not(All(r Or(A B)))", "Some(r And(Not(A) Not(B)))", "A", "B")
	wantItems(t, "", "Not(Not(Some(r Not(Not(A)))))", "Some(r A)", "A")
}

func TestItemsOuterOnesFirst(t *testing.T) {
	wantItems(t, "", "Some(r All(s Some(r A)))", "Some(r All(s Some(r A)))", "All(s Some(r A))", "Some(r A)", "A")
	wantItems(t, "", "And(Some(r And(A All(s B))) C)", "Some(r And(A All(s B)))", "A", "All(s B)", "B", "C")
	wantItems(t, "", "Or(A And(Some(r B) Or(All(s C) D)))", "A", "Some(r B)", "B", "All(s C)", "C", "D")
}

func TestItemsEachOnceWhereItIsFirst(t *testing.T) {
	wantItems(t, "", "And(A A)", "A")
	wantItems(t, "", "And(Some(r A) And(A Some(r A)))", "Some(r A)", "A")
	wantItems(t, "", "And(A Some(r A))", "A", "Some(r A)")
	wantItems(t, "", "And(Some(r Some(s B)) And(B Some(s B)))", "Some(r Some(s B))", "Some(s B)", "B")
	// Alike is what is written alike.
	wantItems(t, "", "And(Some(r And(A B)) Some(r And(B A)))", "Some(r And(A B))", "A", "B", "Some(r And(B A))")
	wantItems(t, "", "And(Some(r A) And(Some(s A) All(r A)))", "Some(r A)", "A", "Some(s A)", "All(r A)")
	wantItems(t, "Sub(A B) Is(x B)", "And(C A)", "A", "B", "C")
}

func TestItemsRulesFirstThenIndividualsThenSome(t *testing.T) {
	wantItems(t, "Sub(A B)", "Top", "A", "B")
	wantItems(t, "Eq(B A)", "Top", "B", "A")
	wantItems(t, "Dis(C A)", "Top", "C", "A")
	wantItems(t, "Sub(Some(r A) B)", "Top", "All(r Not(A))", "A", "B")
	wantItems(t, "Eq(A Some(r B))", "Top", "A", "Some(r B)", "B", "All(r Not(B))")
	wantItems(t, "Dis(A All(r B))", "Top", "A", "Some(r Not(B))", "B")
	wantItems(t, "Is(x C) Sub(B A) Is(y D)", "E", "B", "A", "C", "D", "E")
	wantItems(t, "Is(z Not(Some(r C))) Dis(B A) Is(x Or(Bot B))", "Not(All(s Top))", "B", "A", "All(r Not(C))", "C", "Some(s Bot)")
	wantItems(t, "Is(x B) Is(x A) Sub(D C)", "And(A E)", "D", "C", "B", "A", "E")
	// Roles of axioms that are of no concept make no item.
	wantItems(t, "Role(r s) Rel(t x y)", "Top")
	wantItems(t, "Role(r s) Rel(t x y) Is(x A)", "Some(t B)", "A", "Some(t B)", "B")
	wantItems(t, "Sub(Top Top) Eq(Bot Top) Is(x Bot)", "Bot")
}

func TestMostItems(t *testing.T) {
	for _, c := range []struct{ kb, some string }{
		{"", "And(And(And(A B) And(C D)) And(And(E F) G))"},
		{"", "Some(r And(All(s A) Some(s And(B Or(C D)))))"},
		{"Sub(A B) Eq(C D) Is(x Some(r E))", "Some(r A)"},
		{"Sub(A Some(r B)) Is(x All(r C))", "And(D All(r Top))"},
		{"Dis(A B) Is(x C) Is(x D) Is(y E)", "Some(r All(r A))"},
		{"Sub(Some(r Some(r Some(r A))) B)", "And(Or(C A) D)"},
		{"Is(x And(A And(B C))) Is(y Or(D E)) Is(z Some(r A)) Is(z All(r A))", "Top"},
		{"Eq(Some(r A) All(s B)) Dis(A C)", "Or(B All(r Not(A)))"},
	} {
		k, some := readKb(t, c.kb), readCon(t, c.some)
		items, ok := impl.Items(k, some)
		if !ok || len(items) != impl.MaxItems || !slices.Equal(conTexts(items), itemsByWords(k, some)) {
			t.Errorf("%s and %s: MaxItems are %q, %v", c.kb, c.some, conTexts(items), ok)
			continue
		}
		if l, code := impl.Survivors(k, some); code != impl.TyWell || len(l) == 0 || l[len(l)-1] >= 1<<impl.MaxItems {
			t.Errorf("%s and %s: Survivors of MaxItems tell %d", c.kb, c.some, code)
		}
		if w, code := impl.ModelOf(k, some); code != impl.TyWell || !impl.IsModel(w, k) {
			t.Errorf("%s and %s: ModelOf of MaxItems tells %d", c.kb, c.some, code)
		}
		with := func(x impl.Axiom) impl.Kb { return told(append(slices.Clone(k.L), x)...) }
		for _, again := range items {
			if list, ok := impl.Items(with(is("x", again)), some); !ok || len(list) != impl.MaxItems {
				t.Errorf("%s and %s: MaxItems and %s again are %d, %v", c.kb, c.some, spell(again), len(list), ok)
			}
		}
		more := readCon(t, "Some(r Bot)")
		wantBig(t, with(is("x", more)), some)
		wantBig(t, with(is("x", every("r", bot))), some)
		wantBig(t, with(sub(top, more)), some)
		wantBig(t, with(sub(not(more), bot)), some)
		if big := or(more, some); impl.ConOk(big) {
			wantBig(t, k, big)
		}
	}
	wantBig(t, impl.Kb{}, readCon(t, "And(And(And(A B) And(C D)) And(And(E F) And(G H)))"))
}

func wantBig(t *testing.T, k impl.Kb, c impl.Con) {
	t.Helper()
	why := spellKb(k) + spell(c)
	if !impl.KbOk(k) || !impl.ConOk(c) || len(itemsByWords(k, c)) <= impl.MaxItems {
		t.Fatalf("%s has not too many items", why)
	}
	wantNoItems(t, k, c, why)
	wantTypeCode(t, k, c, impl.TyBig, impl.TyBig, why)
}

// wantTypeCode asks for the codes of Survivors and of ModelOf, and that nothing stands beside one that refuses.
func wantTypeCode(t *testing.T, k impl.Kb, c impl.Con, survivors, model int, why string) {
	t.Helper()
	l, code := impl.Survivors(k, c)
	if code != survivors || code != impl.TyWell && len(l) != 0 {
		t.Errorf("%s: Survivors tells %v, %d, not %d", why, l, code, survivors)
	}
	w, code := impl.ModelOf(k, c)
	if code != model || code != impl.TyWell && !sameWorld(w, impl.World{}) {
		t.Errorf("%s: ModelOf tells %v, %d, not %d", why, w, code, model)
	}
}

func sameWorld(a, b impl.World) bool {
	return a.N == b.N && slices.EqualFunc(a.Names, b.Names, bytes.Equal) && slices.EqualFunc(a.Sets, b.Sets, slices.Equal) &&
		slices.EqualFunc(a.Roles, b.Roles, bytes.Equal) && slices.EqualFunc(a.Rels, b.Rels, slices.Equal) &&
		slices.EqualFunc(a.Inds, b.Inds, bytes.Equal) && slices.Equal(a.At, b.At)
}

func TestTypesOfWhatIsNotOk(t *testing.T) {
	big := bush(4, "A")
	for i, s := range strings.Fields("A B C D E F G H") {
		at := nodes(&big)
		leaves := slices.DeleteFunc(at, func(c *impl.Con) bool { return c.Kind != impl.CnName })
		leaves[i].Name = []byte(s)
	}
	fine := told(sub(named("A"), some("r", named("B"))), is("x", named("A")))
	wantTypeCode(t, fine, top, impl.TyWell, impl.TyWell, "fine")
	wantTypeCode(t, impl.Kb{}, big, impl.TyBig, impl.TyBig, "eight names")
	for i, c := range refusedCons() {
		why := fmt.Sprint("the wrong concept ", i)
		for _, k := range []impl.Kb{{}, fine, fullKb()} {
			wantNoItems(t, k, c, why)
			wantTypeCode(t, k, c, impl.TyForm, impl.TyForm, why)
		}
		for _, k := range []impl.Kb{told(is("x", c)), told(sub(top, c)), told(equal(c, top)), told(apart(named("A"), c))} {
			for _, asked := range []impl.Con{top, big} {
				wantNoItems(t, k, asked, why)
				wantTypeCode(t, k, asked, impl.TyForm, impl.TyForm, why)
			}
		}
	}
	for i, k := range refusedKbs() {
		for _, c := range []impl.Con{top, named("A"), big, {Kind: 9}} {
			why := fmt.Sprint("the wrong axioms ", i)
			wantNoItems(t, k, c, why)
			wantTypeCode(t, k, c, impl.TyForm, impl.TyForm, why)
		}
	}
}

// isByWords says whether a concept is of a type, by texts, however great they are.
func isByWords(items []string, mask int, c impl.Con) bool {
	kid := func(i int) bool { return isByWords(items, mask, c.Kids[i]) }
	switch c.Kind {
	case impl.CnTop:
		return true
	case impl.CnNot:
		return !kid(0)
	case impl.CnAnd:
		return kid(0) && kid(1)
	case impl.CnOr:
		return kid(0) || kid(1)
	}
	i := slices.Index(items, spell(c))
	return i >= 0 && mask>>i&1 == 1
}

func TestTypeHoldsOfEachKind(t *testing.T) {
	items := readCons(t, "A", "Some(r B)", "B", "All(s Not(A))")
	for _, c := range []struct {
		text  string
		types []int
	}{
		{"Top", everybody(16)},
		{"Bot", nil},
		{"A", []int{1, 3, 5, 7, 9, 11, 13, 15}},
		{"Some(r B)", []int{2, 3, 6, 7, 10, 11, 14, 15}},
		{"B", []int{4, 5, 6, 7, 12, 13, 14, 15}},
		{"All(s Not(A))", []int{8, 9, 10, 11, 12, 13, 14, 15}},
		{"Not(A)", []int{0, 2, 4, 6, 8, 10, 12, 14}},
		{"Not(Not(B))", []int{4, 5, 6, 7, 12, 13, 14, 15}},
		{"Not(Some(r B))", []int{0, 1, 4, 5, 8, 9, 12, 13}},
		{"Not(Top)", nil},
		{"Not(Bot)", everybody(16)},
		{"And(A B)", []int{5, 7, 13, 15}},
		{"And(Top A)", []int{1, 3, 5, 7, 9, 11, 13, 15}},
		{"And(A Bot)", nil},
		{"And(Bot A)", nil},
		{"Or(A Top)", everybody(16)},
		{"Or(Bot All(s Not(A)))", []int{8, 9, 10, 11, 12, 13, 14, 15}},
		{"Or(A B)", []int{1, 3, 4, 5, 6, 7, 9, 11, 12, 13, 14, 15}},
		{"And(Or(A B) Not(And(A B)))", []int{1, 3, 4, 6, 9, 11, 12, 14}},
		{"And(Some(r B) And(All(s Not(A)) Not(A)))", []int{10, 14}},
		// What is no item is of no type, whatever its parts are.
		{"C", nil},
		{"Not(C)", everybody(16)},
		{"Some(s B)", nil},
		{"Some(r A)", nil},
		{"Some(r Top)", nil},
		{"All(r B)", nil},
		{"All(s A)", nil},
		{"All(s Not(Not(Not(A))))", nil},
		{"Not(All(s A))", everybody(16)},
		{"Or(C A)", []int{1, 3, 5, 7, 9, 11, 13, 15}},
		{"And(A C)", nil},
	} {
		con := readCon(t, c.text)
		for mask := range 16 {
			if got := impl.TypeHolds(items, mask, con); got != slices.Contains(c.types, mask) || got != isByWords(conTexts(items), mask, con) {
				t.Errorf("%s is of the type %d: %v", c.text, mask, got)
			}
		}
	}
}

func TestTypeHoldsOfTypesOutOfBounds(t *testing.T) {
	names := readCons(t, "A", "B", "C", "D", "E", "F", "G", "H")
	for n := range impl.MaxItems + 1 {
		items, most := names[:n:n], 1<<n-1
		for _, mask := range []int{0, most, most / 2} {
			if !impl.TypeHolds(items, mask, top) || !impl.TypeHolds(items, mask, not(bot)) || impl.TypeHolds(items, mask, bot) {
				t.Errorf("%d items: %d is no type", n, mask)
			}
			if n > 0 && impl.TypeHolds(items, mask, names[n-1]) != (mask == most) {
				t.Errorf("%d items: the last one is of %d: %v", n, mask, mask != most)
			}
		}
		for _, mask := range []int{most + 1, most + 2, 2*most + 2, 1 << 20, 1 << 62, math.MaxInt, -1, -2, -most - 1, math.MinInt, math.MinInt + 1} {
			for _, c := range []impl.Con{top, not(bot), names[0], not(names[0])} {
				if impl.TypeHolds(items, mask, c) {
					t.Errorf("%d items: %d is a type", n, mask)
				}
			}
		}
	}
	if !impl.TypeHolds(nil, 0, top) || impl.TypeHolds(nil, 1, top) || !impl.TypeHolds([]impl.Con{}, 0, not(named("A"))) {
		t.Error("no items")
	}
	many := make([]impl.Con, 1<<20)
	for mask := range 300 {
		if impl.TypeHolds(names, mask, top) || impl.TypeHolds(many, mask, top) {
			t.Error("more than MaxItems: ", mask)
		}
	}
}

func TestTypeHoldsOfWrongConcepts(t *testing.T) {
	for i, c := range refusedCons() {
		fine := readCons(t, "A", "Some(r A)")
		for mask := range 4 {
			if impl.TypeHolds(fine, mask, c) || impl.TypeHolds(nil, 0, c) {
				t.Errorf("the wrong concept %d is of %d", i, mask)
			}
		}
		for at := range 3 {
			items := slices.Insert(slices.Clone(fine), at, c)
			for mask := range 8 {
				if impl.TypeHolds(items, mask, top) || impl.TypeHolds(items, mask, named("A")) || impl.TypeHolds(items, mask, c) || impl.TypeHolds(items, mask, not(bot)) {
					t.Errorf("with the wrong item %d at %d there is the type %d", i, at, mask)
				}
			}
		}
	}
}

// Items may be any that are ConOk: Top, Not, And and Or go by what they are all the same.
func TestTypeHoldsOfItemsThatAreMadeOfOthers(t *testing.T) {
	items := readCons(t, "And(A B)", "A", "Top", "Not(A)")
	for mask := range 16 {
		for text, want := range map[string]bool{"And(A B)": false, "A": mask>>1&1 == 1, "Top": true, "Not(A)": mask>>1&1 == 0, "And(A A)": mask>>1&1 == 1} {
			if impl.TypeHolds(items, mask, readCon(t, text)) != want {
				t.Errorf("%s is of %d: %v", text, mask, !want)
			}
		}
	}
}

func TestTypeHoldsIsWhatTheWordsSay(t *testing.T) {
	d := dice(81)
	count := map[bool]int{}
	asked := append(conceptsOf(3), edges()...)
	for range 3000 {
		items := d.eachCon(1 + d.below(impl.MaxItems))
		mask := d.below(1 << len(items))
		for _, c := range []impl.Con{asked[d.below(len(asked))], d.anyCon(4), d.over(items)} {
			if !impl.ConOk(c) {
				continue
			}
			want := isByWords(conTexts(items), mask, c)
			if impl.TypeHolds(items, mask, c) != want {
				t.Fatalf("%s is of %d by %q: %v", spell(c), mask, conTexts(items), !want)
			}
			count[want]++
		}
	}
	if count[true] < 1000 || count[false] < 1000 {
		t.Error(count, ": too few to tell")
	}
}

// eachCon draws names, Some and All, no two alike, as Items are.
func (d *dice) eachCon(count int) []impl.Con {
	var items []impl.Con
	for len(items) < count {
		c := d.anyCon(1 + d.below(3))
		known := slices.ContainsFunc(items, func(other impl.Con) bool { return sameCon(other, c) })
		if !known && (c.Kind == impl.CnName || c.Kind == impl.CnSome || c.Kind == impl.CnAll) {
			items = append(items, c)
		}
	}
	return items
}

// over makes a concept of some of these.
func (d *dice) over(items []impl.Con) impl.Con {
	c := items[d.below(len(items))]
	for range d.below(4) {
		other := items[d.below(len(items))]
		c = []impl.Con{not(c), and(c, other), or(c, other), and(not(other), c)}[d.below(4)]
	}
	return c
}

func wantLinked(t *testing.T, k impl.Kb, items []impl.Con, role string, a, b int, want bool) {
	t.Helper()
	if got := impl.Linked(k, items, []byte(role), a, b); got != want {
		t.Errorf("%s%q: %d is linked to %d by %s: %v", spellKb(k), conTexts(items), a, b, role, got)
	}
	if linkedByWords(k, items, role, a, b) != want {
		t.Errorf("%s%q: %d to %d by %s: the test's own way tells %v", spellKb(k), conTexts(items), a, b, role, !want)
	}
}

// linkedByWords goes item by item.
func linkedByWords(k impl.Kb, items []impl.Con, role string, a, b int) bool {
	above := texts(impl.Above(k, []byte(role)))
	for i, item := range items {
		if item.Kind == impl.CnAll && a>>i&1 == 1 && slices.Contains(above, string(item.Role)) && !isByWords(conTexts(items), b, item.Kids[0]) {
			return false
		}
	}
	return true
}

func TestLinkedByAll(t *testing.T) {
	items := readCons(t, "All(r A)", "A", "All(r Not(A))", "Some(r A)", "All(s Bot)")
	for a := range 32 {
		for b := range 32 {
			hasA := b>>1&1 == 1
			wantLinked(t, impl.Kb{}, items, "r", a, b, (a&1 == 0 || hasA) && (a>>2&1 == 0 || !hasA))
			wantLinked(t, impl.Kb{}, items, "s", a, b, a>>4&1 == 0)
			wantLinked(t, impl.Kb{}, items, "t", a, b, true)
		}
	}
	wantLinked(t, impl.Kb{}, nil, "r", 0, 0, true)
	wantLinked(t, impl.Kb{}, readCons(t, "All(r Top)"), "r", 1, 0, true)
	wantLinked(t, impl.Kb{}, readCons(t, "All(r Bot)"), "r", 1, 1, false)
	wantLinked(t, impl.Kb{}, readCons(t, "All(r Bot)"), "r", 0, 1, true)
	// A Kid that is no item is of no type.
	wantLinked(t, impl.Kb{}, readCons(t, "All(r A)"), "r", 1, 1, false)
	wantLinked(t, impl.Kb{}, readCons(t, "All(r Not(A))"), "r", 1, 0, true)
	// The Kid may be an item that is itself Some or All, or be made of items.
	nested := readCons(t, "All(r All(r A))", "All(r A)", "A", "All(s Or(A Some(r A)))", "Some(r A)")
	wantLinked(t, impl.Kb{}, nested, "r", 1, 2, true)
	wantLinked(t, impl.Kb{}, nested, "r", 1, 4, false)
	wantLinked(t, impl.Kb{}, nested, "r", 2, 4, true)
	wantLinked(t, impl.Kb{}, nested, "r", 3, 4, false)
	wantLinked(t, impl.Kb{}, nested, "r", 3, 6, true)
	wantLinked(t, impl.Kb{}, nested, "s", 8, 16, true)
	wantLinked(t, impl.Kb{}, nested, "s", 8, 4, true)
	wantLinked(t, impl.Kb{}, nested, "s", 8, 3, false)
	wantLinked(t, impl.Kb{}, nested, "r", 8, 3, true)
}

func TestLinkedByRolesAboveOneAnother(t *testing.T) {
	items := readCons(t, "All(r A)", "All(s A)", "All(t A)", "A")
	for _, c := range []struct{ kb, r, s, t string }{
		// For each role: the items that keep one from being linked by it to who is not A.
		{"", "r", "s", "t"},
		{"Role(r s)", "rs", "s", "t"},
		{"Role(s r)", "r", "rs", "t"},
		{"Role(r s) Role(s t)", "rst", "st", "t"},
		{"Role(s t) Role(r s)", "rst", "st", "t"},
		{"Role(r t) Role(r s)", "rst", "s", "t"},
		{"Role(r s) Role(s r)", "rs", "rs", "t"},
		{"Role(r s) Role(s t) Role(t r)", "rst", "rst", "rst"},
		{"Role(r r)", "r", "s", "t"},
		{"Rel(r x y) Rel(s x y) Sub(Some(r A) Some(s A))", "r", "s", "t"},
	} {
		k := readKb(t, c.kb)
		for role, by := range map[string]string{"r": c.r, "s": c.s, "t": c.t, "q": ""} {
			for a := range 8 {
				barred := a&1 == 1 && strings.Contains(by, "r") || a>>1&1 == 1 && strings.Contains(by, "s") || a>>2&1 == 1 && strings.Contains(by, "t")
				wantLinked(t, k, items, role, a, 0, !barred)
				wantLinked(t, k, items, role, a, 8, true)
				wantLinked(t, k, items, role, a|8, 7, !barred)
			}
		}
	}
}

func TestLinkedOfWrongArguments(t *testing.T) {
	fine, items := told(role("r", "s")), readCons(t, "All(s A)", "A")
	wantLinked(t, fine, items, "r", 1, 2, true)
	no := func(k impl.Kb, items []impl.Con, role []byte, a, b int, why string) {
		t.Helper()
		if impl.Linked(k, items, role, a, b) {
			t.Errorf("%s: %d is linked to %d", why, a, b)
		}
	}
	for i, k := range refusedKbs() {
		no(k, items, []byte("r"), 1, 2, fmt.Sprint("the wrong axioms ", i))
		no(k, nil, []byte("r"), 0, 0, fmt.Sprint("the wrong axioms ", i))
	}
	for _, wrong := range []int{4, 5, 8, 128, 1 << 62, math.MaxInt, -1, -2, -4, math.MinInt} {
		for _, right := range []int{0, 1, 2, 3, wrong} {
			no(fine, items, []byte("r"), wrong, right, "a type out of bounds")
			no(fine, items, []byte("r"), right, wrong, "a type out of bounds")
			no(fine, items, []byte("t"), right, wrong, "a type out of bounds")
		}
	}
	no(fine, nil, []byte("r"), 1, 0, "no items")
	no(fine, nil, []byte("r"), 0, 1, "no items")
	for _, s := range append([]string{""}, wrongLower...) {
		no(fine, items, []byte(s), 0, 0, "the role "+s)
		no(fine, items, []byte(s), 1, 2, "the role "+s)
	}
	no(fine, items, nil, 0, 0, "no role")
	for i, c := range refusedCons() {
		for at := range 3 {
			list := slices.Insert(slices.Clone(items), at, c)
			no(fine, list, []byte("r"), 0, 0, fmt.Sprint("the wrong item ", i))
			no(fine, list, []byte("t"), 0, 7, fmt.Sprint("the wrong item ", i))
		}
	}
	seven := readCons(t, "A", "B", "C", "D", "E", "F", "All(r A)")
	wantLinked(t, fine, seven, "r", 127, 127, true)
	wantLinked(t, fine, seven, "r", 127, 126, false)
	no(fine, seven, []byte("r"), 127, 128, "one more than the greatest type")
	no(fine, append(seven, named("G")), []byte("r"), 0, 0, "one more than MaxItems")
	no(fine, make([]impl.Con, 1<<20), []byte("r"), 0, 0, "2^20 items")
}

func TestLinkedIsWhatTheWordsSay(t *testing.T) {
	d := dice(82)
	count := map[bool]int{}
	kbs := drawnKbs(300)
	for i := range 4000 {
		k, items := kbs[i%len(kbs)], d.eachCon(1+d.below(impl.MaxItems))
		a, b := d.below(1<<len(items)), d.below(1<<len(items))
		for _, role := range []string{"r", "s", "t", "other"} {
			want := linkedByWords(k, items, role, a, b)
			if impl.Linked(k, items, []byte(role), a, b) != want {
				t.Fatalf("%s%q: %d is linked to %d by %s: %v", spellKb(k), conTexts(items), a, b, role, !want)
			}
			count[want]++
		}
	}
	if count[true] < 1000 || count[false] < 1000 {
		t.Error(count, ": too few to tell")
	}
}

// register is what is told and asked, by types: another way to Survivors and ModelOf.
type register struct {
	k     impl.Kb
	c     impl.Con
	texts []string
	items []impl.Con
	left  []int
	turns int
}

// registerOf takes concepts that are greater than ConOk allows, too, and has the types that are left behind each turn.
func registerOf(k impl.Kb, c impl.Con) *register {
	r := &register{k: k, c: c, texts: itemsByWords(k, c)}
	for _, from := range sources(k, c) {
		for _, at := range nodes(&from) {
			if i := slices.Index(r.texts, spell(*at)); i == len(r.items) {
				r.items = append(r.items, *at)
			}
		}
	}
	rules, _ := impl.Rules(k)
	for mask := range 1 << len(r.items) {
		if !slices.ContainsFunc(rules, func(c impl.Con) bool { return !isByWords(r.texts, mask, c) }) {
			r.left = append(r.left, mask)
		}
	}
	for r.turn() {
		r.turns++
	}
	return r
}

func (r *register) turn() bool {
	var gone []int
	for _, a := range r.left {
		for i, item := range r.items {
			if item.Kind == impl.CnSome && a>>i&1 == 1 && !r.meets(a, item) {
				gone = append(gone, a)
				break
			}
		}
	}
	r.left = slices.DeleteFunc(r.left, func(a int) bool { return slices.Contains(gone, a) })
	return len(gone) > 0
}

func (r *register) meets(a int, item impl.Con) bool {
	return slices.ContainsFunc(r.left, func(b int) bool {
		return isByWords(r.texts, b, item.Kids[0]) && linkedByWords(r.k, r.items, string(item.Role), a, b)
	})
}

// holdsAt says whether an axiom of individuals holds where these sit.
func (r *register) holdsAt(x impl.Axiom, inds []string, at []int) bool {
	of := func(ind []byte) int { return r.left[at[slices.Index(inds, string(ind))]] }
	switch x.Kind {
	case impl.AxIs:
		nnf, _ := impl.Nnf(x.C)
		return isByWords(r.texts, of(x.A), nnf)
	case impl.AxRel:
		return linkedByWords(r.k, r.items, string(x.R), of(x.A), of(x.B))
	}
	return true
}

// seats counts all ways to sit through, the last individual first, up to the first in which all holds.
func (r *register) seats() ([]int, bool) {
	inds := texts(impl.KbInds(r.k))
	at := make([]int, len(inds))
	for len(r.left) > 0 {
		if !slices.ContainsFunc(r.k.L, func(x impl.Axiom) bool { return !r.holdsAt(x, inds, at) }) {
			return at, true
		}
		i := len(at) - 1
		for ; i >= 0 && at[i] == len(r.left)-1; i-- {
			at[i] = 0
		}
		if i < 0 {
			break
		}
		at[i]++
	}
	return nil, false
}

// model is what ModelOf answers, but for TyForm and TyBig.
func (r *register) model() (impl.World, int) {
	at, seated := r.seats()
	nnf, _ := impl.Nnf(r.c)
	if !seated || !slices.ContainsFunc(r.left, func(a int) bool { return isByWords(r.texts, a, nnf) }) {
		return impl.World{}, impl.TyNone
	}
	words, _ := readByStack(spellKb(r.k)+spellAxiom(is("x", r.c)), wanted{'x', 0})
	w := impl.World{N: len(r.left), Inds: impl.KbInds(r.k), At: at}
	for _, name := range eachOfThem(words.names) {
		var flags []bool
		for _, a := range r.left {
			flags = append(flags, isByWords(r.texts, a, named(name)))
		}
		w.Names, w.Sets = append(w.Names, []byte(name)), append(w.Sets, flags)
	}
	for _, role := range eachOfThem(words.roles) {
		var flags []bool
		for _, a := range r.left {
			for _, b := range r.left {
				flags = append(flags, linkedByWords(r.k, r.items, role, a, b))
			}
		}
		w.Roles, w.Rels = append(w.Roles, []byte(role)), append(w.Rels, flags)
	}
	return w, impl.TyWell
}

func wantSurvivors(t *testing.T, kb, some string, want ...int) {
	t.Helper()
	k, c := readKb(t, kb), readCon(t, some)
	if l, code := impl.Survivors(k, c); code != impl.TyWell || !slices.Equal(l, want) {
		t.Errorf("Survivors of %q and %s: %v, %d; want %v", kb, some, l, code, want)
	}
	if own := registerOf(k, c); !slices.Equal(own.left, want) {
		t.Errorf("%q and %s: the test's own way tells %v", kb, some, own.left)
	}
}

func TestSurvivorsOfRules(t *testing.T) {
	wantSurvivors(t, "", "Top", 0)
	wantSurvivors(t, "", "Bot", 0)
	wantSurvivors(t, "", "A", 0, 1)
	wantSurvivors(t, "", "And(A Not(A))", 0, 1)
	wantSurvivors(t, "", "And(A B)", 0, 1, 2, 3)
	wantSurvivors(t, "Sub(A B)", "Top", 0, 2, 3)
	wantSurvivors(t, "Eq(A B)", "Top", 0, 3)
	wantSurvivors(t, "Dis(A B)", "Top", 0, 1, 2)
	wantSurvivors(t, "Dis(A A)", "Top", 0)
	wantSurvivors(t, "Sub(Top A)", "Top", 1)
	wantSurvivors(t, "Sub(A Bot)", "A", 0)
	wantSurvivors(t, "Sub(A B) Sub(B C)", "Top", 0, 4, 6, 7)
	// One that holds always, or never.
	wantSurvivors(t, "Sub(Bot A)", "Top", 0, 1)
	wantSurvivors(t, "Sub(Top Bot)", "Top")
	wantSurvivors(t, "Sub(Top Bot)", "A")
	wantSurvivors(t, "Sub(Top A) Sub(A Bot)", "B")
	wantSurvivors(t, "Eq(A Not(A))", "Top")
	// Nor what is told of individuals nor what is asked makes anybody go.
	wantSurvivors(t, "Is(x A) Is(x Not(A)) Rel(r x x)", "Bot", 0, 1)
	wantSurvivors(t, "Is(x Bot)", "B", 0, 1)
}

func TestSurvivorsOfWants(t *testing.T) {
	wantSurvivors(t, "", "Some(r Top)", 0, 1)
	wantSurvivors(t, "", "Some(r Bot)", 0)
	wantSurvivors(t, "", "Some(r A)", 0, 1, 2, 3)
	wantSurvivors(t, "Sub(A Bot)", "Some(r A)", 0)
	// All and Some that ask for what is not: items All(r Bot), Some(r Top).
	wantSurvivors(t, "", "And(All(r Bot) Some(r Top))", 0, 1, 2)
	wantSurvivors(t, "", "And(All(r Bot) Some(s Top))", 0, 1, 2, 3)
	// Items All(r A), A, Some(r Not(A)).
	wantSurvivors(t, "", "And(All(r A) Some(r Not(A)))", 0, 1, 2, 3, 4, 6)
	wantSurvivors(t, "", "And(All(s A) Some(r Not(A)))", 0, 1, 2, 3, 4, 5, 6, 7)
	wantSurvivors(t, "Role(r s)", "And(All(s A) Some(r Not(A)))", 0, 1, 2, 3, 4, 6)
	wantSurvivors(t, "Role(s r)", "And(All(s A) Some(r Not(A)))", 0, 1, 2, 3, 4, 5, 6, 7)
	wantSurvivors(t, "Role(r t) Role(t s)", "And(All(s A) Some(r Not(A)))", 0, 1, 2, 3, 4, 6)
	wantSurvivors(t, "Role(r t) Role(t s) Role(s r)", "And(All(t A) Some(s Not(A)))", 0, 1, 2, 3, 4, 6)
	// One serves itself: items A, Some(r A).
	wantSurvivors(t, "Sub(A Some(r A))", "Top", 0, 2, 3)
	// Two serve each other: items A, Some(r B), B, All(r Not(B)), Some(r A), All(r Not(A)).
	wantSurvivors(t, "Eq(A Some(r B)) Eq(B Some(r A)) Dis(A B)", "Top", 28, 35, 40)
	// Who wants is held against whom it would be linked to by its own All: items Some(r A), A, All(r Not(A)).
	wantSurvivors(t, "Sub(Top Some(r A)) Sub(Top All(r Not(A)))", "Top")
	wantSurvivors(t, "Sub(Top Some(r A)) Sub(A All(r Not(A)))", "Top")
	wantSurvivors(t, "Sub(Top Some(r A)) Sub(A All(s Not(A)))", "Top", 1, 5, 7)
}

// One goes only when another one has gone: items A, Some(r B), B, Some(r C), C.
func TestSurvivorsTurnByTurn(t *testing.T) {
	wantSurvivors(t, "Sub(A Some(r B)) Sub(B Some(r C)) Sub(C Bot)", "Top", 0)
	wantSurvivors(t, "Sub(A Some(r B)) Sub(B Some(r C)) Sub(C A)", "And(A And(B C))", 0, 2, 3, 8, 10, 11, 12, 14, 15, 19, 27, 31)
	for _, c := range []struct {
		kb    string
		turns int
	}{
		{"Sub(A B)", 0},
		{"Sub(A Some(r Bot))", 1},
		{"Sub(A Some(r B)) Sub(B Bot)", 1},
		{"Sub(A Some(r B)) Sub(B Some(r C)) Sub(C Bot)", 2},
		{"Sub(A Some(r B)) Sub(B Some(r C)) Sub(C Some(r Bot))", 3},
		{"Sub(Top Some(r A)) Sub(A Some(r Bot))", 2},
	} {
		k := readKb(t, c.kb)
		r := registerOf(k, top)
		if l, code := impl.Survivors(k, top); r.turns != c.turns || code != impl.TyWell || !slices.Equal(l, r.left) {
			t.Errorf("%s: %v, %d; want %v behind %d turns", c.kb, l, code, r.left, r.turns)
		}
	}
}

// question is what is told and what is asked.
type question struct {
	k impl.Kb
	c impl.Con
}

func (q question) String() string { return spellKb(q.k) + spell(q.c) }

// questions are drawn, those among them that have few enough items.
func questions(count int) []question {
	d := dice(83)
	var list []question
	for len(list) < count {
		var k impl.Kb
		for range d.below(7) {
			k.L = append(k.L, d.anyAxiom(1+d.below(3)))
		}
		c := d.anyCon(1 + d.below(3))
		if impl.KbOk(k) && len(itemsByWords(k, c)) <= impl.MaxItems {
			list = append(list, question{k, c})
		}
	}
	return list
}

// individuals are questions of which much is told of who there is: they sit where they can, or nowhere.
func individuals(count int) []question {
	d := dice(84)
	var list []question
	word := func(s string) string { return strings.Fields(s)[d.below(3)] }
	for len(list) < count {
		var k impl.Kb
		for range 3 + d.below(6) {
			x := is(word("x y z"), d.anyCon(1+d.below(3)))
			if d.below(2) == 0 {
				x = rel(word("r r s"), word("x y z"), word("x y z"))
			}
			k.L = append(k.L, x)
		}
		if d.below(2) == 0 {
			k.L[0] = role("r", "s")
		}
		if impl.KbOk(k) && len(itemsByWords(k, top)) <= 4 {
			list = append(list, question{k, top})
		}
	}
	return list
}

func TestSurvivorsAndModelsAreWhatTheWordsSay(t *testing.T) {
	codes, turns, moved := map[int]int{}, map[int]int{}, 0
	for i, q := range append(questions(1200), individuals(1200)...) {
		items, ok := impl.Items(q.k, q.c)
		own := registerOf(q.k, q.c)
		if !ok || !slices.Equal(conTexts(items), own.texts) {
			t.Fatalf("Items of %s: %q, %v; want %q", q, conTexts(items), ok, own.texts)
		}
		turns[own.turns]++
		if l, code := impl.Survivors(q.k, q.c); code != impl.TyWell || !slices.Equal(l, own.left) {
			t.Fatalf("Survivors of %s: %v, %d; want %v", q, l, code, own.left)
		}
		if len(own.left) > 24 && len(impl.KbInds(q.k)) > 1 {
			continue
		}
		w, code := impl.ModelOf(q.k, q.c)
		want, wantCode := own.model()
		if code != wantCode || !sameWorld(w, want) {
			t.Fatalf("ModelOf of %d, %s: %d, %v; want %d, %v", i, q, code, w, wantCode, want)
		}
		codes[code]++
		if slices.ContainsFunc(w.At, func(e int) bool { return e > 0 }) {
			moved++
		}
	}
	if codes[impl.TyWell] < 500 || codes[impl.TyNone] < 300 || turns[0] < 100 || turns[1] < 100 || turns[2] < 3 || moved < 200 {
		t.Error("codes ", codes, ", turns ", turns, ", not at the first survivor ", moved, ": too few to tell")
	}
}

// wantMade asks for the whole world, as drawn has it.
func wantMade(t *testing.T, kb, some string, n int, lines ...string) {
	t.Helper()
	k, c := readKb(t, kb), readCon(t, some)
	w, code := impl.ModelOf(k, c)
	if want := drawn(n, lines...); code != impl.TyWell || !sameWorld(w, want) {
		t.Errorf("ModelOf of %q and %s: %d, %v; want %v", kb, some, code, w, want)
	}
	wantModelOf(t, question{k, c}, w)
}

// wantModelOf holds that a world is a model of what is told in which somebody is of what is asked.
func wantModelOf(t *testing.T, q question, w impl.World) {
	t.Helper()
	if !impl.WorldOk(w) || !impl.IsModel(w, q.k) || slices.ContainsFunc(q.k.L, func(x impl.Axiom) bool { return !satisfiesByWords(w, x) }) {
		t.Fatalf("%s has no model in %v", q, w)
	}
	nnf, _ := impl.Nnf(q.c)
	if len(impl.Extension(w, q.c)) == 0 || len(extensionByWords(w, nnf)) == 0 || impl.ConOk(nnf) && len(impl.Extension(w, nnf)) == 0 {
		t.Fatalf("%s: nobody is of it in %v", q, w)
	}
}

func TestModelOfNamesAndRoles(t *testing.T) {
	wantMade(t, "", "Top", 1)
	wantMade(t, "", "A", 2, "A 1")
	wantMade(t, "", "Not(A)", 2, "A 1")
	wantMade(t, "", "And(B A)", 4, "A 2 3", "B 1 3")
	// Types 0, 2, 3, 4, 6 and 7 of A, B, C.
	wantMade(t, "Sub(A B)", "C", 6, "A 2 5", "B 1 2 4 5", "C 3 4 5")
	wantMade(t, "Sub(Top A)", "Top", 1, "A 0")
	wantMade(t, "Dis(B A)", "Or(A B)", 3, "A 2", "B 1")
	wantMade(t, "Is(x B)", "C", 4, "B 1 3", "C 2 3", "x=1")
	// Names and roles are there even where they make no difference.
	wantMade(t, "Role(r s)", "Top", 1, "r 0-0", "s 0-0")
	wantMade(t, "Rel(t x y)", "Or(Top All(q Top))", 2, "q 0-0 0-1 1-0 1-1", "t 0-0 0-1 1-0 1-1", "x=0", "y=0")
	wantMade(t, "Sub(C Top)", "Or(Bot Not(B))", 4, "B 2 3", "C 1 3")
	wantMade(t, "Sub(Some(r A) Top)", "Top", 4, "A 2 3", "r 0-0 0-1 0-2 0-3 1-0 1-1 2-0 2-1 2-2 2-3 3-0 3-1")
}

func TestModelOfWhoIsRelatedToWhom(t *testing.T) {
	all := "0-0 0-1 0-2 0-3 1-0 1-1 1-2 1-3 2-0 2-1 2-2 2-3 3-0 3-1 3-2 3-3"
	wantMade(t, "", "Some(r A)", 4, "A 2 3", "r "+all)
	// Types of All(r A), A: who has the first is related to those who have the other.
	barred := "0-0 0-1 0-2 0-3 1-2 1-3 2-0 2-1 2-2 2-3 3-2 3-3"
	wantMade(t, "", "All(r A)", 4, "A 2 3", "r "+barred)
	wantMade(t, "Role(r s)", "All(s A)", 4, "A 2 3", "r "+barred, "s "+barred)
	wantMade(t, "Role(s r)", "All(s A)", 4, "A 2 3", "r "+all, "s "+barred)
	wantMade(t, "Role(s r) Role(r t) Role(t s)", "All(t A)", 4, "A 2 3", "r "+barred, "s "+barred, "t "+barred)
	wantMade(t, "", "All(r Bot)", 2, "r 0-0 0-1")
	wantMade(t, "Sub(Top All(r Bot))", "Top", 1, "r")
	// Some that go are no elements: of Some(r A), A, All(r Not(A)) none has the first and the last.
	wantMade(t, "", "And(Some(r A) Or(A All(r Not(A))))", 6, "A 2 3 5",
		"r 0-0 0-1 0-2 0-3 0-4 0-5 1-0 1-1 1-2 1-3 1-4 1-5 2-0 2-1 2-2 2-3 2-4 2-5 3-0 3-1 3-2 3-3 3-4 3-5 4-0 4-1 4-4 5-0 5-1 5-4")
	wantMade(t, "Sub(A Some(r B)) Sub(B All(r Bot)) Sub(Top Or(A B))", "A", 2, "A 0", "B 1", "r 0-0 0-1")
}

func TestModelOfNobody(t *testing.T) {
	for _, c := range []struct{ kb, some string }{
		{"", "Bot"},
		{"", "Not(Top)"},
		{"", "And(A Not(A))"},
		{"", "Some(r Bot)"},
		{"", "And(Some(r A) All(r Not(A)))"},
		{"Role(r s)", "And(Some(r A) All(s Not(A)))"},
		{"Role(r t) Role(t s)", "And(Some(r A) All(s Not(A)))"},
		{"Sub(A B)", "And(A Not(B))"},
		{"Eq(A B)", "And(B Not(A))"},
		{"Dis(A B)", "And(B A)"},
		{"Sub(Top Bot)", "Top"},
		{"Sub(A Some(r B)) Sub(B Some(r C)) Sub(C Bot)", "A"},
		{"Sub(Top Some(r A)) Sub(A All(r Not(A)))", "Top"},
		// Somebody is of it, but an individual has no place.
		{"Is(x Bot)", "Top"},
		{"Is(x A) Is(x Not(A))", "A"},
		{"Sub(A Bot) Is(x A)", "Top"},
		{"Dis(A B) Is(y B) Is(x C) Is(y A)", "C"},
		{"Is(z Some(r A)) Sub(A Bot)", "Top"},
		{"Rel(r x y) Is(x All(r A)) Is(y Not(A))", "Top"},
		{"Is(y Not(A)) Is(x All(r A)) Rel(r x y)", "Top"},
		{"Rel(r y x) Is(y All(r A)) Is(x Not(A))", "Top"},
		{"Rel(r x x) Is(x All(r Not(A))) Is(x A)", "Top"},
		{"Rel(r x x) Is(x All(r Bot))", "Top"},
		{"Role(r s) Rel(r x y) Is(x All(s A)) Is(y Not(A))", "Top"},
		{"Rel(r x y) Rel(r y z) Is(x All(r All(r A))) Is(z Not(A))", "Top"},
		{"Rel(r z y) Rel(s y x) Is(z All(r Some(r Top))) Is(y Or(All(r Bot) All(s Bot)))", "Top"},
	} {
		wantTypeCode(t, readKb(t, c.kb), readCon(t, c.some), impl.TyWell, impl.TyNone, c.kb+" and "+c.some)
	}
}

// wantSeats asks where the individuals sit, by elements.
func wantSeats(t *testing.T, kb string, want ...int) {
	t.Helper()
	q := question{readKb(t, kb), top}
	w, code := impl.ModelOf(q.k, top)
	if code != impl.TyWell || !slices.Equal(w.At, want) || !slices.EqualFunc(w.Inds, impl.KbInds(q.k), bytes.Equal) {
		t.Errorf("%s: %d, %q sit at %v; want %v", kb, code, w.Inds, w.At, want)
		return
	}
	wantModelOf(t, q, w)
}

func TestModelOfWhereIndividualsSit(t *testing.T) {
	wantSeats(t, "Is(x Top)", 0)
	wantSeats(t, "Rel(r x y)", 0, 0)
	wantSeats(t, "Is(x A)", 1)
	wantSeats(t, "Is(x A) Is(y Not(A))", 1, 0)
	wantSeats(t, "Is(y A) Is(x Not(A))", 0, 1)
	wantSeats(t, "Is(x A) Is(x B)", 3)
	wantSeats(t, "Is(x B) Is(x A)", 3)
	wantSeats(t, "Is(x Or(A B))", 1)
	wantSeats(t, "Is(x Not(And(Not(A) Not(B))))", 1)
	wantSeats(t, "Is(c A) Is(a B) Is(b And(A B))", 2, 3, 1)
	// Elements, not types: 0, 2 and 3 of A, B.
	wantSeats(t, "Sub(A B) Is(x A) Is(y B) Is(z Top)", 2, 1, 0)
	wantSeats(t, "Sub(Top A) Is(x A) Is(y Top)", 0, 0)
	// Types of All(r A), A.
	wantSeats(t, "Is(x All(r A)) Rel(r x y)", 1, 2)
	wantSeats(t, "Is(y All(r A)) Rel(r y x)", 2, 1)
	wantSeats(t, "Is(x All(r A)) Rel(r y x)", 1, 0)
	wantSeats(t, "Is(x All(r A)) Rel(r x x)", 3)
	wantSeats(t, "Is(x All(r A)) Rel(s x x)", 1)
	wantSeats(t, "Role(s r) Is(x All(r A)) Rel(s x x)", 3)
	wantSeats(t, "Role(r s) Is(x All(r A)) Rel(s x x)", 1)
	wantSeats(t, "Is(x All(r A)) Rel(r x y) Rel(r x z)", 1, 2, 2)
	wantSeats(t, "Is(x All(r A)) Rel(r x y) Rel(s x z)", 1, 2, 0)
	// A word that is a role and an individual.
	wantSeats(t, "Is(r A) Rel(x r x) Rel(r x x)", 1, 0)
}

func TestModelOfSecondChoices(t *testing.T) {
	// Types of All(r Bot), B: x would sit at the first if y had not to be related.
	wantSeats(t, "Is(x Or(All(r Bot) B))", 1)
	wantSeats(t, "Is(x Or(All(r Bot) B)) Rel(r x y)", 2, 0)
	wantSeats(t, "Is(x Or(All(r Bot) B)) Rel(r x z) Is(y B)", 2, 2, 0)
	wantSeats(t, "Is(y Or(All(r Bot) B)) Rel(r y z) Is(x Not(B))", 0, 2, 0)
	wantSeats(t, "Is(z Or(All(r Bot) B)) Rel(r z x)", 0, 2)
	// x fits to y, and only z has nowhere to sit: types of A, All(r A), B.
	wantSeats(t, "Is(x Or(A All(r A))) Is(x Or(B All(r A))) Rel(r x y)", 2, 1)
	wantSeats(t, "Is(x Or(A All(r A))) Is(x Or(B All(r A))) Rel(r x y) Is(y Not(A))", 5, 0)
	wantSeats(t, "Is(x Or(A All(r A))) Is(x Or(B All(r A))) Rel(r x y) Rel(r x z) Is(z Not(A))", 5, 0, 0)
	// y has to move for z, and x stays: types of All(r A), A.
	wantSeats(t, "Is(y Or(All(r A) A)) Rel(r x y) Rel(r y z) Is(z Not(A))", 0, 2, 0)
	// x has to move because no place of y will do for z: types of All(r All(r A)), All(r A), A, All(s Bot).
	wantSeats(t, "Is(x Or(All(r All(r A)) All(s Bot))) Rel(r x y) Rel(r y z) Is(z Not(A))", 8, 0, 0)
	// The last one moves for itself.
	wantSeats(t, "Is(z Or(All(r Bot) B)) Rel(r z z)", 2)
}

func TestModelOfWordsOfBoth(t *testing.T) {
	five := told(is("x", and(named("A"), and(named("B"), named("C")))), is("x", and(named("D"), named("E"))))
	names := func(words string) impl.Con {
		list := strings.Fields(words)
		c := bush(4, "E")
		leaves := slices.DeleteFunc(nodes(&c), func(c *impl.Con) bool { return c.Kind != impl.CnName })
		for i, s := range list {
			leaves[i].Name = []byte(s)
		}
		return c
	}
	// Twelve names are too many items, thirteen are too many names.
	for words, code := range map[string]int{"F G H I J K L": impl.TyBig, "F G H I J K L M": impl.TyForm, "F G H I J K L A": impl.TyBig, "F G H": impl.TyBig} {
		wantTypeCode(t, five, names(words), impl.TyBig, code, "five names and "+words)
	}
	wantTypeCode(t, impl.Kb{}, names("F G H I J K L M"), impl.TyBig, impl.TyBig, "eight names")
	somes := func(roles string) impl.Con {
		c := top
		for _, s := range strings.Fields(roles) {
			c = and(c, some(s, top))
		}
		return c
	}
	for _, c := range []struct {
		kb, roles string
		code      int
	}{
		{"", "d e f g", impl.TyWell},
		{"Role(a b) Role(b c)", "d e f", impl.TyWell},
		{"Role(a b) Role(b c)", "d e f a", impl.TyWell},
		{"Role(a b) Role(b c)", "d e f g", impl.TyForm},
		{"Rel(a x y) Rel(b x y) Rel(c x y)", "d e f", impl.TyWell},
		{"Rel(a x y) Rel(b x y) Rel(c x y)", "d e f g", impl.TyForm},
		{"Role(a b) Is(x Or(Top All(c Top)))", "d e f g", impl.TyForm},
	} {
		wantTypeCode(t, readKb(t, c.kb), somes(c.roles), impl.TyWell, c.code, c.kb+" and the roles "+c.roles)
	}
	w, _ := impl.ModelOf(readKb(t, "Role(e a) Rel(c x y)"), somes("f d b"))
	if got := strings.Join(texts(w.Roles), " "); got != "a b c d e f" || len(w.Rels) != 6 {
		t.Error("six roles: ", got)
	}
	// Too many roles come ahead of too many items, and of nobody.
	wantTypeCode(t, told(append(five.L, role("a", "b"), role("b", "c"))...), somes("d e f g"), impl.TyBig, impl.TyForm, "seven roles, nine items")
	wantTypeCode(t, readKb(t, "Role(a b) Role(b c) Sub(Top Bot)"), somes("d e f g"), impl.TyWell, impl.TyForm, "seven roles, and nobody")
	// Too many items come ahead of nobody.
	wantTypeCode(t, five, and(bot, and(some("r", top), and(every("r", top), some("r", bot)))), impl.TyBig, impl.TyBig, "too many items of nobody")
}

// Rules, and what Not stands ahead of, may have items that are greater than ConOk allows.
// TypeHolds and Linked refuse these, but who there could be does not hang on that.
func TestTypesOfItemsThatAreNoConcepts(t *testing.T) {
	deep, wide := somes(6, "r"), some("r", bush(4, "A"))
	seven := some("r", and(bush(3, "A"), and(bush(2, "A"), named("A"))))
	for i, c := range []struct {
		k    impl.Kb
		some impl.Con
		code int
	}{
		{told(sub(deep, bot)), some("r", top), impl.TyWell},
		{told(sub(deep, bot)), every("r", bot), impl.TyWell},
		{told(sub(deep, bot), sub(top, named("A"))), some("r", top), impl.TyWell},
		{told(sub(deep, bot), sub(top, some("r", named("A")))), top, impl.TyNone},
		{told(sub(deep, bot), is("x", some("r", named("A")))), top, impl.TyWell},
		{told(apart(deep, top), rel("r", "x", "y"), rel("r", "y", "z")), some("r", named("A")), impl.TyWell},
		{told(sub(wide, bot)), some("r", top), impl.TyWell},
		{told(sub(wide, bot)), wide, impl.TyNone},
		{told(sub(wide, named("B"))), and(named("B"), some("r", named("A"))), impl.TyWell},
		{told(sub(wide, named("B"))), and(not(named("B")), some("r", named("A"))), impl.TyNone},
		{told(sub(wide, bot), is("x", wide)), top, impl.TyNone},
		{told(is("x", not(seven)), rel("r", "x", "y"), is("y", some("r", named("A")))), top, impl.TyWell},
		{told(is("x", not(seven)), rel("r", "x", "y"), is("y", named("A"))), top, impl.TyNone},
		{told(rel("r", "x", "y"), is("y", some("r", named("A")))), not(seven), impl.TyWell},
		{told(sub(top, seven)), not(seven), impl.TyNone},
	} {
		q := question{c.k, c.some}
		items, ok := impl.Items(q.k, q.c)
		if !ok || !slices.ContainsFunc(items, func(c impl.Con) bool { return !impl.ConOk(c) }) {
			t.Fatalf("%d, %s: all items are ConOk: %q", i, q, conTexts(items))
		}
		if impl.TypeHolds(items, 0, top) || impl.Linked(q.k, items, []byte("r"), 0, 0) {
			t.Errorf("%d: TypeHolds or Linked takes an item that is not ConOk", i)
		}
		own := registerOf(q.k, q.c)
		want, wantCode := own.model()
		l, _ := impl.Survivors(q.k, q.c)
		w, code := impl.ModelOf(q.k, q.c)
		if code != c.code || code != wantCode || !sameWorld(w, want) || !slices.Equal(l, own.left) || !slices.Equal(conTexts(items), own.texts) {
			t.Errorf("%d, %s: %d, %v; want %d, %v", i, q, code, l, c.code, own.left)
		}
		if code == impl.TyWell {
			wantModelOf(t, q, w)
		}
	}
}

// Promise 9: of all survivors all rules are; for each Some that one has there is one that it is linked to and of which the Kid is.
func TestPromise9SurvivorsAreServed(t *testing.T) {
	count := map[string]int{}
	for _, q := range append(questions(1500), individuals(200)...) {
		items, _ := impl.Items(q.k, q.c)
		rules, _ := impl.Rules(q.k)
		l, code := impl.Survivors(q.k, q.c)
		if code != impl.TyWell {
			t.Fatal(q, code)
		}
		if slices.ContainsFunc(append(rules, items...), func(c impl.Con) bool { return !impl.ConOk(c) }) {
			continue
		}
		for _, a := range l {
			for _, c := range rules {
				count["rules"]++
				if !impl.TypeHolds(items, a, c) {
					t.Fatalf("%s: %s is not of the survivor %d", q, spell(c), a)
				}
			}
			for _, item := range items {
				if item.Kind != impl.CnSome || !impl.TypeHolds(items, a, item) {
					continue
				}
				count["wants"]++
				if !slices.ContainsFunc(l, func(b int) bool {
					return impl.Linked(q.k, items, item.Role, a, b) && impl.TypeHolds(items, b, item.Kids[0])
				}) {
					t.Fatalf("%s: of %v there is none for %s of %d", q, l, spell(item), a)
				}
			}
		}
		count["gone"] += 1<<len(items) - len(l)
	}
	if count["rules"] < 10000 || count["wants"] < 5000 || count["gone"] < 10000 {
		t.Error(count, ": too few to tell")
	}
}

// Promise 9: ModelOf makes a model in which somebody is of the concept.
func TestPromise9ModelOfMakesAModel(t *testing.T) {
	codes := map[int]int{}
	kinds := map[int]int{}
	for _, q := range append(questions(2500), individuals(1500)...) {
		w, code := impl.ModelOf(q.k, q.c)
		codes[code]++
		if code != impl.TyWell {
			continue
		}
		wantModelOf(t, q, w)
		for _, x := range q.k.L {
			kinds[x.Kind]++
		}
	}
	if codes[impl.TyWell] < 1500 || codes[impl.TyNone] < 500 || codes[impl.TyForm]+codes[impl.TyBig] > 0 || kinds[impl.AxSub] < 300 || kinds[impl.AxRole] < 300 || kinds[impl.AxRel] < 300 {
		t.Error(codes, kinds, ": too few to tell")
	}
}

// Promise 10: of what somebody is in a model ModelOf does not tell TyNone.
func TestPromise10WhatIsInAModelIsNotRefused(t *testing.T) {
	d := dice(10)
	codes := map[int]int{}
	for _, w := range someWorlds() {
		if w.N > 10 {
			continue
		}
		for range 12 {
			k := d.fewAxioms(w)
			c := d.anyCon(1 + d.below(4))
			if !impl.ConOk(c) || !impl.IsModel(w, k) || len(impl.Extension(w, c)) == 0 {
				continue
			}
			made, code := impl.ModelOf(k, c)
			codes[code]++
			if code == impl.TyNone || code == impl.TyForm {
				t.Fatalf("%s has the model %v: %d", question{k, c}, w, code)
			}
			if code == impl.TyWell {
				wantModelOf(t, question{k, c}, made)
			}
		}
	}
	if codes[impl.TyWell] < 1000 || codes[impl.TyBig] == 0 {
		t.Error(codes, ": too few to tell")
	}
}

// fewAxioms draws what is so in a world, and has few enough items most times.
func (d *dice) fewAxioms(w impl.World) impl.Kb {
	var k impl.Kb
	for range d.below(30) {
		x := d.anyAxiom(1 + d.below(3))
		longer := told(append(slices.Clone(k.L), x)...)
		if impl.KbOk(longer) && satisfiesByWords(w, x) && len(itemsByWords(longer, top)) < impl.MaxItems {
			k = longer
		}
	}
	return k
}

// Promise 10, the other way round: where ModelOf tells TyNone no world is a model with somebody of the concept.
func TestPromise10WhatIsRefusedIsInNoModel(t *testing.T) {
	worlds := someWorlds()
	refused := 0
	for i, q := range append(questions(2500), individuals(800)...) {
		if _, code := impl.ModelOf(q.k, q.c); code != impl.TyNone {
			continue
		}
		refused++
		for at, w := range worlds {
			if (i+at)%3 == 0 && w.N < 10 && impl.IsModel(w, q.k) && len(impl.Extension(w, q.c)) > 0 {
				t.Fatalf("%s is refused, and has the model %v", q, w)
			}
		}
	}
	if refused < 500 {
		t.Error(refused, " refused: too few to tell")
	}
}

// Promise 10, its part of this chapter: where both tell anything, what is asked is open just if ModelOf finds a model.
func TestPromise10ModelsAreWhereNothingIsRefuted(t *testing.T) {
	count := map[[2]int]int{}
	for _, q := range append(questions(2500), individuals(1500)...) {
		s, code := impl.Clausify(q.k, q.c)
		if code != impl.ClWell {
			continue
		}
		r := impl.Saturate(s.L)
		_, code = impl.ModelOf(q.k, q.c)
		count[[2]int{r.Code, code}]++
		if r.Code == impl.RsOpen && code == impl.TyNone || r.Code == impl.RsRefuted && code == impl.TyWell {
			t.Fatalf("%s: ModelOf tells %d, Saturate %d:\n%s", q, code, r.Code, runTextByWords(r))
		}
	}
	if count[[2]int{impl.RsOpen, impl.TyWell}] < 1000 || count[[2]int{impl.RsRefuted, impl.TyNone}] < 500 {
		t.Error(count, ": too few to tell")
	}
}

// Where 128 survivors and three individuals can't be seated, all ways to sit are gone through.
func TestModelOfTheGreatestWorlds(t *testing.T) {
	most := 1 << impl.MaxItems
	for _, c := range []struct {
		kb, some string
		n, code  int
	}{
		{"Is(x Top) Is(y Top) Is(z Top)", "And(And(And(A B) And(C D)) And(And(E F) G))", most, impl.TyWell},
		{"Is(x And(All(r A) And(All(r B) C))) Rel(r x y) Rel(r x z) Rel(s z x)", "Or(D E)", most, impl.TyWell},
		{"Rel(r x y) Rel(r y z) Rel(r z x) Is(x Or(A Or(B C))) Is(z And(Not(C) And(All(r C) Not(D)))) Is(x Not(C))", "Or(E All(s Top))", most, impl.TyNone},
		{"Rel(r x y) Rel(r y z) Rel(r z z) Is(z And(All(r A) Not(A))) Is(y Or(B C))", "And(D And(E All(s Top)))", most, impl.TyNone},
		{"Rel(r x y) Rel(r y z) Rel(r x z) Is(z Or(Not(A) Not(B))) Is(x And(All(r A) All(r B)))", "And(C And(D E))", most, impl.TyNone},
	} {
		q := question{readKb(t, c.kb), readCon(t, c.some)}
		l, _ := impl.Survivors(q.k, q.c)
		w, code := impl.ModelOf(q.k, q.c)
		if code != c.code || len(l) != c.n || code == impl.TyWell && w.N != c.n {
			t.Errorf("%s: %d, %d survivors", q, code, len(l))
		}
		if code == impl.TyWell {
			wantModelOf(t, q, w)
		}
	}
}

func roomyCons(list []impl.Con) []impl.Con {
	room := make([]impl.Con, 0, len(list)+2)
	for _, c := range list {
		room = append(room, roomyCon(c))
	}
	return append(room, named("Other"), impl.Con{Kind: 77})[:len(list)]
}

// scribble writes over all that an answer has: it is the caller's own.
func scribble(items []impl.Con, l []int, w impl.World) {
	for _, c := range items {
		for _, at := range nodes(&c) {
			copy(at.Name, "??????")
			copy(at.Role, "??????")
		}
	}
	for i := range l[:cap(l)] {
		l[:cap(l)][i] = -7
	}
	for _, words := range [][][]byte{w.Names, w.Roles, w.Inds} {
		for _, b := range words {
			copy(b, "??????")
		}
	}
	for _, flags := range slices.Concat(w.Sets, w.Rels) {
		for i := range flags {
			flags[i] = !flags[i]
		}
	}
	for i := range w.At {
		w.At[i] = -7
	}
}

func TestTypesShareNoMemory(t *testing.T) {
	for i, q := range slices.Concat(questions(400), individuals(200), []question{{fullKb(), top}, {impl.Kb{}, edges()[0]}}) {
		k, c := roomyKb(q.k), roomyCon(q.c)
		before := snapshot(k) + snapshot(c)
		for range 2 {
			items, _ := impl.Items(k, c)
			l, _ := impl.Survivors(k, c)
			w, code := impl.ModelOf(k, c)
			for _, answer := range []any{items, l, w} {
				wantApart(t, answer, k, c)
			}
			wantItems, _ := impl.Items(q.k, q.c)
			wantList, _ := impl.Survivors(q.k, q.c)
			want, wantCode := impl.ModelOf(q.k, q.c)
			if !slices.EqualFunc(items, wantItems, sameCon) || !slices.Equal(l, wantList) || code != wantCode || !sameWorld(w, want) {
				t.Fatalf("%d, %s: what lies behind the lengths is read, or an answer is kept", i, q)
			}
			scribble(items, l, w)
			if snapshot(k)+snapshot(c) != before {
				t.Fatalf("%s is changed", q)
			}
		}
	}
}

func TestTypeHoldsAndLinkedReadNothingBehindTheLength(t *testing.T) {
	d := dice(85)
	kbs := drawnKbs(100)
	for i := range 1000 {
		plain := d.eachCon(1 + d.below(impl.MaxItems-1))
		k, items, c, role := roomyKb(kbs[i%len(kbs)]), roomyCons(plain), roomyCon(d.over(plain)), roomyBytes([]byte("r"))
		before := snapshot(k) + snapshot(items) + snapshot(c) + snapshot(role)
		a, b := d.below(1<<len(items)), d.below(1<<len(items))
		if impl.TypeHolds(items, a, c) != (impl.ConOk(c) && isByWords(conTexts(plain), a, c)) || impl.TypeHolds(items, a, named("Other")) ||
			impl.Linked(k, items, role, a, b) != linkedByWords(kbs[i%len(kbs)], plain, "r", a, b) || impl.TypeHolds(items, 1<<len(items), top) {
			t.Fatalf("%q: what lies behind the lengths is read", conTexts(plain))
		}
		if snapshot(k)+snapshot(items)+snapshot(c)+snapshot(role) != before {
			t.Fatalf("%q or what else was given is changed", conTexts(plain))
		}
	}
}

// Lists of the arguments may be one and the same.
func TestTypesOfListsThatShareMemory(t *testing.T) {
	word, kids := []byte("r"), []impl.Con{named("A")}
	c := impl.Con{Kind: impl.CnAll, Role: word, Kids: kids}
	k := told(impl.Axiom{Kind: impl.AxIs, A: word, C: c}, impl.Axiom{Kind: impl.AxRel, R: word, A: word, B: word}, impl.Axiom{Kind: impl.AxRole, R: word, S: word})
	items, _ := impl.Items(k, c)
	l, _ := impl.Survivors(k, c)
	w, code := impl.ModelOf(k, c)
	for _, answer := range []any{items, l, w} {
		wantApart(t, answer, k, c)
	}
	if !slices.Equal(conTexts(items), []string{"All(r A)", "A"}) || code != impl.TyWell || !slices.Equal(w.At, []int{3}) {
		t.Error(conTexts(items), w, code)
	}
	if !impl.TypeHolds([]impl.Con{c, kids[0]}, 3, kids[0]) || !impl.Linked(k, []impl.Con{c, kids[0]}, word, 3, 3) || impl.Linked(k, []impl.Con{c, kids[0]}, word, 3, 1) {
		t.Error("items that share their parts")
	}
}

func TestTypeAnswersStayTheSame(t *testing.T) {
	q := question{readKb(t, "Role(r s) Sub(A Some(r B)) Is(x All(s A)) Rel(r x y) Is(z C)"), readCon(t, "And(A Not(C))")}
	ask := func() string {
		items, ok := impl.Items(q.k, q.c)
		l, code := impl.Survivors(q.k, q.c)
		w, modelCode := impl.ModelOf(q.k, q.c)
		return fmt.Sprint(conTexts(items), ok, l, code, w, modelCode, impl.TypeHolds(items, 3, q.c), impl.Linked(q.k, items, []byte("r"), 8, 2))
	}
	first := ask()
	impl.ModelOf(readKb(t, "Sub(B Bot) Is(x B)"), top)
	impl.Survivors(impl.Kb{}, readCon(t, "Some(r And(A B))"))
	for range 20 {
		if ask() != first {
			t.Fatal("an answer hangs on an earlier call")
		}
	}
}
