package tests

import (
	"bytes"
	"fmt"
	"math"
	"slices"
	"strings"
	"testing"

	"loop.example/g00534/impl"
)

const mostClasses = impl.MaxNames + 2

const mostEdges = 50

// orderBy makes an order of texts: classes parted by bars, their names by blanks; edges as 0-1.
func orderBy(code int, classes, edgeWords string) impl.Order {
	o := impl.Order{Code: code}
	if classes != "" {
		for _, class := range strings.Split(classes, "|") {
			o.Classes = append(o.Classes, words(class))
		}
	}
	for _, s := range strings.Fields(edgeWords) {
		var e impl.Edge
		if _, err := fmt.Sscanf(s, "%d-%d", &e.Low, &e.High); err != nil {
			panic(err)
		}
		o.Edges = append(o.Edges, e)
	}
	return o
}

func orderTextByWords(o impl.Order) string {
	var out strings.Builder
	for i, class := range o.Classes {
		fmt.Fprintf(&out, "class %d %s\n", i, strings.Join(texts(class), " "))
	}
	for _, e := range o.Edges {
		fmt.Fprintf(&out, "edge %d %d\n", e.Low, e.High)
	}
	return out.String()
}

func sameOrder(a, b impl.Order) bool {
	return a.Code == b.Code && orderTextByWords(a) == orderTextByWords(b)
}

// askedNames are Top, Bot and all names of what is told, by their texts.
func askedNames(k impl.Kb) []string {
	list := append([]string{"Top", "Bot"}, wordsOf(k, top).names...)
	slices.Sort(list)
	return list
}

func conOf(name string) impl.Con {
	switch name {
	case "Top":
		return top
	case "Bot":
		return bot
	}
	return named(name)
}

// twoNames is a name that may be under another one, or itself.
type twoNames [2]string

func (p twoNames) String() string { return p[0] + " under " + p[1] }

func underPairs(k impl.Kb, ask func(k impl.Kb, c, d impl.Con) int) map[twoNames]int {
	found := map[twoNames]int{}
	for _, low := range askedNames(k) {
		for _, high := range askedNames(k) {
			found[twoNames{low, high}] = ask(k, conOf(low), conOf(high))
		}
	}
	return found
}

// bigPairs are those of which Under is AnBig.
func bigPairs(k impl.Kb) []string {
	var list []string
	for p, code := range underPairs(k, impl.Under) {
		if code == impl.AnBig {
			list = append(list, p.String())
		}
	}
	slices.Sort(list)
	return list
}

// classifyByWords is another way to Classify: each name goes to the first of all that are as it is, and of
// all edges those go that two others make.
func classifyByWords(k impl.Kb, ask func(k impl.Kb, c, d impl.Con) int) impl.Order {
	found := underPairs(k, ask)
	for _, code := range found {
		if code == impl.AnBig {
			return impl.Order{Code: impl.AnBig}
		}
	}
	is := func(low, high string) bool { return found[twoNames{low, high}] == impl.AnYes }
	o := impl.Order{Code: impl.AnYes}
	members := map[string][]string{}
	for _, name := range askedNames(k) {
		first := askedNames(k)[slices.IndexFunc(askedNames(k), func(s string) bool { return s == name || is(s, name) && is(name, s) })]
		members[first] = append(members[first], name)
	}
	var firsts []string
	for _, name := range askedNames(k) {
		if list := members[name]; list != nil {
			firsts = append(firsts, name)
			o.Classes = append(o.Classes, words(strings.Join(list, " ")))
		}
	}
	made := map[twoNames]bool{}
	for _, a := range firsts {
		for _, b := range firsts {
			for _, c := range firsts {
				if a != b && b != c && is(a, b) && is(b, c) {
					made[twoNames{a, c}] = true
				}
			}
		}
	}
	for i, a := range firsts {
		for j, b := range firsts {
			if a != b && is(a, b) && !made[twoNames{a, b}] {
				o.Edges = append(o.Edges, impl.Edge{Low: i, High: j})
			}
		}
	}
	return o
}

// wantClassified asks for the whole order of what is told: "A Bot|Top" are two classes, "0-1" an edge.
func wantClassified(t *testing.T, kb, classes, edgeWords string) {
	t.Helper()
	k := readKb(t, kb)
	o, want := impl.Classify(k), orderBy(impl.AnYes, classes, edgeWords)
	if !sameOrder(o, want) {
		t.Errorf("Classify of %s: %s\n%swant\n%s", kb, answerWord(o.Code), orderTextByWords(o), orderTextByWords(want))
	}
	if own := classifyByWords(k, underByWords); !sameOrder(own, want) {
		t.Errorf("the test's own way to %s: %s\n%swant\n%s", kb, answerWord(own.Code), orderTextByWords(own), orderTextByWords(want))
	}
	wantOrderFine(t, o, kb)
}

// wantNoOrder holds that nothing is told beside a code that refuses.
func wantNoOrder(t *testing.T, k impl.Kb, code int, why string) {
	t.Helper()
	if o := impl.Classify(k); !sameOrder(o, impl.Order{Code: code}) {
		t.Errorf("%s: %s\n%snot %s", why, answerWord(o.Code), orderTextByWords(o), answerWord(code))
	}
}

func TestClassify(t *testing.T) {
	for _, c := range []struct{ kb, classes, edges string }{
		// No name.
		{"", "Bot|Top", "0-1"},
		{"Role(r s) Rel(r x y)", "Bot|Top", "0-1"},
		{"Sub(Some(r Top) All(r Bot)) Is(x Top)", "Bot|Top", "0-1"},
		// One name.
		{"Is(x A)", "A|Bot|Top", "0-2 1-0"},
		{"Is(x Not(A))", "A|Bot|Top", "0-2 1-0"},
		{"Sub(A Top)", "A|Bot|Top", "0-2 1-0"},
		{"Is(x Z)", "Bot|Top|Z", "0-2 2-1"},
		{"Is(x Cat)", "Bot|Cat|Top", "0-1 1-2"},
		// One that nobody may be of, and one that all are.
		{"Sub(A Bot)", "A Bot|Top", "0-1"},
		{"Sub(Z Bot)", "Bot Z|Top", "0-1"},
		{"Sub(A Not(A))", "A Bot|Top", "0-1"},
		{"Sub(A Some(r Bot))", "A Bot|Top", "0-1"},
		{"Sub(Top A)", "A Top|Bot", "1-0"},
		{"Sub(Top Z)", "Bot|Top Z", "0-1"},
		{"Sub(Not(A) A)", "A Top|Bot", "1-0"},
		{"Sub(Top A) Sub(B Bot)", "A Top|B Bot", "1-0"},
		{"Dis(A Top) Eq(B Top) Is(x C)", "A Bot|B Top|C", "0-2 2-1"},
		// Names that are equal.
		{"Eq(A B)", "A B|Bot|Top", "0-2 1-0"},
		{"Sub(A B) Sub(B A)", "A B|Bot|Top", "0-2 1-0"},
		{"Sub(A B) Sub(B C) Sub(C A)", "A B C|Bot|Top", "0-2 1-0"},
		{"Eq(A B) Eq(C D)", "A B|Bot|C D|Top", "0-3 1-0 1-2 2-3"},
		{"Eq(A D) Eq(C B)", "A D|B C|Bot|Top", "0-3 1-3 2-0 2-1"},
		{"Eq(A D) Sub(D C) Eq(C B)", "A D|B C|Bot|Top", "0-1 1-3 2-0"},
		{"Eq(A Some(r Top)) Eq(B Not(All(r Bot)))", "A B|Bot|Top", "0-2 1-0"},
		// A chain, told in any order, and beside it what follows of it.
		{"Sub(A B)", "A|B|Bot|Top", "0-1 1-3 2-0"},
		{"Sub(B A)", "A|B|Bot|Top", "0-3 1-0 2-1"},
		{"Sub(A B) Sub(B C)", "A|B|Bot|C|Top", "0-1 1-3 2-0 3-4"},
		{"Sub(A C) Sub(B C) Sub(A B)", "A|B|Bot|C|Top", "0-1 1-3 2-0 3-4"},
		{"Sub(D E) Sub(A B) Sub(C D) Sub(B C)", "A|B|Bot|C|D|E|Top", "0-1 1-3 2-0 3-4 4-5 5-6"},
		{"Sub(E D) Sub(D C) Sub(C B) Sub(B A)", "A|B|Bot|C|D|E|Top", "0-6 1-0 2-5 3-1 4-3 5-4"},
		{"Sub(A And(B And(C And(D E)))) Sub(B And(C And(D E))) Sub(C And(D E)) Sub(D E)", "A|B|Bot|C|D|E|Top", "0-1 1-3 2-0 3-4 4-5 5-6"},
		// Side by side, and between.
		{"Is(x Or(A Or(B Or(C Or(D E)))))", "A|B|Bot|C|D|E|Top", "0-6 1-6 2-0 2-1 2-3 2-4 2-5 3-6 4-6 5-6"},
		{"Sub(A And(B C)) Sub(Or(B C) D)", "A|B|Bot|C|D|Top", "0-1 0-3 1-4 2-0 3-4 4-5"},
		{"Sub(Or(A B) And(C And(D E)))", "A|B|Bot|C|D|E|Top", "0-3 0-4 0-5 1-3 1-4 1-5 2-0 2-1 3-6 4-6 5-6"},
		{"Sub(A B) Sub(C D)", "A|B|Bot|C|D|Top", "0-1 1-5 2-0 2-3 3-4 4-5"},
		{"Dis(A B)", "A|B|Bot|Top", "0-3 1-3 2-0 2-1"},
		// By roles.
		{"Eq(A Some(r Top)) Eq(B Some(s Top)) Role(r s)", "A|B|Bot|Top", "0-1 1-3 2-0"},
		{"Eq(A Some(r C)) Eq(B Some(r D)) Sub(C D)", "A|B|Bot|C|D|Top", "0-1 1-5 2-0 2-3 3-4 4-5"},
		{"Eq(A All(r C)) Eq(B All(s C)) Role(r s)", "A|B|Bot|C|Top", "0-4 1-0 2-1 2-3 3-4"},
		{"Sub(A Some(r B)) Sub(B Bot)", "A B Bot|Top", "0-1"},
		// What individuals are says nothing of all.
		{"Is(x A) Is(x B) Rel(r x x) Is(x All(r C))", "A|B|Bot|C|Top", "0-4 1-4 2-0 2-1 2-3 3-4"},
		// It refutes itself: one class, and no edge.
		{"Sub(Top Bot)", "Bot Top", ""},
		{"Is(x Bot)", "Bot Top", ""},
		{"Sub(Top Bot) Is(x Or(Z Or(A Cat)))", "A Bot Cat Top Z", ""},
		{"Is(x A) Is(x Not(A)) Sub(B C) Dis(D E)", "A B Bot C D E Top", ""},
		{"Role(r s) Rel(r x y) Is(x All(s A)) Is(y Not(A))", "A Bot Top", ""},
	} {
		wantClassified(t, c.kb, c.classes, c.edges)
	}
}

// Names go by their bytes, and Top and Bot among them by theirs, not by where they are told, nor ahead of all others.
func TestClassifyGoesByTexts(t *testing.T) {
	wantClassified(t, "Is(x Or(Topa Or(To Or(Bota Or(Bo B)))))", "B|Bo|Bot|Bota|To|Top|Topa", "0-5 1-5 2-0 2-1 2-3 2-4 2-6 3-5 4-5 6-5")
	wantClassified(t, "Eq(Topa To) Eq(Bota B) Sub(Bo Bo)", "B Bota|Bo|Bot|To Topa|Top", "0-4 1-4 2-0 2-1 2-3 3-4")
	wantClassified(t, "Eq(Bota Bot) Eq(B Bota) Eq(Topa Top) Eq(To Topa) Is(x Bo)", "B Bot Bota|Bo|To Top Topa", "0-1 1-2")
	wantClassified(t, "Sub(Topa To) Sub(To Bota) Sub(Bota Bo) Sub(Bo B)", "B|Bo|Bot|Bota|To|Top|Topa", "0-5 1-0 2-6 3-1 4-3 6-4")
	wantClassified(t, "Eq(Zyxwvu Abcdef) Sub(Ab A) Eq(Ab Aa)", "A|Aa Ab|Abcdef Zyxwvu|Bot|Top", "0-4 1-0 2-4 3-1 3-2")
	wantClassified(t, "Sub(Z Y) Sub(Y Abc) Eq(Abc X)", "Abc X|Bot|Top|Y|Z", "0-2 1-4 3-0 4-3")
	// A class is numbered by the first of its names, even if another one is told of first.
	wantClassified(t, "Eq(D A) Eq(C B) Sub(D C)", "A D|B C|Bot|Top", "0-1 1-3 2-0")
}

func TestClassifyOfWhatIsNotOk(t *testing.T) {
	big := readCon(t, "Some(a Some(b Some(c Some(d Top))))")
	for i, k := range append(refusedKbs(), told(is("x", big)), told(is("x", big), is("x", named("a")))) {
		wantNoOrder(t, k, impl.AnForm, fmt.Sprint("the wrong axioms ", i))
	}
	for i, c := range refusedCons() {
		why := fmt.Sprint("the wrong concept ", i)
		for _, k := range []impl.Kb{told(is("x", c)), told(sub(top, bot), equal(c, top)), told(sub(named("A"), named("B")), apart(named("A"), c))} {
			wantNoOrder(t, k, impl.AnForm, why)
		}
	}
	// As many names, and axioms, as there may be, and one more.
	five := is("x", readCon(t, "Or(A Or(B Or(C Or(D E))))"))
	wantClassified(t, spellKb(told(slices.Repeat([]impl.Axiom{five}, impl.MaxAxioms)...)), "A|B|Bot|C|D|E|Top", "0-6 1-6 2-0 2-1 2-3 2-4 2-5 3-6 4-6 5-6")
	wantNoOrder(t, told(slices.Repeat([]impl.Axiom{five}, impl.MaxAxioms+1)...), impl.AnForm, "nine axioms")
	wantNoOrder(t, told(five, is("x", named("F"))), impl.AnForm, "six names")
}

// pairCon is what Under asks of: who is of the one and not of the other.
func pairCon(low, high string) impl.Con { return and(conOf(low), turned(conOf(high), true)) }

// mostAtomsKb tells of A, and has MaxAtoms atoms: those that are asked of for each two names are among them, but for one, in whose place is another.
func mostAtomsKb(lacking twoNames) impl.Kb {
	var pairs []impl.Con
	for _, low := range []string{"A", "Bot", "Top"} {
		for _, high := range []string{"A", "Bot", "Top"} {
			c := pairCon(low, high)
			if lacking == (twoNames{low, high}) {
				c = and(named("A"), named("A"))
			}
			pairs = append(pairs, c)
		}
	}
	three := func(l []impl.Con) impl.Axiom { return is("x", every("r", or(l[0], or(l[1], l[2])))) }
	return told(three(pairs[:3]), three(pairs[3:6]), three(pairs[6:]), is("x", alls(6, "s")))
}

// Where there is no room for one pair of names there is no order: whichever it is, a name and itself being one, too.
func TestClassifyOfOnePairThatHasTooManyAtoms(t *testing.T) {
	k := mostAtomsKb(twoNames{})
	if n := clausifyByWords(k, top); len(n.atoms) != impl.MaxAtoms || n.big() || !impl.KbOk(k) {
		t.Fatal(len(n.atoms), spellKb(k))
	}
	wantClassified(t, spellKb(k), "A|Bot|Top", "0-2 1-0")
	for _, low := range askedNames(k) {
		for _, high := range askedNames(k) {
			pair := twoNames{low, high}
			k := mostAtomsKb(pair)
			if bigs := bigPairs(k); !slices.Equal(bigs, []string{pair.String()}) {
				t.Errorf("%swithout %s: %q are too big", spellKb(k), pair, bigs)
			}
			wantNoOrder(t, k, impl.AnBig, spellKb(k)+"without "+pair.String())
		}
	}
	// Without a name there are four.
	bare := func(c string) impl.Kb {
		return readKb(t, "Is(x All(r "+c+")) Is(x All(s All(s All(s All(s Top))))) Is(x All(t All(t All(t All(t Top))))) Is(x All(r All(r All(r All(r All(r Top)))))) Is(x And(Top And(Top Or(Top Top))))")
	}
	wantClassified(t, spellKb(bare("Or(Or(And(Bot Bot) And(Bot Top)) Or(And(Top Bot) And(Top Top)))")), "Bot|Top", "0-1")
	for lacking, c := range map[string]string{
		"Bot under Top": "Or(Or(Or(Top Bot) And(Bot Top)) Or(And(Top Bot) And(Top Top)))",
		"Top under Bot": "Or(Or(And(Bot Bot) And(Bot Top)) Or(And(Top Bot) Or(Top Bot)))",
		"Bot under Bot": "Or(Or(And(Bot Bot) Or(Top Bot)) Or(And(Top Bot) And(Top Top)))",
		"Top under Top": "Or(Or(And(Bot Bot) And(Bot Top)) Or(Or(Top Bot) And(Top Top)))",
	} {
		if bigs := bigPairs(bare(c)); !slices.Equal(bigs, []string{lacking}) {
			t.Errorf("%swithout %s: %q are too big", spellKb(bare(c)), lacking, bigs)
		}
		wantNoOrder(t, bare(c), impl.AnBig, c)
	}
}

// narrow are told so that of few pairs of names alone more is kept than there is room for; without the last axiom there is just room.
var narrow = []struct {
	kb, last       string
	bigs           string
	classes, edges string
}{
	{"Eq(All(t And(All(t And(Some(t A) A)) B)) Some(s Some(t Some(t B)))) Sub(A B) Rel(u x x) Rel(u x y)", "Rel(u y x)", "B under A", "A|B|Bot|Top", "0-1 1-3 2-0"},
	{"Eq(All(t And(All(t And(Some(t B) B)) A)) Some(s Some(t Some(t A)))) Sub(B A) Rel(u x x) Rel(u x y) Rel(u y x) Rel(u y y)", "Rel(u x z)", "A under B", "A|B|Bot|Top", "0-3 1-0 2-1"},
	{"Eq(All(t And(All(t All(t B)) B)) Some(t Some(t Some(t B)))) Sub(A Bot)", "Rel(u x x)", "B under A", "A Bot|B|Top", "0-1 1-2"},
	{"Eq(All(t And(All(t And(Some(t A) A)) Some(t B))) Some(t Some(t Some(t B)))) Rel(u x x) Rel(u x y) Rel(u y x) Rel(u y y)", "Rel(u x z)", "A under B, B under A", "A|B|Bot|Top", "0-3 1-3 2-0 2-1"},
	{"Eq(All(t And(All(t All(t A)) A)) Some(t Some(t Some(t A)))) Rel(u x x) Rel(u x y) Rel(u y x) Rel(u y y)", "Rel(u x z)", "A under Bot, Top under A", "A|Bot|Top", "0-2 1-0"},
	// The names of these pairs are behind others in their class.
	{"Eq(All(t And(All(t And(Some(t B) A)) Not(A))) Some(t Some(t A))) Eq(A B) Rel(u x x) Rel(u x y) Rel(u y x) Rel(u y y)", "Rel(u x z)", "B under Bot, Top under B", "A B|Bot|Top", "0-2 1-0"},
	{"Eq(All(t And(All(t And(Some(t A) A)) B)) Some(t And(Some(t B) A))) Eq(A B) Rel(u x x) Rel(u x y) Rel(u y x)", "Rel(u y y)", "B under Bot, Top under B", "A B|Bot|Top", "0-2 1-0"},
}

func TestClassifyOfOnePairThatHasNoRoom(t *testing.T) {
	for _, c := range narrow {
		wantClassified(t, c.kb, c.classes, c.edges)
		k := readKb(t, c.kb+" "+c.last)
		if bigs := strings.Join(bigPairs(k), ", "); bigs != c.bigs {
			t.Errorf("%s: %s too big, not %s", spellKb(k), bigs, c.bigs)
		}
		wantNoOrder(t, k, impl.AnBig, spellKb(k))
		// It is the pairs that lack room, not what is told.
		wantAnswer(t, spellKb(k), impl.Consistent(k), impl.AnYes)
		first := strings.Fields(strings.Split(c.bigs, ", ")[0])
		if r, _ := foundByWords(readKb(t, c.kb), pairCon(first[0], first[2])); r.Code != impl.RsOpen || len(r.L) != impl.MaxKept {
			t.Errorf("%s: of %s %d steps are kept, with the code %d", c.kb, first, len(r.L), r.Code)
		}
	}
	for _, c := range full {
		if k := readKb(t, c.kb); len(bigPairs(k)) > 0 {
			wantNoOrder(t, k, impl.AnBig, c.kb)
		}
	}
}

// taxonomies are drawn of few small axioms, so that much is next above something; some have names around Top and Bot.
func taxonomies(count int) []impl.Kb {
	d := dice(130)
	var list []impl.Kb
	for len(list) < count {
		words := strings.Fields([]string{"A B C D E", "B Bo Bota To Topa", "Z Y X Ab Abc"}[d.below(3)])[:1+d.below(5)]
		name := func() impl.Con { return named(words[d.below(len(words))]) }
		small := func() impl.Con {
			role := []string{"r", "s"}[d.below(2)]
			return []impl.Con{name(), name(), name(), not(name()), and(name(), name()), or(name(), name()), some(role, name()), every(role, name()), top, bot}[d.below(10)]
		}
		var k impl.Kb
		for range d.below(impl.MaxAxioms) {
			k.L = append(k.L, []impl.Axiom{sub(name(), small()), sub(name(), small()), sub(name(), name()), sub(small(), name()), equal(name(), small()), apart(name(), small()),
				role("r", "s"), is("x", small()), rel("r", "x", "y")}[d.below(9)])
		}
		if impl.KbOk(k) {
			list = append(list, k)
		}
	}
	return list
}

func classified() []impl.Kb {
	list := append(someKbs()[:60], taxonomies(500)...)
	return append(list, drawnKbs(200)...)
}

func TestClassifyIsWhatTheWordsSay(t *testing.T) {
	codes := map[int]int{}
	for i, k := range classified() {
		// The test's own way to Under is slow, and held against it elsewhere.
		ask := impl.Under
		if i%5 == 0 {
			ask = underByWords
		}
		o, want := impl.Classify(k), classifyByWords(k, ask)
		codes[o.Code]++
		if !sameOrder(o, want) {
			t.Fatalf("%s: %s\n%swant %s\n%s", spellKb(k), answerWord(o.Code), orderTextByWords(o), answerWord(want.Code), orderTextByWords(want))
		}
		wantOrderFine(t, o, spellKb(k))
	}
	if codes[impl.AnYes] < 500 || codes[impl.AnBig] < 20 {
		t.Error(codes, ": too few to tell")
	}
}

// wantPromise13 asks of each two names whether the order tells of them what Under does.
func wantPromise13(t *testing.T, k impl.Kb, o impl.Order, count map[string]int) {
	t.Helper()
	found := underPairs(k, impl.Under)
	for p, code := range found {
		back := found[twoNames{p[1], p[0]}]
		low, high := impl.ClassOf(o, []byte(p[0])), impl.ClassOf(o, []byte(p[1]))
		if low < 0 || high < 0 {
			t.Fatalf("%s%shas not both of %s", spellKb(k), orderTextByWords(o), p)
		}
		if (low == high) != (code == impl.AnYes && back == impl.AnYes) {
			t.Fatalf("%s%s%s: %s, and back %s", spellKb(k), orderTextByWords(o), p, answerWord(code), answerWord(back))
		}
		if impl.Leads(o, low, high) != (code == impl.AnYes) {
			t.Fatalf("%s%s%s: %s, and edges lead: %v", spellKb(k), orderTextByWords(o), p, answerWord(code), impl.Leads(o, low, high))
		}
		switch {
		case p[0] == p[1]:
		case low == high:
			count["alike"]++
		case code == impl.AnYes:
			count["under"]++
		case back == impl.AnNo:
			count["apart"]++
		}
	}
}

// Promise 13: names are in one class just if each is Under the other; edges lead from one to another just if it is under that.
func TestPromise13ClassesAndEdgesAreAsUnderSays(t *testing.T) {
	count := map[string]int{}
	for _, k := range append(classified(), taxonomies(900)...) {
		if o := impl.Classify(k); o.Code == impl.AnYes {
			wantPromise13(t, k, o, count)
		}
	}
	if count["alike"] < 1000 || count["under"] < 3000 || count["apart"] < 1000 {
		t.Error(count, ": too few to tell")
	}
}

// Promise 13: without any one edge they do not lead where it led.
func TestPromise13NoEdgeIsForNothing(t *testing.T) {
	long := map[int]int{}
	for _, k := range append(classified(), taxonomies(900)...) {
		o := impl.Classify(k)
		long[len(o.Edges)]++
		for i, e := range o.Edges {
			without := o
			without.Edges = slices.Delete(slices.Clone(o.Edges), i, i+1)
			if !impl.Leads(o, e.Low, e.High) || impl.Leads(without, e.Low, e.High) || !impl.OrderOk(without) {
				t.Fatalf("%s%sthe edge %v is there for nothing", spellKb(k), orderTextByWords(o), e)
			}
		}
	}
	if long[1] < 20 || long[2] < 50 || long[4] < 50 || long[6] < 50 || long[7] < 20 || long[8] < 5 {
		t.Error(long, ": too few to tell")
	}
}

// Promise 13, by worlds: who is of one name is of all that it leads to; where edges do not lead somebody may be of the one alone.
func TestPromise13OrdersAreSoInWorlds(t *testing.T) {
	count := map[string]int{}
	for _, m := range drawnModels(131, 2) {
		o := impl.Classify(m.k)
		if o.Code != impl.AnYes {
			continue
		}
		for _, low := range askedNames(m.k) {
			for _, high := range askedNames(m.k) {
				if impl.Leads(o, impl.ClassOf(o, []byte(low)), impl.ClassOf(o, []byte(high))) {
					count["leads"]++
					if !within(extensionByWords(m.w, conOf(low)), extensionByWords(m.w, conOf(high))) {
						t.Fatalf("%s%sin %v not all of %s are of %s", spellKb(m.k), orderTextByWords(o), m.w, low, high)
					}
				}
			}
		}
	}
	for _, k := range taxonomies(500) {
		o := impl.Classify(k)
		if o.Code != impl.AnYes {
			continue
		}
		for _, low := range askedNames(k) {
			for _, high := range askedNames(k) {
				leads := impl.Leads(o, impl.ClassOf(o, []byte(low)), impl.ClassOf(o, []byte(high)))
				if _, code := impl.ModelOf(k, pairCon(low, high)); leads && code == impl.TyWell || !leads && code == impl.TyNone {
					t.Fatalf("%s%s%s leads to %s: %v, but ModelOf tells %d", spellKb(k), orderTextByWords(o), low, high, leads, code)
				} else if code == impl.TyWell {
					count["somebody"]++
				} else if code == impl.TyNone {
					count["nobody"]++
				}
			}
		}
	}
	if count["leads"] < 5000 || count["somebody"] < 1000 || count["nobody"] < 2000 {
		t.Error(count, ": too few to tell")
	}
}

// leadsByWords is another way to Leads: all that two steps make is added, until nothing is.
func leadsByWords(o impl.Order, a, b int) bool {
	leads := map[[2]int]bool{}
	for i := range o.Classes {
		leads[[2]int{i, i}] = true
	}
	for _, e := range o.Edges {
		leads[[2]int{e.Low, e.High}] = true
	}
	for m := range o.Classes {
		for i := range o.Classes {
			for j := range o.Classes {
				if leads[[2]int{i, m}] && leads[[2]int{m, j}] {
					leads[[2]int{i, j}] = true
				}
			}
		}
	}
	return leads[[2]int{a, b}]
}

// wantOrderFine holds that an order is accepted, and what each function tells of it.
func wantOrderFine(t *testing.T, o impl.Order, why string) {
	t.Helper()
	text := orderTextByWords(o)
	if !impl.OrderOk(o) {
		t.Fatalf("%s: %d\n%sis not OrderOk", why, o.Code, text)
	}
	if got := string(impl.OrderText(o)); got != text {
		t.Fatalf("%s: OrderText\n%snot\n%s", why, got, text)
	}
	for i, class := range o.Classes {
		for _, name := range class {
			if got := impl.ClassOf(o, bytes.Clone(name)); got != i {
				t.Fatalf("%s:\n%sClassOf %s is %d", why, text, name, got)
			}
		}
	}
	for _, name := range []string{"", "Other", "a", "top", "AB", "Toolong"} {
		if got := impl.ClassOf(o, []byte(name)); got != -1 {
			t.Fatalf("%s:\n%sClassOf %q is %d", why, text, name, got)
		}
	}
	for a := -2; a <= len(o.Classes)+1; a++ {
		for b := -2; b <= len(o.Classes)+1; b++ {
			if got := impl.Leads(o, a, b); got != leadsByWords(o, a, b) {
				t.Fatalf("%s:\n%sLeads from %d to %d: %v", why, text, a, b, got)
			}
		}
	}
}

// wantOrderRefused holds that each function gives its fixed answer, whatever it is asked.
func wantOrderRefused(t *testing.T, o impl.Order, why string) {
	t.Helper()
	if impl.OrderOk(o) {
		t.Errorf("%s: it is OrderOk", why)
	}
	if text := impl.OrderText(o); len(text) != 0 {
		t.Errorf("%s: OrderText %q", why, text)
	}
	for _, class := range o.Classes[:min(len(o.Classes), 10)] {
		for _, name := range append(words("A Top"), class[:min(len(class), 10)]...) {
			if got := impl.ClassOf(o, name); got != -1 {
				t.Errorf("%s: ClassOf %q is %d", why, name, got)
			}
		}
	}
	for a := range min(len(o.Classes), 10) + 1 {
		for b := range min(len(o.Classes), 10) + 1 {
			if impl.Leads(o, a, b) {
				t.Errorf("%s: it leads from %d to %d", why, a, b)
			}
		}
	}
}

// ordinaryOrder has three classes, of one name and of more, and edges one behind the other.
func ordinaryOrder() impl.Order { return orderBy(impl.AnYes, "A Bot|B D|C|Top", "0-1 0-2 1-2 2-3") }

// fullOrder has as many classes as there may be, and an edge from each to each other one.
func fullOrder() impl.Order {
	o := orderBy(impl.AnYes, "A|B|C|D|E|F|G", "")
	for low := range mostClasses {
		for high := range mostClasses {
			if low != high {
				o.Edges = append(o.Edges, impl.Edge{Low: low, High: high})
			}
		}
	}
	return o
}

// wantOrderSpoiled takes the ordinary order, and holds that one change alone makes it refused.
func wantOrderSpoiled(t *testing.T, why string, spoil func(o *impl.Order)) {
	t.Helper()
	o := ordinaryOrder()
	wantOrderFine(t, o, "ordinary")
	spoil(&o)
	wantOrderRefused(t, o, why)
}

func TestOrderOkClasses(t *testing.T) {
	wantOrderFine(t, impl.Order{}, "the zero value")
	wantOrderFine(t, impl.Order{Classes: [][][]byte{}, Edges: []impl.Edge{}}, "empty lists")
	for n := range mostClasses + 1 {
		list := strings.Fields("A B C D E F G H")[:n]
		wantOrderFine(t, orderBy(impl.AnYes, strings.Join(list, "|"), ""), fmt.Sprint(n, " classes"))
	}
	wantOrderRefused(t, orderBy(impl.AnYes, "A|B|C|D|E|F|G|H", ""), "MaxNames + 2 classes and one more")
	wantOrderRefused(t, orderBy(impl.AnYes, "A|B|C|D|E|F|G|H", "0-1 5-6"), "MaxNames + 2 classes and one more")
	wantOrderRefused(t, orderBy(impl.AnYes, "A|B|C|D|E|F|G|H|I|J", ""), "ten classes")
	wantOrderRefused(t, impl.Order{Classes: make([][][]byte, 1<<20)}, "many classes")
	for i := range ordinaryOrder().Classes {
		wantOrderSpoiled(t, fmt.Sprint("the class ", i, " is nil"), func(o *impl.Order) { o.Classes[i] = nil })
		wantOrderSpoiled(t, fmt.Sprint("the class ", i, " is empty"), func(o *impl.Order) { o.Classes[i] = [][]byte{} })
		// What lies behind the length is no name.
		wantOrderSpoiled(t, fmt.Sprint("the class ", i, " is empty"), func(o *impl.Order) { o.Classes[i] = o.Classes[i][:0] })
	}
	wantOrderRefused(t, impl.Order{Classes: make([][][]byte, 1)}, "one class without a name")
	// There may be more names in a class than names that may be told of.
	many := impl.Order{Classes: [][][]byte{{}, words("Top")}, Edges: []impl.Edge{{Low: 0, High: 1}}, Code: impl.AnYes}
	for i := range 2000 {
		many.Classes[0] = append(many.Classes[0], []byte("A"+string(rune('a'+i%26))+string(rune('a'+i/26%26))+string(rune('a'+i/676))))
	}
	wantOrderFine(t, many, "many names")
	many.Classes[0][1999] = many.Classes[0][0]
	wantOrderRefused(t, many, "the first of many names is the last one, too")
}

func TestOrderOkNames(t *testing.T) {
	for _, s := range append(strings.Fields("Z Abcdef Zyxwvu"), keptWords...) {
		for i := range ordinaryOrder().Classes {
			o := ordinaryOrder()
			if s == "Top" || s == "Bot" {
				o = orderBy(impl.AnYes, "A|B|C D", "0-1")
			}
			at := i % len(o.Classes)
			o.Classes[at][len(o.Classes[at])-1] = []byte(s)
			wantOrderFine(t, o, s+" is UpperOk")
		}
	}
	for _, s := range []string{"", "a", "ab", "top", "Abcdefg", "AB", "A b", "A1", "1", " A", "A ", "A\n", "-", "Ä", "A\x00", "\x00", "[", "@"} {
		for i, class := range ordinaryOrder().Classes {
			for at := range class {
				wantOrderSpoiled(t, fmt.Sprintf("%q in the class %d at %d", s, i, at), func(o *impl.Order) { o.Classes[i][at] = []byte(s) })
			}
			wantOrderSpoiled(t, fmt.Sprintf("%q behind the class %d", s, i), func(o *impl.Order) { o.Classes[i] = append(o.Classes[i], []byte(s)) })
		}
	}
	wantOrderSpoiled(t, "nil is no name", func(o *impl.Order) { o.Classes[0][0] = nil })
	wantOrderSpoiled(t, "a long name", func(o *impl.Order) { o.Classes[0][0] = bytes.Repeat([]byte("A"), 1<<20) })
	wantOrderSpoiled(t, "many wrong names", func(o *impl.Order) { o.Classes[0] = make([][]byte, 1<<20) })
}

func TestOrderOkNamesThatAreAlike(t *testing.T) {
	all := ordinaryOrder().Classes
	for i, class := range all {
		for _, name := range class {
			for other := range all {
				wantOrderSpoiled(t, fmt.Sprintf("%s of %d behind %d, too", name, i, other), func(o *impl.Order) { o.Classes[other] = append(o.Classes[other], name) })
				wantOrderSpoiled(t, fmt.Sprintf("%s of %d ahead of %d, too", name, i, other), func(o *impl.Order) {
					o.Classes[other] = slices.Insert(o.Classes[other], 0, bytes.Clone(name))
				})
			}
			wantOrderSpoiled(t, fmt.Sprintf("%s of %d in a class of its own, too", name, i), func(o *impl.Order) { o.Classes = append(o.Classes, [][]byte{name}) })
		}
	}
	wantOrderRefused(t, orderBy(impl.AnYes, "A A", ""), "twice in the one class")
	wantOrderRefused(t, orderBy(impl.AnYes, "A B A", ""), "twice in the one class, with another one between")
	wantOrderRefused(t, orderBy(impl.AnYes, "A|A", ""), "two classes alike")
	wantOrderRefused(t, orderBy(impl.AnYes, "A B|B C", ""), "one name in two classes")
	// Names need not ascend, neither in a class nor from class to class.
	wantOrderFine(t, orderBy(impl.AnYes, "Z Y A|Top|D Bot|B", "0-1"), "not by texts")
	wantOrderFine(t, orderBy(impl.AnYes, "A Aa|Aaa Ab|B|Ba", "0-1"), "one begins as another one")
}

func TestOrderOkEdges(t *testing.T) {
	n := len(ordinaryOrder().Classes)
	wantEdges := func(why string, list ...impl.Edge) {
		t.Helper()
		wantOrderSpoiled(t, why, func(o *impl.Order) { o.Edges = list })
	}
	for _, at := range []int{math.MinInt, -n, -1, n, n + 1, mostClasses, math.MaxInt} {
		for other := range n {
			wantEdges(fmt.Sprint("from ", at), impl.Edge{Low: at, High: other})
			wantEdges(fmt.Sprint("to ", at), impl.Edge{Low: other, High: at})
		}
		wantEdges(fmt.Sprint("from and to ", at), impl.Edge{Low: at, High: at})
		o := ordinaryOrder()
		o.Edges = append(o.Edges, impl.Edge{Low: n - 1, High: at})
		wantOrderRefused(t, o, fmt.Sprint("the last one to ", at))
	}
	for at := range n {
		wantEdges("from a class to itself", impl.Edge{Low: at, High: at})
		o := ordinaryOrder()
		o.Edges = append(o.Edges, impl.Edge{Low: at, High: at})
		slices.SortFunc(o.Edges, func(a, b impl.Edge) int { return (a.Low-b.Low)*n + a.High - b.High })
		wantOrderRefused(t, o, "from a class to itself, among others")
	}
	list := ordinaryOrder().Edges
	for i, e := range list {
		wantOrderSpoiled(t, fmt.Sprint(e, " twice"), func(o *impl.Order) { o.Edges = slices.Insert(o.Edges, i, e) })
		wantOrderSpoiled(t, fmt.Sprint(e, " at the end, too"), func(o *impl.Order) { o.Edges = append(o.Edges, e) })
		for j := range i {
			wantOrderSpoiled(t, fmt.Sprint(e, " and ", list[j], " changed over"), func(o *impl.Order) { o.Edges[i], o.Edges[j] = o.Edges[j], o.Edges[i] })
		}
	}
	wantEdges("not by Low", impl.Edge{Low: 1, High: 0}, impl.Edge{Low: 0, High: 3})
	wantEdges("not by High", impl.Edge{Low: 1, High: 3}, impl.Edge{Low: 1, High: 2})
	wantEdges("by High, not by Low", impl.Edge{Low: 2, High: 0}, impl.Edge{Low: 1, High: 3})
	wantOrderRefused(t, orderBy(impl.AnYes, "", "0-0"), "an edge without classes")
	wantOrderRefused(t, orderBy(impl.AnYes, "", "0-1"), "an edge without classes")
	wantOrderRefused(t, orderBy(impl.AnYes, "A", "0-1"), "an edge of one class")
	for _, s := range []string{"0-1 1-0", "1-0", "0-1 1-2 2-0", "0-1 0-2 0-3", "3-0 3-1 3-2", "0-3 1-2 2-1 3-0"} {
		wantOrderFine(t, orderBy(impl.AnYes, "A|B|C|D", s), s)
	}
}

// MaxNames + 2 classes have 42 edges at most: as many as 50 can be no two alike, however they are told.
func TestOrderOkMostEdges(t *testing.T) {
	most := fullOrder()
	if len(most.Edges) != mostClasses*(mostClasses-1) || len(most.Edges) >= mostEdges {
		t.Fatal(len(most.Edges))
	}
	wantOrderFine(t, most, "all edges that there can be")
	for i := range most.Edges {
		one := most
		one.Edges = slices.Delete(slices.Clone(most.Edges), i, i+1)
		wantOrderFine(t, one, "all edges but one")
	}
	for _, count := range []int{43, mostEdges - 1, mostEdges, mostEdges + 1, 1 << 20} {
		more := most
		more.Edges = append(slices.Clone(most.Edges), slices.Repeat(most.Edges[41:], count-42)...)
		wantOrderRefused(t, more, fmt.Sprint(count, " edges, the last one many times"))
		more.Edges = nil
		for i := range count {
			more.Edges = append(more.Edges, impl.Edge{Low: i / mostClasses, High: i % mostClasses})
		}
		wantOrderRefused(t, more, fmt.Sprint(count, " edges that ascend, from classes to themselves among them"))
	}
	nine := make([][][]byte, 9)
	for i := range nine {
		nine[i] = [][]byte{{byte('A' + i)}}
	}
	for _, count := range []int{mostEdges, mostEdges + 1} {
		o := impl.Order{Classes: nine}
		for i := range 72 {
			if e := (impl.Edge{Low: i / 8, High: (i/8 + 1 + i%8) % 9}); len(o.Edges) < count {
				o.Edges = append(o.Edges, e)
			}
		}
		wantOrderRefused(t, o, fmt.Sprint(count, " edges between nine classes"))
	}
}

func TestOrderOkCode(t *testing.T) {
	for _, o := range []impl.Order{{}, ordinaryOrder(), fullOrder(), orderBy(0, "A|B", "1-0")} {
		for code := impl.AnNo; code <= impl.AnForm; code++ {
			o.Code = code
			wantOrderFine(t, o, answerWord(code))
		}
		for _, code := range []int{math.MinInt, -2, impl.AnNo - 1, impl.AnForm + 1, 5, math.MaxInt} {
			o.Code = code
			wantOrderRefused(t, o, fmt.Sprint("the code ", code))
		}
	}
}

// orderOkByWords is another way to OrderOk: all is sorted, and held against what it was.
func orderOkByWords(o impl.Order) bool {
	var names []string
	for _, class := range o.Classes {
		names = append(names, texts(class)...)
		if len(class) == 0 {
			return false
		}
	}
	sorted := slices.Clone(o.Edges)
	slices.SortFunc(sorted, func(a, b impl.Edge) int {
		return strings.Compare(fmt.Sprintf("%2d %2d", a.Low, a.High), fmt.Sprintf("%2d %2d", b.Low, b.High))
	})
	loose := slices.ContainsFunc(o.Edges, func(e impl.Edge) bool {
		return e.Low == e.High || min(e.Low, e.High) < 0 || max(e.Low, e.High) >= len(o.Classes)
	})
	return len(o.Classes) <= mostClasses && len(eachOfThem(names)) == len(names) && !slices.ContainsFunc(names, func(s string) bool { return !impl.UpperOk([]byte(s)) }) &&
		len(o.Edges) <= mostEdges && !loose && slices.Equal(slices.Compact(sorted), o.Edges) && o.Code >= 0 && o.Code <= 3
}

// anyOrder draws an order that may well be wrong in one way or another.
func (d *dice) anyOrder() impl.Order {
	o := impl.Order{Code: d.below(4)}
	count := d.below(mostClasses + 1)
	letters := strings.Split("ABCDEFGHIJKLMNOPQRSTUVWXYZ", "")
	for range count {
		var class [][]byte
		for range 1 + d.below(2) {
			at := d.below(len(letters))
			class = append(class, []byte(letters[at]))
			letters = slices.Delete(letters, at, at+1)
		}
		o.Classes = append(o.Classes, class)
	}
	odds := 2 + d.below(4)
	for low := range count {
		for high := range count {
			if low != high && d.below(odds) == 0 {
				o.Edges = append(o.Edges, impl.Edge{Low: low, High: high})
			}
		}
	}
	if count == 0 {
		return o
	}
	at := d.below(count)
	switch d.below(12) {
	case 0:
		o.Classes[at] = nil
	case 1:
		o.Classes[at] = append(o.Classes[at], o.Classes[d.below(count)][0])
	case 2:
		o.Classes[at][0] = []byte("b")
	case 3:
		o.Edges = slices.Insert(o.Edges, d.below(len(o.Edges)+1), impl.Edge{Low: d.below(count + 1), High: d.below(count+2) - 1})
	case 4:
		o.Code = d.below(8) - 2
	case 5:
		if len(o.Edges) > 1 {
			i, j := d.below(len(o.Edges)), d.below(len(o.Edges))
			o.Edges[i], o.Edges[j] = o.Edges[j], o.Edges[i]
		}
	}
	return o
}

func TestOrdersAreWhatTheWordsSay(t *testing.T) {
	d := dice(132)
	count := map[bool]int{}
	for i := range 6000 {
		o := d.anyOrder()
		ok := orderOkByWords(o)
		count[ok]++
		if ok {
			wantOrderFine(t, o, fmt.Sprint("drawn ", i))
		} else {
			wantOrderRefused(t, o, fmt.Sprint("drawn ", i, "\n", orderTextByWords(o)))
		}
	}
	if count[true] < 2000 || count[false] < 1000 {
		t.Error(count, ": too few to tell")
	}
}

func TestClassOf(t *testing.T) {
	o := ordinaryOrder()
	for name, want := range map[string]int{"A": 0, "Bot": 0, "B": 1, "D": 1, "C": 2, "Top": 3,
		"E": -1, "": -1, "a": -1, "Bo": -1, "Bott": -1, "bot": -1, "To": -1, "A ": -1, "AB": -1, "A Bot": -1, "class": -1, "0": -1} {
		if got := impl.ClassOf(o, []byte(name)); got != want {
			t.Errorf("ClassOf %q is %d, not %d", name, got, want)
		}
	}
	if got := impl.ClassOf(o, nil); got != -1 {
		t.Errorf("ClassOf nil is %d", got)
	}
	for _, code := range []int{impl.AnNo, impl.AnBig, impl.AnForm} {
		o.Code = code
		if got := impl.ClassOf(o, []byte("D")); got != 1 {
			t.Errorf("%s: %d", answerWord(code), got)
		}
	}
	for _, name := range []string{"A", "Top", ""} {
		if got := impl.ClassOf(impl.Order{}, []byte(name)); got != -1 {
			t.Errorf("ClassOf %q without classes is %d", name, got)
		}
		if got := impl.ClassOf(impl.Order{Classes: [][][]byte{{[]byte(name)}}, Code: -1}, []byte(name)); got != -1 {
			t.Errorf("ClassOf %q in what is not OrderOk is %d", name, got)
		}
	}
}

func TestLeads(t *testing.T) {
	names := "A|B|C|D|E|F|G"
	for _, c := range []struct {
		edges, to string
	}{
		// From the class 2.
		{"", "2"},
		{"2-3", "23"},
		{"3-2", "2"},
		{"2-3 3-4", "234"},
		{"2-0 3-1 4-3 0-4", ""},
		{"0-4 2-0 3-1 4-3", "20413"},
		{"0-1 1-5 2-6 5-3 6-0", "260153"},
		{"0-1 1-2", "2"},
		{"0-2 1-2 3-2", "2"},
		{"2-0 2-1 2-6", "2016"},
		// Round about.
		{"2-3 3-2", "23"},
		{"0-1 1-2 2-0", "201"},
		{"2-3 3-4 4-3", "234"},
		{"0-1 1-0 2-0", "201"},
		{"0-1 1-0", "2"},
		{"0-1 1-2 2-3 3-4 4-5 5-6 6-0", "2345601"},
	} {
		o := orderBy(impl.AnYes, names, c.edges)
		for b := range mostClasses {
			if got := impl.Leads(o, 2, b); got != strings.Contains(c.to, fmt.Sprint(b)) {
				t.Errorf("%s: from 2 to %d: %v", c.edges, b, got)
			}
		}
	}
	// Numbers that are no class, not even to themselves.
	for _, o := range []impl.Order{{}, ordinaryOrder(), fullOrder()} {
		n := len(o.Classes)
		for _, no := range []int{math.MinInt, -n - 1, -2, -1, n, n + 1, 1 << 32, math.MaxInt} {
			for at := range n {
				if impl.Leads(o, no, at) || impl.Leads(o, at, no) {
					t.Errorf("%d of %d classes leads", no, n)
				}
			}
			if impl.Leads(o, no, no) || impl.Leads(o, no, n) || impl.Leads(o, -1, no) {
				t.Errorf("%d of %d classes leads to itself, or to others that are none", no, n)
			}
		}
		for at := range n {
			if !impl.Leads(o, at, at) {
				t.Errorf("the class %d does not lead to itself", at)
			}
		}
	}
}

func TestOrderText(t *testing.T) {
	for _, c := range []struct {
		o    impl.Order
		want string
	}{
		{impl.Order{}, ""},
		{impl.Order{Code: impl.AnForm}, ""},
		{orderBy(impl.AnYes, "Bot Top", ""), "class 0 Bot Top\n"},
		{orderBy(impl.AnYes, "Bot|Top", "0-1"), "class 0 Bot\nclass 1 Top\nedge 0 1\n"},
		{ordinaryOrder(), "class 0 A Bot\nclass 1 B D\nclass 2 C\nclass 3 Top\nedge 0 1\nedge 0 2\nedge 1 2\nedge 2 3\n"},
		{orderBy(impl.AnBig, "Zyxwvu A Or|Abcdef", "1-0"), "class 0 Zyxwvu A Or\nclass 1 Abcdef\nedge 1 0\n"},
		{orderBy(impl.AnNo, "A|B|C|D|E|F|G", "0-6 6-0 6-5"), "class 0 A\nclass 1 B\nclass 2 C\nclass 3 D\nclass 4 E\nclass 5 F\nclass 6 G\nedge 0 6\nedge 6 0\nedge 6 5\n"},
		// Not OrderOk.
		{orderBy(impl.AnYes, "A|A", ""), ""},
		{orderBy(impl.AnYes, "A|B", "1-1"), ""},
		{orderBy(-1, "A|B", "0-1"), ""},
		{orderBy(4, "A|B", "0-1"), ""},
		{orderBy(impl.AnYes, "A|b", "0-1"), ""},
	} {
		if got := string(impl.OrderText(c.o)); got != c.want {
			t.Errorf("%v: %q, not %q", c.o, got, c.want)
		}
	}
	k := readKb(t, "Sub(Cat Pet) Sub(Dog Pet) Dis(Cat Dog) Eq(Hound Dog) Sub(Pet Some(has Owner))")
	want := "class 0 Bot\nclass 1 Cat\nclass 2 Dog Hound\nclass 3 Owner\nclass 4 Pet\nclass 5 Top\nedge 0 1\nedge 0 2\nedge 0 3\nedge 1 4\nedge 2 4\nedge 3 5\nedge 4 5\n"
	if got := string(impl.OrderText(impl.Classify(k))); got != want {
		t.Errorf("%q, not %q", got, want)
	}
}

// roomyOrder is o, with other things behind the length of each list.
func roomyOrder(o impl.Order) impl.Order {
	room := make([][][]byte, 0, len(o.Classes)+2)
	for _, class := range o.Classes {
		room = append(room, roomyWords(class))
	}
	list := append(make([]impl.Edge, 0, len(o.Edges)+2), o.Edges...)
	list = append(list, impl.Edge{Low: 0, High: len(o.Classes) - 1}, impl.Edge{Low: -7, High: -7})
	return impl.Order{Classes: append(room, words("Behind"), nil)[:len(o.Classes)], Edges: list[:len(o.Edges)], Code: o.Code}
}

// spoilOrder writes over all that an answer has: it is the caller's own.
func spoilOrder(o impl.Order) {
	for _, class := range o.Classes {
		for _, name := range class {
			for i := range name[:cap(name)] {
				name[:cap(name)][i] = '?'
			}
		}
		clear(class[:cap(class)])
	}
	clear(o.Classes[:cap(o.Classes)])
	for i := range o.Edges[:cap(o.Edges)] {
		o.Edges[:cap(o.Edges)][i] = impl.Edge{Low: -7, High: -7}
	}
}

func TestClassifySharesNoMemory(t *testing.T) {
	for i, plain := range classified() {
		if i%3 > 0 {
			continue
		}
		want := orderTextByWords(impl.Classify(plain))
		k := roomyKb(plain)
		before := snapshot(k)
		for range 2 {
			o := impl.Classify(k)
			wantApart(t, o, k)
			if got := orderTextByWords(o); got != want {
				t.Fatalf("%s: %swant\n%swhat lies behind the lengths is read, or an answer is kept", spellKb(plain), got, want)
			}
			spoilOrder(o)
		}
		if snapshot(k) != before {
			t.Fatalf("%s is changed", spellKb(plain))
		}
	}
	// Lists of the argument may be one and the same.
	name := []byte("A")
	c := impl.Con{Kind: impl.CnName, Name: name}
	k := told(sub(c, c), equal(not(not(c)), c), sub(impl.Con{Kind: impl.CnAnd, Kids: []impl.Con{c, c}}, c))
	o := impl.Classify(k)
	wantApart(t, o, k, name)
	if !sameOrder(o, orderBy(impl.AnYes, "A|Bot|Top", "0-2 1-0")) {
		t.Errorf("%s%s", spellKb(k), orderTextByWords(o))
	}
}

func TestOrdersShareNoMemory(t *testing.T) {
	d := dice(133)
	list := []impl.Order{{}, ordinaryOrder(), fullOrder()}
	for range 500 {
		list = append(list, d.anyOrder())
	}
	for _, plain := range list {
		o := roomyOrder(plain)
		before := snapshot(o)
		if orderOkByWords(plain) {
			wantOrderFine(t, o, "with other things behind the lengths")
		} else {
			wantOrderRefused(t, o, "with other things behind the lengths")
		}
		for range 2 {
			text := impl.OrderText(o)
			wantApart(t, text, o)
			if orderOkByWords(plain) && string(text) != orderTextByWords(plain) {
				t.Fatalf("%s: %q", orderTextByWords(plain), text)
			}
			for i := range text[:cap(text)] {
				text[:cap(text)][i] = '?'
			}
		}
		for _, s := range []string{"A", "Behind", "Zzz", "B"} {
			name := roomyBytes([]byte(s))
			if impl.ClassOf(o, name) != impl.ClassOf(plain, []byte(s)) || string(name[:len(s)+3]) != s+"abc" {
				t.Fatalf("%sClassOf %s: what lies behind the lengths is read or written", orderTextByWords(plain), s)
			}
		}
		if snapshot(o) != before {
			t.Fatalf("%sis changed", orderTextByWords(plain))
		}
	}
	// Classes may be pieces of one list, and names of one text.
	text := []byte("AaBbCcDd")
	names := [][]byte{text[:2], text[2:4], text[4:6], text[6:]}
	o := impl.Order{Classes: [][][]byte{names[:1], names[1:3], names[3:]}, Edges: []impl.Edge{{Low: 0, High: 2}, {Low: 2, High: 1}}}
	wantOrderFine(t, o, "pieces")
	if string(text) != "AaBbCcDd" || len(names) != 4 || string(names[1]) != "Bb" {
		t.Error(names, "are changed")
	}
}

func TestClassifiedAnswersStayTheSame(t *testing.T) {
	k := readKb(t, "Sub(A And(B C)) Sub(Or(B C) D) Eq(E D) Role(r s) Is(x A)")
	first := orderTextByWords(impl.Classify(k))
	for range 10 {
		impl.Classify(readKb(t, "Sub(B A) Sub(Top Bot)"))
		impl.Leads(fullOrder(), 0, 6)
		impl.OrderText(ordinaryOrder())
		if got := orderTextByWords(impl.Classify(k)); got != first {
			t.Fatal("an answer hangs on an earlier call")
		}
	}
}
