package tests

import (
	"bytes"
	"fmt"
	"math"
	"regexp"
	"slices"
	"strings"
	"testing"

	"loop.example/g00534/impl"
)

func askSat(c impl.Con) impl.Ask { return impl.Ask{Kind: impl.AkSat, C: c} }

func askSub(c, d impl.Con) impl.Ask { return impl.Ask{Kind: impl.AkSub, C: c, D: d} }

func askIs(a string, c impl.Con) impl.Ask {
	return impl.Ask{Kind: impl.AkIs, A: []byte(a), C: c}
}

func askGet(c impl.Con) impl.Ask { return impl.Ask{Kind: impl.AkGet, C: c} }

func askWhole() impl.Ask { return impl.Ask{Kind: impl.AkWhole} }

func sameAsk(a, b impl.Ask) bool {
	return a.Kind == b.Kind && sameCon(a.C, b.C) && sameCon(a.D, b.D) && bytes.Equal(a.A, b.A)
}

func sameTold(a, b impl.Told) bool {
	return a.Code == b.Code && slices.EqualFunc(a.Names, b.Names, bytes.Equal)
}

// spellAsk writes a question by the document's words.
func spellAsk(a impl.Ask) string {
	switch a.Kind {
	case impl.AkSat:
		return "sat " + spell(a.C)
	case impl.AkSub:
		return "sub " + spell(a.C) + " " + spell(a.D)
	case impl.AkIs:
		return "is " + string(a.A) + " " + spell(a.C)
	case impl.AkGet:
		return "get " + spell(a.C)
	}
	return "whole"
}

func tellTold(w impl.Told) string {
	return strings.Join(append([]string{answerWord(w.Code)}, texts(w.Names)...), " ")
}

func tellAll(list []impl.Told) []string {
	var out []string
	for _, w := range list {
		out = append(out, tellTold(w))
	}
	return out
}

// askPlaceByStack is another way to the place that AskRead tells.
func askPlaceByStack(text string) int {
	n, bad := readByStack(text, wanted{'q', 0})
	switch {
	case len(text) > impl.MaxText:
		return 0
	case bad == -1 && len(n.parts) > 0 && slices.Max(n.parts) > impl.MaxParts:
		return len(text)
	}
	return bad
}

// toldByWords is another way to an answer, by the tests' own ways to what is found out.
func toldByWords(k impl.Kb, a impl.Ask) impl.Told {
	switch a.Kind {
	case impl.AkSat:
		return impl.Told{Code: possibleByWords(k, a.C)}
	case impl.AkSub:
		return impl.Told{Code: underByWords(k, a.C, a.D)}
	case impl.AkIs:
		if !slices.Contains(wordsOf(k, top).inds, string(a.A)) {
			return impl.Told{Code: impl.AnForm}
		}
		return impl.Told{Code: memberByWords(k, string(a.A), a.C)}
	case impl.AkGet:
		names, code := retrieveByWords(k, a.C)
		return impl.Told{Code: code, Names: words(strings.Join(names, " "))}
	}
	return impl.Told{Code: possibleByWords(k, top)}
}

// asksOf are questions of each kind.
func asksOf(c, d impl.Con, ind string) []impl.Ask {
	return []impl.Ask{askSat(c), askSub(c, d), askSub(d, c), askIs(ind, c), askGet(c), askWhole()}
}

// someAsks are questions of small concepts, and of those that meet limits.
func someAsks() []impl.Ask {
	var list []impl.Ask
	small, great := conceptsOf(3), edges()
	for i, c := range append(slices.Clone(small), great...) {
		list = append(list, asksOf(c, small[i*7%len(small)], []string{"x", "abcdef", "is", "whole"}[i%4])...)
		list = append(list, askSub(c, great[i%len(great)]))
	}
	return list
}

// anyAsk draws a question, of a concept that is told of or of any.
func (d *dice) anyAsk(k impl.Kb) impl.Ask {
	for {
		list := asksOf(d.relatedCon(k), d.relatedCon(k), []string{"x", "y", "z", "w", "r"}[d.below(5)])
		if a := list[d.below(len(list))]; okByWords(a.C) && okByWords(a.D) {
			return a
		}
	}
}

// okByWords is whether a concept whose parts are right is no greater than there may be.
func okByWords(c impl.Con) bool {
	return len(partTexts(spell(c))) <= impl.MaxParts && deepOf(c) <= impl.MaxDeep
}

func wantAskFine(t *testing.T, a impl.Ask) {
	t.Helper()
	if got := string(impl.AskText(a)); !impl.AskOk(a) || got != spellAsk(a) {
		t.Fatalf("%s is refused, or written %q", spellAsk(a), got)
	}
}

// wantAskRefused does not tell the question, which may have no end.
func wantAskRefused(t *testing.T, a impl.Ask, why string) {
	t.Helper()
	if impl.AskOk(a) || len(impl.AskText(a)) != 0 {
		t.Fatalf("%s: it is AskOk, or written %q", why, impl.AskText(a))
	}
	for _, k := range []impl.Kb{{}, told(is("x", bot)), fullKb()} {
		if w := impl.Answer(k, a); !sameTold(w, impl.Told{Code: impl.AnForm}) {
			t.Fatalf("%s: it is answered %s", why, tellTold(w))
		}
	}
}

func checkAskRead(t *testing.T, text string) {
	t.Helper()
	a, bad := impl.AskRead([]byte(text))
	if want := askPlaceByStack(text); bad != want {
		t.Fatalf("AskRead(%q) tells %d, want %d", text, bad, want)
	}
	if bad != -1 {
		if !sameAsk(a, impl.Ask{}) {
			t.Fatalf("AskRead(%q) = %v, %d", text, a, bad)
		}
		return
	}
	read, _ := impl.Tokens([]byte(text))
	written, fine := impl.Tokens([]byte(spellAsk(a)))
	if fine != -1 || !slices.EqualFunc(read, written, sameButAt) || !impl.AskOk(a) {
		t.Fatalf("AskRead(%q) = %s", text, spellAsk(a))
	}
	if again, bad := impl.AskRead(impl.AskText(a)); bad != -1 || !sameAsk(again, a) {
		t.Fatalf("AskRead(%q) = %s, which is read as %s, %d", text, spellAsk(a), spellAsk(again), bad)
	}
}

func wantAskPlace(t *testing.T, text string, place int) {
	t.Helper()
	if a, bad := impl.AskRead([]byte(text)); bad != place || !sameAsk(a, impl.Ask{}) {
		t.Errorf("AskRead(%q) = %v, %d; want the zero value, %d", text, a, bad, place)
	}
	if want := askPlaceByStack(text); want != place {
		t.Errorf("%q: the test's own reader tells %d, want %d", text, want, place)
	}
}

func wantAskRead(t *testing.T, text string, want impl.Ask) {
	t.Helper()
	if a, bad := impl.AskRead([]byte(text)); bad != -1 || !sameAsk(a, want) {
		t.Errorf("AskRead(%q) = %v, %d; want %s", text, a, bad, spellAsk(want))
	}
	checkAskRead(t, text)
}

func TestQuestionsAreNumbers(t *testing.T) {
	if got := []int{impl.AkSat, impl.AkSub, impl.AkIs, impl.AkGet, impl.AkWhole}; !slices.Equal(got, everybody(5)) || impl.MaxAsks != 12 {
		t.Error(got, impl.MaxAsks)
	}
}

func TestAskOkAndAskText(t *testing.T) {
	empty := impl.Con{Name: []byte{}, Role: []byte{}, Kids: []impl.Con{}}
	for _, c := range []struct {
		ask  impl.Ask
		text string
	}{
		{impl.Ask{}, "sat Top"},
		{askSat(named("A")), "sat A"},
		{askSat(and(named("A"), not(named("Abcdef")))), "sat And(A Not(Abcdef))"},
		{impl.Ask{Kind: impl.AkSat, C: bot, D: empty, A: []byte{}}, "sat Bot"},
		{askSub(named("A"), named("B")), "sub A B"},
		{askSub(top, top), "sub Top Top"},
		{impl.Ask{Kind: impl.AkSub}, "sub Top Top"},
		{askSub(some("r", named("A")), or(bot, every("s", top))), "sub Some(r A) Or(Bot All(s Top))"},
		{impl.Ask{Kind: impl.AkSub, C: named("B"), A: []byte{}}, "sub B Top"},
		{askIs("x", named("A")), "is x A"},
		{askIs("abcdef", top), "is abcdef Top"},
		{askIs("is", some("r", named("A"))), "is is Some(r A)"},
		{impl.Ask{Kind: impl.AkIs, A: []byte("x")}, "is x Top"},
		{askGet(named("A")), "get A"},
		{askGet(not(some("r", top))), "get Not(Some(r Top))"},
		{impl.Ask{Kind: impl.AkGet}, "get Top"},
		{askWhole(), "whole"},
		{impl.Ask{Kind: impl.AkWhole, C: empty, D: empty, A: []byte{}}, "whole"},
	} {
		if got := string(impl.AskText(c.ask)); !impl.AskOk(c.ask) || got != c.text {
			t.Errorf("AskText(%v) = %q, want %q", c.ask, got, c.text)
		}
	}
	for _, a := range someAsks() {
		wantAskFine(t, a)
	}
}

// plainAsks have one question of each kind, without what could hide a wrong field.
func plainAsks() []impl.Ask {
	return []impl.Ask{askSat(named("A")), askSub(named("A"), some("r", top)), askIs("x", not(named("A"))), askGet(every("r", named("B"))), askWhole()}
}

func TestWrongKindsOfQuestions(t *testing.T) {
	for _, kind := range []int{math.MinInt, -2, impl.AkSat - 1, impl.AkWhole + 1, impl.AkWhole + 2, 77, 1 << 32, math.MaxInt} {
		for _, a := range append(plainAsks(), impl.Ask{}) {
			a.Kind = kind
			wantAskRefused(t, a, fmt.Sprint("the kind ", kind))
		}
	}
}

func TestWrongConceptsInQuestions(t *testing.T) {
	for i, c := range append(refusedCons(), nots(100000, top), not(roundCon())) {
		why := fmt.Sprint("the wrong concept ", i)
		for _, a := range []impl.Ask{askSat(c), askSub(c, top), askSub(top, c), askSub(c, c), askIs("x", c), askGet(c)} {
			wantAskRefused(t, a, why)
		}
		// Where there may be none at all a wrong one may not be.
		for _, a := range plainAsks() {
			if a.Kind != impl.AkSub {
				a.D = c
				wantAskRefused(t, a, why+" as D")
			}
			if a.Kind == impl.AkWhole {
				a.C, a.D = c, impl.Con{}
				wantAskRefused(t, a, why+" as C")
			}
		}
	}
}

// Each kind but AkSub has no D, AkWhole no C.
func TestQuestionsWithConceptsOfOthers(t *testing.T) {
	fine := []impl.Con{bot, named("A"), not(top), and(top, top), or(top, bot), some("r", top), every("r", bot)}
	for _, c := range append(fine, edges()...) {
		for _, a := range plainAsks() {
			if a.Kind == impl.AkSub {
				continue
			}
			a.D = c
			wantAskRefused(t, a, fmt.Sprint("the kind ", a.Kind, " with D"))
		}
		wantAskRefused(t, impl.Ask{Kind: impl.AkWhole, C: c}, "AkWhole with C")
		wantAskRefused(t, impl.Ask{Kind: impl.AkWhole, C: c, D: c}, "AkWhole with C and D")
		for _, a := range asksOf(c, top, "x") {
			wantAskFine(t, a)
		}
	}
}

func TestIndividualsOfQuestions(t *testing.T) {
	for _, s := range []string{"x", "abcdef", "zzzzzz", "a", "sat", "sub", "is", "get", "whole"} {
		wantAskFine(t, askIs(s, top))
		wantAskFine(t, askIs(s, named("A")))
		for _, a := range plainAsks() {
			if a.Kind != impl.AkIs {
				a.A = []byte(s)
				wantAskRefused(t, a, fmt.Sprint("the kind ", a.Kind, " with ", s))
			}
		}
	}
	wantAskRefused(t, impl.Ask{Kind: impl.AkIs}, "no individual")
	wantAskRefused(t, impl.Ask{Kind: impl.AkIs, C: named("A"), A: []byte{}}, "an empty individual")
	for _, s := range append([]string{"X", "abcdefg", "x y", "\n"}, wrongLower...) {
		for _, a := range plainAsks() {
			a.A = []byte(s)
			wantAskRefused(t, a, fmt.Sprintf("the kind %d with %q", a.Kind, s))
		}
	}
}

func TestQuestionKindsWithTheFieldsOfOthers(t *testing.T) {
	for _, a := range []impl.Ask{{}, askSat(named("A")), askSub(named("A"), named("B")), askSub(top, bot), askIs("x", top), askIs("x", bot)} {
		for kind := -2; kind < 9; kind++ {
			a.Kind = kind
			want := map[int]bool{
				impl.AkSat: len(a.A) == 0 && spell(a.D) == "Top", impl.AkSub: len(a.A) == 0, impl.AkIs: len(a.A) == 1 && spell(a.D) == "Top",
				impl.AkGet: len(a.A) == 0 && spell(a.D) == "Top", impl.AkWhole: len(a.A) == 0 && spell(a.C)+spell(a.D) == "TopTop",
			}[kind]
			if impl.AskOk(a) != want {
				t.Errorf("AskOk(%v) = %v", a, !want)
			}
		}
	}
}

// Promise 1: questions come back from their texts.
func TestPromise1QuestionsComeBack(t *testing.T) {
	d := dice(140)
	list := someAsks()
	kinds := map[int]int{}
	for _, k := range drawnKbs(1500) {
		list = append(list, d.anyAsk(k))
	}
	for _, a := range list {
		kinds[a.Kind]++
		text := impl.AskText(a)
		got, bad := impl.AskRead(text)
		if bad != -1 || !sameAsk(got, a) {
			t.Fatalf("%q is read as %v, %d", text, got, bad)
		}
		if again := impl.AskText(got); !bytes.Equal(again, text) {
			t.Fatalf("%q is written again as %q", text, again)
		}
	}
	for kind := impl.AkSat; kind <= impl.AkWhole; kind++ {
		if kinds[kind] < 300 {
			t.Error(kinds, ": too few to tell")
		}
	}
}

// Promise 1: the longest texts that questions have are far from too long.
func TestPromise1LongQuestionsComeBack(t *testing.T) {
	two := some("abcdef", some("zyxwvu", named("Abcdef")))
	great := append(edges(), or(some("abcdef", or(two, two)), and(two, two)), or(some("abcdef", bush(3, "Abcdef")), every("zyxwvu", bush(2, "Zyxwvu"))))
	for _, c := range great {
		for _, d := range great {
			for _, a := range asksOf(c, d, "abcdef") {
				wantAskFine(t, a)
				if got, bad := impl.AskRead(impl.AskText(a)); bad != -1 || !sameAsk(got, a) {
					t.Fatalf("%s is read as %v, %d", spellAsk(a), got, bad)
				}
			}
		}
	}
}

func TestPromise1QuestionsComeBackWithOtherBlanks(t *testing.T) {
	for _, a := range someAsks() {
		list, _ := impl.Tokens(impl.AskText(a))
		spread := string(impl.TokenText(list))
		tight := strings.NewReplacer("( ", "(", " (", "(", " )", ")").Replace(spread)
		tight = regexp.MustCompile(` ([A-Z])`).ReplaceAllString(tight, "$1")
		for _, text := range []string{
			spread, tight, " " + spread, "   " + spread + "   ", "\n" + spread + "\n", spread + "  \n ",
			strings.ReplaceAll(spread, " ", "   "), strings.ReplaceAll(spread, " ", "\n"), strings.ReplaceAll(spread, " ", " \n  \n"),
		} {
			got, bad := impl.AskRead([]byte(text))
			if bad != -1 || !sameAsk(got, a) {
				t.Fatalf("%q is read as %v, %d", text, got, bad)
			}
		}
	}
}

func TestAskRead(t *testing.T) {
	wantAskRead(t, "sat A", askSat(named("A")))
	wantAskRead(t, "sat Top", impl.Ask{})
	wantAskRead(t, "satA", askSat(named("A")))
	wantAskRead(t, "sub A B", askSub(named("A"), named("B")))
	wantAskRead(t, "sub Top Bot", askSub(top, bot))
	wantAskRead(t, "sub Bot Top", askSub(bot, top))
	wantAskRead(t, "subAB", askSub(named("A"), named("B")))
	wantAskRead(t, "sub And(A B)C", askSub(and(named("A"), named("B")), named("C")))
	wantAskRead(t, "is x A", askIs("x", named("A")))
	wantAskRead(t, "is  x  Some( r A )", askIs("x", some("r", named("A"))))
	wantAskRead(t, "is is Isa", askIs("is", named("Isa")))
	wantAskRead(t, "is whole Top", askIs("whole", top))
	wantAskRead(t, "is sat A", askIs("sat", named("A")))
	wantAskRead(t, "get Not(A)", askGet(not(named("A"))))
	wantAskRead(t, "get\nA", askGet(named("A")))
	wantAskRead(t, "whole", askWhole())
	wantAskRead(t, "   whole\n ", askWhole())
	// Names may look like words of questions.
	wantAskRead(t, "sub Sat Whole", askSub(named("Sat"), named("Whole")))
	wantAskRead(t, "sat Get", askSat(named("Get")))
	wantAskRead(t, "get Some(sat A)", askGet(some("sat", named("A"))))
}

func TestAskReadTellsThePlace(t *testing.T) {
	for _, c := range []struct {
		text  string
		place int
	}{
		// That of Tokens, whatever stands ahead of it.
		{"?", 0}, {"sat ?", 4}, {"what ?", 5}, {"A ?", 2}, {"sub A B1", 7}, {"is x1 A", 4}, {"whole\t", 5}, {"whole whole Abcdefg", 12}, {"is abcdefg A", 3}, {"sat A\r", 5}, {"sat A;", 5},
		// Words that are no question.
		{"what", 0}, {" what A", 1}, {"sats A", 0}, {"sa A", 0}, {"s", 0}, {"su A B", 0}, {"iss x A", 0}, {"isx A", 0}, {"i x A", 0}, {"gets A", 0}, {"ge A", 0}, {"wholes", 0}, {"whol", 0}, {"wholeA", 5}, {"x is A", 0},
		{"Sat A", 0}, {"Sub A B", 0}, {"Sub(A B)", 0}, {"Is(x A)", 0}, {"Is x A", 0}, {"Get A", 0}, {"Whole", 0}, {"A", 0}, {"Top", 0}, {"(", 0}, {")", 0}, {"(whole)", 0}, {"(sat A)", 0}, {"SAT A", 0}, {"\n A", 2},
		// What can't stand where it does.
		{"sat x", 4}, {"sat (A)", 4}, {"sat(A)", 3}, {"sat)", 3}, {"sat sat A", 4}, {"sat Sub", 4}, {"sat Sub(A B)", 4}, {"sat Is", 4}, {"sat  Role(r s)", 5},
		{"sub x A", 4}, {"sub A x", 6}, {"sub(A B)", 3}, {"sub A (B)", 6}, {"sub A Eq", 6}, {"sub Dis A", 4}, {"sub sub A B", 4}, {"sub A sub", 6},
		{"is A", 3}, {"is A x", 3}, {"is X A", 3}, {"is(x A)", 2}, {"is x(A)", 4}, {"is x y", 5}, {"is x y A", 5}, {"is x Rel", 5}, {"is Top A", 3}, {"is is is", 6},
		{"get x", 4}, {"get x A", 4}, {"get(A)", 3}, {"get Is", 4}, {"get get A", 4},
		// Those of ConRead within a concept.
		{"sat And(A)", 9}, {"sat And(A B C)", 12}, {"sat And A B", 8}, {"sub Not(A B) C", 10}, {"sub A Some(A)", 11}, {"is x Some(r s)", 12}, {"get All(r)", 9}, {"get Not(Sub)", 8}, {"sat Or(A Rel)", 9},
		{"sat Not(Not(Not(Not(Not(Not(A))))))", 28}, {"sub A Not(Not(Not(Not(Not(Not(A))))))", 30}, {"sub Not(Not(Not(Not(Not(Not(\n A", 30}, {"is x Not(Not(Not(Not(Not(Not(A))))))", 29}, {"get Not(Not(Not(Not(Not(Not(", 28}, {"get Not(Not(Not(Not(Not(Not( ", 29},
		// What is missing: how many bytes there are.
		{"", 0}, {" ", 1}, {" \n\n", 3}, {"sat", 3}, {"sat ", 4}, {"sat\n\n", 5}, {"sub", 3}, {"sub A", 5}, {"sub A  ", 7}, {"sub And(A B)", 12}, {"is", 2}, {"is ", 3}, {"is x", 4}, {"is x ", 5}, {"get", 3}, {"get\n", 4},
		{"sat And(A B", 11}, {"sat And(A", 9}, {"sat Not(", 8}, {"sub A Some(r", 12}, {"sub A Some(r B", 14}, {"is x All(", 9}, {"get Not", 7},
		// What is too much.
		{"sat A B", 6}, {"sat A x", 6}, {"sat A)", 5}, {"sat A(", 5}, {"sat Top Top", 8}, {"sat Top(A)", 7}, {"sat A sat A", 6}, {"sat AB", 5}, {"sub A B C", 8}, {"sub A B\n\nC", 9}, {"sub A B)", 7}, {"sub A B whole", 8},
		{"is x A B", 7}, {"is x A x", 7}, {"is x A)", 6}, {"is x A is y A", 7}, {"get A B", 6}, {"get A x", 6}, {"get A\nget B", 6}, {"whole A", 6}, {"whole Top", 6}, {"whole x", 6}, {"whole whole", 6}, {"whole()", 5}, {"whole)", 5}, {"whole\nsat A", 6},
	} {
		wantAskPlace(t, c.text, c.place)
	}
}

func TestAskReadOfTooManyParts(t *testing.T) {
	for _, c := range tooBig() {
		if deepOf(c) > impl.MaxDeep {
			continue
		}
		for _, a := range []impl.Ask{askSat(c), askSub(c, top), askSub(top, c), askSub(c, c), askIs("x", c), askGet(c)} {
			text := spellAsk(a)
			wantAskPlace(t, text, len(text))
			wantAskPlace(t, text+" \n", len(text)+2)
			wantAskPlace(t, "  "+text, len(text)+2)
			// A token that can't stand where it does counts first, wherever it is.
			wantAskPlace(t, text+" A \n", len(text)+1)
			wantAskPlace(t, text+")x", len(text))
		}
		text := "sub " + spell(c)
		wantAskPlace(t, text, len(text))
		wantAskPlace(t, text+" x ", len(text)+1)
		wantAskPlace(t, text[:len(text)-1], len(text)-1)
	}
	// Parts are those of one concept, not of the question.
	for _, c := range edges() {
		for _, d := range edges() {
			checkAskRead(t, spellAsk(askSub(c, d)))
		}
	}
}

func TestAskReadOfLongTexts(t *testing.T) {
	for _, a := range plainAsks() {
		text := spellAsk(a)
		for _, blank := range []string{" ", "\n"} {
			room := strings.Repeat(blank, impl.MaxText-len(text))
			for _, whole := range []string{text + room, room + text, strings.Replace(text, " ", " "+room, 1)} {
				if len(whole) == impl.MaxText {
					wantAskRead(t, whole, a)
					wantAskPlace(t, whole+blank, 0)
					wantAskPlace(t, blank+whole, 0)
				}
			}
		}
		wantAskPlace(t, text+strings.Repeat(" ", impl.MaxText-len(text)-1)+"(", impl.MaxText-1)
		wantAskPlace(t, text+strings.Repeat(" ", impl.MaxText-len(text))+"(", 0)
	}
	wantAskPlace(t, "sub A"+strings.Repeat(" ", impl.MaxText-5), impl.MaxText)
	wantAskPlace(t, "sub A"+strings.Repeat(" ", impl.MaxText-4), 0)
	wantAskPlace(t, strings.Repeat("\n", impl.MaxText), impl.MaxText)
	wantAskPlace(t, strings.Repeat("\n", impl.MaxText+1), 0)
	wantAskPlace(t, strings.Repeat("whole ", impl.MaxText/6), 6)
	wantAskPlace(t, strings.Repeat("(", 1<<20), 0)
}

func TestAskReadOfAllShortTexts(t *testing.T) {
	words := func(alphabet string, most int, head string) {
		list := strings.Fields(alphabet)
		eachText("", "0123456789"[:len(list)], most, func(s string) {
			out := head
			for i := range s {
				out += list[s[i]-'0'] + " "
			}
			checkAskRead(t, out)
		})
	}
	words("sat sub is get whole A x ( )", 5, "")
	words("A Top Not Some Sub x ( )", 5, "sub ")
	words("A Top Not Some Is x ( )", 5, "is ")
	words("A Not x ( )", 6, "sat ")
	words("A Not x ( )", 6, "get ")
	words("whole A x ( )", 4, "whole ")
	words("Sub Eq Is Rel what sat A", 4, "")
	eachText("", "isxA( \n?", 5, func(s string) { checkAskRead(t, s) })
	eachText("", "satA \n", 6, func(s string) { checkAskRead(t, s) })
}

func TestAskReadOfTextsWithOneTokenWrong(t *testing.T) {
	others := []string{"A", "Top", "Not", "And", "Some", "Sub", "Is", "sat", "sub", "is", "get", "whole", "x", "(", ")", "?", "\n"}
	for at, a := range someAsks() {
		// Each time many texts: some of the questions stand for all.
		if at%5 > 0 {
			continue
		}
		list := regexp.MustCompile(`[A-Za-z][a-z]*|[()]`).FindAllString(spellAsk(a), -1)
		for i := range list {
			checkAskRead(t, strings.Join(list[:i], " "))
			checkAskRead(t, strings.Join(slices.Delete(slices.Clone(list), i, i+1), " "))
			for _, s := range others {
				checkAskRead(t, strings.Join(slices.Insert(slices.Clone(list), i, s), "\n"))
				checkAskRead(t, strings.Join(slices.Replace(slices.Clone(list), i, i+1, s), " "))
			}
		}
		for _, s := range others {
			checkAskRead(t, spellAsk(a)+" "+s)
		}
	}
}

func wantTold(t *testing.T, kb, ask, want string) {
	t.Helper()
	k := readKb(t, kb)
	a, bad := impl.AskRead([]byte(ask))
	if bad != -1 {
		t.Fatal(ask, bad)
	}
	if got := tellTold(impl.Answer(k, a)); got != want {
		t.Errorf("%s: %s is answered %s, not %s", kb, ask, got, want)
	}
	if own := tellTold(toldByWords(k, a)); own != want {
		t.Errorf("%s: the test's own way to %s tells %s, not %s", kb, ask, own, want)
	}
	list, bad := impl.Desk([]byte(kb), []byte(ask))
	if got := tellAll(list); bad != -1 || !slices.Equal(got, []string{want}) {
		t.Errorf("%s: the desk tells %q, %d of %s, not %s", kb, got, bad, ask, want)
	}
}

func TestAnswer(t *testing.T) {
	kb := "Sub(A Some(r B)) Role(r s) Sub(Some(s B) C) Is(x A) Rel(s y x) Is(z Not(C))"
	for ask, want := range map[string]string{
		"sat A": "AnYes", "sat Bot": "AnNo", "sat Top": "AnYes", "sat And(A Not(C))": "AnNo", "sat And(C Not(A))": "AnYes", "sat New": "AnYes",
		"sub A C": "AnYes", "sub C A": "AnNo", "sub A Top": "AnYes", "sub Top A": "AnNo", "sub Bot A": "AnYes", "sub New A": "AnNo", "sub A Some(s Top)": "AnYes", "sub Top Top": "AnYes",
		"is x A": "AnYes", "is x C": "AnYes", "is y C": "AnNo", "is y Some(s A)": "AnYes", "is z A": "AnNo", "is z Not(A)": "AnYes", "is x Top": "AnYes", "is x New": "AnNo",
		"get A": "AnYes x", "get C": "AnYes x", "get Some(s Top)": "AnYes x y", "get Top": "AnYes x y z", "get Bot": "AnYes", "get Not(A)": "AnYes z", "get New": "AnYes",
		"whole": "AnYes",
		// Who is none of those who are told of, be the word a role or be it none.
		"is w A": "AnForm", "is r Top": "AnForm", "is xx A": "AnForm", "is is Top": "AnForm",
		// More roles than clauses can have; of nobody Retrieve asks.
		"sat All(t All(u A))": "AnBig", "sub A All(t All(u A))": "AnBig", "is x All(t All(u A))": "AnBig", "get All(t All(u A))": "AnBig", "is w All(t All(u A))": "AnForm",
	} {
		wantTold(t, kb, ask, want)
	}
	// Of what can't be all is so, and nobody may be of anything.
	for ask, want := range map[string]string{"whole": "AnNo", "sat A": "AnNo", "sat Top": "AnNo", "sub A B": "AnYes", "sub Top Bot": "AnYes", "is x B": "AnYes", "get B": "AnYes x y", "is z Top": "AnForm"} {
		wantTold(t, "Is(y A) Is(x A) Dis(A A)", ask, want)
	}
	// Of nothing that is told.
	for ask, want := range map[string]string{"whole": "AnYes", "sat A": "AnYes", "sat And(A Not(A))": "AnNo", "sub A A": "AnYes", "sub A B": "AnNo", "is x Top": "AnForm", "get Top": "AnYes", "get All(t All(u All(v All(w A))))": "AnYes"} {
		wantTold(t, "", ask, want)
	}
	// Nothing of the names of some, where of one it is not found out.
	for _, c := range full {
		wantTold(t, c.kb, "get "+c.c, "AnBig")
		for i, ind := range wordsOf(readKb(t, c.kb), top).inds {
			wantTold(t, c.kb, "is "+ind+" "+c.c, answerWord(c.codes[i]))
		}
	}
	wantTold(t, full[0].kb, "whole", "AnBig")
	wantTold(t, full[0].kb, "sub A A", "AnBig")
}

func TestAnswerOfWhatIsNotOk(t *testing.T) {
	for i, k := range refusedKbs() {
		for _, a := range append(plainAsks(), impl.Ask{}, impl.Ask{Kind: -1}, askSat(impl.Con{Kind: 9}), askSub(bot, top), askGet(top), askIs("x", top), askIs("a", top)) {
			if w := impl.Answer(k, a); !sameTold(w, impl.Told{Code: impl.AnForm}) {
				t.Errorf("the wrong axioms %d: %s", i, tellTold(w))
			}
		}
	}
	// AnForm comes ahead of all that could be found out.
	big := readCon(t, "Some(a Some(b Some(c Some(d Top))))")
	for i, c := range refusedCons() {
		for _, a := range []impl.Ask{askSub(big, c), askSub(c, big), askSub(bot, c), {Kind: impl.AkSat, C: bot, D: c}, {Kind: impl.AkWhole, D: c}, {Kind: impl.AkGet, C: big, D: c}} {
			wantAskRefused(t, a, fmt.Sprint("the wrong concept ", i))
		}
	}
}

// Promise 14: questions are answered as Possible, Under, Member, Retrieve and Consistent answer, and as the words say.
func TestPromise14QuestionsAreAnsweredAsTheyAreAsked(t *testing.T) {
	count := map[string]int{}
	d := dice(141)
	var list []drawnAsk
	for _, q := range append(drawnAsks(700), fullAsks(t)...) {
		list = append(list, q, drawnAsk{q.k, d.relatedCon(q.k), q.c})
	}
	for _, q := range list {
		if !okByWords(q.c) || !okByWords(q.d) {
			continue
		}
		names, code := impl.Retrieve(q.k, q.c)
		want := map[int]impl.Told{
			impl.AkSat: {Code: impl.Possible(q.k, q.c)}, impl.AkGet: {Code: code, Names: names}, impl.AkWhole: {Code: impl.Consistent(q.k)},
		}
		for _, a := range asksOf(q.c, q.d, []string{"x", "y", "z", "w"}[d.below(4)]) {
			want[impl.AkSub] = impl.Told{Code: impl.Under(q.k, a.C, a.D)}
			want[impl.AkIs] = impl.Told{Code: impl.Member(q.k, a.A, a.C)}
			got := impl.Answer(q.k, a)
			if !sameTold(got, want[a.Kind]) || !sameTold(got, toldByWords(q.k, a)) {
				t.Fatalf("%s%s: %s, not %s; the test's own way tells %s", spellKb(q.k), spellAsk(a), tellTold(got), tellTold(want[a.Kind]), tellTold(toldByWords(q.k, a)))
			}
			count[fmt.Sprint(a.Kind, " ", answerWord(got.Code), len(got.Names))]++
		}
	}
	for _, what := range []string{"0 AnYes0", "0 AnNo0", "0 AnBig0", "1 AnYes0", "1 AnNo0", "1 AnBig0", "2 AnYes0", "2 AnNo0", "2 AnBig0", "2 AnForm0",
		"3 AnYes0", "3 AnYes1", "3 AnYes2", "3 AnYes3", "3 AnBig0", "4 AnYes0", "4 AnNo0", "4 AnBig0"} {
		if count[what] < 15 {
			t.Error(what, count[what], ": too few to tell")
		}
	}
}

func wantDesk(t *testing.T, kb, asks string, want ...string) {
	t.Helper()
	list, bad := impl.Desk([]byte(kb), []byte(asks))
	if got := tellAll(list); bad != -1 || !slices.Equal(got, want) {
		t.Errorf("Desk(%q, %q) = %q, %d; want %q", kb, asks, got, bad, want)
	}
}

func TestDesk(t *testing.T) {
	kb := "Sub(A B) Is(x A) Is(y Not(B))"
	wantDesk(t, kb, "sub A B\nis x B\nget Not(A)\nsat And(A Not(B))\nwhole\n", "AnYes", "AnYes", "AnYes y", "AnNo", "AnYes")
	// A last line without a byte 10 behind it is one as well.
	wantDesk(t, kb, "sub A B", "AnYes")
	wantDesk(t, kb, "sub A B\n", "AnYes")
	wantDesk(t, kb, "sub A B\nsub B A", "AnYes", "AnNo")
	wantDesk(t, kb, "get A", "AnYes x")
	// No lines, and empty ones.
	for _, asks := range []string{"", "\n", "\n\n", strings.Repeat("\n", 5000)} {
		wantDesk(t, kb, asks)
		wantDesk(t, "", asks)
		wantDesk(t, "Sub(Top Bot)", asks)
	}
	if list, bad := impl.Desk(nil, nil); bad != -1 || len(list) != 0 {
		t.Error(list, bad)
	}
	wantDesk(t, kb, "\n\nsub A B\n\n\nget B\n\n", "AnYes", "AnYes x")
	wantDesk(t, kb, "\nwhole", "AnYes")
	// Nothing is told in a text of blanks, or in none.
	wantDesk(t, "", "whole\nsat A\nsub A B\nget A\nis x A", "AnYes", "AnYes", "AnNo", "AnYes", "AnForm")
	wantDesk(t, " \n ", "whole\nget Top", "AnYes", "AnYes")
	wantDesk(t, "Is(x Bot)", "whole\nget A\nsub A B", "AnNo", "AnYes x", "AnYes")
	// A question is within its line, and alone there.
	wantDesk(t, kb, "sub A\nB", "AnForm", "AnForm")
	wantDesk(t, kb, "sub\nA B", "AnForm", "AnForm")
	wantDesk(t, kb, "sat A sat B\nwhole", "AnForm", "AnYes")
	wantDesk(t, kb, "sat And(A\nNot(B))", "AnForm", "AnForm")
	wantDesk(t, kb, "   is   x   A  \nsubA B", "AnYes", "AnYes")
	// The same question again is the same answer again.
	wantDesk(t, kb, "get A\nget A\nget A", "AnYes x", "AnYes x", "AnYes x")
}

func TestDeskOfLinesThatAreNoQuestion(t *testing.T) {
	kb := "Sub(A B) Is(x A)"
	for _, line := range []string{" ", "     ", "\t", "\r", "?", "sub A", "sub A B C", "sub", "what A", "Sub(A B)", "A", "whole A", "is A x", "is x", "get", "get x", "sat Sub", "sat And(A)", "sat A)", "whole\r", "\x00", "\xff",
		"sat " + spell(nots(6, top)), "sat " + spell(bush(5, "A")), "sub " + spell(tooBig()[0]) + " A", "get " + spell(tooBig()[1]), "whole" + strings.Repeat(" ", impl.MaxText-4), "sat abcdefg", "is y A"} {
		wantDesk(t, kb, line, "AnForm")
		wantDesk(t, kb, line+"\n", "AnForm")
		wantDesk(t, kb, "get A\n"+line+"\nsub B A\n", "AnYes x", "AnForm", "AnNo")
		wantDesk(t, kb, line+"\n\n"+line+"\nwhole", "AnForm", "AnForm", "AnYes")
		if _, bad := impl.AskRead([]byte(line)); bad == -1 && line != "is y A" {
			t.Errorf("%q is a question", line)
		}
	}
	// A line may be as long as a text, and all lines together longer.
	long := "get A" + strings.Repeat(" ", impl.MaxText-5)
	wantDesk(t, kb, strings.Repeat(long+"\n", 4), "AnYes x", "AnYes x", "AnYes x", "AnYes x")
	wantDesk(t, kb, long+" \n"+long+"\n "+long, "AnForm", "AnYes x", "AnForm")
}

func TestDeskTellsThePlace(t *testing.T) {
	long := "Is(x A)" + strings.Repeat("\n", impl.MaxText-7)
	wantDesk(t, long, "is x A", "AnYes")
	many := strings.Repeat("Sub(A B)\n", impl.MaxAxioms)
	wantDesk(t, many, "sub A B", "AnYes")
	for _, c := range []struct {
		text  string
		place int
	}{
		{"?", 0}, {"Sub(A", 5}, {"Sub(A B) ?", 9}, {"Sub(A B) A", 9}, {"sub A B", 0}, {"whole", 0}, {"Sub(A B))", 8}, {"Is(x A) And(A B)", 8}, {"Sub(A Sub)", 6}, {"\nTop", 1}, {"Is(A x)", 3},
		{"Sub(" + spell(nots(6, top)) + " A)", 28}, {long + " ", 0}, {many + "Sub(A B)", len(many) + 8}, {"Role(a b) Role(c d)\n", 20}, {"Is(a Top) Is(b Top) Is(c Top) Is(d Top)", 39},
	} {
		for _, asks := range []string{"", "\n", "whole", "sat A\nwhat\n\nget Top", strings.Repeat("whole\n", impl.MaxAsks+1), strings.Repeat(" ", impl.MaxText+1)} {
			list, bad := impl.Desk([]byte(c.text), []byte(asks))
			if len(list) != 0 || bad != c.place {
				t.Errorf("Desk(%q, %q) = %q, %d; want nothing, %d", c.text, asks, tellAll(list), bad, c.place)
			}
		}
		if _, bad := impl.KbRead([]byte(c.text)); bad != c.place {
			t.Errorf("KbRead(%q) tells %d", c.text, bad)
		}
	}
}

func TestDeskOfMostLines(t *testing.T) {
	kb := "Sub(A B) Is(x A)"
	lines := []string{"get A", "sub B A", "what", "sub A B", "sat Bot", "is x B", " ", "whole", "is y A", "get Bot", "sub A", "is x Not(B)", "get Top", "whole", "?"}
	want := []string{"AnYes x", "AnNo", "AnForm", "AnYes", "AnNo", "AnYes", "AnForm", "AnYes", "AnForm", "AnYes", "AnForm", "AnNo", "AnYes x", "AnYes", "AnForm"}
	for n := range len(lines) + 1 {
		most := min(n, impl.MaxAsks)
		for _, between := range []string{"\n", "\n\n", "\n\n\n\n"} {
			asks := strings.Join(lines[:n], between)
			wantDesk(t, kb, asks, want[:most]...)
			// Empty lines are none, ahead and behind as well.
			wantDesk(t, kb, asks+between, want[:most]...)
			wantDesk(t, kb, strings.Repeat("\n", 2*impl.MaxAsks)+asks, want[:most]...)
		}
	}
	// Lines that are no question count, and those behind MaxAsks do not, whatever they are.
	bad := slices.Repeat([]string{"AnForm"}, impl.MaxAsks)
	wantDesk(t, kb, strings.Repeat("what\n", impl.MaxAsks), bad...)
	wantDesk(t, kb, strings.Repeat("what\n", impl.MaxAsks)+"whole\n", bad...)
	wantDesk(t, kb, strings.Repeat("what\n", impl.MaxAsks-1)+"whole\n", append(bad[:impl.MaxAsks-1:impl.MaxAsks-1], "AnYes")...)
	wantDesk(t, kb, strings.Repeat("whole\n", 1000), slices.Repeat([]string{"AnYes"}, impl.MaxAsks)...)
	wantDesk(t, kb, strings.Repeat(" \n", 1<<20), bad...)
}

// spoiledLine draws a line that may be no question.
func (d *dice) spoiledLine(k impl.Kb) string {
	line := spellAsk(d.anyAsk(k))
	switch d.below(8) {
	case 0:
		return ""
	case 1:
		return line[:d.below(len(line))]
	case 2:
		return line + []string{" A", " x", ")", "?", " "}[d.below(5)]
	case 3:
		return strings.ReplaceAll(line, " ", "   ")
	}
	return line
}

// Promise 14: line by line, each as it is alone.
func TestPromise14LineByLine(t *testing.T) {
	d := dice(142)
	count := map[string]int{}
	for _, k := range append(drawnKbs(300), fullKb()) {
		if len(spellKb(k)) > impl.MaxText {
			continue
		}
		var lines, want []string
		for range d.below(impl.MaxAsks + 4) {
			line := d.spoiledLine(k)
			lines = append(lines, line)
			if line == "" {
				continue
			}
			alone, bad := impl.Desk([]byte(spellKb(k)), []byte(line))
			a, place := impl.AskRead([]byte(line))
			own := impl.Told{Code: impl.AnForm}
			if place == -1 {
				own = toldByWords(k, a)
			}
			if bad != -1 || len(alone) != 1 || !sameTold(alone[0], own) || (askPlaceByStack(line) == -1) != (place == -1) {
				t.Fatalf("%s%q: %q, %d, not %s", spellKb(k), line, tellAll(alone), bad, tellTold(own))
			}
			count[answerWord(own.Code)]++
			want = append(want, tellTold(own))
		}
		if len(want) > impl.MaxAsks {
			want = want[:impl.MaxAsks]
			count["most"]++
		}
		wantDesk(t, spellKb(k), strings.Join(lines, "\n"), want...)
		wantDesk(t, spellKb(k), strings.Join(lines, "\n")+"\n", want...)
	}
	for _, what := range []string{"AnYes", "AnNo", "AnForm"} {
		if count[what] < 200 {
			t.Error(count, ": too few to tell")
		}
	}
	if count["AnBig"] < 20 || count["most"] < 20 {
		t.Error(count, ": too few to tell")
	}
}

// roomyAsk is a, with other things behind the length of each list.
func roomyAsk(a impl.Ask) impl.Ask {
	return impl.Ask{Kind: a.Kind, C: roomyCon(a.C), D: roomyCon(a.D), A: roomyBytes(a.A)}
}

// spoilTold writes over all that answers have: they are the caller's own.
func spoilTold(list []impl.Told) {
	for _, w := range list {
		for _, name := range w.Names {
			for i := range name[:cap(name)] {
				name[:cap(name)][i] = '?'
			}
		}
		clear(w.Names[:cap(w.Names)])
	}
	for i := range list[:cap(list)] {
		list[:cap(list)][i] = impl.Told{Code: -7}
	}
}

func TestQuestionsShareNoMemory(t *testing.T) {
	for _, plain := range someAsks() {
		a := roomyAsk(plain)
		before := snapshot(a)
		for range 2 {
			text := impl.AskText(a)
			wantApart(t, text, a)
			if !impl.AskOk(a) || string(text) != spellAsk(plain) {
				t.Fatalf("%s is written %q: what lies behind the lengths is read", spellAsk(plain), text)
			}
			source := roomyBytes(text)
			room := snapshot(source)
			read, bad := impl.AskRead(source)
			wantApart(t, read, source, a)
			if bad != -1 || !sameAsk(read, plain) || snapshot(source) != room {
				t.Fatalf("%s: reading it changes it, or reads %v, %d", spellAsk(plain), read, bad)
			}
			for i := range text[:cap(text)] {
				text[:cap(text)][i] = '?'
			}
		}
		if snapshot(a) != before {
			t.Fatalf("%s is changed", spellAsk(plain))
		}
	}
	// What lies behind a text could make it right, or wrong.
	for _, c := range []struct {
		text  string
		long  int
		place int
	}{{"sub A B", 5, 5}, {"sub A B", 6, 6}, {"sub A B C", 7, -1}, {"whole ?", 6, -1}, {"sat And(A B)", 11, 11}, {"is xyz A", 4, 4}, {"sat Abcdefg", 10, -1}} {
		if _, bad := impl.AskRead([]byte(c.text)[:c.long]); bad != c.place {
			t.Errorf("AskRead of the first %d of %q tells %d", c.long, c.text, bad)
		}
	}
}

func TestAnswersShareNoMemory(t *testing.T) {
	d := dice(143)
	for _, q := range append(drawnAsks(250), fullAsks(t)...) {
		if len(spellKb(q.k)) > impl.MaxText {
			continue
		}
		k, before := roomyKb(q.k), snapshot(roomyKb(q.k))
		var lines []string
		for _, plain := range append(asksOf(q.c, q.d, "x"), askGet(top), askGet(bot), d.anyAsk(q.k)) {
			lines = append(lines, spellAsk(plain))
			a := roomyAsk(plain)
			asked := snapshot(a)
			want := tellTold(impl.Answer(q.k, plain))
			for range 2 {
				w := impl.Answer(k, a)
				wantApart(t, w, k, a)
				if tellTold(w) != want {
					t.Fatalf("%s%s: %s, not %s: what lies behind the lengths is read, or an answer is kept", spellKb(q.k), spellAsk(plain), tellTold(w), want)
				}
				spoilTold([]impl.Told{w})
			}
			if snapshot(a) != asked || snapshot(k) != before {
				t.Fatalf("%s%s is changed", spellKb(q.k), spellAsk(plain))
			}
		}
		text, asks := roomyBytes([]byte(spellKb(q.k))), roomyBytes([]byte(strings.Join(lines, "\n")))
		room := snapshot(text) + snapshot(asks)
		first := ""
		for i := range 2 {
			list, bad := impl.Desk(text, asks)
			wantApart(t, list, text, asks)
			if got := fmt.Sprintf("%q", tellAll(list)); bad != -1 || len(list) != len(lines) || i > 0 && got != first {
				t.Fatalf("%s%s: %s, %d; first %s", spellKb(q.k), asks, got, bad, first)
			} else {
				first = got
			}
			spoilTold(list)
		}
		if snapshot(text)+snapshot(asks) != room {
			t.Fatalf("%s%s is changed", text, asks)
		}
	}
}

// Lists of the arguments may be one and the same.
func TestQuestionsOfListsThatShareMemory(t *testing.T) {
	word, kids := []byte("r"), []impl.Con{named("A")}
	c := impl.Con{Kind: impl.CnAll, Role: word, Kids: kids}
	k := told(impl.Axiom{Kind: impl.AxIs, A: word, C: c}, impl.Axiom{Kind: impl.AxRel, R: word, A: word, B: word})
	for _, q := range []struct {
		ask  impl.Ask
		want string
	}{{askSub(c, c), "AnYes"}, {impl.Ask{Kind: impl.AkIs, A: word, C: kids[0]}, "AnYes"}, {askGet(c), "AnYes r"}, {askSat(c), "AnYes"}, {askSub(kids[0], c), "AnNo"}} {
		w := impl.Answer(k, q.ask)
		wantApart(t, w, k, q.ask, word)
		wantApart(t, impl.AskText(q.ask), k, q.ask, word)
		if tellTold(w) != q.want {
			t.Errorf("%s: %s, not %s", spellAsk(q.ask), tellTold(w), q.want)
		}
	}
	// What is told and what is asked may be one text, or pieces of one.
	text := []byte("Is(x A)\nget A\nwhole")
	list, bad := impl.Desk(text[:7], text[7:])
	wantApart(t, list, text)
	if bad != -1 || !slices.Equal(tellAll(list), []string{"AnYes x", "AnYes"}) {
		t.Error(tellAll(list), bad)
	}
	list, bad = impl.Desk(text[:7], text[:7])
	if bad != -1 || !slices.Equal(tellAll(list), []string{"AnForm"}) || string(text) != "Is(x A)\nget A\nwhole" {
		t.Error(tellAll(list), bad, string(text))
	}
}

func TestDeskAnswersStayTheSame(t *testing.T) {
	ask := func() string {
		list, bad := impl.Desk([]byte("Sub(A B) Is(y A) Is(x B)"), []byte("get B\nsub A B\nwhat\nis x A\nwhole"))
		a, at := impl.AskRead([]byte("is x And(A B)"))
		_, wrong := impl.AskRead([]byte("sub A ("))
		return fmt.Sprint(tellAll(list), bad, spellAsk(a), at, wrong, string(impl.AskText(askSub(named("A"), top))))
	}
	first := ask()
	for range 20 {
		impl.Desk([]byte("Is(z Bot)"), []byte("get A\nsat B"))
		impl.Desk([]byte("Sub("), []byte("whole"))
		impl.AskRead([]byte("sub C D"))
		impl.Answer(fullKb(), askGet(top))
		if ask() != first {
			t.Fatal("an answer hangs on an earlier call")
		}
	}
}
