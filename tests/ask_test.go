package tests

import (
	"fmt"
	"slices"
	"strings"
	"testing"

	"loop.example/g00534/impl"
)

var answerWords = []string{"AnNo", "AnYes", "AnBig", "AnForm"}

func answerWord(code int) string {
	if code < 0 || code >= len(answerWords) {
		return fmt.Sprint(code)
	}
	return answerWords[code]
}

// foundByWords is another way to what is found out: all clauses are told by texts, and then counted.
func foundByWords(k impl.Kb, c impl.Con) (impl.Run, int) {
	n := clausifyByWords(k, c)
	if n.big() || len(n.list) > impl.MaxKept {
		return impl.Run{}, impl.AnBig
	}
	r := impl.Saturate(n.list)
	switch r.Code {
	case impl.RsRefuted:
		return r, impl.AnNo
	case impl.RsFull:
		return r, impl.AnBig
	}
	return r, impl.AnYes
}

func otherByWords(code int) int {
	switch code {
	case impl.AnNo:
		return impl.AnYes
	case impl.AnYes:
		return impl.AnNo
	}
	return code
}

func possibleByWords(k impl.Kb, c impl.Con) int {
	_, code := foundByWords(k, c)
	return code
}

func underByWords(k impl.Kb, c, d impl.Con) int {
	return otherByWords(possibleByWords(k, and(c, turned(d, true))))
}

func memberByWords(k impl.Kb, ind string, c impl.Con) int {
	return otherByWords(possibleByWords(more(k, is(ind, turned(c, true))), top))
}

func retrieveByWords(k impl.Kb, c impl.Con) ([]string, int) {
	var list []string
	big := false
	for _, ind := range wordsOf(k, c).inds {
		switch memberByWords(k, ind, c) {
		case impl.AnYes:
			list = append(list, ind)
		case impl.AnBig:
			big = true
		}
	}
	if big {
		return nil, impl.AnBig
	}
	return list, impl.AnYes
}

// only is what is told by the axioms of these numbers.
func only(k impl.Kb, numbers []int) impl.Kb {
	var few impl.Kb
	for _, i := range numbers {
		few.L = append(few.L, k.L[i])
	}
	return few
}

func less(numbers []int, i int) []int {
	return slices.DeleteFunc(slices.Clone(numbers), func(n int) bool { return n == i })
}

// reasonsByWords goes by numbers, from all of them on.
func reasonsByWords(k impl.Kb, c impl.Con) ([]int, int) {
	if code := possibleByWords(k, c); code != impl.AnNo {
		return nil, code
	}
	left := everybody(len(k.L))
	for i := range k.L {
		switch possibleByWords(only(k, less(left, i)), c) {
		case impl.AnBig:
			return nil, impl.AnBig
		case impl.AnNo:
			left = less(left, i)
		}
	}
	return left, impl.AnNo
}

// more is what is told, with an axiom behind it.
func more(k impl.Kb, x impl.Axiom) impl.Kb { return told(append(slices.Clone(k.L), x)...) }

func wantAnswer(t *testing.T, what string, got, want int) {
	t.Helper()
	if got != want {
		t.Errorf("%s: %s, not %s", what, answerWord(got), answerWord(want))
	}
}

func wantPossible(t *testing.T, kb, c string, want int) {
	t.Helper()
	k, con := readKb(t, kb), readCon(t, c)
	wantAnswer(t, "Possible of "+kb+" and "+c, impl.Possible(k, con), want)
	wantAnswer(t, "the test's own way to "+kb+" and "+c, possibleByWords(k, con), want)
}

func wantUnder(t *testing.T, kb, c, d string, want int) {
	t.Helper()
	k, low, high := readKb(t, kb), readCon(t, c), readCon(t, d)
	wantAnswer(t, "Under of "+kb+", "+c+" and "+d, impl.Under(k, low, high), want)
	wantAnswer(t, "the test's own way to "+kb+", "+c+" and "+d, underByWords(k, low, high), want)
}

func wantMember(t *testing.T, kb, ind, c string, want int) {
	t.Helper()
	k, con := readKb(t, kb), readCon(t, c)
	wantAnswer(t, "Member of "+kb+", "+ind+" and "+c, impl.Member(k, []byte(ind), con), want)
	if want != impl.AnForm {
		wantAnswer(t, "the test's own way to "+kb+", "+ind+" and "+c, memberByWords(k, ind, con), want)
	}
}

func wantRetrieved(t *testing.T, kb, c string, code int, want ...string) {
	t.Helper()
	k, con := readKb(t, kb), readCon(t, c)
	got, gotCode := impl.Retrieve(k, con)
	own, ownCode := retrieveByWords(k, con)
	if gotCode != code || !slices.Equal(texts(got), want) || ownCode != code || !slices.Equal(own, want) {
		t.Errorf("Retrieve of %s and %s: %q, %s; want %q, %s; the test's own way tells %q, %s", kb, c, got, answerWord(gotCode), want, answerWord(code), own, answerWord(ownCode))
	}
}

func wantReasons(t *testing.T, kb, c string, code int, want ...int) {
	t.Helper()
	k, con := readKb(t, kb), readCon(t, c)
	got, gotCode := impl.Reasons(k, con)
	own, ownCode := reasonsByWords(k, con)
	if gotCode != code || !slices.Equal(got, want) || ownCode != code || !slices.Equal(own, want) {
		t.Errorf("Reasons of %s and %s: %v, %s; want %v, %s; the test's own way tells %v, %s", kb, c, got, answerWord(gotCode), want, answerWord(code), own, answerWord(ownCode))
	}
}

func wantProof(t *testing.T, kb, c string, code int, lines ...string) {
	t.Helper()
	r, got := impl.Proof(readKb(t, kb), readCon(t, c))
	if text := runTextByWords(r); got != code || text != strings.Join(append(lines, ""), "\n") {
		t.Errorf("Proof of %s and %s: %s\n%swant %s\n%s", kb, c, answerWord(got), text, answerWord(code), strings.Join(lines, "\n"))
	}
	wantRunFine(t, r)
}

func TestAnswersAreNumbers(t *testing.T) {
	if got := []int{impl.AnNo, impl.AnYes, impl.AnBig, impl.AnForm}; !slices.Equal(got, everybody(4)) {
		t.Error(got)
	}
}

func TestPossible(t *testing.T) {
	for _, c := range []struct {
		kb, c string
		code  int
	}{
		{"", "Top", impl.AnYes},
		{"", "Bot", impl.AnNo},
		{"", "A", impl.AnYes},
		{"", "Not(A)", impl.AnYes},
		{"", "And(A Not(A))", impl.AnNo},
		{"", "Or(A Not(A))", impl.AnYes},
		{"", "Some(r Bot)", impl.AnNo},
		{"", "All(r Bot)", impl.AnYes},
		{"", "And(Some(r A) All(r Not(A)))", impl.AnNo},
		{"", "And(Some(r A) All(s Not(A)))", impl.AnYes},
		{"Role(r s)", "And(Some(r A) All(s Not(A)))", impl.AnNo},
		{"Role(s r)", "And(Some(r A) All(s Not(A)))", impl.AnYes},
		{"Role(r t) Role(t s)", "And(Some(r A) All(s Not(A)))", impl.AnNo},
		{"Sub(A B) Sub(B C)", "And(A Not(C))", impl.AnNo},
		{"Sub(A B) Sub(B C)", "And(C Not(A))", impl.AnYes},
		{"Eq(A B)", "And(B Not(A))", impl.AnNo},
		{"Dis(A B)", "And(B A)", impl.AnNo},
		{"Sub(A Some(r A))", "A", impl.AnYes},
		{"Sub(A Some(r B)) Sub(B Bot)", "A", impl.AnNo},
		{"Sub(A Some(r B)) Sub(B Bot)", "B", impl.AnNo},
		{"Sub(A Some(r B)) Sub(B Bot)", "C", impl.AnYes},
		// Of what can't be nobody is, not even of Top.
		{"Is(x A) Is(x Not(A))", "Top", impl.AnNo},
		{"Is(x A) Is(x Not(A))", "B", impl.AnNo},
		{"Sub(Top Bot)", "A", impl.AnNo},
		// Who is named is somebody else than who is asked for, or may be.
		{"Is(x A)", "Not(A)", impl.AnYes},
		{"Is(x A) Sub(B Bot)", "B", impl.AnNo},
		{"Rel(r x y) Is(x All(r A)) Is(y Not(A))", "C", impl.AnNo},
		{"Rel(r y x) Is(x All(r A)) Is(y Not(A))", "C", impl.AnYes},
	} {
		wantPossible(t, c.kb, c.c, c.code)
	}
}

func TestConsistent(t *testing.T) {
	for kb, want := range map[string]int{
		"":                                       impl.AnYes,
		"Sub(A Bot)":                             impl.AnYes,
		"Sub(A B) Sub(B Not(A))":                 impl.AnYes,
		"Sub(Top Some(r Top))":                   impl.AnYes,
		"Dis(A B) Is(x A) Is(y B)":               impl.AnYes,
		"Rel(r x y) Is(x All(s A)) Is(y Not(A))": impl.AnYes,
		"Role(r s) Role(s r) Rel(r x x)":         impl.AnYes,
		"Is(x Top)":                              impl.AnYes,
		// It refutes itself.
		"Is(x Bot)":                                          impl.AnNo,
		"Sub(Top Bot)":                                       impl.AnNo,
		"Eq(A Not(A))":                                       impl.AnNo,
		"Sub(Top A) Sub(A Bot)":                              impl.AnNo,
		"Sub(Top A) Sub(A Some(r Not(A)))":                   impl.AnNo,
		"Dis(Top Top)":                                       impl.AnNo,
		"Dis(A B) Is(x A) Is(x B)":                           impl.AnNo,
		"Sub(A Bot) Is(x A)":                                 impl.AnNo,
		"Sub(Top Some(r A)) Sub(Top All(r Not(A)))":          impl.AnNo,
		"Role(r s) Rel(r x y) Is(x All(s A)) Is(y Not(A))":   impl.AnNo,
		"Rel(r x x) Is(x All(r Not(A))) Is(x A)":             impl.AnNo,
		"Rel(r x y) Is(x All(r All(s Bot))) Is(y Some(s A))": impl.AnNo,
	} {
		k := readKb(t, kb)
		wantAnswer(t, "Consistent of "+kb, impl.Consistent(k), want)
		wantAnswer(t, "Possible of Top and "+kb, impl.Possible(k, top), want)
	}
}

func TestUnder(t *testing.T) {
	for _, c := range []struct {
		kb, c, d string
		code     int
	}{
		{"", "A", "A", impl.AnYes},
		{"", "A", "B", impl.AnNo},
		{"", "A", "Top", impl.AnYes},
		{"", "Bot", "A", impl.AnYes},
		{"", "Top", "A", impl.AnNo},
		{"", "A", "Bot", impl.AnNo},
		{"", "Top", "Bot", impl.AnNo},
		{"", "Bot", "Bot", impl.AnYes},
		{"", "Top", "Top", impl.AnYes},
		{"", "Top", "Or(A Not(A))", impl.AnYes},
		{"", "And(A Not(A))", "Bot", impl.AnYes},
		{"", "And(A B)", "A", impl.AnYes},
		{"", "A", "And(A B)", impl.AnNo},
		{"", "A", "Or(B A)", impl.AnYes},
		{"", "Or(B A)", "A", impl.AnNo},
		{"", "Not(Not(A))", "A", impl.AnYes},
		{"", "Some(r A)", "Some(r Top)", impl.AnYes},
		{"", "Some(r Top)", "Some(r A)", impl.AnNo},
		{"", "Some(r A)", "Some(s A)", impl.AnNo},
		{"Role(r s)", "Some(r A)", "Some(s A)", impl.AnYes},
		{"Role(r s)", "Some(s A)", "Some(r A)", impl.AnNo},
		{"Role(r s)", "All(s A)", "All(r A)", impl.AnYes},
		{"Role(r s)", "All(r A)", "All(s A)", impl.AnNo},
		{"", "And(All(r A) All(r B))", "All(r And(A B))", impl.AnYes},
		{"", "Some(r And(A B))", "And(Some(r A) Some(r B))", impl.AnYes},
		{"", "And(Some(r A) Some(r B))", "Some(r And(A B))", impl.AnNo},
		{"", "And(Some(r A) All(r B))", "Some(r And(A B))", impl.AnYes},
		{"Sub(A B)", "A", "B", impl.AnYes},
		{"Sub(A B)", "B", "A", impl.AnNo},
		{"Sub(A B)", "Not(B)", "Not(A)", impl.AnYes},
		{"Eq(A B)", "B", "A", impl.AnYes},
		{"Dis(A B)", "A", "Not(B)", impl.AnYes},
		{"Dis(A B)", "Not(B)", "A", impl.AnNo},
		{"Sub(A B) Sub(B C)", "A", "C", impl.AnYes},
		{"Sub(A B) Sub(B C)", "C", "A", impl.AnNo},
		{"Sub(A Some(r B)) Sub(Some(r C) D) Sub(B C)", "A", "D", impl.AnYes},
		{"Sub(A Bot)", "A", "B", impl.AnYes},
		// What one individual is says nothing of all.
		{"Is(x A) Is(x B)", "A", "B", impl.AnNo},
		// Of what can't be all is under all.
		{"Is(x Bot)", "Top", "Bot", impl.AnYes},
		{"Sub(Top Bot)", "A", "B", impl.AnYes},
	} {
		wantUnder(t, c.kb, c.c, c.d, c.code)
	}
}

func TestMember(t *testing.T) {
	for _, c := range []struct {
		kb, ind, c string
		code       int
	}{
		// Who is told to be one.
		{"Is(x A)", "x", "A", impl.AnYes},
		{"Is(x A)", "x", "B", impl.AnNo},
		{"Is(x A)", "x", "Not(A)", impl.AnNo},
		{"Is(x A)", "x", "Top", impl.AnYes},
		{"Is(x A)", "x", "Bot", impl.AnNo},
		{"Is(x A) Is(y B)", "y", "A", impl.AnNo},
		{"Is(x A) Is(y B)", "y", "B", impl.AnYes},
		{"Is(x Or(A B))", "x", "Or(B A)", impl.AnYes},
		{"Is(x Or(A B))", "x", "A", impl.AnNo},
		{"Is(x And(A B))", "x", "B", impl.AnYes},
		{"Is(z Some(r A))", "z", "Some(r A)", impl.AnYes},
		// Who is one by what follows.
		{"Is(x A) Sub(A B)", "x", "B", impl.AnYes},
		{"Is(x B) Sub(A B)", "x", "A", impl.AnNo},
		{"Is(x A) Dis(A B)", "x", "Not(B)", impl.AnYes},
		{"Sub(Top A) Is(x B)", "x", "A", impl.AnYes},
		{"Rel(r x y) Is(y A)", "x", "Some(r A)", impl.AnYes},
		{"Rel(r x y) Is(y A)", "y", "Some(r A)", impl.AnNo},
		{"Rel(r x y) Is(y A)", "x", "Some(s A)", impl.AnNo},
		{"Role(r s) Rel(r x y) Is(y A)", "x", "Some(s A)", impl.AnYes},
		{"Role(r s) Rel(s x y) Is(y A)", "x", "Some(r A)", impl.AnNo},
		{"Rel(r x y) Is(x All(r A))", "y", "A", impl.AnYes},
		{"Rel(r x y) Is(x All(r A))", "x", "A", impl.AnNo},
		{"Rel(r x y) Rel(r y z) Is(x All(r All(r A)))", "z", "A", impl.AnYes},
		{"Rel(r x y) Rel(s y z) Is(z A)", "x", "Some(r Some(s A))", impl.AnYes},
		{"Rel(r x y) Is(y A)", "x", "All(r A)", impl.AnNo},
		{"Rel(r x x) Is(x All(r A))", "x", "A", impl.AnYes},
		// Whichever of two it is.
		{"Rel(r x y) Rel(r x z) Rel(r y z) Is(y A) Is(z Not(A))", "x", "Some(r And(A Some(r Not(A))))", impl.AnYes},
		{"Rel(r x x) Rel(r x y) Is(y Not(A))", "x", "Or(Not(A) Some(r A))", impl.AnYes},
		// All are all, where nobody can be.
		{"Is(x A) Is(y Bot)", "x", "Bot", impl.AnYes},
		// An individual that is none of KbInds, be the word a role or be it none.
		{"Is(x A)", "y", "A", impl.AnForm},
		{"Is(x A)", "y", "Top", impl.AnForm},
		{"Is(x A)", "xx", "A", impl.AnForm},
		{"Is(xx A)", "x", "A", impl.AnForm},
		{"Is(x A)", "", "A", impl.AnForm},
		{"Is(x A)", "A", "A", impl.AnForm},
		{"Is(x A)", "x ", "A", impl.AnForm},
		{"Is(x Some(r A))", "r", "Top", impl.AnForm},
		{"Rel(r x y)", "r", "Top", impl.AnForm},
		{"", "x", "Top", impl.AnForm},
		{"Sub(Top Bot)", "x", "Top", impl.AnForm},
		// B of AxRel is an individual as any other one.
		{"Rel(r x y)", "y", "Top", impl.AnYes},
		{"Rel(r x r)", "r", "Top", impl.AnYes},
	} {
		wantMember(t, c.kb, c.ind, c.c, c.code)
	}
}

// One axiom more comes to MaxAxioms, and names that what is told has not come to MaxNames.
func TestMemberOfMostAxioms(t *testing.T) {
	k := fullKb()
	if len(k.L) != impl.MaxAxioms || len(impl.KbNames(k)) != impl.MaxNames || len(impl.KbRoles(k)) != impl.MaxRoles || len(impl.KbInds(k)) != impl.MaxInds {
		t.Fatal("not as much as there may be: ", spellKb(k))
	}
	for _, c := range []struct {
		ind, c string
		code   int
	}{
		{"x", "Not(A)", impl.AnYes},
		{"x", "Not(C)", impl.AnYes},
		{"x", "A", impl.AnNo},
		{"x", "Some(t Top)", impl.AnYes},
		{"x", "Some(s Top)", impl.AnNo},
		{"y", "Some(t Top)", impl.AnNo},
		{"z", "Or(Not(A) Some(t B))", impl.AnYes},
		{"z", "Or(Not(B) Not(E))", impl.AnYes},
		{"z", "B", impl.AnNo},
		{"w", "Top", impl.AnForm},
		// More names than what is told may have.
		{"x", "Or(F Not(F))", impl.AnYes},
		{"x", "Or(F Not(A))", impl.AnYes},
		{"x", "F", impl.AnNo},
		{"x", "Not(F)", impl.AnNo},
		{"z", "And(Or(F Not(F)) Or(G Not(G)))", impl.AnYes},
		{"z", "And(F And(G And(H I)))", impl.AnNo},
	} {
		wantMember(t, spellKb(k), c.ind, c.c, c.code)
	}
	nine := more(k, role("r", "t"))
	wantAnswer(t, "nine axioms", impl.Member(nine, []byte("x"), not(named("A"))), impl.AnForm)
	wantAnswer(t, "seven axioms", impl.Member(told(k.L[:7]...), []byte("x"), not(named("A"))), impl.AnYes)
	wantRetrieved(t, spellKb(k), "Not(A)", impl.AnYes, "x")
	wantRetrieved(t, spellKb(k), "Or(F Not(F))", impl.AnYes, "x", "y", "z")
}

// Concepts as large as ConOk allows: their opposites, and And of two, are larger.
func TestAskingOfTheLargestConcepts(t *testing.T) {
	list := append(edges(), bush(4, "A"), alls(6, "r"), somes(6, "r"), nots(5, named("B")),
		not(chain(5, func(c impl.Con) impl.Con { return every("s", c) })), chain(6, func(c impl.Con) impl.Con { return or(named("B"), c) }))
	larger := 0
	for _, c := range list {
		yes, no, text := impl.AnYes, impl.AnNo, spell(c)
		if len(wordsOf(impl.Kb{}, c).roles) > impl.MaxRoles {
			yes, no = impl.AnBig, impl.AnBig
		} else if impl.ConOk(c) && !impl.ConOk(turned(c, true)) {
			larger++
		}
		wantUnder(t, "", text, text, yes)
		wantUnder(t, "", text, "Top", yes)
		wantUnder(t, "", "Bot", text, yes)
		wantUnder(t, "", "Top", text, no)
		wantMember(t, "Is(y Top)", "y", text, no)
		wantRetrieved(t, "", text, impl.AnYes)
		if k := told(is("x", c)); impl.KbOk(k) {
			wantMember(t, spellKb(k), "x", text, yes)
			wantUnder(t, spellAxiom(sub(named("A"), c)), "A", text, yes)
		}
	}
	if larger < 6 {
		t.Error(larger, "have opposites that are too great: too few to tell")
	}
}

// wantForm asks each function of what is not well formed; a list that is empty is beside the code.
func wantForm(t *testing.T, k impl.Kb, c impl.Con, why string) {
	t.Helper()
	for _, d := range []impl.Con{c, top, named("A")} {
		wantAnswer(t, why+": Under, low", impl.Under(k, c, d), impl.AnForm)
		wantAnswer(t, why+": Under, high", impl.Under(k, d, c), impl.AnForm)
	}
	wantAnswer(t, why+": Possible", impl.Possible(k, c), impl.AnForm)
	for _, ind := range []string{"x", "y", ""} {
		wantAnswer(t, why+": Member", impl.Member(k, []byte(ind), c), impl.AnForm)
	}
	who, code := impl.Retrieve(k, c)
	wantAnswer(t, why+": Retrieve", code, impl.AnForm)
	r, code := impl.Proof(k, c)
	wantAnswer(t, why+": Proof", code, impl.AnForm)
	list, code := impl.Reasons(k, c)
	wantAnswer(t, why+": Reasons", code, impl.AnForm)
	if len(who) != 0 || len(r.L) != 0 || r.Code != 0 || len(list) != 0 {
		t.Errorf("%s: %q, %v, %v beside AnForm", why, who, r, list)
	}
}

func TestAskingOfWhatIsNotOk(t *testing.T) {
	big := readCon(t, "Some(a Some(b Some(c Some(d Top))))")
	fine := readKb(t, "Sub(A B) Is(x A) Is(y Not(B))")
	refuted := readKb(t, "Is(x A) Is(y Bot)")
	for i, c := range refusedCons() {
		why := fmt.Sprint("the wrong concept ", i)
		// AnForm comes ahead of all that could be found out, AnBig with it.
		for _, k := range []impl.Kb{{}, fine, refuted, fullKb()} {
			wantForm(t, k, c, why)
			wantAnswer(t, why, impl.Under(k, c, big), impl.AnForm)
			wantAnswer(t, why, impl.Under(k, big, c), impl.AnForm)
			wantAnswer(t, why, impl.Under(k, bot, c), impl.AnForm)
		}
		for _, k := range []impl.Kb{told(is("x", c)), told(is("x", top), sub(top, c)), told(is("x", bot), equal(c, top))} {
			for _, asked := range []impl.Con{top, named("A"), bot, big, c} {
				wantForm(t, k, asked, why)
			}
			wantAnswer(t, why+": Consistent", impl.Consistent(k), impl.AnForm)
		}
	}
	for i, k := range append(refusedKbs(), told(is("x", big))) {
		why := fmt.Sprint("the wrong axioms ", i)
		for _, c := range []impl.Con{top, bot, named("A"), big, {Kind: 9}} {
			wantForm(t, k, c, why)
		}
		wantAnswer(t, why+": Consistent", impl.Consistent(k), impl.AnForm)
	}
	wantAnswer(t, "four roles", impl.Possible(impl.Kb{}, big), impl.AnBig)
}

// wantBigAnswers asks each function of what is told and asked for where Clausify tells ClBig.
func wantBigAnswers(t *testing.T, k impl.Kb, c impl.Con, why string) {
	t.Helper()
	if _, code := impl.Clausify(k, c); code != impl.ClBig {
		t.Fatalf("%s: Clausify tells %d", why, code)
	}
	wantAnswer(t, why+": Possible", impl.Possible(k, c), impl.AnBig)
	wantAnswer(t, why+": Under", impl.Under(k, c, top), impl.AnBig)
	r, code := impl.Proof(k, c)
	wantAnswer(t, why+": Proof", code, impl.AnBig)
	list, code := impl.Reasons(k, c)
	wantAnswer(t, why+": Reasons", code, impl.AnBig)
	if len(r.L) != 0 || r.Code != 0 || len(list) != 0 {
		t.Errorf("%s: %v, %v beside AnBig", why, r, list)
	}
}

func wantNotBig(t *testing.T, why string, codes ...int) {
	t.Helper()
	for i, code := range codes {
		if code != impl.AnYes && code != impl.AnNo {
			t.Errorf("%s: the answer %d is %s", why, i, answerWord(code))
		}
	}
}

func TestAskingOfMostRoles(t *testing.T) {
	three := readKb(t, "Role(a b) Rel(c x y)")
	wantNotBig(t, "three roles", impl.Possible(three, some("a", top)), impl.Under(three, some("a", top), some("c", top)), impl.Member(three, []byte("x"), some("b", top)), impl.Consistent(three))
	wantBigAnswers(t, three, some("d", top), "four roles")
	wantBigAnswers(t, three, every("d", bot), "four roles")
	// Too many are too many wherever they are, and even if it could be told at once.
	wantBigAnswers(t, three, and(bot, some("d", top)), "four roles, and Bot")
	wantBigAnswers(t, told(append(three.L, is("x", bot))...), some("d", top), "four roles, and a refuted individual")
	for _, c := range []struct{ c, d string }{{"Some(d Top)", "Top"}, {"Top", "Some(d Top)"}, {"Bot", "Some(d Top)"}, {"Some(d Top)", "Some(d Top)"}} {
		wantUnder(t, spellKb(three), c.c, c.d, impl.AnBig)
	}
	wantUnder(t, "Role(a b)", "Some(c A)", "Some(c Top)", impl.AnYes)
	wantUnder(t, "Role(a b)", "Some(c A)", "Some(d Top)", impl.AnBig)
	wantUnder(t, "", "And(Some(a A) Some(b A))", "Or(Some(c A) All(d A))", impl.AnBig)
	wantMember(t, spellKb(three), "x", "Some(d Top)", impl.AnBig)
	wantMember(t, spellKb(three), "x", "Or(Top Some(d Top))", impl.AnBig)
	wantMember(t, spellKb(three), "z", "Some(d Top)", impl.AnForm)
	wantMember(t, "Role(a b) Is(x A)", "x", "Some(c Top)", impl.AnNo)
	wantRetrieved(t, spellKb(three), "All(d Top)", impl.AnBig)
	// Without anybody of whom it is asked nothing is too big.
	wantRetrieved(t, "Role(a b) Role(b c)", "All(d Top)", impl.AnYes)
}

func TestAskingOfMostAtoms(t *testing.T) {
	base := []impl.Axiom{is("x", alls(6, "r")), is("x", alls(6, "s")), is("x", alls(6, "t"))}
	ors := func(n int) impl.Con { return chain(n+1, func(c impl.Con) impl.Con { return or(named("A"), c) }) }
	ands := func(n int) impl.Con { return chain(n+1, func(c impl.Con) impl.Con { return and(named("A"), c) }) }
	atoms := func(k impl.Kb, c impl.Con) int { return len(clausifyByWords(k, c).atoms) }
	for n := range 6 {
		// A, three times five, and five more.
		k, c := told(append(slices.Clone(base), is("x", ands(5)))...), ors(n)
		fits := atoms(k, c) <= impl.MaxAtoms
		if fits != (n <= 3) {
			t.Fatal(n, atoms(k, c))
		}
		if fits {
			wantNotBig(t, "atoms", impl.Possible(k, c))
		} else {
			wantBigAnswers(t, k, c, "more than MaxAtoms")
		}
		// And of both is one more.
		for _, d := range []impl.Con{top, named("A"), not(named("A"))} {
			want := impl.AnBig
			if n <= 2 {
				want = underByWords(k, c, d)
				wantNotBig(t, "MaxAtoms", want)
			}
			wantUnder(t, spellKb(k), spell(c), spell(d), want)
		}
		// What is asked of is turned: of Not of it, or of ands, all are there, or are not.
		wantNotBig(t, "those that are there", impl.Member(k, []byte("x"), not(ands(min(n, 4)))))
		if want := impl.AnBig; n > 3 {
			wantMember(t, spellKb(k), "x", spell(ands(n)), want)
			wantRetrieved(t, spellKb(k), spell(ands(n)), want)
		} else {
			wantNotBig(t, "MaxAtoms", impl.Member(k, []byte("x"), ands(n)))
			wantRetrieved(t, spellKb(k), spell(ands(n)), impl.AnYes, "x")
		}
	}
	names := func(n int) impl.Con {
		c := named("A")
		for i := range n {
			c = or(c, named(string(rune('B'+i))))
		}
		return c
	}
	// A new name and an Or each.
	k := told(base...)
	wantNotBig(t, "24 atoms", impl.Possible(k, names(4)), impl.Member(k, []byte("x"), names(4)), impl.Under(k, names(3), top))
	wantBigAnswers(t, k, names(5), "26 atoms")
	wantMember(t, spellKb(k), "x", spell(names(5)), impl.AnBig)
}

func TestAskingOfMostFunctions(t *testing.T) {
	k := told(is("x", somes(6, "r")), is("x", somes(6, "s")), is("x", somes(3, "t")))
	if n := clausifyByWords(k, top); n.funs != impl.MaxFuns || n.big() {
		t.Fatal(n.funs)
	}
	wantAnswer(t, "MaxFuns", impl.Consistent(k), impl.AnYes)
	wantNotBig(t, "MaxFuns", impl.Possible(k, every("r", bot)), impl.Possible(k, somes(4, "r")))
	wantBigAnswers(t, k, some("r", top), "MaxFuns and one more")
	wantBigAnswers(t, k, not(every("r", top)), "MaxFuns and one more")
	// An opposite has Some for All, and All for Some.
	wantUnder(t, spellKb(k), "A", "Some(r Top)", impl.AnNo)
	wantUnder(t, spellKb(k), "A", "All(r Top)", impl.AnBig)
	wantUnder(t, spellKb(k), "A", "Not(Some(r Top))", impl.AnBig)
	wantMember(t, spellKb(k), "x", "Some(r Top)", impl.AnYes)
	wantMember(t, spellKb(k), "x", "All(r Top)", impl.AnBig)
	wantRetrieved(t, spellKb(k), "Some(r Some(r Top))", impl.AnYes, "x")
	wantRetrieved(t, spellKb(k), "All(r Bot)", impl.AnBig)
	k.L[2].C = somes(2, "t")
	wantUnder(t, spellKb(k), "A", "All(r Top)", impl.AnYes)
	wantMember(t, spellKb(k), "x", "All(r Top)", impl.AnYes)
}

func TestRetrieve(t *testing.T) {
	for _, c := range []struct {
		kb, c string
		want  string
	}{
		{"Is(x A)", "A", "x"},
		{"Is(x A) Is(y B)", "A", "x"},
		{"Is(x A) Is(y B)", "Or(A B)", "x y"},
		// By their texts, not as they were told, and each once.
		{"Is(z A) Is(x A) Is(y A)", "A", "x y z"},
		{"Is(y A) Is(b A) Is(y Or(A B)) Is(bb A)", "A", "b bb y"},
		{"Rel(r z y) Rel(r y x)", "Some(r Top)", "y z"},
		{"Rel(r z y) Rel(r y x)", "Some(r Some(r Top))", "z"},
		{"Rel(r z y) Rel(r y x) Is(z All(r A))", "A", "y"},
		{"Sub(A Some(r B)) Sub(Some(s B) C) Role(r s) Is(x A) Rel(s y x) Sub(Some(s A) D)", "Or(C D)", "x y"},
		{"Sub(A Some(r B)) Sub(Some(s B) C) Role(r s) Is(x A) Rel(s y x) Sub(Some(s A) D)", "D", "y"},
		{"Is(z A) Is(y Top)", "Top", "y z"},
		{"Sub(Top A) Rel(r b a)", "A", "a b"},
		{"Is(z Bot) Is(y Top)", "Bot", "y z"},
		// None.
		{"Is(x A) Is(y A)", "B", ""},
		{"Is(x A) Is(y A)", "Not(A)", ""},
		{"Is(x Or(A B))", "A", ""},
		{"Is(x A)", "Bot", ""},
		// Nobody is named.
		{"", "Top", ""},
		{"Sub(A B) Role(r s)", "Top", ""},
		{"Sub(Top Bot)", "Top", ""},
	} {
		wantRetrieved(t, c.kb, c.c, impl.AnYes, strings.Fields(c.want)...)
	}
}

// full are told and asked so that of one individual alone more is kept than there is room for.
var full = []struct {
	kb, c string
	codes []int
}{
	{"Eq(All(t And(All(t Or(Some(t C) B)) C)) Some(t A)) Sub(Or(Some(t Or(C E)) B) And(D A)) Is(x E) Rel(t y y)", "C", []int{2, 0}},
	{"Sub(E Some(s Or(And(B A) All(t B)))) Role(s t) Sub(Some(t Some(s B)) And(And(B A) C)) Sub(Or(A Or(C D)) All(t And(Some(s Some(t E)) And(A E)))) Rel(t z y)", "D", []int{0, 2}},
	{"Eq(All(t And(All(t Or(Some(t C) C)) A)) Some(t E)) Sub(Or(Some(t A) C) And(E C)) Is(y A) Rel(t z y)", "A", []int{1, 2}},
	{"Eq(All(t And(All(t All(t B)) A)) Some(t E)) Sub(Or(Some(t D) B) And(E D)) Rel(t y y) Is(y E) Is(x A)", "D", []int{2, 1}},
	{"Eq(All(t And(All(t Or(Some(t C) C)) C)) Some(s Some(t E))) Rel(s y z) Role(s t) Sub(C E) Rel(s x z)", "All(s F)", []int{0, 0, 2}},
	{"Eq(All(t And(All(t Or(Some(s D) C)) A)) Some(s Or(D B))) Is(z All(t All(t Or(D B)))) Role(s t) Rel(s x y) Rel(t y x) Role(t s)", "All(t H)", []int{0, 2, 0}},
	{"Eq(All(t And(All(t Or(Some(s C) B)) C)) Some(s Some(t D))) Role(s t) Is(z All(t All(s And(C D)))) Rel(r y x) Rel(r z x) Rel(r z z) Role(r s)", "C", []int{1, 2, 1}},
	{"Eq(All(t And(All(t Or(Some(t C) C)) E)) Some(t E)) Sub(Or(Some(t Or(C B)) B) And(E Or(B C))) Rel(t x y) Is(z B)", "E", []int{2, 0, 1}},
	{"Eq(All(t And(All(t Or(Some(t C) B)) C)) Some(t A)) Sub(Or(Some(t Or(C B)) B) And(A D)) Rel(t z x) Is(y D)", "Or(C Not(A))", []int{1, 2, 0}},
	{"Dis(Some(r E) Or(B E)) Dis(Not(All(r And(Some(s A) D))) Not(And(And(Not(C) Some(t D)) And(E And(C D))))) Sub(Or(E D) E) Rel(r z y) Role(t r) Role(s r) Rel(s x y)", "All(t A)", []int{1, 1, 2}},
}

func TestRetrieveOfOneThatIsTooBig(t *testing.T) {
	for _, c := range full {
		k := readKb(t, c.kb)
		for i, ind := range impl.KbInds(k) {
			wantMember(t, c.kb, string(ind), c.c, c.codes[i])
		}
		wantRetrieved(t, c.kb, c.c, impl.AnBig)
		// It is not so of all that is asked.
		if who, code := impl.Retrieve(k, top); code != impl.AnYes || len(who) != len(c.codes) {
			t.Errorf("%s: of Top %q, %s", c.kb, who, answerWord(code))
		}
	}
}

func TestProof(t *testing.T) {
	wantProof(t, "", "Top", impl.AnYes)
	wantProof(t, "", "Bot", impl.AnNo, "0 fact")
	wantProof(t, "", "A", impl.AnYes, "0 fact 0d")
	wantProof(t, "", "And(A Not(A))", impl.AnNo,
		"0 one 0x -1x", "1 one -0x -1x", "2 fact 1d", "3 fact 0d of 2 0", "4 fact -0d of 2 1", "5 fact of 4 3")
	wantProof(t, "Sub(A B)", "And(B Not(A))", impl.AnYes,
		"0 one -0x 1x -2x", "1 one 2x", "2 one 1x -3x", "3 one -0x -3x", "4 fact 3d", "5 one -0x 1x of 1 0", "6 fact 1d of 4 2", "7 fact -0d of 4 3")
	wantProof(t, "Role(r s) Rel(r x y) Is(x All(s A)) Is(y Not(A))", "Top", impl.AnNo,
		"0 role r0 r1", "1 pair r0 0 1", "2 all r1 -1x 0y", "3 fact 1a", "4 fact -0b",
		"5 pair r1 0 1 of 1 0", "6 fact -1a 0b of 5 2", "7 fact -1a of 6 4", "8 fact of 7 3")
}

func TestProofIsWhatSaturateTells(t *testing.T) {
	codes := map[int]int{}
	for _, q := range append(questions(500), individuals(200)...) {
		s, code := impl.Clausify(q.k, q.c)
		r, found := impl.Proof(q.k, q.c)
		if code == impl.ClBig {
			if found != impl.AnBig || !sameRun(r, impl.Run{}) {
				t.Fatalf("%s: %s, %v", q, answerWord(found), r)
			}
			continue
		}
		want := impl.Saturate(s.L)
		codes[found]++
		if !sameRun(r, want) || found != map[int]int{impl.RsOpen: impl.AnYes, impl.RsRefuted: impl.AnNo, impl.RsFull: impl.AnBig}[want.Code] || found != impl.Possible(q.k, q.c) {
			t.Fatalf("%s: %s, %d:\n%swant %d:\n%s", q, answerWord(found), r.Code, runTextByWords(r), want.Code, runTextByWords(want))
		}
	}
	if codes[impl.AnYes] < 200 || codes[impl.AnNo] < 100 {
		t.Error(codes, ": too few to tell")
	}
}

// Where there is no room it is not found out, not even of what is under itself, nor whether there can be anybody.
func TestAskingOfWhatThereIsNoRoomFor(t *testing.T) {
	kb := full[0].kb
	for _, c := range []string{"A", "B", "Some(t A)"} {
		for _, d := range []string{"A", "E", "Bot"} {
			wantUnder(t, kb, c, d, impl.AnBig)
		}
	}
	wantAnswer(t, "Consistent", impl.Consistent(readKb(t, kb)), impl.AnBig)
	wantUnder(t, kb, "A", "Top", impl.AnBig)
	wantUnder(t, kb, "Bot", "A", impl.AnBig)
}

// What is asked of Under is And of the lower one and the opposite of the other, in this order: it can make the difference whether there is room.
func TestUnderAsksOfTheLowerOneFirst(t *testing.T) {
	for _, c := range []struct {
		kb, c, d     string
		code, turned int
	}{
		{"Sub(And(C Or(E B)) Or(E Or(E Or(C A)))) Sub(And(A Or(D Or(Or(C E) E))) Or(All(t And(B A)) Or(Or(E Or(D A)) All(t And(D B)))))", "B", "A", impl.AnNo, impl.AnBig},
		{"Is(z All(r And(Or(Or(E D) Or(C E)) Or(D Or(A E))))) Sub(And(A All(s And(Or(B Or(A A)) A))) Or(B B)) Dis(C Or(Some(r Or(C A)) E)) Is(x And(C E))", "C", "E", impl.AnYes, impl.AnBig},
	} {
		wantUnder(t, c.kb, c.c, "Not("+c.d+")", c.code)
		wantUnder(t, c.kb, c.d, "Not("+c.c+")", c.turned)
	}
}

// Clausify can't tell more than MaxKept clauses: MaxAtoms atoms have two each at most. But as many may be kept, and one more may lack room.
func TestProofOfMostKept(t *testing.T) {
	for _, c := range []struct {
		kb, c           string
		code, run, kept int
	}{
		{"Eq(All(t And(All(t C) Not(C))) Some(s Not(Or(A E)))) Rel(s y z) Is(x E) Rel(s z z) Role(s t) Rel(s z x)", "And(Not(Some(t Or(All(t G) C))) Some(s F))", impl.AnYes, impl.RsOpen, impl.MaxKept},
		{"Eq(All(t And(All(t All(s And(C D))) Not(C))) Some(s Not(Some(t All(s D))))) Is(z All(t B)) Role(t r) Role(s t) Rel(t y y)", "Some(t G)", impl.AnYes, impl.RsOpen, impl.MaxKept - 1},
		{"Sub(Not(Or(Some(t D) And(B And(Not(B) A)))) And(And(A D) Not(And(All(t C) Or(Or(A C) B))))) Eq(Not(D) Some(r Some(r D))) Role(t r)", "Some(t Or(C D))", impl.AnNo, impl.RsRefuted, impl.MaxKept},
		{"Sub(Not(Or(Some(t D) And(B And(Not(B) D)))) And(And(A D) Not(And(All(t C) Or(Or(C A) Some(s C)))))) Eq(Not(D) Some(r Some(r D))) Role(t r)", "Some(t Or(D C))", impl.AnNo, impl.RsRefuted, impl.MaxKept - 1},
		{"Eq(All(t And(All(t Or(Some(t C) C)) E)) Some(t E)) Sub(Or(Some(t Or(C A)) C) And(D A)) Rel(t x x)", "B", impl.AnBig, impl.RsFull, impl.MaxKept},
		{"Eq(Not(Some(s B)) Or(Or(D A) All(s And(All(t E) B)))) Role(t s) Rel(t y x) Role(s r) Rel(t z z) Rel(s y y) Is(x Not(And(Or(B A) Some(s D)))) Rel(t x y)", "All(r And(D Some(t D)))", impl.AnBig, impl.RsFull, impl.MaxKept},
	} {
		k, con := readKb(t, c.kb), readCon(t, c.c)
		r, code := impl.Proof(k, con)
		if code != c.code || r.Code != c.run || len(r.L) != c.kept {
			t.Errorf("%s and %s: %s, %d, %d steps", c.kb, c.c, answerWord(code), r.Code, len(r.L))
		}
		wantRunFine(t, r)
		s, _ := impl.Clausify(k, con)
		if own := saturateByWords(s.L); !sameRun(r, own) {
			t.Errorf("%s and %s: %d, %d steps by the test's own way", c.kb, c.c, own.Code, len(own.L))
		}
		wantPossible(t, c.kb, c.c, c.code)
		if list, got := impl.Reasons(k, con); code != impl.AnNo && (got != code || len(list) != 0) {
			t.Errorf("%s and %s: Reasons %v, %s", c.kb, c.c, list, answerWord(got))
		}
	}
}

func TestReasons(t *testing.T) {
	for _, c := range []struct {
		kb, c string
		want  []int
	}{
		{"Sub(A B)", "And(A Not(B))", []int{0}},
		{"Sub(C D) Sub(A B)", "And(A Not(B))", []int{1}},
		{"Sub(A B) Sub(B C)", "And(A Not(C))", []int{0, 1}},
		{"Sub(B C) Role(r s) Sub(A B) Is(x D)", "And(A Not(C))", []int{0, 2}},
		{"Sub(A Some(r B)) Sub(Some(s B) C) Role(r s) Is(x A) Rel(s y x) Sub(Some(s A) D)", "And(A Not(C))", []int{0, 1, 2}},
		{"Eq(A B)", "And(B Not(A))", []int{0}},
		// Two ways to refute: the later one is left.
		{"Sub(A Bot) Sub(A Bot)", "A", []int{1}},
		{"Sub(A B) Sub(B C) Sub(A D) Sub(D C)", "And(A Not(C))", []int{2, 3}},
		{"Sub(A B) Sub(A D) Sub(B C) Sub(D C)", "And(A Not(C))", []int{1, 3}},
		{"Sub(A C) Sub(A B) Sub(B C)", "And(A Not(C))", []int{1, 2}},
		{"Sub(A B) Sub(B C) Sub(A C)", "And(A Not(C))", []int{2}},
		{"Sub(A B) Sub(A C) Sub(B C)", "And(A Not(C))", []int{1}},
		{"Is(x Bot) Sub(A Bot)", "A", []int{1}},
		{"Sub(A Bot) Is(x Bot)", "A", []int{1}},
		{"Sub(A B) Is(x Bot) Sub(B Bot) Sub(Top Bot) Dis(A A)", "A", []int{4}},
		// By individuals and roles.
		{"Is(x A) Is(x Not(A))", "Top", []int{0, 1}},
		{"Is(x A) Is(y Not(A)) Is(x Not(A))", "Top", []int{0, 2}},
		{"Role(r s) Rel(r x y) Is(x All(s A)) Is(y Not(A)) Sub(A B)", "Top", []int{0, 1, 2, 3}},
		{"Role(r s) Rel(r x y) Rel(s x y) Is(x All(s A)) Is(y Not(A))", "Top", []int{2, 3, 4}},
		{"Role(r t) Role(r s) Role(t s)", "And(Some(r A) All(s Not(A)))", []int{1}},
		{"Role(r s) Role(r t) Role(t s)", "And(Some(r A) All(s Not(A)))", []int{1, 2}},
		// None is needed.
		{"", "Bot", nil},
		{"Sub(A B) Is(x Bot) Sub(Top Bot)", "And(A Not(A))", nil},
		{"Sub(A B) Role(r s)", "Some(r Bot)", nil},
		// All eight.
		{"Sub(A Some(r B)) Role(r s) Role(s t) Sub(B C) Sub(C D) Sub(A All(t E)) Is(x A) Dis(D E)", "Top", []int{0, 1, 2, 3, 4, 5, 6, 7}},
	} {
		wantReasons(t, c.kb, c.c, impl.AnNo, c.want...)
	}
	for _, c := range []struct{ kb, c string }{{"", "Top"}, {"", "A"}, {"Sub(A B)", "A"}, {"Is(x A) Is(y Not(A))", "Top"}} {
		wantReasons(t, c.kb, c.c, impl.AnYes)
	}
}

func TestReasonsThatAreTooBig(t *testing.T) {
	// At the start: more than there may be, or than there is room for.
	wantReasons(t, "Role(a b) Role(b c) Sub(Top Bot)", "Some(d Top)", impl.AnBig)
	wantReasons(t, "Eq(All(t And(All(t Or(Some(t C) C)) E)) Some(t E)) Sub(Or(Some(t Or(C A)) C) And(D A)) Rel(t x x)", "B", impl.AnBig)
	// On the way: all together are refuted, but without some of them there is no room to find it out.
	for _, c := range []struct{ kb, c string }{
		{"Sub(Not(Or(Some(t D) And(B And(Not(B) C)))) And(And(A D) Not(Or(A D)))) Eq(Not(D) Some(r Some(r D))) Is(z B) Sub(And(All(r E) A) E) Role(t r) Rel(t x z)", "C"},
		{"Dis(Some(r Or(Some(s B) A)) C) Dis(Not(All(r And(Or(B B) C))) Or(Or(A B) E)) Sub(B Some(s E)) Is(z A) Role(s r) Is(x And(C B))", "Some(s All(s Some(s Some(s F))))"},
		{"Dis(Some(r Or(Some(s C) B)) C) Dis(Not(And(Or(B E) All(s C))) Or(Or(A D) Not(All(s D)))) Role(s r) Sub(D Some(s D)) Is(x D) Is(x D)", "Some(s All(s Some(s Some(s E))))"},
	} {
		wantPossible(t, c.kb, c.c, impl.AnNo)
		wantReasons(t, c.kb, c.c, impl.AnBig)
	}
}

// drawnAsks are drawn kbs with two concepts each, some of which have to do with what is told.
type drawnAsk struct {
	k    impl.Kb
	c, d impl.Con
}

func (q drawnAsk) String() string { return spellKb(q.k) + spell(q.c) + ", " + spell(q.d) }

func drawnAsks(count int) []drawnAsk {
	d := dice(91)
	var list []drawnAsk
	for _, k := range drawnKbs(count) {
		q := drawnAsk{k, d.relatedCon(k), d.relatedCon(k)}
		if impl.ConOk(q.c) && impl.ConOk(q.d) {
			list = append(list, q)
		}
	}
	return list
}

// relatedCon draws a concept that is told of, or one made of it, or any.
func (d *dice) relatedCon(k impl.Kb) impl.Con {
	c := d.anyCon(1 + d.below(3))
	if len(k.L) == 0 {
		return c
	}
	x := k.L[d.below(len(k.L))]
	from := []impl.Con{x.C, x.D}[d.below(2)]
	role := []string{"r", "s", "t"}[d.below(3)]
	return []impl.Con{c, from, from, not(from), or(from, c), and(c, from), some(role, from), every(role, from)}[d.below(8)]
}

func TestAskingIsWhatTheWordsSay(t *testing.T) {
	count := map[string]int{}
	tell := func(what string, code int) { count[what+" "+answerWord(code)]++ }
	for _, q := range append(drawnAsks(1500), fullAsks(t)...) {
		checks := []struct {
			what      string
			got, want int
		}{
			{"Possible", impl.Possible(q.k, q.c), possibleByWords(q.k, q.c)},
			{"Consistent", impl.Consistent(q.k), possibleByWords(q.k, top)},
			{"Under", impl.Under(q.k, q.c, q.d), underByWords(q.k, q.c, q.d)},
		}
		for _, ind := range impl.KbInds(q.k) {
			checks = append(checks, struct {
				what      string
				got, want int
			}{"Member", impl.Member(q.k, ind, q.c), memberByWords(q.k, string(ind), q.c)})
		}
		r, code := impl.Proof(q.k, q.c)
		ownRun, ownCode := foundByWords(q.k, q.c)
		tell("Proof", code)
		if code != ownCode || !sameRun(r, ownRun) {
			t.Fatalf("Proof of %s: %s\n%swant %s\n%s", q, answerWord(code), runTextByWords(r), answerWord(ownCode), runTextByWords(ownRun))
		}
		for _, c := range checks {
			tell(c.what, c.got)
			if c.got != c.want {
				t.Fatalf("%s of %s: %s, not %s", c.what, q, answerWord(c.got), answerWord(c.want))
			}
		}
		who, code := impl.Retrieve(q.k, q.c)
		own, ownCode := retrieveByWords(q.k, q.c)
		tell("Retrieve", code)
		if code != ownCode || !slices.Equal(texts(who), own) {
			t.Fatalf("Retrieve of %s: %q, %s; want %q, %s", q, who, answerWord(code), own, answerWord(ownCode))
		}
		list, code := impl.Reasons(q.k, q.c)
		ownList, ownCode := reasonsByWords(q.k, q.c)
		tell("Reasons", code)
		if code != ownCode || !slices.Equal(list, ownList) {
			t.Fatalf("Reasons of %s: %v, %s; want %v, %s", q, list, answerWord(code), ownList, answerWord(ownCode))
		}
	}
	for what, least := range map[string]int{
		"Possible AnYes": 300, "Possible AnNo": 200, "Possible AnBig": 50, "Consistent AnYes": 300, "Consistent AnNo": 100, "Under AnYes": 200, "Under AnNo": 200, "Under AnBig": 50,
		"Member AnYes": 300, "Member AnNo": 300, "Member AnBig": 50, "Retrieve AnYes": 300, "Retrieve AnBig": 20, "Reasons AnNo": 200, "Reasons AnYes": 300, "Reasons AnBig": 50, "Proof AnNo": 200,
	} {
		if count[what] < least {
			t.Error(what, count[what], ": too few to tell")
		}
	}
}

func fullAsks(t *testing.T) []drawnAsk {
	var list []drawnAsk
	for _, c := range full {
		list = append(list, drawnAsk{readKb(t, c.kb), readCon(t, c.c), named("B")})
	}
	return list
}

// drawnModels are drawn worlds, each with knowledge that it is a model of.
type drawnModel struct {
	w impl.World
	k impl.Kb
}

func drawnModels(seed, each int) []drawnModel {
	d := dice(seed)
	var list []drawnModel
	for _, w := range someWorlds() {
		if w.N > 10 {
			continue
		}
		for range each {
			if k := d.trueAxioms(w); impl.IsModel(w, k) {
				list = append(list, drawnModel{w, k})
			}
		}
	}
	return list
}

// Promise 8: all that Proof finds out of Top that is KdOne, KdAll or KdRole holds in each model.
func TestPromise8WhatProofFindsOutHoldsInModels(t *testing.T) {
	count := map[string]int{}
	worlds := someWorlds()
	hold := func(w impl.World, k impl.Kb) {
		r, code := impl.Proof(k, top)
		s, clsCode := impl.Clausify(k, top)
		if code == impl.AnNo || code == impl.AnForm || (clsCode == impl.ClBig) != (len(r.L) == 0 && code == impl.AnBig) {
			t.Fatalf("%s has the model %v: %s, %d", spellKb(k), w, answerWord(code), clsCode)
		}
		wantStepsHold(t, w, k, s, r, count)
	}
	for _, m := range drawnModels(80, 5) {
		hold(m.w, m.k)
	}
	for i, k := range drawnKbs(500) {
		for at, w := range worlds {
			if (i+at)%4 == 0 && w.N < 10 && impl.IsModel(w, k) {
				hold(w, k)
			}
		}
	}
	if count["one"] < 10000 || count["all"] < 1000 || count["role"] < 500 || count["follows"] < 2000 {
		t.Error(count, ": too few to tell")
	}
}

// Promise 8: a proof ends with nothing just if it tells AnNo, of Top and of other concepts.
func TestPromise8ProofEndsWithNothingJustIfItTellsNo(t *testing.T) {
	codes := map[int]int{}
	for _, q := range append(drawnAsks(1500), fullAsks(t)...) {
		for _, c := range []impl.Con{top, q.c} {
			r, code := impl.Proof(q.k, c)
			codes[code]++
			ends := len(r.L) > 0 && impl.Empty(r.L[len(r.L)-1].C)
			if ends != (code == impl.AnNo) || (code == impl.AnNo) != (r.Code == impl.RsRefuted) {
				t.Fatalf("%s and %s: %s, %d\n%s", spellKb(q.k), spell(c), answerWord(code), r.Code, runTextByWords(r))
			}
			wantEndIsTold(t, r)
			wantRunFine(t, r)
		}
	}
	if codes[impl.AnYes] < 1000 || codes[impl.AnNo] < 300 || codes[impl.AnBig] < 100 {
		t.Error(codes, ": too few to tell")
	}
}

// Promise 10: where both tell anything, Possible is AnYes just if ModelOf finds a model.
func TestPromise10PossibleJustIfThereIsAModel(t *testing.T) {
	count := map[[2]int]int{}
	for _, q := range append(questions(2500), individuals(1500)...) {
		_, made := impl.ModelOf(q.k, q.c)
		found := impl.Possible(q.k, q.c)
		count[[2]int{found, made}]++
		if found == impl.AnYes && made == impl.TyNone || found == impl.AnNo && made == impl.TyWell || found == impl.AnForm {
			t.Fatalf("%s: Possible %s, ModelOf %d", q, answerWord(found), made)
		}
	}
	if count[[2]int{impl.AnYes, impl.TyWell}] < 1000 || count[[2]int{impl.AnNo, impl.TyNone}] < 500 {
		t.Error(count, ": too few to tell")
	}
}

// Promise 10: of what somebody is in a model Possible is not AnNo.
func TestPromise10WhatSomebodyIsInAModelIsPossible(t *testing.T) {
	d := dice(100)
	codes := map[int]int{}
	for _, m := range drawnModels(101, 4) {
		for range 6 {
			c := d.relatedCon(m.k)
			if !impl.ConOk(c) || len(impl.Extension(m.w, c)) == 0 {
				continue
			}
			code := impl.Possible(m.k, c)
			codes[code]++
			if code != impl.AnYes && code != impl.AnBig {
				t.Fatalf("%sand %s have the model %v: %s", spellKb(m.k), spell(c), m.w, answerWord(code))
			}
		}
	}
	if codes[impl.AnYes] < 2000 {
		t.Error(codes, ": too few to tell")
	}
}

// Promise 11: each concept is Under itself and Top, and Bot is under it.
func TestPromise11EachIsUnderItselfAndTop(t *testing.T) {
	codes := map[int]int{}
	hold := func(k impl.Kb, c impl.Con) {
		if !impl.ConOk(c) {
			return
		}
		for i, code := range []int{impl.Under(k, c, c), impl.Under(k, c, top), impl.Under(k, bot, c)} {
			codes[code]++
			if code != impl.AnYes && code != impl.AnBig || code == impl.AnBig && len(k.L) == 0 {
				t.Fatalf("%s%s, the question %d: %s", spellKb(k), spell(c), i, answerWord(code))
			}
		}
	}
	for _, c := range conceptsOf(4) {
		hold(impl.Kb{}, c)
	}
	for _, q := range drawnAsks(600) {
		hold(q.k, q.c)
		hold(q.k, q.d)
	}
	if codes[impl.AnYes] < 5000 {
		t.Error(codes, ": too few to tell")
	}
}

// Promise 11: what is under what is under one is.
func TestPromise11OneUnderAnother(t *testing.T) {
	d := dice(111)
	count := 0
	for _, k := range drawnKbs(250) {
		if impl.Consistent(k) != impl.AnYes {
			continue
		}
		var list []impl.Con
		for range 5 {
			if c := d.relatedCon(k); impl.ConOk(c) {
				list = append(list, c)
			}
		}
		under := func(c, e impl.Con) int { return impl.Under(k, c, e) }
		for _, a := range list {
			for _, b := range list {
				if sameCon(a, b) || under(a, b) != impl.AnYes {
					continue
				}
				for _, c := range list {
					if sameCon(b, c) || under(b, c) != impl.AnYes {
						continue
					}
					count++
					if code := under(a, c); code != impl.AnYes && code != impl.AnBig {
						t.Fatalf("%s%s, %s, %s: the first is not under the last: %s", spellKb(k), spell(a), spell(b), spell(c), answerWord(code))
					}
				}
			}
		}
	}
	if count < 300 {
		t.Error(count, ": too few to tell")
	}
	for _, c := range [][3]string{{"And(A B)", "A", "Or(A B)"}, {"Some(r And(A B))", "Some(r A)", "Some(r Top)"}, {"A", "B", "C"}, {"Some(s A)", "Some(s B)", "Some(r B)"}} {
		for _, pair := range [][2]int{{0, 1}, {1, 2}, {0, 2}} {
			wantUnder(t, "Sub(A B) Sub(B C) Role(s r)", c[pair[0]], c[pair[1]], impl.AnYes)
		}
		wantUnder(t, "", c[2], c[0], impl.AnNo)
	}
}

func within(low, high []int) bool {
	return !slices.ContainsFunc(low, func(e int) bool { return !slices.Contains(high, e) })
}

// Promise 11: what is Under another one is so in each model.
func TestPromise11WhatIsUnderIsSoInEachModel(t *testing.T) {
	d := dice(112)
	codes := map[int]int{}
	strays := 0
	for _, m := range drawnModels(113, 4) {
		for range 5 {
			c, e := d.relatedCon(m.k), d.relatedCon(m.k)
			if !impl.ConOk(c) || !impl.ConOk(e) {
				continue
			}
			code := impl.Under(m.k, c, e)
			is := within(impl.Extension(m.w, c), impl.Extension(m.w, e))
			if code == impl.AnForm || code == impl.AnYes && !is {
				t.Fatalf("%s%s and %s in %v: %s, and %v", spellKb(m.k), spell(c), spell(e), m.w, answerWord(code), is)
			}
			if codes[code]++; !is {
				strays++
			}
		}
	}
	if codes[impl.AnYes] < 500 || codes[impl.AnNo] < 500 || strays < 500 {
		t.Error(codes, strays, ": too few to tell")
	}
}

// Promise 11: who is found to be a Member is in each model; who is in no model, or not in each, is not found to be one.
func TestPromise11WhoIsAMemberIsInEachModel(t *testing.T) {
	d := dice(114)
	codes := map[int]int{}
	strays := 0
	for _, m := range drawnModels(115, 5) {
		for _, ind := range impl.KbInds(m.k) {
			c := d.relatedCon(m.k)
			if !impl.ConOk(c) {
				continue
			}
			code := impl.Member(m.k, ind, c)
			is := satisfiesByWords(m.w, impl.Axiom{Kind: impl.AxIs, A: ind, C: c})
			if code == impl.AnForm || code == impl.AnYes && !is {
				t.Fatalf("%s%s and %s in %v: %s, and %v", spellKb(m.k), ind, spell(c), m.w, answerWord(code), is)
			}
			if codes[code]++; !is {
				strays++
			}
		}
	}
	if codes[impl.AnYes] < 300 || codes[impl.AnNo] < 300 || strays < 300 {
		t.Error(codes, strays, ": too few to tell")
	}
}

// Promise 11: who is told to be a member is one.
func TestPromise11WhoIsToldToBeAMemberIs(t *testing.T) {
	codes := map[int]int{}
	for _, k := range append(someKbs(), drawnKbs(600)...) {
		for _, x := range k.L {
			if x.Kind != impl.AxIs {
				continue
			}
			code := impl.Member(k, x.A, x.C)
			codes[code]++
			if code != impl.AnYes && code != impl.AnBig {
				t.Fatalf("%s%s: %s", spellKb(k), spellAxiom(x), answerWord(code))
			}
			who, retrieved := impl.Retrieve(k, x.C)
			if retrieved == impl.AnYes && !slices.Contains(texts(who), string(x.A)) {
				t.Fatalf("%s%s: %q", spellKb(k), spellAxiom(x), who)
			}
		}
	}
	if codes[impl.AnYes] < 600 {
		t.Error(codes, ": too few to tell")
	}
}

// Promise 11: what was found out stays so when more is told, wherever it is told.
func TestPromise11WhatWasFoundOutStaysSo(t *testing.T) {
	d := dice(116)
	count := map[string]int{}
	for _, q := range drawnAsks(1200) {
		longer := told(slices.Insert(slices.Clone(q.k.L), d.below(len(q.k.L)+1), d.anyAxiom(1+d.below(3)))...)
		if !impl.KbOk(longer) {
			continue
		}
		stays := func(what string, before, after, code int) {
			if before != code {
				return
			}
			count[what]++
			if after != code && after != impl.AnBig {
				t.Fatalf("%s of %s: %s; with\n%s%s", what, q, answerWord(before), spellKb(longer), answerWord(after))
			}
		}
		stays("Possible", impl.Possible(q.k, q.c), impl.Possible(longer, q.c), impl.AnNo)
		stays("Consistent", impl.Consistent(q.k), impl.Consistent(longer), impl.AnNo)
		stays("Under", impl.Under(q.k, q.c, q.d), impl.Under(longer, q.c, q.d), impl.AnYes)
		for _, ind := range impl.KbInds(q.k) {
			stays("Member", impl.Member(q.k, ind, q.c), impl.Member(longer, ind, q.c), impl.AnYes)
		}
		who, _ := impl.Retrieve(q.k, q.c)
		whoNow, code := impl.Retrieve(longer, q.c)
		for _, ind := range who {
			if code == impl.AnYes && !slices.Contains(texts(whoNow), string(ind)) {
				t.Fatalf("Retrieve of %s: %q; with\n%s%q", q, who, spellKb(longer), whoNow)
			}
		}
	}
	for what, n := range count {
		if n < 50 {
			t.Error(what, n, ": too few to tell")
		}
	}
	if len(count) != 4 {
		t.Error(count, ": too few to tell")
	}
}

// Promise 12: of Reasons alone nobody may be of the concept; without any one of them somebody may, or it is not found out.
func TestPromise12ReasonsAreEnoughAndNeeded(t *testing.T) {
	long := map[int]int{}
	codes := map[int]int{}
	for _, q := range drawnAsks(2500) {
		list, code := impl.Reasons(q.k, q.c)
		codes[code]++
		found := impl.Possible(q.k, q.c)
		if code != found && (found != impl.AnNo || code != impl.AnBig) || code != impl.AnNo && len(list) != 0 {
			t.Fatalf("%s: %v, %s; Possible %s", q, list, answerWord(code), answerWord(found))
		}
		if code != impl.AnNo {
			continue
		}
		long[len(list)]++
		for at, i := range list {
			if i < 0 || i >= len(q.k.L) || at > 0 && list[at-1] >= i {
				t.Fatalf("%s: %v do not ascend, or are no axioms", q, list)
			}
			if code := impl.Possible(only(q.k, less(list, i)), q.c); code != impl.AnYes && code != impl.AnBig {
				t.Fatalf("%s: of %v without %d %s", q, list, i, answerWord(code))
			}
		}
		if code := impl.Possible(only(q.k, list), q.c); code != impl.AnNo {
			t.Fatalf("%s: of %v alone %s", q, list, answerWord(code))
		}
	}
	if codes[impl.AnNo] < 400 || codes[impl.AnYes] < 400 || long[0] < 20 || long[1] < 100 || long[2] < 50 || long[3] < 5 {
		t.Error(codes, long, ": too few to tell")
	}
}

// Promise 14, its part of this chapter: of all who are named Retrieve tells those who are members, in order.
func TestPromise14RetrieveTellsTheMembers(t *testing.T) {
	long := map[int]int{}
	for _, q := range append(drawnAsks(1200), fullAsks(t)...) {
		who, code := impl.Retrieve(q.k, q.c)
		var want []string
		wantCode := impl.AnYes
		for _, ind := range impl.KbInds(q.k) {
			switch impl.Member(q.k, ind, q.c) {
			case impl.AnYes:
				want = append(want, string(ind))
			case impl.AnBig:
				wantCode = impl.AnBig
			}
		}
		if wantCode == impl.AnBig {
			want = nil
		}
		if code != wantCode || !slices.Equal(texts(who), want) || !slices.IsSorted(want) {
			t.Fatalf("%s: %q, %s; want %q, %s", q, who, answerWord(code), want, answerWord(wantCode))
		}
		long[len(want)]++
	}
	if long[0] < 100 || long[1] < 100 || long[2] < 50 || long[3] < 20 {
		t.Error(long, ": too few to tell")
	}
}

// spoilAnswers writes over all that answers have: they are the caller's own.
func spoilAnswers(who [][]byte, r impl.Run, list []int) {
	for _, b := range who {
		for i := range b[:cap(b)] {
			b[:cap(b)][i] = '?'
		}
	}
	for i := range who[:cap(who)] {
		who[:cap(who)][i] = nil
	}
	for _, s := range r.L {
		for i := range s.C.Inds {
			s.C.Inds[i] = impl.Part{Pos: -7, Neg: -7}
		}
	}
	for i := range r.L[:cap(r.L)] {
		r.L[:cap(r.L)][i] = impl.Step{A: -7}
	}
	for i := range list[:cap(list)] {
		list[:cap(list)][i] = -7
	}
}

func TestAskingSharesNoMemory(t *testing.T) {
	for _, q := range append(drawnAsks(400), fullAsks(t)...) {
		k, c, d := roomyKb(q.k), roomyCon(q.c), roomyCon(q.d)
		before := snapshot(k) + snapshot(c) + snapshot(d)
		for range 2 {
			who, whoCode := impl.Retrieve(k, c)
			r, found := impl.Proof(k, c)
			list, listCode := impl.Reasons(k, c)
			for _, answer := range []any{who, r, list} {
				wantApart(t, answer, k, c)
			}
			wantWho, wantWhoCode := impl.Retrieve(q.k, q.c)
			wantRun, wantFound := impl.Proof(q.k, q.c)
			wantList, wantListCode := impl.Reasons(q.k, q.c)
			if !slices.Equal(texts(who), texts(wantWho)) || whoCode != wantWhoCode || !sameRun(r, wantRun) || found != wantFound || !slices.Equal(list, wantList) || listCode != wantListCode ||
				impl.Possible(k, c) != wantFound || impl.Consistent(k) != impl.Consistent(q.k) || impl.Under(k, c, d) != impl.Under(q.k, q.c, q.d) {
				t.Fatalf("%s: what lies behind the lengths is read, or an answer is kept", q)
			}
			spoilAnswers(who, r, list)
			for _, ind := range impl.KbInds(q.k) {
				room := roomyBytes(ind)
				if impl.Member(k, room, c) != impl.Member(q.k, ind, q.c) || string(room[:len(room)+3]) != string(ind)+"abc" {
					t.Fatalf("%s: what lies behind %s is read or written", q, ind)
				}
			}
			if snapshot(k)+snapshot(c)+snapshot(d) != before {
				t.Fatalf("%s is changed", q)
			}
		}
	}
}

// Lists of the arguments may be one and the same.
func TestAskingOfListsThatShareMemory(t *testing.T) {
	word, kids := []byte("r"), []impl.Con{named("A")}
	c := impl.Con{Kind: impl.CnAll, Role: word, Kids: kids}
	k := told(impl.Axiom{Kind: impl.AxIs, A: word, C: c}, impl.Axiom{Kind: impl.AxRel, R: word, A: word, B: word}, impl.Axiom{Kind: impl.AxRole, R: word, S: word}, impl.Axiom{Kind: impl.AxIs, A: word, C: not(kids[0])})
	wantAnswer(t, "Member", impl.Member(told(k.L[:3]...), word, kids[0]), impl.AnYes)
	wantAnswer(t, "Under", impl.Under(k, c, c), impl.AnYes)
	who, code := impl.Retrieve(k, c)
	wantAnswer(t, "Retrieve", code, impl.AnYes)
	wantApart(t, who, k, c, word)
	r, code := impl.Proof(k, c)
	wantAnswer(t, "Proof", code, impl.AnNo)
	wantApart(t, r, k, c)
	list, code := impl.Reasons(k, c)
	wantAnswer(t, "Reasons", code, impl.AnNo)
	wantApart(t, list, k, c)
	if !slices.Equal(texts(who), []string{"r"}) || !slices.Equal(list, []int{0, 1, 3}) || len(k.L) != 4 || string(word) != "r" {
		t.Error(who, list, spellKb(k))
	}
}

func TestAskedAnswersStayTheSame(t *testing.T) {
	q := drawnAsk{readKb(t, "Role(r s) Sub(A Some(r B)) Is(x All(s A)) Rel(r x y) Is(z C)"), readCon(t, "And(A Not(Some(s B)))"), readCon(t, "Some(s Top)")}
	ask := func() string {
		r, found := impl.Proof(q.k, q.c)
		who, code := impl.Retrieve(q.k, q.d)
		list, listCode := impl.Reasons(q.k, q.c)
		return fmt.Sprint(r, found, texts(who), code, list, listCode, impl.Possible(q.k, q.d), impl.Under(q.k, q.c, q.d), impl.Consistent(q.k), impl.Member(q.k, []byte("y"), named("A")))
	}
	first := ask()
	impl.Proof(readKb(t, "Sub(B Bot) Is(x B)"), top)
	impl.Retrieve(readKb(t, full[0].kb), readCon(t, full[0].c))
	impl.Reasons(impl.Kb{}, bot)
	for range 20 {
		if ask() != first {
			t.Fatal("an answer hangs on an earlier call")
		}
	}
}
