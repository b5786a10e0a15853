package tests

import (
	"bytes"
	"fmt"
	"regexp"
	"slices"
	"strings"
	"testing"

	"loop.example/g00534/impl"
)

var keptWords = []string{"Top", "Bot", "Not", "And", "Or", "Some", "All", "Sub", "Eq", "Dis", "Role", "Is", "Rel"}

func upper(at int, s string) impl.Token {
	return impl.Token{Kind: impl.TkUpper, At: at, Text: []byte(s)}
}

func lower(at int, s string) impl.Token {
	return impl.Token{Kind: impl.TkLower, At: at, Text: []byte(s)}
}

func open(at int) impl.Token { return impl.Token{Kind: impl.TkOpen, At: at} }

func shut(at int) impl.Token { return impl.Token{Kind: impl.TkClose, At: at} }

func sameToken(a, b impl.Token) bool {
	return a.Kind == b.Kind && a.At == b.At && bytes.Equal(a.Text, b.Text)
}

func sameButAt(a, b impl.Token) bool {
	return a.Kind == b.Kind && bytes.Equal(a.Text, b.Text)
}

func wantTokens(t *testing.T, text string, want []impl.Token, wantBad int) {
	t.Helper()
	got, bad := impl.Tokens([]byte(text))
	if bad != wantBad || !slices.EqualFunc(got, want, sameToken) {
		t.Fatalf("Tokens(%q) = %v, %d; want %v, %d", text, got, bad, want, wantBad)
	}
}

// The document's sentence as patterns: another way to it than the program's.
var (
	anyPiece  = regexp.MustCompile(`[ \n]|[()]|[^ \n()][a-z]*`)
	upperWord = regexp.MustCompile(`^[A-Z][a-z]{0,5}$`)
	lowerWord = regexp.MustCompile(`^[a-z]{1,6}$`)
)

func tokensByPattern(text string) ([]impl.Token, int) {
	var list []impl.Token
	for _, span := range anyPiece.FindAllStringIndex(text, -1) {
		at, s := span[0], text[span[0]:span[1]]
		switch {
		case s == " " || s == "\n":
		case s == "(":
			list = append(list, open(at))
		case s == ")":
			list = append(list, shut(at))
		case upperWord.MatchString(s):
			list = append(list, upper(at, s))
		case lowerWord.MatchString(s):
			list = append(list, lower(at, s))
		default:
			return nil, at
		}
	}
	return list, -1
}

// eachText calls f with head and all texts of it and up to more bytes of the alphabet.
func eachText(head, alphabet string, more int, f func(string)) {
	f(head)
	if more == 0 {
		return
	}
	for i := range len(alphabet) {
		eachText(head+alphabet[i:i+1], alphabet, more-1, f)
	}
}

func TestUpperOkAndLowerOk(t *testing.T) {
	for _, c := range []struct {
		text         string
		upper, lower bool
	}{
		{"", false, false},
		{"A", true, false}, {"Z", true, false}, {"a", false, true}, {"z", false, true},
		{"Az", true, false}, {"Za", true, false}, {"az", false, true},
		{"Abcdef", true, false}, {"Abcdefg", false, false},
		{"abcdef", false, true}, {"abcdefg", false, false},
		{"AB", false, false}, {"aB", false, false}, {"abcdeF", false, false}, {"AbcdeF", false, false},
		{"A1", false, false}, {"a1", false, false}, {"1", false, false}, {"1a", false, false},
		{"A ", false, false}, {" a", false, false}, {"a\n", false, false},
		{"@", false, false}, {"[", false, false}, {"`", false, false}, {"{", false, false},
		{"a`", false, false}, {"a{", false, false}, {"A`", false, false}, {"A{", false, false},
		{"(", false, false}, {")", false, false}, {"\x00", false, false}, {"\xff", false, false},
		{"\u00e4", false, false}, {"\u00c4", false, false},
		{"Top", true, false}, {"top", false, true},
	} {
		if got := impl.UpperOk([]byte(c.text)); got != c.upper {
			t.Errorf("UpperOk(%q) = %v", c.text, got)
		}
		if got := impl.LowerOk([]byte(c.text)); got != c.lower {
			t.Errorf("LowerOk(%q) = %v", c.text, got)
		}
	}
	if impl.UpperOk(nil) || impl.LowerOk(nil) {
		t.Error("nil is a word")
	}
}

func TestUpperOkAndLowerOkOfShortTexts(t *testing.T) {
	for i := range 256 * 256 {
		for _, b := range [][]byte{{byte(i)}, {byte(i >> 8), byte(i)}} {
			if got := impl.UpperOk(b); got != upperWord.Match(b) {
				t.Fatalf("UpperOk(%q) = %v", b, got)
			}
			if got := impl.LowerOk(b); got != lowerWord.Match(b) {
				t.Fatalf("LowerOk(%q) = %v", b, got)
			}
		}
	}
}

func TestKept(t *testing.T) {
	for _, s := range keptWords {
		if !impl.Kept([]byte(s)) {
			t.Errorf("%q is not kept", s)
		}
		near := []string{
			s[:len(s)-1], s[1:], s + "s", s + " ", " " + s, s + "\n", s + "\x00",
			strings.ToLower(s), strings.ToUpper(s), "(" + s, s[:len(s)-1] + "x", "X" + s[1:],
		}
		for _, n := range near {
			if !slices.Contains(keptWords, n) && impl.Kept([]byte(n)) {
				t.Errorf("%q is kept", n)
			}
		}
	}
	for _, s := range []string{"", "A", "Concept", "Bottom", "Sat", "Get", "Whole", "Edge", "TopBot"} {
		if impl.Kept([]byte(s)) {
			t.Errorf("%q is kept", s)
		}
	}
	if impl.Kept(nil) {
		t.Error("nil is kept")
	}
}

func TestTokensOfOrdinaryTexts(t *testing.T) {
	wantTokens(t, "Sub(A Some(r Abc))", []impl.Token{
		upper(0, "Sub"), open(3), upper(4, "A"), upper(6, "Some"), open(10),
		lower(11, "r"), upper(13, "Abc"), shut(16), shut(17),
	}, -1)
	wantTokens(t, "Is(bob\n  Not(Cat))\nRel(likes bob ann)\n", []impl.Token{
		upper(0, "Is"), open(2), lower(3, "bob"), upper(9, "Not"), open(12), upper(13, "Cat"), shut(16), shut(17),
		upper(19, "Rel"), open(22), lower(23, "likes"), lower(29, "bob"), lower(33, "ann"), shut(36),
	}, -1)
	wantTokens(t, ")(a)A(", []impl.Token{shut(0), open(1), lower(2, "a"), shut(3), upper(4, "A"), open(5)}, -1)
}

func TestTokensNeedNoBlankAheadOfACapital(t *testing.T) {
	wantTokens(t, "AB", []impl.Token{upper(0, "A"), upper(1, "B")}, -1)
	wantTokens(t, "abCdeF", []impl.Token{lower(0, "ab"), upper(2, "Cde"), upper(5, "F")}, -1)
	wantTokens(t, "AbcdefAbcdef", []impl.Token{upper(0, "Abcdef"), upper(6, "Abcdef")}, -1)
}

func TestTokensOfNothing(t *testing.T) {
	for _, s := range []string{"", " ", "\n", "  \n \n\n ", strings.Repeat(" ", impl.MaxText), strings.Repeat("\n", impl.MaxText)} {
		wantTokens(t, s, nil, -1)
	}
	if l, bad := impl.Tokens(nil); len(l) != 0 || bad != -1 {
		t.Error(l, bad)
	}
}

func TestTokensOfLongTexts(t *testing.T) {
	brackets := strings.Repeat("(", impl.MaxText)
	l, bad := impl.Tokens([]byte(brackets))
	if bad != -1 || len(l) != impl.MaxText || !sameToken(l[impl.MaxText-1], open(impl.MaxText-1)) {
		t.Error(len(l), bad)
	}
	wantTokens(t, brackets+"(", nil, 0)
	wantTokens(t, strings.Repeat(" ", impl.MaxText+1), nil, 0)
	wantTokens(t, strings.Repeat(" ", impl.MaxText-1)+"a", []impl.Token{lower(impl.MaxText-1, "a")}, -1)
	wantTokens(t, strings.Repeat(" ", impl.MaxText)+"a", nil, 0)
	wantTokens(t, strings.Repeat("(", impl.MaxText-1)+"?", nil, impl.MaxText-1)
	// That it is too long counts ahead of what stands in it.
	wantTokens(t, strings.Repeat("(", 9)+"?"+brackets, nil, 0)
}

func TestTokensOfLongWords(t *testing.T) {
	wantTokens(t, " Abcdef abcdef", []impl.Token{upper(1, "Abcdef"), lower(8, "abcdef")}, -1)
	wantTokens(t, "A Abcdefg", nil, 2)
	wantTokens(t, "A abcdefg", nil, 2)
	wantTokens(t, "(abcdefghijkl)", nil, 1)
}

func TestTokensTellTheFirstThatIsWrong(t *testing.T) {
	for _, c := range []struct {
		text string
		bad  int
	}{
		{"?", 0}, {"A ?", 2}, {"A?", 1}, {"A ?bc", 2}, {"A\t", 1}, {"A\r\n", 1}, {"\n\n\x00", 2},
		{"? abcdefg", 0}, {"abcdefg ?", 0}, {"Sub(A B1)", 7}, {"a-b", 1}, {"_a", 0}, {"a \xc3\xa4", 2},
		{"@", 0}, {"[", 0}, {"`", 0}, {"{", 0}, {"a{", 1}, {"A`", 1}, {"(A) (B) $", 8},
	} {
		wantTokens(t, c.text, nil, c.bad)
	}
}

func TestTokensOfAllShortTexts(t *testing.T) {
	check := func(s string) {
		want, bad := tokensByPattern(s)
		wantTokens(t, s, want, bad)
	}
	for i := range 256 * 256 {
		check(string([]byte{byte(i)}))
		check(string([]byte{byte(i >> 8), byte(i)}))
	}
	eachText("", "Aaz() \n?", 6, check)
	eachText("", "Aa ", 9, check)
}

func TestTokenTextOfOrdinaryTokens(t *testing.T) {
	for _, c := range []struct {
		list []impl.Token
		want string
	}{
		{nil, ""},
		{[]impl.Token{}, ""},
		{[]impl.Token{upper(0, "A")}, "A"},
		{[]impl.Token{lower(0, "a")}, "a"},
		{[]impl.Token{open(0)}, "("},
		{[]impl.Token{shut(0)}, ")"},
		{[]impl.Token{shut(0), open(0), open(0)}, ") ( ("},
		{[]impl.Token{upper(0, "Some"), open(0), lower(0, "r"), upper(0, "Abcdef"), shut(0)}, "Some ( r Abcdef )"},
		{[]impl.Token{{Kind: impl.TkOpen, Text: []byte{}}, {Kind: impl.TkClose, Text: []byte{}}}, "( )"},
		// Whatever their At is.
		{[]impl.Token{upper(-1, "A"), lower(1<<62, "b"), open(-1 << 63), shut(7), upper(7, "C")}, "A b ( ) C"},
	} {
		if got := string(impl.TokenText(c.list)); got != c.want {
			t.Errorf("TokenText(%v) = %q, want %q", c.list, got, c.want)
		}
	}
}

func TestTokenTextOfWrongTokens(t *testing.T) {
	kinds := []int{-1 << 63, -1, 0, impl.TkUpper, impl.TkLower, impl.TkOpen, impl.TkClose, 5, 1<<63 - 1}
	texts := []string{"", "A", "a", "(", ")", "Abcdef", "Abcdefg", "abcdef", "abcdefg", "AB", "aB", "a ", " a", "A1", "1", "?", "\n", "\x00", "\xff"}
	for _, kind := range kinds {
		for _, text := range texts {
			wrong := impl.Token{Kind: kind, Text: []byte(text)}
			ok := kind == impl.TkUpper && upperWord.MatchString(text) ||
				kind == impl.TkLower && lowerWord.MatchString(text) ||
				(kind == impl.TkOpen || kind == impl.TkClose) && text == ""
			for _, list := range [][]impl.Token{
				{wrong}, {wrong, upper(0, "A")}, {upper(0, "A"), wrong}, {open(0), wrong, shut(0)},
			} {
				if got := impl.TokenText(list); ok != (len(got) > 0) {
					t.Errorf("TokenText(%v) = %q", list, got)
				}
			}
		}
	}
}

func TestTokenTextOfManyTokens(t *testing.T) {
	full := slices.Repeat([]impl.Token{open(0)}, impl.MaxText)
	want := strings.TrimSuffix(strings.Repeat("( ", impl.MaxText), " ")
	if got := string(impl.TokenText(full)); got != want {
		t.Errorf("%d tokens: %d bytes, want %d", len(full), len(got), len(want))
	}
	if got := impl.TokenText(append(full, open(0))); len(got) != 0 {
		t.Errorf("%d tokens: %d bytes", len(full)+1, len(got))
	}
	full[impl.MaxText-1].Kind = 0
	if got := impl.TokenText(full); len(got) != 0 {
		t.Errorf("a wrong token at the end: %d bytes", len(got))
	}
}

// Promise 1: what is written is read, each token where it was written.
func checkReadAgain(t *testing.T, list []impl.Token) {
	t.Helper()
	text := impl.TokenText(list)
	got, bad := impl.Tokens(text)
	if len(text) > impl.MaxText {
		if bad != 0 || len(got) != 0 {
			t.Fatalf("%d bytes were read", len(text))
		}
		return
	}
	if bad != -1 || !slices.EqualFunc(got, list, sameButAt) {
		t.Fatalf("%v is written %q, read %v, %d", list, text, got, bad)
	}
	at := 0
	for _, k := range got {
		if k.At != at {
			t.Fatalf("%q: %v should be at %d", text, k, at)
		}
		at += max(1, len(k.Text)) + 1
	}
	if again := impl.TokenText(got); !bytes.Equal(again, text) {
		t.Fatalf("%q is written again as %q", text, again)
	}
}

func TestPromise1TokensComeBack(t *testing.T) {
	kinds := []impl.Token{open(0), shut(-5), upper(3, "A"), upper(0, "Zyxwvu"), lower(9, "a"), lower(0, "zyxwvu"), upper(0, "Top")}
	eachText("", "0123456", 5, func(s string) {
		list := make([]impl.Token, len(s))
		for i := range s {
			list[i] = kinds[s[i]-'0']
		}
		checkReadAgain(t, list)
	})
}

func TestPromise1KeptWordsComeBack(t *testing.T) {
	var list []impl.Token
	for _, s := range keptWords {
		list = append(list, upper(0, s), open(0), lower(0, strings.ToLower(s)), shut(0))
	}
	checkReadAgain(t, list)
}

func TestPromise1LongTextsComeBack(t *testing.T) {
	// Each but the last takes two bytes: 750 of them end at the byte 1499.
	full := slices.Repeat([]impl.Token{lower(0, "a")}, impl.MaxText/2)
	checkReadAgain(t, full)
	full[0] = lower(0, "ab")
	if n := len(impl.TokenText(full)); n != impl.MaxText {
		t.Fatal(n)
	}
	checkReadAgain(t, full)
	full[1] = lower(0, "ab")
	if n := len(impl.TokenText(full)); n != impl.MaxText+1 {
		t.Fatal(n)
	}
	checkReadAgain(t, full)
}

func TestPromise1TextsComeBackWithOtherBlanks(t *testing.T) {
	eachText("", "Ab( \n", 6, func(s string) {
		list, bad := impl.Tokens([]byte(s))
		if bad == -1 {
			checkReadAgain(t, list)
		}
	})
}

func TestTokensShareNoMemory(t *testing.T) {
	room := []byte("Some ( role Abcdef ) bob")
	text := room[:len(room)-4]
	before := string(room)
	list, bad := impl.Tokens(text)
	if bad != -1 || len(list) != 5 {
		t.Fatal(list, bad)
	}
	told := fmt.Sprint(list)
	for i := range room {
		room[i] = '?'
	}
	if fmt.Sprint(list) != told {
		t.Error("the answer changes with the argument")
	}
	copy(room, before)
	for i := range list {
		others := slices.Clone(list)
		others[i].Text = nil
		told := fmt.Sprint(others)
		whole := list[i].Text[:cap(list[i].Text)]
		for j := range whole {
			whole[j] = '!'
		}
		if fmt.Sprint(others) != told {
			t.Error("two texts of the answer share memory")
		}
	}
	if string(room) != before {
		t.Error("the argument changes with the answer")
	}
}

func TestTokensReadNothingBehindTheLength(t *testing.T) {
	room := []byte("Abcdefghi?")
	for n := range 7 {
		list, bad := impl.Tokens(room[:n])
		if bad != -1 || n > 0 && (len(list) != 1 || string(list[0].Text) != "Abcdef"[:n]) {
			t.Error(n, list, bad)
		}
	}
	if !impl.UpperOk(room[:6]) || !impl.LowerOk(room[1:7]) || !impl.Kept([]byte("Topaz")[:3]) {
		t.Error("what lies behind the length is read")
	}
}

func TestTokenTextSharesNoMemory(t *testing.T) {
	room := []byte("Abcdef")
	list := []impl.Token{{Kind: impl.TkUpper, At: 4, Text: room[:2]}, open(0), {Kind: 77, At: 77}}
	told := fmt.Sprint(list)
	text := impl.TokenText(list[:2])
	if string(text) != "Ab (" {
		t.Fatalf("%q", text)
	}
	alone := impl.TokenText(list[:1])
	for _, b := range [][]byte{text, alone} {
		whole := b[:cap(b)]
		for i := range whole {
			whole[i] = '!'
		}
	}
	if fmt.Sprint(list) != told || string(room) != "Abcdef" {
		t.Error("the argument changes with the answer")
	}
	text = impl.TokenText(list[:1])
	room[0] = 'X'
	if string(text) != "Ab" {
		t.Error("the answer changes with the argument")
	}
}

func TestAnswersStayTheSame(t *testing.T) {
	for _, s := range []string{"Some ( r A )", "A ?", ""} {
		first, bad := impl.Tokens([]byte(s))
		impl.Tokens([]byte("Other ( words )"))
		wantTokens(t, s, first, bad)
	}
}
