package tests

import (
	"bytes"
	"fmt"
	"math"
	"slices"
	"strconv"
	"strings"
	"testing"

	"loop.example/g00534/impl"
)

// drawn makes a world of n by lines: "A 0 2" who is of a name, "r 0-1 1-1" who is related to whom, "x=1" who is who.
func drawn(n int, lines ...string) impl.World {
	w := impl.World{N: n}
	lines = slices.Clone(lines)
	slices.SortFunc(lines, func(a, b string) int { return strings.Compare(word(a), word(b)) })
	for _, line := range lines {
		values := strings.Fields(line)[1:]
		switch {
		case strings.Contains(line, "="):
			e, _ := strconv.Atoi(line[strings.Index(line, "=")+1:])
			w.Inds, w.At = append(w.Inds, []byte(word(line))), append(w.At, e)
		case line[0] <= 'Z':
			flags := make([]bool, n)
			for _, v := range values {
				e, _ := strconv.Atoi(v)
				flags[e] = true
			}
			w.Names, w.Sets = append(w.Names, []byte(word(line))), append(w.Sets, flags)
		default:
			flags := make([]bool, n*n)
			for _, v := range values {
				from, to, _ := strings.Cut(v, "-")
				a, _ := strconv.Atoi(from)
				b, _ := strconv.Atoi(to)
				flags[a*n+b] = true
			}
			w.Roles, w.Rels = append(w.Roles, []byte(word(line))), append(w.Rels, flags)
		}
	}
	return w
}

func word(line string) string {
	return strings.FieldsFunc(line, func(c rune) bool { return c == ' ' || c == '=' })[0]
}

// bitWorld has A, B, r and s by the bits of four numbers, and x and y.
func bitWorld(n, a, b, r, s, x, y int) impl.World {
	flags := func(long, bits int) []bool {
		out := make([]bool, long)
		for i := range out {
			out[i] = bits>>i&1 == 1
		}
		return out
	}
	return impl.World{N: n, Names: [][]byte{[]byte("A"), []byte("B")}, Sets: [][]bool{flags(n, a), flags(n, b)},
		Roles: [][]byte{[]byte("r"), []byte("s")}, Rels: [][]bool{flags(n*n, r), flags(n*n, s)}, Inds: [][]byte{[]byte("x"), []byte("y")}, At: []int{x, y}}
}

// dice is a row of numbers that is the same each time.
type dice uint

func (d *dice) below(n int) int {
	*d = *d*6364136223846793005 + 1442695040888963407
	return int(*d >> 33 % dice(n))
}

// anyWorld has n elements, and words of those that the tests' concepts and axioms have, not always all of them.
func (d *dice) anyWorld(n int) impl.World {
	w := impl.World{N: n}
	flags := func(long int) []bool {
		out, odds := make([]bool, long), 2+d.below(3)
		for i := range out {
			out[i] = d.below(odds) == 0
		}
		return out
	}
	for _, s := range []string{"A", "Abcdef", "B", "C", "D", "Zyxwvu"} {
		if d.below(6) > 0 {
			w.Names, w.Sets = append(w.Names, []byte(s)), append(w.Sets, flags(n))
		}
	}
	for _, s := range []string{"abcdef", "r", "s", "t", "zyxwvu"} {
		if d.below(6) > 0 {
			w.Roles, w.Rels = append(w.Roles, []byte(s)), append(w.Rels, flags(n*n))
		}
	}
	for _, s := range []string{"a", "r", "s", "x", "y", "z"} {
		if d.below(6) > 0 {
			w.Inds, w.At = append(w.Inds, []byte(s)), append(w.At, d.below(n))
		}
	}
	return w
}

// someWorlds are all of one, many of two, and some of three to six elements, and some that lack words.
func someWorlds() []impl.World {
	list := []impl.World{{N: 1}, {N: 2}, {N: impl.MaxDomain}, drawn(3, "A 1"), drawn(2, "r 0-1"), drawn(2, "x=1"), fullWorld(7)}
	for i := range 16 {
		list = append(list, bitWorld(1, i&1, i>>1&1, i>>2&1, i>>3, 0, 0))
	}
	for i := range 4 * 4 * 16 {
		list = append(list, bitWorld(2, i&3, i>>2&3, i>>4, []int{0, 6, 9, 13}[i%5%4], i&1, i>>2&1))
	}
	d := dice(1)
	for i := range 80 {
		list = append(list, d.anyWorld(3+i%4))
	}
	return list
}

// fullWorld has as many words as there may be.
func fullWorld(n int) impl.World {
	w := impl.World{N: n}
	d := dice(n)
	for i, s := range strings.Fields("A Aa Ab Abcdef B Ba C D E F Top Zyxwvu") {
		flags := make([]bool, n)
		for e := range flags {
			flags[e] = e%(i+1) == 0
		}
		w.Names, w.Sets = append(w.Names, []byte(s)), append(w.Sets, flags)
	}
	for i, s := range strings.Fields("a abcdef b r s zyxwvu") {
		flags := make([]bool, n*n)
		for e := range flags {
			flags[e] = d.below(i+2) == 0
		}
		w.Roles, w.Rels = append(w.Roles, []byte(s)), append(w.Rels, flags)
		w.Inds, w.At = append(w.Inds, []byte(s)), append(w.At, (n-1)*i/5)
	}
	return w
}

// flagOf looks a flag up word by word; none of a word that the world doesn't have.
func flagOf(words [][]byte, lists [][]bool, s []byte, at int) bool {
	for i, w := range words {
		if string(w) == string(s) {
			return lists[i][at]
		}
	}
	return false
}

// holdsByWords asks of one element, by the document's words, however great the concept is: not as the program does, of all at once.
func holdsByWords(w impl.World, c impl.Con, e int) bool {
	switch c.Kind {
	case impl.CnTop:
		return true
	case impl.CnBot:
		return false
	case impl.CnName:
		return flagOf(w.Names, w.Sets, c.Name, e)
	case impl.CnNot:
		return !holdsByWords(w, c.Kids[0], e)
	case impl.CnAnd:
		return holdsByWords(w, c.Kids[0], e) && holdsByWords(w, c.Kids[1], e)
	case impl.CnOr:
		return holdsByWords(w, c.Kids[0], e) || holdsByWords(w, c.Kids[1], e)
	}
	for to := range w.N {
		if flagOf(w.Roles, w.Rels, c.Role, e*w.N+to) && holdsByWords(w, c.Kids[0], to) == (c.Kind == impl.CnSome) {
			return c.Kind == impl.CnSome
		}
	}
	return c.Kind == impl.CnAll
}

func extensionByWords(w impl.World, c impl.Con) []int {
	var list []int
	for e := range w.N {
		if holdsByWords(w, c, e) {
			list = append(list, e)
		}
	}
	return list
}

func satisfiesByWords(w impl.World, x impl.Axiom) bool {
	for e := range w.N {
		switch c, d := holdsByWords(w, x.C, e), holdsByWords(w, x.D, e); {
		case x.Kind == impl.AxSub && c && !d, x.Kind == impl.AxEq && c != d, x.Kind == impl.AxDis && c && d:
			return false
		}
	}
	for i := range w.N * w.N {
		if x.Kind == impl.AxRole && flagOf(w.Roles, w.Rels, x.R, i) && !flagOf(w.Roles, w.Rels, x.S, i) {
			return false
		}
	}
	a := slices.Index(texts(w.Inds), string(x.A))
	b := slices.Index(texts(w.Inds), string(x.B))
	switch x.Kind {
	case impl.AxIs:
		return a >= 0 && holdsByWords(w, x.C, w.At[a])
	case impl.AxRel:
		return a >= 0 && b >= 0 && flagOf(w.Roles, w.Rels, x.R, w.At[a]*w.N+w.At[b])
	}
	return true
}

func everybody(n int) []int {
	list := make([]int, n)
	for e := range list {
		list[e] = e
	}
	return list
}

// wantWorldRefused holds that each function of the chapter gives its fixed answer, whatever it is asked.
func wantWorldRefused(t *testing.T, w impl.World, why string) {
	t.Helper()
	if impl.WorldOk(w) {
		t.Errorf("%s: it is WorldOk", why)
	}
	for e := -1; e <= 4; e++ {
		for _, s := range []string{"", "A", "B", "Aa", "r", "x"} {
			if impl.InSet(w, []byte(s), e) || impl.InRel(w, []byte(s), e, e) || impl.InRel(w, []byte(s), e, 0) || impl.InRel(w, []byte(s), 0, e) {
				t.Errorf("%s: %d is in %q", why, e, s)
			}
		}
		for _, c := range []impl.Con{top, not(bot), named("A"), not(named("A")), every("r", bot), or(named("B"), top)} {
			if impl.Holds(w, c, e) || len(impl.Extension(w, c)) != 0 {
				t.Errorf("%s: %s holds of %d, or of %v", why, spell(c), e, impl.Extension(w, c))
			}
		}
	}
	for _, x := range []impl.Axiom{{}, sub(bot, top), equal(top, top), apart(bot, top), role("r", "r"), is("x", top), rel("r", "x", "x")} {
		if impl.Satisfies(w, x) || impl.IsModel(w, told(x)) {
			t.Errorf("%s: it satisfies %s", why, spellAxiom(x))
		}
	}
	if impl.IsModel(w, impl.Kb{}) {
		t.Errorf("%s: it is a model", why)
	}
}

func wantWorldFine(t *testing.T, w impl.World, why string) {
	t.Helper()
	if !impl.WorldOk(w) || !impl.IsModel(w, impl.Kb{}) || !impl.Satisfies(w, impl.Axiom{}) || !slices.Equal(impl.Extension(w, top), everybody(w.N)) ||
		!impl.Holds(w, top, 0) || !impl.Holds(w, top, w.N-1) || impl.Holds(w, top, w.N) || impl.Holds(w, top, -1) {
		t.Errorf("%s: it is refused", why)
	}
}

func TestWorldOk(t *testing.T) {
	wantWorldFine(t, impl.World{N: 1}, "no words")
	wantWorldFine(t, impl.World{N: 1, Names: [][]byte{}, Sets: [][]bool{}, Roles: [][]byte{}, Rels: [][]bool{}, Inds: [][]byte{}, At: []int{}}, "empty lists")
	wantWorldFine(t, drawn(2, "A 0", "r 0-1", "x=1"), "one word of each")
	wantWorldFine(t, drawn(2, "Abcdef 1", "A 0", "B", "abcdef 0-0", "a", "x=1", "abcd=0", "y=1"), "words that ascend by their bytes")
	wantWorldFine(t, drawn(2, "r 0-1", "r=0", "s=0", "t=0"), "a word that is a role and an individual")
	wantWorldFine(t, drawn(2, "Top 0", "Not 1", "Sub"), "names that are UpperOk and Kept")
	for i, w := range someWorlds() {
		wantWorldFine(t, w, fmt.Sprint("world ", i))
	}
	wantWorldRefused(t, impl.World{}, "the zero value")
}

func TestHowManyElements(t *testing.T) {
	for _, n := range []int{1, 2, impl.MaxDomain - 1, impl.MaxDomain} {
		wantWorldFine(t, impl.World{N: n}, fmt.Sprint(n))
		wantWorldFine(t, fullWorld(n), fmt.Sprint(n, " with all words"))
	}
	for _, n := range []int{math.MinInt, -impl.MaxDomain, -1, 0, impl.MaxDomain + 1, 256, 1 << 31, 1 << 32, 1 << 62, math.MaxInt} {
		wantWorldRefused(t, impl.World{N: n}, fmt.Sprint(n))
		// N times N of 2^32 has nothing left in 64 bits.
		wantWorldRefused(t, impl.World{N: n, Roles: [][]byte{[]byte("r")}, Rels: [][]bool{{}}}, fmt.Sprint(n, " and an empty role"))
		wantWorldRefused(t, impl.World{N: n, Roles: [][]byte{[]byte("r")}, Rels: [][]bool{{true}}, Names: [][]byte{[]byte("A")}, Sets: [][]bool{{true}}}, fmt.Sprint(n, " and flags of one"))
	}
	wantWorldRefused(t, fullWorld(impl.MaxDomain+1), "one more than MaxDomain")
	wantWorldRefused(t, fullWorld(0), "nobody")
	wantWorldRefused(t, drawn(0, "A", "r"), "nobody, and flags of nobody")
}

func TestHowManyWords(t *testing.T) {
	letters := "abcdefghijklm"
	for n := range len(letters) + 1 {
		var names, roles, inds []string
		for _, c := range letters[:n] {
			names, roles, inds = append(names, strings.ToUpper(string(c))+" 0"), append(roles, string(c)+" 0-0"), append(inds, string(c)+"=0")
		}
		for _, c := range []struct {
			lines []string
			most  int
		}{{names, 12}, {roles, 6}, {inds, 6}, {slices.Concat(names, roles[:min(n, 6)], inds[:min(n, 6)]), 12}} {
			if n <= c.most {
				wantWorldFine(t, drawn(1, c.lines...), fmt.Sprint(c.lines))
			} else {
				wantWorldRefused(t, drawn(1, c.lines...), fmt.Sprint(c.lines))
			}
		}
	}
	many := impl.World{N: 1, Names: make([][]byte, 1<<20), Sets: make([][]bool, 1<<20), Roles: make([][]byte, 1<<20), Rels: make([][]bool, 1<<20), Inds: make([][]byte, 1<<20), At: make([]int, 1<<20)}
	wantWorldRefused(t, many, "2^20 words")
}

// wantSpoiled changes a right world in one way.
func wantSpoiled(t *testing.T, why string, spoil func(w *impl.World)) {
	t.Helper()
	w := drawn(2, "A 0 1", "B 0 1", "C", "r 0-0 0-1 1-0 1-1", "s 0-0", "t 1-1", "x=0", "y=1", "z=1")
	wantWorldFine(t, w, "as drawn")
	spoil(&w)
	wantWorldRefused(t, w, why)
}

func TestWorldsOfWrongWords(t *testing.T) {
	for i := range 3 {
		for _, s := range append([]string{"", "a", "abc", "Abcdefg", "AB", "aB", "A1", "A ", " A", "(", "\xff", "\x00"}, strings.Repeat("Z", 1<<10)) {
			wantSpoiled(t, "a name "+strconv.Quote(s), func(w *impl.World) { w.Names[i] = []byte(s) })
		}
		for _, s := range append([]string{""}, wrongLower...) {
			wantSpoiled(t, "a role "+strconv.Quote(s), func(w *impl.World) { w.Roles[i] = []byte(s) })
			wantSpoiled(t, "an individual "+strconv.Quote(s), func(w *impl.World) { w.Inds[i] = []byte(s) })
		}
		wantSpoiled(t, "nil as a name", func(w *impl.World) { w.Names[i] = nil })
		wantSpoiled(t, "nil as a role", func(w *impl.World) { w.Roles[i] = nil })
		wantSpoiled(t, "nil as an individual", func(w *impl.World) { w.Inds[i] = nil })
	}
	for _, c := range []struct {
		first, behind int
	}{{0, 1}, {1, 0}, {1, 2}, {2, 1}, {0, 2}, {2, 0}} {
		wantSpoiled(t, "a name twice", func(w *impl.World) { w.Names[c.behind] = w.Names[c.first] })
		wantSpoiled(t, "a role twice", func(w *impl.World) { w.Roles[c.behind] = bytes.Clone(w.Roles[c.first]) })
		wantSpoiled(t, "an individual twice", func(w *impl.World) { w.Inds[c.behind] = w.Inds[c.first] })
		wantSpoiled(t, "names changed over", func(w *impl.World) { w.Names[c.behind], w.Names[c.first] = w.Names[c.first], w.Names[c.behind] })
		wantSpoiled(t, "roles changed over", func(w *impl.World) { w.Roles[c.behind], w.Roles[c.first] = w.Roles[c.first], w.Roles[c.behind] })
		wantSpoiled(t, "individuals changed over", func(w *impl.World) { w.Inds[c.behind], w.Inds[c.first] = w.Inds[c.first], w.Inds[c.behind] })
	}
	// By their bytes, not by how long they are.
	wantSpoiled(t, "B ahead of Aa", func(w *impl.World) { w.Names[1], w.Names[2] = []byte("B"), []byte("Aa") })
	wantSpoiled(t, "rs ahead of r", func(w *impl.World) { w.Roles[0], w.Roles[1] = []byte("rs"), []byte("r") })
	wantSpoiled(t, "zz ahead of z", func(w *impl.World) { w.Inds[1] = []byte("zz") })
}

func TestWorldsOfWrongFlags(t *testing.T) {
	for i := range 3 {
		for _, long := range []int{0, 1, 3, 4, 1 << 16} {
			wantSpoiled(t, fmt.Sprint("a name of ", long), func(w *impl.World) { w.Sets[i] = make([]bool, long) })
		}
		for _, long := range []int{0, 1, 2, 3, 5, 16, 1 << 16} {
			wantSpoiled(t, fmt.Sprint("a role of ", long), func(w *impl.World) { w.Rels[i] = make([]bool, long) })
		}
		wantSpoiled(t, "a name without flags", func(w *impl.World) { w.Sets[i] = nil })
		wantSpoiled(t, "a role without flags", func(w *impl.World) { w.Rels[i] = nil })
		for _, e := range []int{math.MinInt, -2, -1, 2, 3, impl.MaxDomain, math.MaxInt} {
			wantSpoiled(t, fmt.Sprint("somebody at ", e), func(w *impl.World) { w.At[i] = e })
		}
	}
	wantSpoiled(t, "no flags of names", func(w *impl.World) { w.Sets = nil })
	wantSpoiled(t, "no flags of roles", func(w *impl.World) { w.Rels = nil })
	wantSpoiled(t, "nobody is anywhere", func(w *impl.World) { w.At = nil })
	wantSpoiled(t, "flags of a name lack", func(w *impl.World) { w.Sets = w.Sets[:2] })
	wantSpoiled(t, "flags of a role lack", func(w *impl.World) { w.Rels = w.Rels[:2] })
	wantSpoiled(t, "an element lacks", func(w *impl.World) { w.At = w.At[:2] })
	wantSpoiled(t, "flags of one name more", func(w *impl.World) { w.Sets = append(w.Sets, []bool{true, true}) })
	wantSpoiled(t, "flags of one role more", func(w *impl.World) { w.Rels = append(w.Rels, make([]bool, 4)) })
	wantSpoiled(t, "an empty list of flags more", func(w *impl.World) { w.Sets = append(w.Sets, nil) })
	wantSpoiled(t, "one element more", func(w *impl.World) { w.At = append(w.At, 0) })
	wantSpoiled(t, "no names, but flags", func(w *impl.World) { w.Names = nil })
	wantSpoiled(t, "no roles, but flags", func(w *impl.World) { w.Roles = nil })
	wantSpoiled(t, "no individuals, but elements", func(w *impl.World) { w.Inds = nil })
	wantSpoiled(t, "flags for more elements", func(w *impl.World) { w.N = 1 })
	wantSpoiled(t, "flags for fewer elements", func(w *impl.World) { w.N = 3 })
}

// beyond are places that are no element of a world of n.
func beyond(n int) []int {
	return []int{math.MinInt, -n * n, -n, -2, -1, n, n + 1, n * n, impl.MaxDomain + n, 1 << 32, math.MaxInt}
}

func TestInSetAndInRel(t *testing.T) {
	words := strings.Fields("A Aa Ab Abcdef B C D E Top Zyxwvu Other a b r s t zyxwvu abcdef other x")
	for _, w := range someWorlds() {
		for _, s := range words {
			for a := range w.N {
				if got := impl.InSet(w, []byte(s), a); got != flagOf(w.Names, w.Sets, []byte(s), a) {
					t.Fatalf("InSet(%v, %s, %d) = %v", w, s, a, got)
				}
				// All pairs of the greatest world would take long.
				for b := a % max(1, w.N/7); b < w.N; b += max(1, w.N/7) {
					if got := impl.InRel(w, []byte(s), a, b); got != flagOf(w.Roles, w.Rels, []byte(s), a*w.N+b) {
						t.Fatalf("InRel(%v, %s, %d, %d) = %v", w, s, a, b, got)
					}
				}
			}
		}
	}
}

func TestInSetAndInRelOfOneWorld(t *testing.T) {
	w := drawn(3, "A 0 2", "B 1", "r 0-1 2-0", "s", "x=0")
	for e, want := range []bool{true, false, true} {
		if impl.InSet(w, []byte("A"), e) != want || impl.InSet(w, []byte("B"), e) == want {
			t.Error(e)
		}
	}
	for i := range 9 {
		if got := impl.InRel(w, []byte("r"), i/3, i%3); got != (i == 1 || i == 6) || impl.InRel(w, []byte("s"), i/3, i%3) {
			t.Error(i)
		}
	}
}

func TestInSetAndInRelOfWhatThereIsNot(t *testing.T) {
	all := func(long int) []bool { return slices.Repeat([]bool{true}, long) }
	for _, n := range []int{1, 2, 5, impl.MaxDomain} {
		w := impl.World{N: n, Names: [][]byte{[]byte("A"), []byte("C")}, Sets: [][]bool{all(n), all(n)},
			Roles: [][]byte{[]byte("r"), []byte("t")}, Rels: [][]bool{all(n * n), all(n * n)}, Inds: [][]byte{[]byte("x")}, At: []int{0}}
		if !impl.InSet(w, []byte("C"), n-1) || !impl.InRel(w, []byte("t"), n-1, n-1) || !impl.InRel(w, []byte("r"), 0, n-1) {
			t.Error(n)
		}
		for _, s := range []string{"", "B", "D", "Ca", "Aa", "a", "r", "x", "Top", "Abcdefg", "A ", "\xff"} {
			if impl.InSet(w, []byte(s), 0) {
				t.Errorf("there is a name %q", s)
			}
		}
		for _, s := range append([]string{"", "q", "s", "u", "rr", "ta", "x", "A"}, wrongLower...) {
			if impl.InRel(w, []byte(s), 0, 0) {
				t.Errorf("there is a role %q", s)
			}
		}
		if impl.InSet(w, nil, 0) || impl.InRel(w, nil, 0, 0) {
			t.Error("nil is a word")
		}
		for _, e := range beyond(n) {
			if impl.InSet(w, []byte("A"), e) || impl.InSet(w, []byte("B"), e) {
				t.Errorf("%d of %d is in a set", e, n)
			}
			for _, f := range append(beyond(n), 0, n-1) {
				if impl.InRel(w, []byte("r"), e, f) || impl.InRel(w, []byte("r"), f, e) || impl.InRel(w, []byte("u"), e, f) {
					t.Errorf("%d and %d of %d are related", e, f, n)
				}
			}
		}
	}
}

func wantExtension(t *testing.T, w impl.World, text string, want ...int) {
	t.Helper()
	c, bad := impl.ConRead([]byte(text))
	if got := impl.Extension(w, c); bad != -1 || !slices.Equal(got, want) {
		t.Errorf("%s holds of %v, want %v", text, got, want)
	}
	for e := -3; e < w.N+3; e++ {
		if got := impl.Holds(w, c, e); got != slices.Contains(want, e) {
			t.Errorf("Holds of %s and %d is %v", text, e, got)
		}
	}
	if !slices.Equal(extensionByWords(w, c), want) {
		t.Errorf("%s: the test's own way tells %v, want %v", text, extensionByWords(w, c), want)
	}
}

func TestHoldsOfEachKind(t *testing.T) {
	// By r, 0 is related to nobody, 1 to 0 alone, 2 to itself alone, 3 to 0 and 1, 4 to all.
	w := drawn(5, "A 0 2", "B 2 3", "C 0 1 2 3 4", "D", "r 1-0 2-2 3-0 3-1 4-0 4-1 4-2 4-3 4-4", "s", "x=3")
	wantExtension(t, w, "Top", 0, 1, 2, 3, 4)
	wantExtension(t, w, "Bot")
	wantExtension(t, w, "A", 0, 2)
	wantExtension(t, w, "C", 0, 1, 2, 3, 4)
	wantExtension(t, w, "D")
	wantExtension(t, w, "Not(A)", 1, 3, 4)
	wantExtension(t, w, "Not(Top)")
	wantExtension(t, w, "Not(Bot)", 0, 1, 2, 3, 4)
	wantExtension(t, w, "Not(Not(A))", 0, 2)
	wantExtension(t, w, "And(A B)", 2)
	wantExtension(t, w, "And(A Top)", 0, 2)
	wantExtension(t, w, "And(Top B)", 2, 3)
	wantExtension(t, w, "And(A Not(A))")
	wantExtension(t, w, "Or(A B)", 0, 2, 3)
	wantExtension(t, w, "Or(A Bot)", 0, 2)
	wantExtension(t, w, "Or(Bot B)", 2, 3)
	wantExtension(t, w, "Or(A Not(A))", 0, 1, 2, 3, 4)
	// Who is related to nobody is of no Some and of each All.
	wantExtension(t, w, "Some(r Top)", 1, 2, 3, 4)
	wantExtension(t, w, "Some(r A)", 1, 2, 3, 4)
	wantExtension(t, w, "Some(r Not(A))", 3, 4)
	wantExtension(t, w, "Some(r B)", 2, 4)
	wantExtension(t, w, "Some(r Bot)")
	wantExtension(t, w, "Some(r D)")
	wantExtension(t, w, "All(r Top)", 0, 1, 2, 3, 4)
	wantExtension(t, w, "All(r A)", 0, 1, 2)
	wantExtension(t, w, "All(r B)", 0, 2)
	wantExtension(t, w, "All(r Not(B))", 0, 1, 3)
	wantExtension(t, w, "All(r Bot)", 0)
	wantExtension(t, w, "All(r C)", 0, 1, 2, 3, 4)
	wantExtension(t, w, "Some(s Top)")
	wantExtension(t, w, "All(s Bot)", 0, 1, 2, 3, 4)
	// One in another, and two of them that hold of different ones.
	wantExtension(t, w, "Some(r Some(r A))", 2, 3, 4)
	wantExtension(t, w, "All(r All(r A))", 0, 1, 2, 3)
	wantExtension(t, w, "Some(r All(r Bot))", 1, 3, 4)
	wantExtension(t, w, "All(r Some(r Top))", 0, 2)
	wantExtension(t, w, "And(Some(r A) Some(r B))", 2, 4)
	wantExtension(t, w, "Some(r And(A Not(B)))", 1, 3, 4)
	wantExtension(t, w, "Some(r Or(And(A B) D))", 2, 4)
}

func TestHoldsInOneDirection(t *testing.T) {
	w := drawn(3, "A 1", "B 2", "r 0-1 1-2")
	wantExtension(t, w, "Some(r A)", 0)
	wantExtension(t, w, "Some(r B)", 1)
	wantExtension(t, w, "All(r A)", 0, 2)
	wantExtension(t, w, "All(r B)", 1, 2)
	wantExtension(t, w, "Some(r Some(r B))", 0)
}

func TestHoldsOfWordsThatTheWorldDoesNotHave(t *testing.T) {
	for _, w := range []impl.World{{N: 3}, drawn(3, "B 0 1 2", "Aa 0 1 2", "s 0-0 0-1", "rr 0-1", "x=0")} {
		wantExtension(t, w, "A")
		wantExtension(t, w, "Not(A)", 0, 1, 2)
		wantExtension(t, w, "Some(r Top)")
		wantExtension(t, w, "Some(r A)")
		wantExtension(t, w, "All(r Bot)", 0, 1, 2)
		wantExtension(t, w, "All(r A)", 0, 1, 2)
		wantExtension(t, w, "Not(Some(r Not(A)))", 0, 1, 2)
	}
	wantExtension(t, drawn(2, "A 0 1", "r 0-1"), "Some(r Some(s A))")
	wantExtension(t, drawn(2, "A 0 1", "r 0-1"), "Some(r All(s Bot))", 0)
	wantExtension(t, drawn(2, "A 0 1", "r 0-1"), "All(r X)", 1)
}

func TestHoldsOfWhatIsNoElement(t *testing.T) {
	for _, w := range []impl.World{{N: 1}, {N: impl.MaxDomain}, drawn(2, "A 0 1", "r 0-0 0-1 1-0 1-1"), fullWorld(5)} {
		for _, c := range append(conceptsOf(2), edges()...) {
			for _, e := range beyond(w.N) {
				if impl.Holds(w, c, e) {
					t.Errorf("%s holds of %d of %d", spell(c), e, w.N)
				}
			}
		}
	}
}

func TestHoldsOfWrongConcepts(t *testing.T) {
	worlds := []impl.World{{N: 1}, drawn(2, "A 0 1", "B 1", "r 0-0 0-1 1-0 1-1", "s 0-1", "x=0")}
	wrong := tooBig()
	for _, c := range append(conceptsOf(2), edges()[0], edges()[8]) {
		for i := range nodes(&c) {
			whole := cloneCon(c)
			for _, spoiled := range spoils(*nodes(&whole)[i]) {
				other := cloneCon(c)
				*nodes(&other)[i] = spoiled
				wrong = append(wrong, other)
			}
		}
	}
	for _, c := range wrong {
		wantNothingHolds(t, worlds, c)
	}
	round := []impl.Con{{Kind: impl.CnOr}, {}}
	round[0].Kids = round
	for _, c := range []impl.Con{round[0], nots(100000, top), {Kind: impl.CnOr, Kids: make([]impl.Con, 1<<20)}} {
		wantNothingHolds(t, worlds, c)
	}
}

// wantNothingHolds does not tell the concept, which may have no end.
func wantNothingHolds(t *testing.T, worlds []impl.World, c impl.Con) {
	t.Helper()
	for _, w := range worlds {
		for e := range w.N {
			if impl.Holds(w, c, e) {
				t.Fatalf("what is not ConOk holds of %d", e)
			}
		}
		if len(impl.Extension(w, c)) != 0 {
			t.Fatal("what is not ConOk holds of somebody")
		}
		for _, x := range []impl.Axiom{sub(c, top), sub(bot, c), equal(c, c), apart(c, bot), is("x", c), {Kind: impl.AxRole, R: []byte("r"), S: []byte("r"), C: c}} {
			if !impl.AxiomOk(x) && (impl.Satisfies(w, x) || impl.IsModel(w, told(x))) {
				t.Fatal("what is not AxiomOk is satisfied")
			}
		}
	}
}

// In a ring each is related to the next: five Some, one in another, lead five on. Where each is related to each, there are too many ways to go them all.
func TestHoldsInTheGreatestWorlds(t *testing.T) {
	n := impl.MaxDomain
	w := impl.World{N: n, Names: [][]byte{[]byte("A")}, Sets: [][]bool{make([]bool, n)}, Roles: [][]byte{[]byte("all"), []byte("next")}, Rels: [][]bool{make([]bool, n*n), make([]bool, n*n)}}
	w.Sets[0][3], w.Sets[0][n-1] = true, true
	for a := range n {
		w.Rels[1][a*n+(a+1)%n] = true
		for b := range n {
			w.Rels[0][a*n+b] = true
		}
	}
	deep := func(role string, make func(string, impl.Con) impl.Con, c impl.Con) impl.Con {
		for range 5 {
			c = make(role, c)
		}
		return c
	}
	for _, c := range []struct {
		con  impl.Con
		want []int
	}{
		{named("A"), []int{3, n - 1}},
		{deep("next", some, named("A")), []int{n - 6, n - 2}},
		{deep("next", every, named("A")), []int{n - 6, n - 2}},
		{deep("all", some, named("A")), everybody(n)},
		{deep("all", some, bot), nil},
		{deep("all", every, named("A")), nil},
		{deep("all", every, top), everybody(n)},
		{deep("none", some, top), nil},
		{deep("none", every, bot), everybody(n)},
		{some("next", every("all", some("all", every("next", some("next", top))))), everybody(n)},
	} {
		if got := impl.Extension(w, c.con); !slices.Equal(got, c.want) {
			t.Errorf("%s holds of %v", spell(c.con), got)
		}
		for e := range n {
			if impl.Holds(w, c.con, e) != slices.Contains(c.want, e) {
				t.Errorf("Holds of %s and %d", spell(c.con), e)
			}
		}
		if got := impl.Satisfies(w, sub(top, c.con)); got != (len(c.want) == n) {
			t.Errorf("all are %s: %v", spell(c.con), got)
		}
		if got := impl.IsModel(w, told(slices.Repeat([]impl.Axiom{apart(c.con, not(not(bot))), equal(c.con, c.con)}, 4)...)); !got {
			t.Error(spell(c.con))
		}
	}
}

// turnedConcepts are concepts of each kind, and their Nnf and Opposite.
func turnedConcepts() [][3]impl.Con {
	var list [][3]impl.Con
	for _, c := range append(conceptsOf(3), edges()...) {
		n, _ := impl.Nnf(c)
		o, _ := impl.Opposite(c)
		list = append(list, [3]impl.Con{c, n, o})
	}
	return list
}

// wantHolders holds that Extension tells just these, or nothing where the concept is greater than ConOk, which the tests' own way takes.
func wantHolders(t *testing.T, w impl.World, c impl.Con, want []int) {
	t.Helper()
	got := impl.Extension(w, c)
	if !impl.ConOk(c) {
		if len(got) != 0 {
			t.Fatalf("%s is not ConOk and holds of %v", spell(c), got)
		}
		got = extensionByWords(w, c)
	}
	if !slices.Equal(got, want) {
		t.Fatalf("%s holds of %v, want %v: %v", spell(c), got, want, w)
	}
}

// Promise 2: in each world Nnf of a concept holds of just the same as it, Opposite of just all others.
func TestPromise2InOrdinaryWorlds(t *testing.T) {
	turned := turnedConcepts()
	for _, w := range someWorlds() {
		for _, c := range turned {
			of := impl.Extension(w, c[0])
			others := slices.DeleteFunc(everybody(w.N), func(e int) bool { return slices.Contains(of, e) })
			wantHolders(t, w, c[1], of)
			wantHolders(t, w, c[2], others)
			if impl.ConOk(not(c[0])) {
				wantHolders(t, w, not(c[0]), others)
			}
		}
	}
}

// What follows: of somebody a concept holds, or its opposite, and not both.
func TestOfSomebodyAConceptHoldsOrItsOpposite(t *testing.T) {
	turned := turnedConcepts()
	for i, w := range someWorlds() {
		for k, c := range turned {
			if (i+k)%7 > 0 || !impl.ConOk(c[2]) {
				continue
			}
			for e := range w.N {
				if impl.Holds(w, c[0], e) == impl.Holds(w, c[2], e) {
					t.Fatalf("%s and %s: %v of %d in %v", spell(c[0]), spell(c[2]), impl.Holds(w, c[0], e), e, w)
				}
				if impl.ConOk(c[1]) && impl.Holds(w, c[0], e) != impl.Holds(w, c[1], e) {
					t.Fatalf("%s and %s: not the same of %d in %v", spell(c[0]), spell(c[1]), e, w)
				}
			}
			if impl.ConOk(or(c[0], c[2])) {
				wantHolders(t, w, or(c[0], c[2]), everybody(w.N))
				wantHolders(t, w, and(c[0], c[2]), nil)
			}
		}
	}
}

// Promise 4: Extension tells of whom a concept holds.
func TestPromise4ExtensionTellsOfWhomAConceptHolds(t *testing.T) {
	some, all := 0, 0
	for i, w := range someWorlds() {
		for k, c := range append(conceptsOf(3), edges()...) {
			if w.N > 10 && k%5 > 0 {
				continue
			}
			of := impl.Extension(w, c)
			if want := extensionByWords(w, c); !slices.Equal(of, want) {
				t.Fatalf("%s holds of %v, want %v: %v", spell(c), of, want, w)
			}
			if !slices.IsSorted(of) || len(slices.Compact(slices.Clone(of))) != len(of) {
				t.Fatalf("%v does not ascend", of)
			}
			for e := range w.N {
				if (i+k)%3 == 0 && impl.Holds(w, c, e) != slices.Contains(of, e) {
					t.Fatalf("Holds of %s and %d is not as Extension tells: %v", spell(c), e, of)
				}
			}
			if len(of) > 0 && len(of) < w.N {
				some++
			} else if len(of) == w.N {
				all++
			}
		}
	}
	if some < 1000 || all < 1000 {
		t.Errorf("%d concepts hold of some, %d of all: too few to tell", some, all)
	}
}

// Promise 4: Some and All hold as they should.
func TestPromise4SomeAndAll(t *testing.T) {
	met := map[int]int{}
	for _, w := range someWorlds() {
		if w.N > 10 {
			continue
		}
		for _, c := range conceptsOf(2) {
			for _, r := range []string{"r", "s"} {
				for e := range w.N {
					related, of := 0, 0
					for to := range w.N {
						if impl.InRel(w, []byte(r), e, to) {
							related++
							if impl.Holds(w, c, to) {
								of++
							}
						}
					}
					if impl.Holds(w, some(r, c), e) != (of > 0) || impl.Holds(w, every(r, c), e) != (of == related) {
						t.Fatalf("%s of %d, related by %s to %d, of whom it holds of %d: %v", spell(c), e, r, related, of, w)
					}
					met[min(related, 2)]++
				}
			}
		}
	}
	if met[0] == 0 || met[1] == 0 || met[2] == 0 {
		t.Error("none is related to nobody, to one, or to several: ", met)
	}
}

func wantSatisfied(t *testing.T, w impl.World, text string, want bool) {
	t.Helper()
	k, bad := impl.KbRead([]byte(text))
	if bad != -1 || len(k.L) != 1 {
		t.Fatal(text, bad)
	}
	if got := impl.Satisfies(w, k.L[0]); got != want || impl.IsModel(w, k) != want {
		t.Errorf("Satisfies of %s is %v, IsModel %v", text, got, impl.IsModel(w, k))
	}
	if satisfiesByWords(w, k.L[0]) != want {
		t.Errorf("%s: the test's own way tells %v", text, !want)
	}
}

func TestSatisfiesEachKind(t *testing.T) {
	w := drawn(4, "A 0 1", "B 0 1 2", "C 3", "D", "E 0 1", "r 0-1 1-2", "s 0-1 1-2 3-3", "t", "x=0", "y=1", "z=3")
	for _, c := range strings.Fields("Sub(A|B) Sub(A|A) Sub(D|C) Sub(D|D) Sub(Bot|A) Sub(A|Top) Sub(A|E) Sub(E|A) Sub(A|Some(r|B)) Sub(C|Some(s|C)) " +
		"Eq(A|E) Eq(E|A) Eq(A|A) Eq(D|Bot) Eq(Not(B)|C) Eq(A|Some(r|Top)) " +
		"Dis(A|C) Dis(C|A) Dis(D|D) Dis(D|Top) Dis(Bot|Top) Dis(A|Not(B)) " +
		"Role(r|s) Role(r|r) Role(s|s) Role(t|r) Role(t|t) " +
		"Is(x|A) Is(y|A) Is(z|C) Is(x|Top) Is(z|Some(s|C)) Is(z|All(r|Bot)) Is(y|Not(C)) " +
		"Rel(r|x|y) Rel(s|x|y) Rel(s|z|z)") {
		wantSatisfied(t, w, strings.ReplaceAll(c, "|", " "), true)
	}
	for _, c := range strings.Fields("Sub(B|A) Sub(Top|A) Sub(A|D) Sub(A|Bot) Sub(C|B) Sub(B|Some(r|Top)) Sub(Top|Bot) " +
		"Eq(A|B) Eq(B|A) Eq(A|C) Eq(D|Top) Eq(Top|D) Eq(A|Not(A)) " +
		"Dis(A|B) Dis(B|A) Dis(A|A) Dis(Top|Top) Dis(C|Some(s|C)) " +
		"Role(s|r) Role(r|t) Role(s|t) " +
		"Is(z|A) Is(x|C) Is(x|Bot) Is(x|D) Is(y|Some(r|A)) Is(z|Some(r|Top)) " +
		"Rel(r|y|x) Rel(r|x|x) Rel(r|x|z) Rel(t|x|y) Rel(r|z|z) Rel(s|y|x)") {
		wantSatisfied(t, w, strings.ReplaceAll(c, "|", " "), false)
	}
}

func TestSatisfiesOfWordsThatTheWorldDoesNotHave(t *testing.T) {
	for _, w := range []impl.World{{N: 2}, drawn(2, "A 0 1", "s 0-1", "y=1")} {
		// Of an individual that w doesn't have nothing holds.
		for _, text := range []string{"Is(x Top)", "Is(x Not(Bot))", "Is(x Not(X))", "Is(x All(r Bot))", "Is(a Top)", "Is(z Top)", "Is(yy Top)",
			"Rel(s x x)", "Rel(s x y)", "Rel(s y x)", "Rel(r x y)", "Rel(r y y)", "Rel(s s s)", "Rel(s a y)", "Rel(s y z)"} {
			wantSatisfied(t, w, text, false)
		}
		// A name that it doesn't have is of nobody, by such a role nobody is related.
		for _, text := range []string{"Sub(X Bot)", "Eq(X Bot)", "Eq(X Y)", "Dis(X X)", "Dis(Top X)", "Role(r q)", "Role(r s)", "Sub(Top All(r Bot))", "Eq(Some(r Top) X)"} {
			wantSatisfied(t, w, text, true)
		}
		for _, text := range []string{"Sub(Top X)", "Eq(Top X)", "Sub(Not(X) X)", "Sub(Top Some(r Top))", "Dis(Top Not(X))"} {
			wantSatisfied(t, w, text, false)
		}
	}
	w := drawn(2, "A 0 1", "s 0-1", "y=1")
	wantSatisfied(t, w, "Role(s r)", false)
	wantSatisfied(t, w, "Is(y A)", true)
	wantSatisfied(t, w, "Is(y X)", false)
	wantSatisfied(t, w, "Sub(A X)", false)
	wantSatisfied(t, w, "Sub(X A)", true)
	wantSatisfied(t, drawn(2, "s 0-1", "x=1"), "Rel(s x x)", false)
	wantSatisfied(t, drawn(2, "s 0-1", "x=0", "y=1"), "Rel(s x y)", true)
	wantSatisfied(t, drawn(2, "s 0-1", "x=1", "y=0"), "Rel(s x y)", false)
	wantSatisfied(t, drawn(2, "s 0-0", "x=0", "y=0"), "Rel(s x y)", true)
}

func TestSatisfiesOfWrongAxioms(t *testing.T) {
	w := drawn(2, "A 0 1", "B 0 1", "r 0-0 0-1 1-0 1-1", "s 0-0 0-1 1-0 1-1", "x=0", "y=1")
	for _, fine := range []impl.Axiom{sub(named("A"), some("r", top)), equal(top, named("A")), apart(bot, every("r", named("B"))),
		role("r", "s"), is("x", named("A")), rel("r", "x", "y")} {
		if !impl.Satisfies(w, fine) || !impl.IsModel(w, told(fine)) {
			t.Fatal(spellAxiom(fine))
		}
		for _, kind := range []int{math.MinInt, -1, impl.AxRel + 1, 77, math.MaxInt} {
			wrong := fine
			wrong.Kind = kind
			wantUnsatisfied(t, w, wrong)
		}
		for i := range fieldsOf(&fine) {
			x := fine
			f := fieldsOf(&x)[i]
			if f.con == nil {
				for _, wrong := range wrongTexts(f.here) {
					*f.at = wrong
					wantUnsatisfied(t, w, x)
				}
				continue
			}
			for _, wrong := range wrongCons(*f.con, f.here) {
				*f.con = wrong
				wantUnsatisfied(t, w, x)
			}
		}
	}
}

func wantUnsatisfied(t *testing.T, w impl.World, x impl.Axiom) {
	t.Helper()
	if impl.Satisfies(w, x) || impl.IsModel(w, told(x)) || impl.IsModel(w, told(impl.Axiom{}, x)) {
		t.Fatalf("%v is satisfied", x)
	}
}

func wantModel(t *testing.T, w impl.World, text string, want bool) {
	t.Helper()
	k, bad := impl.KbRead([]byte(text))
	if got := impl.IsModel(w, k); bad != -1 || got != want {
		t.Errorf("IsModel of %q is %v", text, got)
	}
}

func TestIsModel(t *testing.T) {
	w := drawn(3, "A 0", "B 0 1", "r 0-1", "s 0-1 2-2", "x=0", "y=1")
	wantModel(t, w, "", true)
	wantModel(t, w, "Sub(A B)", true)
	wantModel(t, w, "Sub(A B) Sub(B A)", false)
	wantModel(t, w, "Sub(B A) Sub(A B)", false)
	wantModel(t, w, "Sub(A B) Role(r s) Is(x A) Is(y B) Rel(r x y) Rel(s x y) Dis(A C) Eq(A Some(r B))", true)
	wantModel(t, w, "Sub(A B) Role(r s) Is(x A) Is(y B) Rel(r x y) Rel(s x y) Dis(A C) Eq(B Some(r B))", false)
	wantModel(t, w, "Sub(A B) Role(r s) Is(x A) Is(y A) Rel(r x y) Rel(s x y) Dis(A C) Eq(A Some(r B))", false)
	wantModel(t, w, "Is(x A) Is(z Top)", false)
	// One that is false wherever it stands.
	for at := range impl.MaxAxioms {
		list := slices.Repeat([]impl.Axiom{sub(named("A"), named("B"))}, impl.MaxAxioms)
		if !impl.IsModel(w, told(list...)) {
			t.Fatal(at)
		}
		list[at] = sub(named("B"), named("A"))
		if impl.IsModel(w, told(list...)) {
			t.Error("the world is a model, whatever stands at ", at)
		}
	}
}

// Each axiom may hold and be AxiomOk, and the list of them not be KbOk.
func TestIsModelOfWhatIsNotKbOk(t *testing.T) {
	w := drawn(1, "A 0", "r 0-0", "x=0")
	a, b, c, d, e, f := named("A"), named("B"), named("C"), named("D"), named("E"), named("F")
	most := []impl.Kb{
		told(slices.Repeat([]impl.Axiom{sub(a, top)}, impl.MaxAxioms)...),
		told(sub(and(a, b), top), sub(and(c, d), top), sub(e, top)),
		told(role("a", "b"), role("b", "c")),
	}
	for i, more := range []impl.Axiom{{}, sub(f, top), role("d", "a")} {
		k := told(append(slices.Clone(most[i].L), more)...)
		if !impl.IsModel(w, most[i]) || !impl.Satisfies(w, more) || impl.IsModel(w, k) {
			t.Errorf("%s: %v, %v, with one more %v", spellKb(most[i]), impl.IsModel(w, most[i]), impl.Satisfies(w, more), impl.IsModel(w, k))
		}
	}
	four := drawn(1, "u=0", "x=0", "y=0", "z=0")
	k := told(is("x", top), is("y", top), is("z", top))
	if !impl.IsModel(four, k) || impl.IsModel(four, told(append(k.L, is("u", top))...)) {
		t.Error("more than MaxInds individuals")
	}
	if impl.IsModel(w, impl.Kb{L: make([]impl.Axiom, 1<<20)}) {
		t.Error("2^20 axioms")
	}
}

// Promise 4: a world is a model just if it satisfies each axiom.
func TestPromise4ModelsSatisfyEachAxiom(t *testing.T) {
	models, others := 0, 0
	worlds := someWorlds()
	for i, x := range ordinary() {
		for k, w := range worlds {
			if (i+k)%3 > 0 || w.N > 10 {
				continue
			}
			if got := impl.Satisfies(w, x); got != satisfiesByWords(w, x) || impl.IsModel(w, told(x)) != got {
				t.Fatalf("Satisfies of %s is %v in %v", spellAxiom(x), got, w)
			}
		}
	}
	for i, k := range someKbs() {
		for at, w := range worlds {
			if (i+at)%2 > 0 || w.N > 10 {
				continue
			}
			broken := slices.ContainsFunc(k.L, func(x impl.Axiom) bool { return !impl.Satisfies(w, x) })
			if impl.IsModel(w, k) == broken {
				t.Fatalf("IsModel of %s is %v in %v", spellKb(k), broken, w)
			}
			if broken {
				others++
			} else if len(k.L) > 1 {
				models++
			}
		}
	}
	if models < 100 || others < 100 {
		t.Errorf("%d models of more than one axiom, %d others: too few to tell", models, others)
	}
}

// Promise 3: in each world all that is told of concepts holds just if each rule holds of all.
func TestPromise3InOrdinaryWorlds(t *testing.T) {
	kbs := someKbs()
	for _, x := range ordinary() {
		kbs = append(kbs, told(x))
	}
	yes, no := 0, 0
	worlds := someWorlds()
	for i, k := range kbs {
		rules, ok := impl.Rules(k)
		if !ok {
			t.Fatal(spellKb(k))
		}
		for at, w := range worlds {
			if (i+at)%5 > 0 || w.N > 10 {
				continue
			}
			fails := slices.ContainsFunc(k.L, func(x impl.Axiom) bool { return x.Kind <= impl.AxDis && !impl.Satisfies(w, x) })
			broken := slices.ContainsFunc(rules, func(c impl.Con) bool { return !ofAll(w, c) })
			if fails != broken {
				t.Fatalf("%s: %v, its rules %v: %v", spellKb(k), !fails, !broken, w)
			}
			if fails {
				no++
			} else if len(rules) > 0 {
				yes++
			}
		}
	}
	if yes < 1000 || no < 1000 {
		t.Errorf("what is told holds %d times, and %d times not: too few to tell", yes, no)
	}
}

// ofAll takes rules, too, that have more parts than Holds does.
func ofAll(w impl.World, c impl.Con) bool {
	if impl.ConOk(c) {
		return len(impl.Extension(w, c)) == w.N
	}
	return len(extensionByWords(w, c)) == w.N
}

// roomyWorld is w, with other things behind the length of each list.
func roomyWorld(w impl.World) impl.World {
	out := impl.World{N: w.N}
	out.Names, out.Roles, out.Inds = roomyWords(w.Names), roomyWords(w.Roles), roomyWords(w.Inds)
	out.Sets, out.Rels = roomyFlags(w.Sets), roomyFlags(w.Rels)
	out.At = append(append(make([]int, 0, len(w.At)+2), w.At...), 0, -1)[:len(w.At)]
	return out
}

func roomyWords(words [][]byte) [][]byte {
	room := make([][]byte, 0, len(words)+2)
	for _, b := range words {
		room = append(room, roomyBytes(b))
	}
	return append(room, []byte("Zzz"), []byte("zzz"))[:len(words)]
}

func roomyFlags(lists [][]bool) [][]bool {
	room := make([][]bool, 0, len(lists)+2)
	for _, flags := range lists {
		wide := append(append(make([]bool, 0, len(flags)+2), flags...), true, true)
		room = append(room, wide[:len(flags)])
	}
	return append(room, []bool{true}, nil)[:len(lists)]
}

func TestWorldsShareNoMemory(t *testing.T) {
	kbs := someKbs()
	for i, plain := range someWorlds() {
		if plain.N > 10 || i%3 > 0 {
			continue
		}
		w := roomyWorld(plain)
		before := snapshot(w)
		wantWorldFine(t, w, "with other things behind the lengths")
		for _, c := range append(conceptsOf(2), edges()...) {
			c, room := roomyCon(c), snapshot(roomyCon(c))
			of := impl.Extension(w, c)
			wantApart(t, of, w, c)
			if !slices.Equal(of, impl.Extension(plain, c)) || impl.Holds(w, c, 0) != impl.Holds(plain, c, 0) || snapshot(c) != room {
				t.Fatalf("%s: what lies behind the lengths is read, or it is changed", spell(c))
			}
			// What is answered is the caller's own: writing into it changes nothing.
			for k := range of[:cap(of)] {
				of[:cap(of)][k] = -7
			}
			if !slices.Equal(impl.Extension(w, c), extensionByWords(plain, c)) {
				t.Fatalf("%s: an answer is kept", spell(c))
			}
		}
		wantSameAnswers(t, w, plain, kbs)
		if snapshot(w) != before {
			t.Fatalf("%v is changed", plain)
		}
	}
}

// wantSameAnswers holds that what lies behind the lengths makes no difference to axioms and words.
func wantSameAnswers(t *testing.T, w, plain impl.World, kbs []impl.Kb) {
	t.Helper()
	for i, k := range kbs {
		if i%9 > 0 {
			continue
		}
		k := roomyKb(k)
		before := snapshot(k)
		if impl.IsModel(w, k) != impl.IsModel(plain, k) {
			t.Fatalf("%s: what lies behind the lengths is read", spellKb(k))
		}
		for _, x := range k.L {
			if impl.Satisfies(w, x) != impl.Satisfies(plain, x) {
				t.Fatalf("%s: what lies behind the lengths is read", spellAxiom(x))
			}
		}
		if snapshot(k) != before {
			t.Fatalf("%s is changed", spellKb(k))
		}
	}
	for _, s := range []string{"A", "B", "r", "s", "Zzz", "zzz"} {
		s := roomyBytes([]byte(s))
		before := snapshot(s)
		for e := range w.N {
			if impl.InSet(w, s, e) != impl.InSet(plain, s, e) || impl.InRel(w, s, 0, e) != impl.InRel(plain, s, 0, e) || snapshot(s) != before {
				t.Fatalf("%s: what lies behind the lengths is read, or it is changed", s)
			}
		}
	}
}

// What is behind the length may be just what would make a wrong world right.
func TestWorldsThatLackWhatLiesBehindTheLength(t *testing.T) {
	w := drawn(2, "A 0", "B 1", "r 0-1", "s 1-0", "x=0", "y=1")
	for i, cut := range []func(w *impl.World){
		func(w *impl.World) { w.Sets = w.Sets[:1] },
		func(w *impl.World) { w.Rels = w.Rels[:1] },
		func(w *impl.World) { w.At = w.At[:1] },
		func(w *impl.World) { w.Names = w.Names[:1] },
		func(w *impl.World) { w.Roles = w.Roles[:1] },
		func(w *impl.World) { w.Inds = w.Inds[:1] },
		func(w *impl.World) { w.Sets = [][]bool{w.Sets[0][:1], w.Sets[1]} },
		func(w *impl.World) { w.Rels = [][]bool{w.Rels[0], w.Rels[1][:3]} },
		func(w *impl.World) { w.Names = [][]byte{w.Names[0][:0], w.Names[1]} },
	} {
		short := w
		cut(&short)
		wantWorldRefused(t, short, fmt.Sprint("cut ", i))
	}
	wantWorldFine(t, w, "whole")
}

// Lists of a world may be one and the same.
func TestWorldsWhoseListsShareMemory(t *testing.T) {
	flags := []bool{true, false, false, true}
	w := impl.World{N: 2, Names: [][]byte{[]byte("A"), []byte("B")}, Sets: [][]bool{flags[:2], flags[:2]}, Roles: [][]byte{[]byte("r")}, Rels: [][]bool{flags}}
	wantExtension(t, w, "And(A B)", 0)
	wantExtension(t, w, "Not(A)", 1)
	wantExtension(t, w, "Or(Not(A) Some(r B))", 0, 1)
	wantExtension(t, w, "B", 0)
	if !slices.Equal(flags, []bool{true, false, false, true}) {
		t.Error(flags)
	}
}

func TestWorldAnswersStayTheSame(t *testing.T) {
	w, k := fullWorld(6), told(sub(named("A"), named("B")), is("r", some("r", named("C"))))
	ask := func() string {
		var out strings.Builder
		for _, c := range conceptsOf(2) {
			fmt.Fprint(&out, impl.Extension(w, c), impl.Holds(w, c, 3))
		}
		return out.String() + fmt.Sprint(impl.IsModel(w, k), impl.Satisfies(w, k.L[1]), impl.InSet(w, []byte("A"), 5), impl.InRel(w, []byte("r"), 1, 2))
	}
	first := ask()
	impl.Extension(drawn(6, "A 0 1 2 3 4 5", "r 0-0"), some("r", named("A")))
	impl.IsModel(drawn(2, "A 0", "x=1"), k)
	if ask() != first {
		t.Error("an answer hangs on an earlier call")
	}
}
