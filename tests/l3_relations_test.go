package tests

import (
	"math"
	"slices"
	"strings"
	"testing"

	"loop.example/intervalsandplaces/impl"
)

// These tests hold promise 3, "Composition is what a third interval allows, and
// has a residual.", against third intervals and the words of the document.

const allBasics = impl.RelSets - 1

var noRels = []int{-1, impl.RelSets, impl.RelSets + 1, 2 * impl.RelSets, -impl.RelSets, 1 << 20, math.MinInt, math.MinInt + 1, math.MaxInt}

// someRels has the relations of no, one and all basic relations, those of all
// but one, and some of each other number of them.
var someRels = someRelations()

func someRelations() []int {
	list := []int{0, allBasics}
	for i := range basicLetters {
		list = append(list, 1<<i, allBasics-1<<i)
	}
	for i := range 40 {
		list = append(list, i*i*i*977%impl.RelSets)
	}
	slices.Sort(list)
	return slices.Compact(list)
}

// plainLetters returns the text of a relation.
func plainLetters(r int) string {
	text := ""
	for i := range basicLetters {
		if r>>i%2 == 1 {
			text += basicLetters[i : i+1]
		}
	}
	if text == "" {
		return "-"
	}
	return text
}

// plainRel returns the relation of some letters.
func plainRel(letters string) int {
	r := 0
	for i := range basicLetters {
		if strings.Contains(letters, basicLetters[i:i+1]) {
			r += 1 << i
		}
	}
	return r
}

// plainBasic returns the relation of the one basic relation of two intervals.
func plainBasic(a, b impl.Interval) int {
	for letter, zones := range plainZones {
		if zones == [2]int{plainZone(a.From, b), plainZone(a.To, b)} {
			return plainRel(letter)
		}
	}
	return 0
}

// plainCompositions looks for third intervals. The ends of the first and the
// last one are multiples of 3 here, so that both ends of the one in between
// have room between points that are next to each other, and beyond all points.
// The key has the relations of the first one and the one in between, and of
// this and the last one.
func plainCompositions() map[[2]int]int {
	found := map[[2]int]int{}
	outer := intervalsAmong([]int{0, 3, 6, 9})
	between := intervalsAmong([]int{-2, -1, 0, 1, 2, 3, 4, 5, 6, 7, 8, 9, 10, 11})
	for _, a := range outer {
		for _, c := range outer {
			for _, b := range between {
				found[[2]int{plainBasic(a, b), plainBasic(b, c)}] |= plainBasic(a, c)
			}
		}
	}
	return found
}

var basicCompositions = plainCompositions()

// plainComposeRel returns what some basic relations of r and s compose to.
func plainComposeRel(r, s int) int {
	composed := 0
	for pair, rel := range basicCompositions {
		if r&pair[0] != 0 && s&pair[1] != 0 {
			composed |= rel
		}
	}
	return composed
}

func TestRelValid(t *testing.T) {
	if impl.RelSets != 8192 {
		t.Errorf("RelSets = %d", impl.RelSets)
	}
	for r := range impl.RelSets {
		if !impl.RelValid(r) {
			t.Errorf("RelValid(%d) = false", r)
		}
	}
	for _, r := range noRels {
		if impl.RelValid(r) {
			t.Errorf("RelValid(%d) = true", r)
		}
	}
}

func TestTextsOfRelations(t *testing.T) {
	for r := range impl.RelSets {
		want := plainLetters(r)
		if got := impl.FormatRel(r); got != want {
			t.Errorf("FormatRel(%d) = %q, want %q", r, got, want)
		}
		if got, ok := impl.ParseRel(want); got != r || !ok {
			t.Errorf("ParseRel(%q) = %d, %v, want %d", want, got, ok, r)
		}
	}
	for _, r := range noRels {
		if got := impl.FormatRel(r); got != "" {
			t.Errorf("FormatRel(%d) = %q, want the empty string", r, got)
		}
	}
	for text, want := range map[string]int{"-": 0, "b": 1, "m": 2, "e": 64, "B": 4096, "bB": 4097, "bmo": 7, basicLetters: 8191} {
		if got, ok := impl.ParseRel(text); got != want || !ok {
			t.Errorf("ParseRel(%q) = %d, %v, want %d", text, got, ok, want)
		}
	}
}

// Only the texts of relations are parsed: here, of all words of some bytes.
func TestParseRelOfWords(t *testing.T) {
	texts := map[string]int{}
	for r := range impl.RelSets {
		texts[plainLetters(r)] = r
	}
	for _, alphabet := range []string{basicLetters, "bmeMB- x\x00\xff"} {
		for _, s := range wordsOf(alphabet, 4) {
			want, is := texts[s]
			if r, ok := impl.ParseRel(s); r != want || ok != is {
				t.Errorf("ParseRel(%q) = %d, %v", s, r, ok)
			}
		}
	}
}

func TestParseRelOfOtherTexts(t *testing.T) {
	for _, s := range []string{
		"", "mb", "bb", "BMOSDFefdsomb", "bmosdfeFDSOMBb", "bbmosdfeFDSOMB", basicLetters + basicLetters, basicLetters + "-", "-" + basicLetters,
		"--", "b-", "-b", " ", " b", "b ", "b m", "b,m", "b\n", "b\x00", "E", "a", "bE", "0", "1", "8191", "all", "none", "before",
		"\xff", "b\xff", "\xffb", "\xc2b", "\xe2\x80", "é", "bé", "ｂ", "−", "\ufffd", "b\u0301",
		strings.Repeat("b", 10000), strings.Repeat("-", 10000), basicLetters + strings.Repeat("x", 10000),
	} {
		if r, ok := impl.ParseRel(s); r != 0 || ok {
			t.Errorf("ParseRel(%.30q) = %d, %v", s, r, ok)
		}
	}
}

func TestCountBasics(t *testing.T) {
	for r := range impl.RelSets {
		want := len(strings.TrimPrefix(plainLetters(r), "-"))
		if got := impl.CountBasics(r); got != want {
			t.Errorf("CountBasics(%d) = %d, want %d", r, got, want)
		}
	}
}

func TestOtherRel(t *testing.T) {
	for r := range impl.RelSets {
		want := 0
		for i := range basicLetters {
			if r>>i%2 == 0 {
				want += 1 << i
			}
		}
		if got := impl.OtherRel(r); got != want || impl.OtherRel(got) != r {
			t.Errorf("OtherRel(%d) = %d, want %d", r, got, want)
		}
	}
}

func TestFunctionsOfNoRelation(t *testing.T) {
	for name, f := range map[string]func(int) int{
		"CountBasics": impl.CountBasics, "OtherRel": impl.OtherRel, "TurnRel": impl.TurnRel, "MirrorRel": impl.MirrorRel,
	} {
		for _, r := range noRels {
			if got := f(r); got != -1 {
				t.Errorf("%s(%d) = %d, want -1", name, r, got)
			}
		}
	}
	for name, f := range map[string]func(int, int) int{"ComposeRel": impl.ComposeRel, "ResidualRel": impl.ResidualRel} {
		for _, no := range noRels {
			for _, r := range slices.Concat(someRels, noRels) {
				if f(r, no) != -1 || f(no, r) != -1 {
					t.Errorf("%s of %d and %d, which is no relation, is not -1", name, r, no)
				}
			}
		}
	}
}

func TestRelHolds(t *testing.T) {
	pairsOfIntervals(func(a, b impl.Interval) {
		is := plainBasic(a, b)
		for _, r := range someRels {
			if got, want := impl.RelHolds(r, a, b), r&is != 0; got != want {
				t.Errorf("RelHolds(%s, %v, %v) = %v", plainLetters(r), a, b, got)
			}
		}
		for _, r := range noRels {
			if impl.RelHolds(r, a, b) {
				t.Errorf("RelHolds(%d, %v, %v), of no relation, is true", r, a, b)
			}
		}
	})
	for _, no := range noIntervals {
		for _, a := range slices.Concat(wideIntervals, noIntervals) {
			if impl.RelHolds(allBasics, a, no) || impl.RelHolds(allBasics, no, a) {
				t.Errorf("RelHolds of %v and %v, which is no interval, is true", a, no)
			}
		}
	}
}

// A relation has the basic relation of two intervals exactly if, turned, it has
// that of both the other way round, and mirrored, that of both mirrored.
func TestTurnAndMirrorOfIntervals(t *testing.T) {
	pairsOfIntervals(func(a, b impl.Interval) {
		for _, r := range someRels {
			holds := impl.RelHolds(r, a, b)
			if got := impl.RelHolds(impl.TurnRel(r), b, a); got != holds {
				t.Errorf("%s turned holds for %v and %v: %v", plainLetters(r), b, a, got)
			}
			if got := impl.RelHolds(impl.MirrorRel(r), plainMirror(a), plainMirror(b)); got != holds {
				t.Errorf("%s mirrored holds for %v and %v, mirrored: %v", plainLetters(r), a, b, got)
			}
		}
	})
}

func TestTurnAndMirrorOfAllRelations(t *testing.T) {
	for r := range impl.RelSets {
		turned, mirrored := 0, 0
		for i := range basicLetters {
			if r>>i%2 == 1 {
				turned += plainRel("BMOSDFefdsomb"[i : i+1])
				mirrored += plainRel("BMOfdseSDFomb"[i : i+1])
			}
		}
		if got := impl.TurnRel(r); got != turned || impl.TurnRel(got) != r {
			t.Errorf("TurnRel(%d) = %d, want %d", r, got, turned)
		}
		if got := impl.MirrorRel(r); got != mirrored || impl.MirrorRel(got) != r {
			t.Errorf("MirrorRel(%d) = %d, want %d", r, got, mirrored)
		}
	}
}

// All basic relations compose to exactly what a third interval allows.
func TestComposeBasic(t *testing.T) {
	if len(basicCompositions) != len(basicLetters)*len(basicLetters) {
		t.Fatalf("%d pairs of basic relations have a third interval", len(basicCompositions))
	}
	for _, r := range strings.Split(basicLetters, "") {
		for _, s := range strings.Split(basicLetters, "") {
			want := basicCompositions[[2]int{plainRel(r), plainRel(s)}]
			if got := impl.ComposeBasic(r, s); got != want {
				t.Errorf("ComposeBasic(%q, %q) = %s, want %s", r, s, impl.FormatRel(got), plainLetters(want))
			}
		}
	}
}

func TestComposeBasicExamples(t *testing.T) {
	for _, c := range [][3]string{
		{"o", "o", "bmo"}, {"m", "d", "osd"}, {"b", "B", basicLetters}, // of the document
		{"d", "m", "b"}, // the other order than m and d
		{"s", "m", "b"}, {"m", "s", "m"},
		{"o", "f", "osd"}, {"f", "o", "osd"},
		{"o", "D", "bmoFD"}, {"D", "o", "oFD"},
		{"b", "d", "bmosd"}, {"d", "b", "b"},
		{"b", "b", "b"}, {"B", "B", "B"}, {"m", "m", "b"}, {"e", "e", "e"}, // points next to each other leave no room, but it is there
		{"d", "D", basicLetters}, {"B", "b", basicLetters}, // nor do points that end
		{"D", "d", "osdfeFDSO"}, {"o", "O", "osdfeFDSO"}, {"O", "o", "osdfeFDSO"},
		{"m", "M", "feF"}, {"M", "m", "seS"},
	} {
		if got := impl.FormatRel(impl.ComposeBasic(c[0], c[1])); got != c[2] {
			t.Errorf("ComposeBasic(%q, %q) = %s, want %s", c[0], c[1], got, c[2])
		}
	}
}

func TestComposeBasicOfOtherTexts(t *testing.T) {
	for _, no := range noBasics {
		for _, r := range slices.Concat(strings.Split(basicLetters, ""), noBasics) {
			if impl.ComposeBasic(r, no) != -1 || impl.ComposeBasic(no, r) != -1 {
				t.Errorf("ComposeBasic of %q and %q, which is no letter, is not -1", r, no)
			}
		}
	}
}

func TestComposeRel(t *testing.T) {
	for _, r := range someRels {
		for _, s := range someRels {
			if got, want := impl.ComposeRel(r, s), plainComposeRel(r, s); got != want {
				t.Errorf("ComposeRel(%s, %s) = %s, want %s", plainLetters(r), plainLetters(s), impl.FormatRel(got), plainLetters(want))
			}
		}
	}
	for r := range impl.RelSets {
		if impl.ComposeRel(r, 0) != 0 || impl.ComposeRel(0, r) != 0 {
			t.Errorf("ComposeRel of %s and no basic relations is not empty", plainLetters(r))
		}
		e := plainRel("e")
		if impl.ComposeRel(r, e) != r || impl.ComposeRel(e, r) != r {
			t.Errorf("ComposeRel of %s and e is another relation", plainLetters(r))
		}
	}
}

func TestComposeRelExamples(t *testing.T) {
	for _, c := range [][3]string{
		{"bm", "bm", "b"}, {"mo", "d", "osd"}, {"d", "mo", "bmosd"}, {"mo", "mo", "bmo"},
		{"-", basicLetters, "-"}, {basicLetters, "-", "-"}, {"-", "-", "-"}, {basicLetters, basicLetters, basicLetters},
		{"sf", "e", "sf"}, {"e", "FS", "FS"}, {"sd", "fe", "sd"}, {"b", "mB", basicLetters},
	} {
		if got := impl.FormatRel(impl.ComposeRel(plainRel(c[0]), plainRel(c[1]))); got != c[2] {
			t.Errorf("ComposeRel of %s and %s is %s, want %s", c[0], c[1], got, c[2])
		}
	}
}

// Turning turns a composition around, mirroring does not, and composing does
// not depend on which two of three relations are composed first.
func TestLawsOfRelations(t *testing.T) {
	few := someRels[:30]
	for _, r := range few {
		for _, s := range few {
			composed := impl.ComposeRel(r, s)
			if other := impl.ComposeRel(impl.TurnRel(s), impl.TurnRel(r)); other != impl.TurnRel(composed) {
				t.Errorf("%d and %d compose to what is turned not %d", r, s, other)
			}
			if other := impl.ComposeRel(impl.MirrorRel(r), impl.MirrorRel(s)); other != impl.MirrorRel(composed) {
				t.Errorf("%d and %d compose to what is mirrored not %d", r, s, other)
			}
			for i := range basicLetters {
				q := 1 << i
				left, right := impl.ComposeRel(composed, q), impl.ComposeRel(r, impl.ComposeRel(s, q))
				if left != right {
					t.Errorf("%d, %d and %d compose to %d or to %d", r, s, q, left, right)
				}
			}
		}
	}
}

func TestNamedRel(t *testing.T) {
	for name, want := range map[string]string{
		"all": basicLetters, "none": "-", "apart": "bmMB", "common": "osdfeFDSO",
		"within": "sdfe", "begins": "seS", "ends": "feF", "earlier": "bmoFD",
	} {
		if r, ok := impl.NamedRel(name); !ok || plainLetters(r) != want {
			t.Errorf("NamedRel(%q) = %d, %v, want %s", name, r, ok, want)
		}
	}
	for _, name := range []string{
		"", "-", "later", "All", "ALL", "all ", " all", "all\n", "all\x00", "al", "alll", "allnone", "b", "e", "bmMB", basicLetters, "begin", "end", "common,within", "\xff",
	} {
		if r, ok := impl.NamedRel(name); r != 0 || ok {
			t.Errorf("NamedRel(%q) = %d, %v", name, r, ok)
		}
	}
}

// The names mean what they say of intervals.
func TestNamesOfIntervals(t *testing.T) {
	pairsOfIntervals(func(a, b impl.Interval) {
		_, common := impl.MeetOf(a, b)
		for name, want := range map[string]bool{
			"all": true, "none": false, "apart": !common, "common": common,
			"within": b.From <= a.From && a.To <= b.To, "begins": a.From == b.From, "ends": a.To == b.To, "earlier": a.From < b.From,
		} {
			r, _ := impl.NamedRel(name)
			if got := impl.RelHolds(r, a, b); got != want {
				t.Errorf("%s holds for %v and %v: %v", name, a, b, got)
			}
		}
	})
}

// A basic relation is in the residual exactly if all that it and r compose to
// is in t.
func TestResidualRel(t *testing.T) {
	for _, r := range someRels {
		for _, limit := range someRels {
			want := 0
			for i := range basicLetters {
				if plainComposeRel(1<<i, r)&^limit == 0 {
					want += 1 << i
				}
			}
			if got := impl.ResidualRel(r, limit); got != want {
				t.Errorf("ResidualRel(%s, %s) = %s, want %s", plainLetters(r), plainLetters(limit), impl.FormatRel(got), plainLetters(want))
			}
		}
	}
	for r := range impl.RelSets {
		if impl.ResidualRel(0, r) != allBasics || impl.ResidualRel(r, allBasics) != allBasics {
			t.Errorf("ResidualRel of what %s cannot break is not all", plainLetters(r))
		}
		if got := impl.ResidualRel(plainRel("e"), r); got != r {
			t.Errorf("ResidualRel of e and %s is %s", plainLetters(r), impl.FormatRel(got))
		}
		if got := impl.ResidualRel(r, 0); r != 0 && got != 0 {
			t.Errorf("ResidualRel of %s and no basic relations is %s", plainLetters(r), impl.FormatRel(got))
		}
	}
}

func TestResidualRelExamples(t *testing.T) {
	for _, c := range [][3]string{
		{"b", "b", "bmosdfeF"}, // what goes before b; bmoseFDS go behind it
		{"e", "sd", "sd"}, {"-", "-", basicLetters}, {"b", "-", "-"},
		{"d", "d", "sdfe"}, {"d", "osd", "mosdfeF"}, {"D", "bD", "bmeFDS"}, {"m", "m", "feF"}, {"m", "bm", "bmosdfeF"},
	} {
		if got := impl.FormatRel(impl.ResidualRel(plainRel(c[0]), plainRel(c[1]))); got != c[2] {
			t.Errorf("ResidualRel of %s and %s is %s, want %s", c[0], c[1], got, c[2])
		}
	}
}
