package tests

import (
	"math"
	"slices"
	"strconv"
	"strings"
	"testing"

	"loop.example/intervalsandplaces/impl"
)

// These tests hold promise 2, "Two intervals have exactly one basic relation,
// which turns and mirrors with them.", against the table of the document, which
// is written down here once more, and against intervals.

const basicLetters = "bmosdfeFDSOMB"

var plainZones = map[string][2]int{
	"b": {0, 0}, "m": {0, 1}, "o": {0, 2}, "s": {1, 2}, "d": {2, 2}, "f": {2, 3}, "e": {1, 3},
	"F": {0, 3}, "D": {0, 4}, "S": {1, 4}, "O": {2, 4}, "M": {3, 4}, "B": {4, 4},
}

var noBasics = []string{
	"", "-", "E", "x", "?", "bm", "bb", "ee", "mo", " b", "b ", "b\n", "\x00", "b\x00", "\xff", "ё", "0", "equals", basicLetters,
}

var noIntervals = []impl.Interval{
	{}, {From: 1, To: 1}, {From: -3, To: -3}, {From: 2, To: 1}, {From: 5, To: -5},
	{From: impl.MaxTime, To: impl.MaxTime}, {From: -impl.MaxTime, To: -impl.MaxTime},
	{From: impl.MaxTime, To: impl.MaxTime + 1}, {From: -impl.MaxTime - 1, To: -impl.MaxTime},
	{From: 0, To: impl.MaxTime + 1}, {From: -impl.MaxTime - 1, To: 0},
	{From: impl.MaxTime + 1, To: impl.MaxTime + 2}, {From: -impl.MaxTime - 2, To: -impl.MaxTime - 1},
	{From: math.MinInt, To: math.MaxInt}, {From: math.MaxInt, To: math.MinInt},
	{From: math.MinInt, To: math.MinInt}, {From: 0, To: math.MaxInt}, {From: math.MinInt, To: 0},
}

// intervalsAmong returns all intervals with ends among some points.
func intervalsAmong(points []int) []impl.Interval {
	list := []impl.Interval{}
	for _, from := range points {
		for _, to := range points {
			if from < to {
				list = append(list, impl.Interval{From: from, To: to})
			}
		}
	}
	return list
}

var (
	// Some of these points are next to each other and some are not, so that
	// ends coincide, or lie between others, in all ways.
	smallIntervals = intervalsAmong([]int{-5, -2, -1, 0, 1, 2, 3, 7})
	wideIntervals  = intervalsAmong(somePoints)
)

// pairsOfIntervals calls a function for all pairs of small intervals, and of
// wide ones.
func pairsOfIntervals(f func(a, b impl.Interval)) {
	for _, list := range [][]impl.Interval{smallIntervals, wideIntervals} {
		for _, a := range list {
			for _, b := range list {
				f(a, b)
			}
		}
	}
}

// plainZone returns the zone of a point with regard to an interval.
func plainZone(x int, a impl.Interval) int {
	switch {
	case x < a.From:
		return 0
	case x == a.From:
		return 1
	case x < a.To:
		return 2
	case x == a.To:
		return 3
	}
	return 4
}

// plainMirror turns the time of an interval around.
func plainMirror(a impl.Interval) impl.Interval {
	return impl.Interval{From: -a.To, To: -a.From}
}

func TestIntervalValid(t *testing.T) {
	for _, a := range slices.Concat(smallIntervals, wideIntervals) {
		if !impl.IntervalValid(a) {
			t.Errorf("IntervalValid(%v) = false", a)
		}
	}
	for _, a := range noIntervals {
		if impl.IntervalValid(a) {
			t.Errorf("IntervalValid(%v) = true", a)
		}
	}
}

func TestFormatInterval(t *testing.T) {
	for _, c := range []struct {
		a    impl.Interval
		text string
	}{
		{impl.Interval{From: 1, To: 3}, "1:3"},
		{impl.Interval{From: 0, To: 1}, "0:1"},
		{impl.Interval{From: -1, To: 0}, "-1:0"},
		{impl.Interval{From: -20, To: -10}, "-20:-10"},
		{impl.Interval{From: -1000000, To: 1000000}, "-1000000:1000000"},
		{impl.Interval{From: 999999, To: 1000000}, "999999:1000000"},
	} {
		if got := impl.FormatInterval(c.a); got != c.text {
			t.Errorf("FormatInterval(%v) = %q, want %q", c.a, got, c.text)
		}
		if a, ok := impl.ParseInterval(c.text); a != c.a || !ok {
			t.Errorf("ParseInterval(%q) = %v, %v", c.text, a, ok)
		}
	}
	for _, a := range noIntervals {
		if got := impl.FormatInterval(a); got != "" {
			t.Errorf("FormatInterval(%v) = %q, want the empty string", a, got)
		}
	}
}

// Only the texts of intervals are parsed: here, of all words of some bytes, and
// of all pairs of some numbers.
func TestParseIntervalOfWords(t *testing.T) {
	texts := map[string]impl.Interval{}
	for from := -333; from <= 333; from++ {
		for to := from + 1; to <= 333; to++ {
			texts[strconv.Itoa(from)+":"+strconv.Itoa(to)] = impl.Interval{From: from, To: to}
		}
	}
	words := wordsOf("013-:+ \x00", 5)
	for from := -12; from <= 12; from++ {
		for to := -12; to <= 12; to++ {
			words = append(words, strconv.Itoa(from)+":"+strconv.Itoa(to))
		}
	}
	for _, s := range words {
		want, is := texts[s]
		if a, ok := impl.ParseInterval(s); a != want || ok != is {
			t.Errorf("ParseInterval(%q) = %v, %v", s, a, ok)
		}
	}
}

func TestParseIntervalOfOtherTexts(t *testing.T) {
	for _, s := range []string{
		"2:2", "5:2", "-1:-2", "0:0", "02:5", "2:05", "-0:1", "-1:-0", "00:1", "+1:2", "1:+2", "-01:1",
		"2:5:6", ":2:5", "2:5:", "2::5", "2:5 ", " 2:5", "2 :5", "2:5\n", "2:5\x00", "2-5", "2;5", "2.0:5", "2:5.0",
		"0x1:2", "1:0x2", "1_0:20", "1e1:20", "--1:2", "a:b", "١:٢", "2\uff1a5", "\xff:1", "1:\xff", "Inf:1", "1,2",
		"2:1000001", "-1000001:2", "1000001:1000002", "1000000:1000000", "1000000:1000001",
		"0:9223372036854775807", "-9223372036854775808:0", "0:18446744073709551617", "0:9223372036854775808",
		"0:" + strings.Repeat("9", 100), "-" + strings.Repeat("9", 100) + ":0", strings.Repeat("0", 100) + ":1",
	} {
		if a, ok := impl.ParseInterval(s); a != (impl.Interval{}) || ok {
			t.Errorf("ParseInterval(%q) = %v, %v", s, a, ok)
		}
	}
}

func TestLengthOf(t *testing.T) {
	for _, a := range slices.Concat(smallIntervals, wideIntervals) {
		if got := impl.LengthOf(a); got != a.To-a.From || got < 1 {
			t.Errorf("LengthOf(%v) = %d", a, got)
		}
	}
	for _, a := range noIntervals {
		if got := impl.LengthOf(a); got != -1 {
			t.Errorf("LengthOf(%v) = %d, want -1", a, got)
		}
	}
}

// Two intervals have the basic relation with the zones of their ends, and this
// is exactly one; all thirteen occur.
func TestBasicOf(t *testing.T) {
	seen := map[string]bool{}
	pairsOfIntervals(func(a, b impl.Interval) {
		zones := [2]int{plainZone(a.From, b), plainZone(a.To, b)}
		fitting := ""
		for letter, both := range plainZones {
			if both == zones {
				fitting += letter
			}
		}
		got := impl.BasicOf(a, b)
		if len(fitting) != 1 || got != fitting {
			t.Errorf("BasicOf(%v, %v) = %q, want %q", a, b, got, fitting)
		}
		seen[got] = true
	})
	if len(seen) != len(basicLetters) {
		t.Errorf("%d basic relations occur", len(seen))
	}
}

func TestBasicOfEndsThatCoincide(t *testing.T) {
	for _, c := range []struct{ a, b, letter string }{
		{"1:3", "2:5", "o"}, {"2:5", "1:3", "O"}, // of the document
		{"0:2", "2:5", "m"}, {"5:6", "2:5", "M"},
		{"2:3", "2:5", "s"}, {"2:6", "2:5", "S"},
		{"4:5", "2:5", "f"}, {"1:5", "2:5", "F"},
		{"2:5", "2:5", "e"}, {"2:3", "2:3", "e"},
		{"3:4", "2:5", "d"}, {"1:6", "2:5", "D"},
		{"0:1", "2:5", "b"}, {"6:7", "2:5", "B"},
		{"0:1", "1:2", "m"}, {"1:2", "0:1", "M"}, // with no point within
		{"0:1", "0:2", "s"}, {"1:2", "0:2", "f"},
		{"-1000000:1000000", "-999999:999999", "D"},
		{"-1000000:1000000", "-1000000:1000000", "e"},
		{"-1000000:-999999", "999999:1000000", "b"},
	} {
		a, _ := impl.ParseInterval(c.a)
		b, _ := impl.ParseInterval(c.b)
		if got := impl.BasicOf(a, b); got != c.letter {
			t.Errorf("BasicOf(%s, %s) = %q, want %q", c.a, c.b, got, c.letter)
		}
	}
}

func TestBasicOfNoIntervals(t *testing.T) {
	for _, no := range noIntervals {
		for _, a := range slices.Concat(wideIntervals, noIntervals) {
			if impl.BasicOf(a, no) != "" || impl.BasicOf(no, a) != "" {
				t.Errorf("BasicOf of %v and %v, which is no interval, is a letter", a, no)
			}
		}
	}
}

func TestZonesOf(t *testing.T) {
	for letter, zones := range plainZones {
		if from, to := impl.ZonesOf(letter); from != zones[0] || to != zones[1] {
			t.Errorf("ZonesOf(%q) = %d, %d, want %v", letter, from, to, zones)
		}
	}
	for _, r := range noBasics {
		if from, to := impl.ZonesOf(r); from != -1 || to != -1 {
			t.Errorf("ZonesOf(%q) = %d, %d, want -1 and -1", r, from, to)
		}
	}
}

func TestBasicAt(t *testing.T) {
	numbers := []int{-2, -1, 0, 1, 2, 3, 4, 5, 6, 256, 257, math.MinInt, math.MaxInt}
	for _, from := range numbers {
		for _, to := range numbers {
			want := ""
			for letter, zones := range plainZones {
				if zones == [2]int{from, to} {
					want = letter
				}
			}
			if got := impl.BasicAt(from, to); got != want {
				t.Errorf("BasicAt(%d, %d) = %q, want %q", from, to, got, want)
			}
		}
	}
}

// Letters have either case, and mean different relations in both, except e,
// which has one case only.
func TestTurnBasic(t *testing.T) {
	for letter := range plainZones {
		want := strings.ToLower(letter)
		if want == letter && letter != "e" {
			want = strings.ToUpper(letter)
		}
		got := impl.TurnBasic(letter)
		if got != want || impl.TurnBasic(got) != letter {
			t.Errorf("TurnBasic(%q) = %q, want %q", letter, got, want)
		}
	}
	pairsOfIntervals(func(a, b impl.Interval) {
		if got, want := impl.TurnBasic(impl.BasicOf(a, b)), impl.BasicOf(b, a); got != want {
			t.Errorf("TurnBasic of the relation of %v and %v is %q, want %q", a, b, got, want)
		}
	})
	for _, r := range noBasics {
		if got := impl.TurnBasic(r); got != "" {
			t.Errorf("TurnBasic(%q) = %q, want the empty string", r, got)
		}
	}
}

func TestMirrorBasic(t *testing.T) {
	for i, want := range strings.Split("BMOfdseSDFomb", "") {
		letter := basicLetters[i : i+1]
		got := impl.MirrorBasic(letter)
		if got != want || impl.MirrorBasic(got) != letter {
			t.Errorf("MirrorBasic(%q) = %q, want %q", letter, got, want)
		}
	}
	pairsOfIntervals(func(a, b impl.Interval) {
		if got, want := impl.MirrorBasic(impl.BasicOf(a, b)), impl.BasicOf(plainMirror(a), plainMirror(b)); got != want {
			t.Errorf("MirrorBasic of the relation of %v and %v is %q, want %q", a, b, got, want)
		}
	})
	for _, r := range noBasics {
		if got := impl.MirrorBasic(r); got != "" {
			t.Errorf("MirrorBasic(%q) = %q, want the empty string", r, got)
		}
	}
}

// Of all single bytes, the thirteen letters alone are basic relations.
func TestLettersOfBasics(t *testing.T) {
	for i := range 256 {
		r := string([]byte{byte(i)})
		is := strings.Contains(basicLetters, r)
		from, to := impl.ZonesOf(r)
		if (from != -1) != is || (to != -1) != is || (impl.TurnBasic(r) != "") != is || (impl.MirrorBasic(r) != "") != is || (len(impl.EndsOf(r)) == 4) != is {
			t.Errorf("%q is a letter of a basic relation for some functions alone", r)
		}
	}
}

func TestEndsOf(t *testing.T) {
	pairsOfIntervals(func(a, b impl.Interval) {
		want := []int{plainOrder(a.From, b.From), plainOrder(a.From, b.To), plainOrder(a.To, b.From), plainOrder(a.To, b.To)}
		if got := impl.EndsOf(impl.BasicOf(a, b)); !slices.Equal(got, want) {
			t.Errorf("EndsOf the relation of %v and %v is %v, want %v", a, b, got, want)
		}
	})
	for letter, want := range map[string][]int{
		"b": {1, 1, 1, 1}, "m": {1, 1, 2, 1}, "s": {2, 1, 4, 1}, "e": {2, 1, 4, 2}, "D": {1, 1, 4, 4}, "M": {4, 2, 4, 4}, "B": {4, 4, 4, 4},
	} {
		if got := impl.EndsOf(letter); !slices.Equal(got, want) {
			t.Errorf("EndsOf(%q) = %v, want %v", letter, got, want)
		}
	}
	for _, r := range noBasics {
		if got := impl.EndsOf(r); len(got) != 0 {
			t.Errorf("EndsOf(%q) = %v, want an empty slice", r, got)
		}
	}
}

func TestEndsShareNoMemory(t *testing.T) {
	for letter := range plainZones {
		first, second := impl.EndsOf(letter), impl.EndsOf(letter)
		want := slices.Clone(second)
		for i := range first[:cap(first)] {
			first[:cap(first)][i] = -77
		}
		if !slices.Equal(second, want) || !slices.Equal(impl.EndsOf(letter), want) {
			t.Errorf("EndsOf(%q) returns shared memory", letter)
		}
	}
}

// Two intervals have in common what lies between the two ends in the middle,
// unless one is before the other one or meets it: then this has no length.
func TestMeetOf(t *testing.T) {
	pairsOfIntervals(func(a, b impl.Interval) {
		want, common := impl.Interval{}, !strings.Contains("bmMB", impl.BasicOf(a, b))
		if common {
			ends := []int{a.From, a.To, b.From, b.To}
			slices.Sort(ends)
			want = impl.Interval{From: ends[1], To: ends[2]}
		}
		if got, ok := impl.MeetOf(a, b); got != want || ok != common {
			t.Errorf("MeetOf(%v, %v) = %v, %v, want %v", a, b, got, ok, want)
		}
	})
}

func TestHullOf(t *testing.T) {
	pairsOfIntervals(func(a, b impl.Interval) {
		ends := []int{a.From, a.To, b.From, b.To}
		want := impl.Interval{From: slices.Min(ends), To: slices.Max(ends)}
		if got, ok := impl.HullOf(a, b); got != want || !ok {
			t.Errorf("HullOf(%v, %v) = %v, %v, want %v", a, b, got, ok, want)
		}
	})
}

func TestMirrorInterval(t *testing.T) {
	for _, a := range slices.Concat(smallIntervals, wideIntervals) {
		got, ok := impl.MirrorInterval(a)
		if got != plainMirror(a) || !ok {
			t.Errorf("MirrorInterval(%v) = %v, %v", a, got, ok)
		}
		if back, ok := impl.MirrorInterval(got); back != a || !ok {
			t.Errorf("MirrorInterval(%v) = %v, %v, want %v", got, back, ok, a)
		}
	}
	for _, no := range noIntervals {
		if got, ok := impl.MirrorInterval(no); got != (impl.Interval{}) || ok {
			t.Errorf("MirrorInterval(%v) = %v, %v", no, got, ok)
		}
	}
}

func TestMeetAndHullOfNoIntervals(t *testing.T) {
	for name, f := range map[string]func(a, b impl.Interval) (impl.Interval, bool){"MeetOf": impl.MeetOf, "HullOf": impl.HullOf} {
		for _, no := range noIntervals {
			for _, a := range slices.Concat(wideIntervals, noIntervals) {
				if got, ok := f(a, no); got != (impl.Interval{}) || ok {
					t.Errorf("%s(%v, %v) = %v, %v", name, a, no, got, ok)
				}
				if got, ok := f(no, a); got != (impl.Interval{}) || ok {
					t.Errorf("%s(%v, %v) = %v, %v", name, no, a, got, ok)
				}
			}
		}
	}
}

// A mirrored hull is the hull of mirrored intervals, and what they have in
// common is mirrored with them, too.
func TestMirrorOfMeetAndHull(t *testing.T) {
	pairsOfIntervals(func(a, b impl.Interval) {
		hull, _ := impl.HullOf(a, b)
		if got, _ := impl.HullOf(plainMirror(a), plainMirror(b)); got != plainMirror(hull) {
			t.Errorf("HullOf %v and %v, mirrored, is %v", a, b, got)
		}
		meet, common := impl.MeetOf(a, b)
		if got, ok := impl.MeetOf(plainMirror(b), plainMirror(a)); got != plainMirror(meet) || ok != common {
			t.Errorf("MeetOf %v and %v, mirrored, is %v, %v", a, b, got, ok)
		}
	})
}
