package tests

import (
	"math"
	"slices"
	"testing"

	"loop.example/intervalsandplaces/impl"
)

// These tests hold promise 1, "Orders are turned and composed.", against
// definitions that are written down here once more, from the document.

var pointTexts = [impl.PointSets]string{"-", "<", "=", "<=", ">", "<>", "=>", "<=>"}

var noPointSets = []int{-1, 8, 9, 16, -8, 255, math.MinInt, math.MaxInt}

var noPoints = []int{impl.MaxTime + 1, -impl.MaxTime - 1, math.MaxInt, math.MinInt}

var somePoints = []int{-impl.MaxTime, -impl.MaxTime + 1, -2, -1, 0, 1, 2, impl.MaxTime - 1, impl.MaxTime}

// plainOrder returns the order of any two numbers.
func plainOrder(x, y int) int {
	if x < y {
		return 1
	}
	if x == y {
		return 2
	}
	return 4
}

func TestLimitsOfPoints(t *testing.T) {
	if impl.PointSets != 8 || impl.MaxTime != 1000000 {
		t.Errorf("PointSets = %d, MaxTime = %d", impl.PointSets, impl.MaxTime)
	}
}

func TestPointValid(t *testing.T) {
	for r := range impl.PointSets {
		if !impl.PointValid(r) {
			t.Errorf("PointValid(%d) = false", r)
		}
	}
	for _, r := range noPointSets {
		if impl.PointValid(r) {
			t.Errorf("PointValid(%d) = true", r)
		}
	}
}

func TestOrderOf(t *testing.T) {
	for _, x := range somePoints {
		for _, y := range somePoints {
			if got, want := impl.OrderOf(x, y), plainOrder(x, y); got != want {
				t.Errorf("OrderOf(%d, %d) = %d, want %d", x, y, got, want)
			}
		}
		for _, y := range noPoints {
			if impl.OrderOf(x, y) != 0 || impl.OrderOf(y, x) != 0 || impl.OrderOf(y, y) != 0 {
				t.Errorf("OrderOf of %d and %d, which is no point, is not 0", x, y)
			}
		}
	}
}

func TestPointHolds(t *testing.T) {
	for _, x := range somePoints {
		for _, y := range somePoints {
			for r := range impl.PointSets {
				want := r/plainOrder(x, y)%2 == 1
				if got := impl.PointHolds(r, x, y); got != want {
					t.Errorf("PointHolds(%d, %d, %d) = %v", r, x, y, got)
				}
			}
			for _, r := range noPointSets {
				if impl.PointHolds(r, x, y) {
					t.Errorf("PointHolds(%d, %d, %d), of no set, is true", r, x, y)
				}
			}
		}
	}
	for r := range impl.PointSets {
		for _, x := range noPoints {
			if impl.PointHolds(r, x, 0) || impl.PointHolds(r, 0, x) || impl.PointHolds(r, x, x) {
				t.Errorf("PointHolds(%d) of %d, which is no point, is true", r, x)
			}
		}
	}
}

func TestCountOrders(t *testing.T) {
	for r, want := range []int{0, 1, 1, 2, 1, 2, 2, 3} {
		if got := impl.CountOrders(r); got != want {
			t.Errorf("CountOrders(%d) = %d, want %d", r, got, want)
		}
	}
	for _, r := range noPointSets {
		if got := impl.CountOrders(r); got != -1 {
			t.Errorf("CountOrders(%d) = %d, want -1", r, got)
		}
	}
}

func TestFormatPoint(t *testing.T) {
	for r, want := range pointTexts {
		if got := impl.FormatPoint(r); got != want {
			t.Errorf("FormatPoint(%d) = %q, want %q", r, got, want)
		}
	}
	for _, r := range noPointSets {
		if got := impl.FormatPoint(r); got != "" {
			t.Errorf("FormatPoint(%d) = %q, want the empty string", r, got)
		}
	}
}

// wordsOf returns all texts of the bytes of an alphabet up to a length.
func wordsOf(alphabet string, length int) []string {
	words := []string{""}
	for from := 0; length > 0; length-- {
		to := len(words)
		for _, word := range words[from:to] {
			for i := range len(alphabet) {
				words = append(words, word+alphabet[i:i+1])
			}
		}
		from = to
	}
	return words
}

func TestParsePoint(t *testing.T) {
	for _, s := range wordsOf("-<=> 0\x00\xff", 4) {
		want := slices.Index(pointTexts[:], s)
		r, ok := impl.ParsePoint(s)
		if want >= 0 && (r != want || !ok) || want < 0 && (r != 0 || ok) {
			t.Errorf("ParsePoint(%q) = %d, %v", s, r, ok)
		}
	}
	for _, s := range []string{"≤", "<=>\n", "\t<", "before", "8", "<=><=>"} {
		if r, ok := impl.ParsePoint(s); r != 0 || ok {
			t.Errorf("ParsePoint(%q) = %d, %v", s, r, ok)
		}
	}
}

func TestTurnPoint(t *testing.T) {
	for r := range impl.PointSets {
		want := 0
		for _, x := range somePoints {
			for _, y := range somePoints {
				if order := plainOrder(x, y); r&order != 0 {
					want |= plainOrder(y, x)
				}
			}
		}
		got := impl.TurnPoint(r)
		if got != want || impl.TurnPoint(got) != r {
			t.Errorf("TurnPoint(%d) = %d, want %d", r, got, want)
		}
	}
	for _, r := range noPointSets {
		if got := impl.TurnPoint(r); got != -1 {
			t.Errorf("TurnPoint(%d) = %d, want -1", r, got)
		}
	}
}

// plainComposition looks for third numbers. The points are even here, so that
// the odd numbers lie between points that are next to each other; -1 and 5 lie
// beyond all points.
func plainComposition(r, s int) int {
	orders := 0
	for x := 0; x <= 4; x += 2 {
		for y := 0; y <= 4; y += 2 {
			for z := -1; z <= 5; z++ {
				if r&plainOrder(x, z) != 0 && s&plainOrder(z, y) != 0 {
					orders |= plainOrder(x, y)
				}
			}
		}
	}
	return orders
}

func TestComposePoint(t *testing.T) {
	for r := range impl.PointSets {
		for s := range impl.PointSets {
			if got, want := impl.ComposePoint(r, s), plainComposition(r, s); got != want {
				t.Errorf("ComposePoint(%d, %d) = %d, want %d", r, s, got, want)
			}
		}
		for _, s := range noPointSets {
			if impl.ComposePoint(r, s) != -1 || impl.ComposePoint(s, r) != -1 || impl.ComposePoint(s, s) != -1 {
				t.Errorf("ComposePoint of %d and %d, which is no set, is not -1", r, s)
			}
		}
	}
}

func TestComposePointExamples(t *testing.T) {
	for _, c := range [][3]string{
		{"<", "<=", "<"}, {"<", ">", "<=>"}, // of the document
		{"<", "<", "<"},     // though nothing lies between points next to each other
		{">", "<", "<=>"},   // though nothing lies before all points
		{"=", "=", "="},     // equal points
		{"=", "<>", "<>"},   // one equal point
		{"<>", "<>", "<=>"}, // both sides of a point
		{"=>", "=>", "=>"},  // not before
		{"<=", "=>", "<=>"}, // opposite orders
		{"-", "<=>", "-"},   // a set without orders
		{"<=>", "-", "-"},   // and on the other side
		{"-", "-", "-"},     // and on both
	} {
		r, _ := impl.ParsePoint(c[0])
		s, _ := impl.ParsePoint(c[1])
		if got := impl.FormatPoint(impl.ComposePoint(r, s)); got != c[2] {
			t.Errorf("ComposePoint of %s and %s is %s, want %s", c[0], c[1], got, c[2])
		}
	}
}

// Turning turns a composition around, and composing does not depend on which
// two of three sets are composed first.
func TestLawsOfOrders(t *testing.T) {
	for r := range impl.PointSets {
		for s := range impl.PointSets {
			turned := impl.TurnPoint(impl.ComposePoint(r, s))
			if other := impl.ComposePoint(impl.TurnPoint(s), impl.TurnPoint(r)); other != turned {
				t.Errorf("ComposePoint(%d, %d) is turned %d, but of turned sets %d", r, s, turned, other)
			}
			for q := range impl.PointSets {
				left := impl.ComposePoint(impl.ComposePoint(r, s), q)
				right := impl.ComposePoint(r, impl.ComposePoint(s, q))
				if left != right {
					t.Errorf("%d, %d and %d compose to %d or to %d", r, s, q, left, right)
				}
			}
		}
	}
}

var numberLists = []struct{ list, sorted, ranks []int }{
	{nil, nil, nil},
	{[]int{}, nil, nil},
	{[]int{7}, []int{7}, []int{0}},
	{[]int{4, 4, 4}, []int{4}, []int{0, 0, 0}},
	{[]int{5, 1, 3, 1}, []int{1, 3, 5}, []int{2, 0, 1, 0}},
	{[]int{1, 2, 3}, []int{1, 2, 3}, []int{0, 1, 2}},
	{[]int{3, 2, 1, 0, -1}, []int{-1, 0, 1, 2, 3}, []int{4, 3, 2, 1, 0}},
	{[]int{0, -10, -9, 10, 9, -10}, []int{-10, -9, 0, 9, 10}, []int{2, 0, 1, 4, 3, 0}},
	{[]int{2000000, 1000001, -1000001, 2000000}, []int{-1000001, 1000001, 2000000}, []int{2, 1, 0, 2}},
	{[]int{math.MaxInt, math.MinInt, 0, math.MaxInt, -1}, []int{math.MinInt, -1, 0, math.MaxInt}, []int{3, 0, 2, 3, 1}},
}

func TestSortAndRanks(t *testing.T) {
	for _, c := range numberLists {
		if got := impl.SortPoints(c.list); !slices.Equal(got, c.sorted) {
			t.Errorf("SortPoints(%v) = %v, want %v", c.list, got, c.sorted)
		}
		if got := impl.RanksOfPoints(c.list); !slices.Equal(got, c.ranks) {
			t.Errorf("RanksOfPoints(%v) = %v, want %v", c.list, got, c.ranks)
		}
	}
}

// The lists below run through many lengths, with numbers that come again.
func TestSortAndRanksOfLongLists(t *testing.T) {
	list := []int{}
	for i := range 120 {
		list = append(list, i*i*37%101-50)
		sorted, ranks := impl.SortPoints(list), impl.RanksOfPoints(list)
		for k := 1; k < len(sorted); k++ {
			if sorted[k-1] >= sorted[k] {
				t.Fatalf("SortPoints of %v is not ascending: %v", list, sorted)
			}
		}
		if len(ranks) != len(list) {
			t.Fatalf("RanksOfPoints of %v has %d numbers", list, len(ranks))
		}
		for k, x := range list {
			if ranks[k] < 0 || ranks[k] >= len(sorted) || sorted[ranks[k]] != x {
				t.Fatalf("SortPoints of %v is %v, but the rank of %d is %d", list, sorted, x, ranks[k])
			}
		}
		for _, x := range sorted {
			if !slices.Contains(list, x) {
				t.Fatalf("SortPoints of %v has %d", list, x)
			}
		}
	}
}

// Neither the list nor the memory beyond its length may change, and no result
// may reach into it or into another result.
func TestListsShareNoMemory(t *testing.T) {
	for name, f := range map[string]func([]int) []int{"SortPoints": impl.SortPoints, "RanksOfPoints": impl.RanksOfPoints} {
		for length := range 7 {
			memory := []int{5, 1, 3, 1, 0, 2, 9}
			kept := slices.Clone(memory)
			first, second := f(memory[:length]), f(memory[:length])
			want := slices.Clone(second)
			for i := range first[:cap(first)] {
				first[:cap(first)][i] = -77
			}
			if !slices.Equal(memory, kept) {
				t.Errorf("%s changes a list of %d numbers to %v", name, length, memory)
			}
			if !slices.Equal(second, want) || !slices.Equal(f(memory[:length]), want) {
				t.Errorf("%s returns shared memory for %d numbers", name, length)
			}
		}
	}
}
