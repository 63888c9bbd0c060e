package tests

import (
	"math"
	"slices"
	"strings"
	"testing"

	"loop.example/intervalsandplaces/impl"
)

// These tests hold promise 4, "Convex relations are told by orders of ends, and
// moves of ends lead from each relation to each.", against the words of the
// document, put down here once more for zones, and against intervals.

// plainZonesOf returns the zones of the letters of a relation.
func plainZonesOf(r int) [][2]int {
	list := [][2]int{}
	for i := range basicLetters {
		if r>>i%2 == 1 {
			list = append(list, plainZones[basicLetters[i:i+1]])
		}
	}
	return list
}

// plainRelWhere returns the relation of all basic relations whose zones fit.
func plainRelWhere(fits func(from, to int) bool) int {
	r := 0
	for letter, zones := range plainZones {
		if fits(zones[0], zones[1]) {
			r += plainRel(letter)
		}
	}
	return r
}

// plainConvex returns the empty relation, and the relations of all zones of
// From and of To between two.
func plainConvex() map[int]bool {
	found := map[int]bool{0: true}
	for first := range 5 {
		for last := first; last < 5; last++ {
			for low := range 5 {
				for high := low; high < 5; high++ {
					found[plainRelWhere(func(from, to int) bool {
						return first <= from && from <= last && low <= to && to <= high
					})] = true
				}
			}
		}
	}
	return found
}

var convexRels = plainConvex()

// plainNear is the sentence on zones that are near to each other.
func plainNear(y, x int) bool {
	switch y {
	case 1:
		return x == 0 || x == 1 || x == 2
	case 3:
		return x == 2 || x == 3 || x == 4
	}
	return x == y
}

// plainClosure returns all basic relations near to one in r.
func plainClosure(r int) int {
	zones := plainZonesOf(r)
	return plainRelWhere(func(from, to int) bool {
		return slices.ContainsFunc(zones, func(own [2]int) bool { return plainNear(from, own[0]) && plainNear(to, own[1]) })
	})
}

// plainEnds returns the orders of the ends of intervals that are in a relation.
func plainEnds(r int) []int {
	orders := []int{0, 0, 0, 0}
	for _, a := range smallIntervals {
		for _, b := range smallIntervals {
			if r&plainBasic(a, b) != 0 {
				for i, order := range orderedEnds(a, b) {
					orders[i] |= order
				}
			}
		}
	}
	return orders
}

func orderedEnds(a, b impl.Interval) []int {
	return []int{plainOrder(a.From, b.From), plainOrder(a.From, b.To), plainOrder(a.To, b.From), plainOrder(a.To, b.To)}
}

// endsOfBasics has plainEnds of each basic relation, in order.
var endsOfBasics = plainEndsOfBasics()

func plainEndsOfBasics() [][]int {
	list := [][]int{}
	for i := range basicLetters {
		list = append(list, plainEnds(1<<i))
	}
	return list
}

// plainEndOrders returns all orders of some basic relation of r.
func plainEndOrders(r int) []int {
	orders := []int{0, 0, 0, 0}
	for i, own := range endsOfBasics {
		if r>>i%2 == 1 {
			for place, order := range own {
				orders[place] |= order
			}
		}
	}
	return orders
}

// plainRelOfOrders returns all basic relations with all orders in some sets.
func plainRelOfOrders(list []int) int {
	r := 0
	for i, own := range endsOfBasics {
		fits := true
		for place, order := range own {
			fits = fits && list[place]&order != 0
		}
		if fits {
			r += 1 << i
		}
	}
	return r
}

// setsOfOrders returns all lists of four sets of orders.
func setsOfOrders() [][]int {
	lists := [][]int{}
	for i := range 8 * 8 * 8 * 8 {
		lists = append(lists, []int{i / 512, i / 64 % 8, i / 8 % 8, i % 8})
	}
	return lists
}

// eachRel calls a function for all relations, with its letters.
func eachRel(f func(r int, letters string)) {
	for r := range impl.RelSets {
		f(r, plainLetters(r))
	}
}

// The least convex relation is the one within all others that have r.
func TestConvexHull(t *testing.T) {
	eachRel(func(r int, letters string) {
		want := allBasics
		for convex := range convexRels {
			if r&^convex == 0 {
				want &= convex
			}
		}
		if !convexRels[want] {
			t.Fatalf("no convex relation of those with %s is the least one", letters)
		}
		if got := impl.ConvexHull(r); got != want {
			t.Errorf("ConvexHull(%s) = %s, want %s", letters, impl.FormatRel(got), plainLetters(want))
		}
	})
}

func TestConvexHullExamples(t *testing.T) {
	for letters, want := range map[string]string{
		"bo": "bmo", // of the document
		"-":  "-", "b": "b", "m": "m", "e": "e", "B": "B", basicLetters: basicLetters,
		"bB": basicLetters, "bm": "bm", "bs": "bmos", "be": "bmoseF", "bd": "bmosd", "bD": "bmoFD",
		"sf": "sdfe", "sF": "oseF", "sS": "seS", "fF": "feF", "dD": "osdfeFDSO", "oO": "osdfeFDSO", "mM": "mosdfeFDSOM",
		"oF": "oF", "dO": "dfO", "ef": "fe",
	} {
		if got := impl.FormatRel(impl.ConvexHull(plainRel(letters))); got != want {
			t.Errorf("ConvexHull(%s) = %s, want %s", letters, got, want)
		}
	}
}

func TestIsConvex(t *testing.T) {
	if len(convexRels) != 83 {
		t.Fatalf("%d relations are convex", len(convexRels))
	}
	eachRel(func(r int, letters string) {
		if got := impl.IsConvex(r); got != convexRels[r] {
			t.Errorf("IsConvex(%s) = %v", letters, got)
		}
	})
	for letters, want := range map[string]bool{
		"-": true, "b": true, "bmo": true, "seS": true, "feF": true, "sdfe": true, basicLetters: true,
		"bo": false, "bB": false, "bmMB": false, "sf": false, "eD": false, "osdfeFDS": false,
	} {
		if got := impl.IsConvex(plainRel(letters)); got != want {
			t.Errorf("IsConvex(%s) = %v", letters, got)
		}
	}
}

func TestDimensionOf(t *testing.T) {
	for letter, want := range map[string]int{
		"b": 2, "m": 1, "o": 2, "s": 1, "d": 2, "f": 1, "e": 0, "F": 1, "D": 2, "S": 1, "O": 2, "M": 1, "B": 2,
	} {
		if got := impl.DimensionOf(letter); got != want {
			t.Errorf("DimensionOf(%q) = %d, want %d", letter, got, want)
		}
	}
	for _, r := range noBasics {
		if got := impl.DimensionOf(r); got != -1 {
			t.Errorf("DimensionOf(%q) = %d, want -1", r, got)
		}
	}
}

func TestClosureOf(t *testing.T) {
	eachRel(func(r int, letters string) {
		want := plainClosure(r)
		got := impl.ClosureOf(r)
		if got != want {
			t.Errorf("ClosureOf(%s) = %s, want %s", letters, impl.FormatRel(got), plainLetters(want))
		}
		if again := impl.ClosureOf(got); again != got || r&^got != 0 {
			t.Errorf("ClosureOf(%s) = %s, and of this it is %s", letters, impl.FormatRel(got), impl.FormatRel(again))
		}
	})
}

func TestClosureOfExamples(t *testing.T) {
	for letters, want := range map[string]string{
		"-": "-", "b": "bm", "m": "m", "o": "moseF", "s": "se", "d": "sdfe", "f": "fe", "e": "e", // an end is near to others, not they to it
		"F": "eF", "D": "eFDS", "S": "eS", "O": "feSOM", "M": "M", "B": "MB",
		"bo": "bmoseF", // of the document: bmo, but for s, F and e
		"bB": "bmMB", "mM": "mM", basicLetters: basicLetters,
	} {
		if got := impl.FormatRel(impl.ClosureOf(plainRel(letters))); got != want {
			t.Errorf("ClosureOf(%s) = %s, want %s", letters, got, want)
		}
	}
}

func TestIsPreconvex(t *testing.T) {
	found := 0
	eachRel(func(r int, letters string) {
		want := convexRels[plainClosure(r)]
		if got := impl.IsPreconvex(r); got != want {
			t.Errorf("IsPreconvex(%s) = %v", letters, got)
		}
		if want {
			found++
		}
	})
	if found != 868 {
		t.Errorf("%d relations are nearly convex", found)
	}
}

// A relation is nearly convex exactly if all that it lacks of its convex hull is
// near to it.
func TestIsPreconvexByHull(t *testing.T) {
	eachRel(func(r int, letters string) {
		lacks := impl.ConvexHull(r) &^ impl.ClosureOf(r)
		if got := impl.IsPreconvex(r); got != (lacks == 0) {
			t.Errorf("IsPreconvex(%s) = %v, but its closure lacks %s of its hull", letters, got, plainLetters(lacks))
		}
	})
}

func TestIsPreconvexExamples(t *testing.T) {
	for letters, want := range map[string]bool{
		"-": true, basicLetters: true, "b": true, "m": true, "e": true, "o": true, "d": true,
		"bo": true, "osd": true, "od": true, "oD": true, "oO": false, "dD": false, "odDO": true, "bodDOB": true, // all that is missing has an end
		"bsO": false, "sfS": false,
		"bB": false, "mM": false, "bmMB": false, "sf": false, "sF": false, "se": true, "sS": true, "fF": true, "be": false, "bs": false, "mo": true,
	} {
		if got := impl.IsPreconvex(plainRel(letters)); got != want {
			t.Errorf("IsPreconvex(%s) = %v", letters, got)
		}
	}
}

// Convex relations are among those that orders of ends tell, and these are
// among the nearly convex ones; the latter are not all told by orders.
func TestKindsOfRelations(t *testing.T) {
	eachRel(func(r int, letters string) {
		if impl.IsConvex(r) && !impl.IsPointable(r) {
			t.Errorf("%s is convex, but not told by orders", letters)
		}
		if impl.IsPointable(r) && !impl.IsPreconvex(r) {
			t.Errorf("%s is told by orders, but not nearly convex", letters)
		}
	})
	if r := plainRel("odDO"); !impl.IsPointable(r) || impl.IsConvex(r) {
		t.Error("odDO is not told by orders, or convex")
	}
	if r := plainRel("oFDS"); impl.IsPointable(r) || !impl.IsPreconvex(r) {
		t.Error("oFDS is told by orders, or not nearly convex")
	}
}

// A relation is convex exactly if sets of orders tell it that are convex, too:
// all but the one of before and behind.
func TestConvexByOrders(t *testing.T) {
	told := map[int]bool{}
	for _, list := range setsOfOrders() {
		if r, ok := impl.RelOfOrders(list); ok && !slices.Contains(list, 5) {
			told[r] = true
		}
	}
	eachRel(func(r int, letters string) {
		if got := impl.IsConvex(r); got != told[r] {
			t.Errorf("IsConvex(%s) = %v, but told by convex sets of orders: %v", letters, got, told[r])
		}
	})
}

// Turning and mirroring change nothing of all this.
func TestTurnAndMirrorOfLattice(t *testing.T) {
	eachRel(func(r int, letters string) {
		for name, f := range map[string]func(int) int{"TurnRel": impl.TurnRel, "MirrorRel": impl.MirrorRel} {
			other := f(r)
			if impl.ConvexHull(other) != f(impl.ConvexHull(r)) || impl.ClosureOf(other) != f(impl.ClosureOf(r)) {
				t.Errorf("ConvexHull or ClosureOf differs for %s and %s of it", letters, name)
			}
			if impl.IsPreconvex(other) != impl.IsPreconvex(r) || impl.IsPointable(other) != impl.IsPointable(r) {
				t.Errorf("IsPreconvex or IsPointable differs for %s and %s of it", letters, name)
			}
		}
	})
}

// plainNext reports whether one zone is the same and the other ones differ by 1.
func plainNext(r, s [2]int) bool {
	from, to := r[0]-s[0], r[1]-s[1]
	return from*from+to*to == 1
}

func TestNextOf(t *testing.T) {
	for letter, zones := range plainZones {
		want := plainRelWhere(func(from, to int) bool { return plainNext(zones, [2]int{from, to}) })
		if got := impl.NextOf(letter); got != want {
			t.Errorf("NextOf(%q) = %s, want %s", letter, impl.FormatRel(got), plainLetters(want))
		}
	}
	for letter, want := range map[string]string{
		"b": "m", "m": "bo", "o": "msF", "s": "ode", "d": "sf", "f": "deO", "e": "sfFS", "F": "oeD", "D": "FS", "S": "eDO", "O": "fSM", "M": "OB", "B": "M",
	} {
		if got := impl.FormatRel(impl.NextOf(letter)); got != want {
			t.Errorf("NextOf(%q) = %s, want %s", letter, got, want)
		}
	}
	for _, r := range noBasics {
		if got := impl.NextOf(r); got != -1 {
			t.Errorf("NextOf(%q) = %d, want -1", r, got)
		}
	}
}

// plainSteps returns the least numbers of steps between all letters, from those
// of ways by way of more and more letters.
func plainSteps() map[[2]string]int {
	steps := map[[2]string]int{}
	for r, own := range plainZones {
		for s, other := range plainZones {
			steps[[2]string{r, s}] = 1000
			if r == s {
				steps[[2]string{r, s}] = 0
			} else if plainNext(own, other) {
				steps[[2]string{r, s}] = 1
			}
		}
	}
	for by := range plainZones {
		for r := range plainZones {
			for s := range plainZones {
				way := [2]string{r, s}
				steps[way] = min(steps[way], steps[[2]string{r, by}]+steps[[2]string{by, s}])
			}
		}
	}
	return steps
}

// Steps lead from each basic relation to each, and never need to move an end
// away from where it is to be.
func TestStepsBetween(t *testing.T) {
	for way, want := range plainSteps() {
		if got := impl.StepsBetween(way[0], way[1]); got != want {
			t.Errorf("StepsBetween(%q, %q) = %d, want %d", way[0], way[1], got, want)
		}
		own, other := plainZones[way[0]], plainZones[way[1]]
		if moves := max(own[0]-other[0], other[0]-own[0]) + max(own[1]-other[1], other[1]-own[1]); moves != want {
			t.Errorf("the ends of %q and %q differ by %d zones, not %d", way[0], way[1], moves, want)
		}
	}
}

func TestStepsBetweenExamples(t *testing.T) {
	for way, want := range map[string]int{
		"bd": 4, // of the document
		"bB": 8, "Bb": 8, "bb": 0, "ee": 0, "BB": 0, "bm": 1, "mb": 1, "es": 1, "ed": 2, "eo": 2, "ef": 1,
		"sf": 2, "sS": 2, "dD": 4, "oO": 4, "mM": 6, "bD": 4, "od": 2, "oD": 2, "sM": 4,
	} {
		if got := impl.StepsBetween(way[:1], way[1:]); got != want {
			t.Errorf("StepsBetween(%q, %q) = %d, want %d", way[:1], way[1:], got, want)
		}
	}
	for _, no := range noBasics {
		for _, r := range slices.Concat(strings.Split(basicLetters, ""), noBasics) {
			if impl.StepsBetween(r, no) != -1 || impl.StepsBetween(no, r) != -1 {
				t.Errorf("StepsBetween %q and %q, which is no letter, is not -1", r, no)
			}
		}
	}
}

// Moving one end by one point at most turns a relation into itself or one next
// to it: here, where the ends of the other interval are far from each other.
func TestNextOfMovedEnds(t *testing.T) {
	b := impl.Interval{From: 0, To: 4}
	seen := map[string]bool{}
	for _, a := range intervalsAmong([]int{-3, -2, -1, 0, 1, 2, 3, 4, 5, 6, 7}) {
		for _, moved := range []impl.Interval{{From: a.From + 1, To: a.To}, {From: a.From, To: a.To + 1}} {
			if !impl.IntervalValid(moved) {
				continue
			}
			r, s := impl.BasicOf(a, b), impl.BasicOf(moved, b)
			if r != s && impl.NextOf(r)&plainRel(s) == 0 {
				t.Errorf("%v in %s moves to %v in %s, which is not next to it", a, r, moved, s)
			}
			seen[r+s] = seen[r+s] || r != s
		}
	}
	// Each pair of neighbors is found as one of both moves into the other one.
	for letter := range plainZones {
		for other := range plainZones {
			next := impl.NextOf(letter)&plainRel(other) != 0
			if next != (seen[letter+other] || seen[other+letter]) {
				t.Errorf("%s is next to %s: %v, but no move shows it, or one does", other, letter, next)
			}
		}
	}
}

func TestEndOrders(t *testing.T) {
	eachRel(func(r int, letters string) {
		want := plainEndOrders(r)
		if got := impl.EndOrders(r); !slices.Equal(got, want) {
			t.Errorf("EndOrders(%s) = %v, want %v", letters, got, want)
		}
	})
	for letters, want := range map[string][]int{
		"-": {0, 0, 0, 0}, basicLetters: {7, 7, 7, 7}, "e": {2, 1, 4, 2}, "bm": {1, 1, 3, 1}, "bo": {1, 1, 5, 1},
		"bB": {5, 5, 5, 5}, "seS": {2, 1, 4, 7}, "sf": {6, 1, 4, 3}, "mM": {5, 3, 6, 5},
	} {
		if got := impl.EndOrders(plainRel(letters)); !slices.Equal(got, want) {
			t.Errorf("EndOrders(%s) = %v, want %v", letters, got, want)
		}
	}
	for _, r := range noRels {
		if got := impl.EndOrders(r); len(got) != 0 {
			t.Errorf("EndOrders(%d) = %v, want an empty slice", r, got)
		}
	}
}

func TestRelOfOrders(t *testing.T) {
	for _, list := range setsOfOrders() {
		want := plainRelOfOrders(list)
		if got, ok := impl.RelOfOrders(list); got != want || !ok {
			t.Errorf("RelOfOrders(%v) = %s, %v, want %s", list, impl.FormatRel(got), ok, plainLetters(want))
		}
	}
	for _, c := range []struct {
		list []int
		want string
	}{
		{[]int{7, 7, 7, 7}, basicLetters}, {[]int{0, 0, 0, 0}, "-"}, {[]int{0, 7, 7, 7}, "-"}, {[]int{7, 7, 7, 0}, "-"},
		{[]int{2, 7, 7, 7}, "seS"}, {[]int{7, 7, 7, 2}, "feF"}, {[]int{7, 7, 2, 7}, "m"}, {[]int{7, 2, 7, 7}, "M"},
		{[]int{5, 7, 7, 5}, "bmodDOMB"}, {[]int{7, 1, 4, 7}, "osdfeFDSO"}, {[]int{4, 1, 1, 1}, "-"}, {[]int{2, 1, 4, 2}, "e"},
	} {
		if got, ok := impl.RelOfOrders(c.list); impl.FormatRel(got) != c.want || !ok {
			t.Errorf("RelOfOrders(%v) = %s, %v, want %s", c.list, impl.FormatRel(got), ok, c.want)
		}
	}
}

func TestRelOfOtherOrders(t *testing.T) {
	lists := [][]int{nil, {}, {7}, {7, 7}, {7, 7, 7}, {7, 7, 7, 7, 7}, {0, 0, 0}, {0, 0, 0, 0, 0}, make([]int, 1000), {7, 7, 7, 7, 8}}
	for place := range 4 {
		for _, no := range noPointSets {
			list := []int{7, 7, 7, 7}
			list[place] = no
			empty := []int{0, 0, 0, 0} // which tells the empty relation, but only with sets at all places
			empty[place] = no
			lists = append(lists, list, empty)
		}
	}
	for _, list := range lists {
		if r, ok := impl.RelOfOrders(list); r != 0 || ok {
			t.Errorf("RelOfOrders(%v) = %d, %v", list, r, ok)
		}
	}
}

func TestIsPointable(t *testing.T) {
	told := map[int]bool{}
	for _, list := range setsOfOrders() {
		told[plainRelOfOrders(list)] = true
	}
	if len(told) != 188 {
		t.Fatalf("orders tell %d relations", len(told))
	}
	// What any orders tell is told by its own orders, too.
	eachRel(func(r int, letters string) {
		if got := impl.IsPointable(r); got != told[r] {
			t.Errorf("IsPointable(%s) = %v", letters, got)
		}
	})
	for letters, want := range map[string]bool{
		"-": true, "b": true, "e": true, "bo": true, "bmo": true, "bmodDOMB": true, basicLetters: true,
		"bB": false, "bmMB": false, "sf": false, "mM": false, "oO": false, "oFDS": false,
	} {
		if got := impl.IsPointable(plainRel(letters)); got != want {
			t.Errorf("IsPointable(%s) = %v", letters, got)
		}
	}
}

func TestLatticeOfNoRelation(t *testing.T) {
	for _, r := range slices.Concat(noRels, []int{math.MaxInt32, math.MinInt32}) {
		if impl.ConvexHull(r) != -1 || impl.ClosureOf(r) != -1 {
			t.Errorf("ConvexHull or ClosureOf(%d), of no relation, is not -1", r)
		}
		if impl.IsConvex(r) || impl.IsPreconvex(r) || impl.IsPointable(r) {
			t.Errorf("%d, which is no relation, is convex, nearly convex, or told by orders", r)
		}
	}
}

// Neither the list nor the memory beyond its length may change, and no result
// may reach into another one.
func TestOrdersShareNoMemory(t *testing.T) {
	eachRel(func(r int, letters string) {
		first, second := impl.EndOrders(r), impl.EndOrders(r)
		want := slices.Clone(second)
		for i := range first[:cap(first)] {
			first[:cap(first)][i] = -77
		}
		if !slices.Equal(second, want) || !slices.Equal(impl.EndOrders(r), want) {
			t.Errorf("EndOrders(%s) returns shared memory", letters)
		}
	})
	memory := []int{5, 1, 7, 3, 9, -1}
	kept := slices.Clone(memory)
	for length := range memory {
		impl.RelOfOrders(memory[:length])
		if !slices.Equal(memory, kept) {
			t.Errorf("RelOfOrders changes a list of %d numbers to %v", length, memory)
		}
	}
}
