package tests

import (
	"math"
	"math/rand"
	"slices"
	"strings"
	"testing"

	"loop.example/intervalsandplaces/impl"
)

// These tests hold promise 10, "Directions are composed coordinate by
// coordinate, and turn with the plane.", against places that are looked for and
// the words of the document.

var directionNames = [...]string{"sw", "s", "se", "w", "=", "e", "nw", "n", "ne"}

const allDirections = impl.DirSets - 1

var noDirSets = []int{-1, impl.DirSets, impl.DirSets + 1, 2 * impl.DirSets, -impl.DirSets, 1 << 20, 1 << 32, math.MinInt, math.MinInt + 1, math.MaxInt}

// placesAmong returns all places with some numbers as coordinates.
func placesAmong(numbers []int) []impl.Place {
	var places []impl.Place
	for _, x := range numbers {
		for _, y := range numbers {
			places = append(places, impl.Place{X: x, Y: y})
		}
	}
	return places
}

// somePlaces share coordinates with each other, and go to the limits.
var somePlaces = placesAmong(somePoints)

// fewPlaces are enough to see each direction, and to see each from each side.
var fewPlaces = placesAmong([]int{-1, 0, 2})

// noPlaces have a coordinate that is no point, or two of them.
var noPlaces = plainNoPlaces()

func plainNoPlaces() []impl.Place {
	var places []impl.Place
	for _, x := range noPoints {
		for _, y := range append([]int{0, 1, impl.MaxTime, -impl.MaxTime}, noPoints...) {
			places = append(places, impl.Place{X: x, Y: y}, impl.Place{X: y, Y: x})
		}
	}
	return places
}

// plainDirection says in words how a lies with regard to b.
func plainDirection(a, b impl.Place) string {
	name := ""
	if a.Y < b.Y {
		name += "s"
	}
	if a.Y > b.Y {
		name += "n"
	}
	if a.X < b.X {
		name += "w"
	}
	if a.X > b.X {
		name += "e"
	}
	if name == "" {
		return "="
	}
	return name
}

// plainNumber returns the number of the direction of a and b.
func plainNumber(a, b impl.Place) int {
	return slices.Index(directionNames[:], plainDirection(a, b))
}

// hasDirection reports whether the digit of a direction is 1.
func hasDirection(d, number int) bool {
	return d/(1<<number)%2 == 1
}

// plainDirText returns the names of a set with commas between them.
func plainDirText(d int) string {
	text := ""
	for number, name := range directionNames {
		if hasDirection(d, number) {
			text += "," + name
		}
	}
	if text == "" {
		return "-"
	}
	return text[1:]
}

// dirTexts has the text of each set, at the index that is its number.
var dirTexts = plainDirTexts()

func plainDirTexts() []string {
	var texts []string
	for d := range impl.DirSets {
		texts = append(texts, plainDirText(d))
	}
	return texts
}

// dirOfText returns the set with a text that is valid.
func dirOfText(s string) int {
	d := slices.Index(dirTexts, s)
	if d < 0 {
		panic(s)
	}
	return d
}

// plainChanged looks for all places in a direction of a set, and returns the set
// of the directions that some other places have instead.
func plainChanged(d int, change func(a, b impl.Place) (impl.Place, impl.Place)) int {
	set := 0
	for _, a := range fewPlaces {
		for _, b := range fewPlaces {
			if hasDirection(d, plainNumber(a, b)) {
				set |= 1 << plainNumber(change(a, b))
			}
		}
	}
	return set
}

func plainTurnDir(d int) int {
	return plainChanged(d, func(a, b impl.Place) (impl.Place, impl.Place) { return b, a })
}

// quarter turns a place around 0, 0 so that what was east of it becomes north.
func quarter(a impl.Place) impl.Place {
	return impl.Place{X: -a.Y, Y: a.X}
}

func plainQuarterDir(d int) int {
	return plainChanged(d, func(a, b impl.Place) (impl.Place, impl.Place) { return quarter(a), quarter(b) })
}

// dirCompositions has, for two directions, the set of what they leave.
var dirCompositions = plainDirCompositions()

// plainDirCompositions looks for third places. The coordinates of the first and
// the last one are even here, so that the odd numbers lie between points that are
// next to each other; -1 and 5 lie beyond all points.
func plainDirCompositions() [9][9]int {
	var found [9][9]int
	outer := placesAmong([]int{0, 2, 4})
	for _, b := range placesAmong([]int{-1, 0, 1, 2, 3, 4, 5}) {
		for _, a := range outer {
			for _, c := range outer {
				found[plainNumber(a, b)][plainNumber(b, c)] |= 1 << plainNumber(a, c)
			}
		}
	}
	return found
}

// plainComposeDir puts together what each two directions leave.
func plainComposeDir(d, e int) int {
	set := 0
	for first := range directionNames {
		for second := range directionNames {
			if hasDirection(d, first) && hasDirection(e, second) {
				set |= dirCompositions[first][second]
			}
		}
	}
	return set
}

// plainAxes returns the orders of X and of Y of all places in some directions.
func plainAxes(d int) (int, int) {
	x, y := 0, 0
	for _, a := range fewPlaces {
		for _, b := range fewPlaces {
			if hasDirection(d, plainNumber(a, b)) {
				x |= plainOrder(a.X, b.X)
				y |= plainOrder(a.Y, b.Y)
			}
		}
	}
	return x, y
}

// plainDirOfAxes returns the directions of all places in some orders.
func plainDirOfAxes(x, y int) int {
	set := 0
	for _, a := range fewPlaces {
		for _, b := range fewPlaces {
			if x&plainOrder(a.X, b.X) != 0 && y&plainOrder(a.Y, b.Y) != 0 {
				set |= 1 << plainNumber(a, b)
			}
		}
	}
	return set
}

// blocks are all sets that some orders of both coordinates tell, by their number.
var blocks = plainBlocks()

func plainBlocks() map[int]bool {
	all := map[int]bool{}
	for x := range impl.PointSets {
		for y := range impl.PointSets {
			all[plainDirOfAxes(x, y)] = true
		}
	}
	return all
}

func TestLimitsOfDirections(t *testing.T) {
	if impl.DirSets != 512 {
		t.Errorf("DirSets = %d", impl.DirSets)
	}
}

func TestPlaceValid(t *testing.T) {
	for _, a := range somePlaces {
		if !impl.PlaceValid(a) {
			t.Errorf("PlaceValid(%v) = false", a)
		}
	}
	for _, a := range noPlaces {
		if impl.PlaceValid(a) {
			t.Errorf("PlaceValid(%v) = true", a)
		}
	}
	if !impl.PlaceValid(impl.Place{}) {
		t.Error("the place with both coordinates 0 is not valid")
	}
}

func TestDirOf(t *testing.T) {
	for _, a := range somePlaces {
		for _, b := range somePlaces {
			if got, want := impl.DirOf(a, b), plainDirection(a, b); got != want {
				t.Errorf("DirOf(%v, %v) = %q, want %q", a, b, got, want)
			}
		}
		for _, b := range noPlaces {
			if impl.DirOf(a, b) != "" || impl.DirOf(b, a) != "" || impl.DirOf(b, b) != "" {
				t.Errorf("DirOf of %v and %v, which is no place, is not empty", a, b)
			}
		}
	}
}

// Places that share a coordinate lie in the direction of the other one alone,
// however far they are from each other.
func TestDirOfSharedCoordinates(t *testing.T) {
	for _, c := range []struct {
		a, b impl.Place
		want string
	}{
		{impl.Place{X: 3, Y: 3}, impl.Place{X: 3, Y: 3}, "="},
		{impl.Place{X: 3, Y: 2}, impl.Place{X: 3, Y: 3}, "s"},
		{impl.Place{X: 3, Y: 4}, impl.Place{X: 3, Y: 3}, "n"},
		{impl.Place{X: 2, Y: 3}, impl.Place{X: 3, Y: 3}, "w"},
		{impl.Place{X: 4, Y: 3}, impl.Place{X: 3, Y: 3}, "e"},
		{impl.Place{X: 5, Y: -1000000}, impl.Place{X: 5, Y: 1000000}, "s"},
		{impl.Place{X: 1000000, Y: 5}, impl.Place{X: -1000000, Y: 5}, "e"},
		{impl.Place{X: 2, Y: 3}, impl.Place{X: 3, Y: 2}, "nw"}, // crossed coordinates are not shared
		{impl.Place{X: 3, Y: 2}, impl.Place{X: 2, Y: 3}, "se"},
		{impl.Place{X: 1000000, Y: 1000000}, impl.Place{X: -1000000, Y: -1000000}, "ne"},
		{impl.Place{X: -1000000, Y: 0}, impl.Place{X: 1000000, Y: 1}, "sw"},
	} {
		if got := impl.DirOf(c.a, c.b); got != c.want {
			t.Errorf("DirOf(%v, %v) = %q, want %q", c.a, c.b, got, c.want)
		}
	}
}

func TestDirValid(t *testing.T) {
	for d := range impl.DirSets {
		if !impl.DirValid(d) {
			t.Errorf("DirValid(%d) = false", d)
		}
	}
	for _, d := range noDirSets {
		if impl.DirValid(d) {
			t.Errorf("DirValid(%d) = true", d)
		}
	}
}

func TestFormatDir(t *testing.T) {
	for d, want := range dirTexts {
		if got := impl.FormatDir(d); got != want {
			t.Errorf("FormatDir(%d) = %q, want %q", d, got, want)
		}
	}
	for _, d := range noDirSets {
		if got := impl.FormatDir(d); got != "" {
			t.Errorf("FormatDir(%d) = %q, want the empty string", d, got)
		}
	}
}

func TestFormatDirExamples(t *testing.T) {
	for d, want := range map[int]string{0: "-", 1: "sw", 2: "s", 4: "se", 8: "w", 16: "=", 32: "e", 64: "nw", 128: "n", 256: "ne",
		17: "sw,=", 384: "n,ne", allDirections: "sw,s,se,w,=,e,nw,n,ne"} {
		if got := impl.FormatDir(d); got != want {
			t.Errorf("FormatDir(%d) = %q, want %q", d, got, want)
		}
	}
}

// wantDir checks ParseDir against the texts of all sets.
func wantDir(t *testing.T, s string) {
	t.Helper()
	want := slices.Index(dirTexts, s)
	d, ok := impl.ParseDir(s)
	if want >= 0 && (d != want || !ok) || want < 0 && (d != 0 || ok) {
		t.Errorf("ParseDir(%q) = %d, %v", s, d, ok)
	}
}

func TestParseDir(t *testing.T) {
	for _, s := range dirTexts {
		wantDir(t, s)
	}
	for _, s := range wordsOf("swne=-, \xff", 5) {
		wantDir(t, s)
	}
	for _, s := range []string{"", "-,-", "-,n", "n,-", "sw;s", "sw, s", "sw s", "sw,s,", ",sw,s", "sw,,s", "SW", "N", "ws", "en",
		"north", "west", "sw\n", "\tsw", "sw\x00", "0", "1", "511", "512", "n\u0301", "＝", "–", "sw，s", "<", ">=",
		strings.Repeat("sw,", 1000) + "s", strings.Repeat(",", 5000), strings.Join(dirTexts, ",")} {
		wantDir(t, s)
	}
}

// Names out of order, and names that come again, are the text of no set, though
// each of them is a name.
func TestParseDirOfNamesOutOfOrder(t *testing.T) {
	for i, first := range directionNames {
		for k, second := range directionNames {
			d, ok := impl.ParseDir(first + "," + second)
			if want := i < k; ok != want || want && d != 1<<i+1<<k || !want && d != 0 {
				t.Errorf("ParseDir(%q) = %d, %v", first+","+second, d, ok)
			}
			for _, third := range directionNames {
				wantDir(t, first+","+second+","+third)
			}
		}
	}
	backwards := slices.Clone(directionNames[:])
	slices.Reverse(backwards)
	wantDir(t, strings.Join(backwards, ","))
}

// One byte more, less or another one makes another text.
func TestParseDirOfChangedTexts(t *testing.T) {
	for _, s := range dirTexts {
		for at := range len(s) + 1 {
			for _, b := range []string{",", "-", "=", "s", "n", "w", "e", " ", "\x80"} {
				wantDir(t, s[:at]+b+s[at:])
				if at < len(s) {
					wantDir(t, s[:at]+b+s[at+1:])
				}
			}
			if at < len(s) {
				wantDir(t, s[:at]+s[at+1:])
			}
		}
	}
}

func TestDirHolds(t *testing.T) {
	for _, a := range somePlaces {
		for _, b := range somePlaces {
			number := plainNumber(a, b)
			for _, d := range []int{0, 1 << number, allDirections, allDirections - 1<<number, 1<<number | 1, 0b101010101, 0b010101010} {
				if got, want := impl.DirHolds(d, a, b), hasDirection(d, number); got != want {
					t.Errorf("DirHolds(%d, %v, %v) = %v", d, a, b, got)
				}
			}
		}
	}
	for d := range impl.DirSets {
		for _, a := range fewPlaces {
			for _, b := range fewPlaces {
				if got, want := impl.DirHolds(d, a, b), hasDirection(d, plainNumber(a, b)); got != want {
					t.Errorf("DirHolds(%d, %v, %v) = %v", d, a, b, got)
				}
			}
		}
	}
}

func TestDirHoldsOfNone(t *testing.T) {
	for _, a := range fewPlaces {
		for _, b := range fewPlaces {
			for _, d := range noDirSets {
				if impl.DirHolds(d, a, b) {
					t.Errorf("DirHolds(%d, %v, %v), of no set, is true", d, a, b)
				}
			}
		}
		for _, b := range noPlaces {
			for d := range impl.DirSets {
				if impl.DirHolds(d, a, b) || impl.DirHolds(d, b, a) || impl.DirHolds(d, b, b) {
					t.Errorf("DirHolds(%d) of %v and %v, which is no place, is true", d, a, b)
				}
			}
		}
	}
}

func TestTurnDir(t *testing.T) {
	for d := range impl.DirSets {
		got := impl.TurnDir(d)
		if want := plainTurnDir(d); got != want || impl.TurnDir(got) != d {
			t.Errorf("TurnDir of %s is %s, want %s", dirTexts[d], impl.FormatDir(got), dirTexts[want])
		}
	}
	for _, d := range noDirSets {
		if got := impl.TurnDir(d); got != -1 {
			t.Errorf("TurnDir(%d) = %d, want -1", d, got)
		}
	}
}

func TestQuarterDir(t *testing.T) {
	for d := range impl.DirSets {
		got := impl.QuarterDir(d)
		if want := plainQuarterDir(d); got != want {
			t.Errorf("QuarterDir of %s is %s, want %s", dirTexts[d], impl.FormatDir(got), dirTexts[want])
		}
		// Two quarters turn the plane around, and with it each direction.
		if half := impl.QuarterDir(got); half != impl.TurnDir(d) || impl.QuarterDir(impl.QuarterDir(half)) != d {
			t.Errorf("quarters of %s lead to %s", dirTexts[d], impl.FormatDir(half))
		}
	}
	for _, d := range noDirSets {
		if got := impl.QuarterDir(d); got != -1 {
			t.Errorf("QuarterDir(%d) = %d, want -1", d, got)
		}
	}
}

func TestTurnAndQuarterExamples(t *testing.T) {
	for _, c := range [][3]string{
		{"e", "w", "n"}, {"n", "s", "w"}, {"w", "e", "s"}, {"s", "n", "e"},
		{"ne", "sw", "nw"}, {"nw", "se", "sw"}, {"sw", "ne", "se"}, {"se", "nw", "ne"},
		{"=", "=", "="}, {"-", "-", "-"},
		{"n,ne", "sw,s", "w,nw"},                                 // a block
		{"sw,ne", "sw,ne", "se,nw"}, {"s,=,e", "w,=,n", "=,e,n"}, // and sets that are none
		{"sw,s,se,w,=,e,nw,n,ne", "sw,s,se,w,=,e,nw,n,ne", "sw,s,se,w,=,e,nw,n,ne"},
	} {
		if got := impl.FormatDir(impl.TurnDir(dirOfText(c[0]))); got != c[1] {
			t.Errorf("TurnDir of %s is %s, want %s", c[0], got, c[1])
		}
		if got := impl.FormatDir(impl.QuarterDir(dirOfText(c[0]))); got != c[2] {
			t.Errorf("QuarterDir of %s is %s, want %s", c[0], got, c[2])
		}
	}
}

func TestComposeDir(t *testing.T) {
	for d := range impl.DirSets {
		// What a set leaves before others is what its directions leave, put together.
		var leaves [9]int
		for second := range directionNames {
			leaves[second] = plainComposeDir(d, 1<<second)
		}
		for e := range impl.DirSets {
			want := 0
			for second, left := range leaves {
				if hasDirection(e, second) {
					want |= left
				}
			}
			if got := impl.ComposeDir(d, e); got != want {
				t.Fatalf("ComposeDir of %s and %s is %s, want %s", dirTexts[d], dirTexts[e], impl.FormatDir(got), dirTexts[want])
			}
		}
	}
}

func TestComposeDirOfNone(t *testing.T) {
	for _, e := range noDirSets {
		for d := range impl.DirSets {
			if impl.ComposeDir(d, e) != -1 || impl.ComposeDir(e, d) != -1 {
				t.Errorf("ComposeDir of %d and %d, which is no set, is not -1", d, e)
			}
		}
		for _, d := range noDirSets {
			if impl.ComposeDir(d, e) != -1 {
				t.Errorf("ComposeDir of %d and %d, which are no sets, is not -1", d, e)
			}
		}
	}
}

func TestComposeDirExamples(t *testing.T) {
	for _, c := range [][3]string{
		{"n", "e", "ne"}, {"sw", "ne", "sw,s,se,w,=,e,nw,n,ne"}, // of the document
		{"e", "n", "ne"},               // the other way round
		{"n", "n", "n"},                // though nothing lies between points next to each other
		{"n", "s", "s,=,n"},            // opposite ones that share X
		{"w", "e", "w,=,e"},            // and Y
		{"nw", "ne", "nw,n,ne"},        // opposite in X alone
		{"ne", "se", "se,e,ne"},        // and in Y alone
		{"ne", "w", "nw,n,ne"},         // opposite and shared
		{"=", "sw,ne", "sw,ne"},        // an equal place
		{"s,n", "=", "s,n"},            // and behind
		{"s,n", "w,e", "sw,se,nw,ne"},  // no blocks
		{"sw,ne", "=,e", "sw,s,se,ne"}, // sw before = and e, and ne before them
		{"s,=,n", "w,=,e", "sw,s,se,w,=,e,nw,n,ne"},
		{"=,ne", "=,ne", "=,ne"},         // no block, though ne and ne leave ne alone
		{"sw,=", "s,w", "sw,s,w"},        // no block
		{"-", "n", "-"}, {"n", "-", "-"}, // a set without directions
		{"-", "sw,s,se,w,=,e,nw,n,ne", "-"},
		{"-", "-", "-"},
	} {
		if got := impl.FormatDir(impl.ComposeDir(dirOfText(c[0]), dirOfText(c[1]))); got != c[2] {
			t.Errorf("ComposeDir of %s and %s is %s, want %s", c[0], c[1], got, c[2])
		}
	}
}

// Directions and blocks are composed coordinate by coordinate, by the orders of
// chapter 1. For other sets, the blocks around them tell only what is not left.
func TestComposeDirByCoordinates(t *testing.T) {
	for x := range impl.PointSets {
		for y := range impl.PointSets {
			for z := range impl.PointSets {
				for w := range impl.PointSets {
					got := impl.ComposeDir(impl.DirOfAxes(x, y), impl.DirOfAxes(z, w))
					if want := impl.DirOfAxes(impl.ComposePoint(x, z), impl.ComposePoint(y, w)); got != want {
						t.Fatalf("blocks of %d, %d and of %d, %d compose to %d, want %d", x, y, z, w, got, want)
					}
				}
			}
		}
	}
	for d := range impl.DirSets {
		x, y := impl.AxesOf(d)
		for e := range impl.DirSets {
			z, w := impl.AxesOf(e)
			around := impl.DirOfAxes(impl.ComposePoint(x, z), impl.ComposePoint(y, w))
			if got := impl.ComposeDir(d, e); got&around != got {
				t.Fatalf("%s and %s compose beyond their coordinates", dirTexts[d], dirTexts[e])
			}
		}
	}
}

// Turning turns a composition around, and quarters go along with it.
func TestLawsOfDirections(t *testing.T) {
	for d := range impl.DirSets {
		for e := range impl.DirSets {
			composed := impl.ComposeDir(d, e)
			if impl.TurnDir(composed) != impl.ComposeDir(impl.TurnDir(e), impl.TurnDir(d)) {
				t.Fatalf("%s and %s compose to other directions if they are turned", dirTexts[d], dirTexts[e])
			}
			if impl.QuarterDir(composed) != impl.ComposeDir(impl.QuarterDir(d), impl.QuarterDir(e)) {
				t.Fatalf("%s and %s compose to other directions if the plane is turned", dirTexts[d], dirTexts[e])
			}
		}
		if impl.QuarterDir(impl.TurnDir(d)) != impl.TurnDir(impl.QuarterDir(d)) {
			t.Errorf("a quarter and a turn of %s depend on which comes first", dirTexts[d])
		}
	}
}

// Composing does not depend on which two of three sets are composed first.
func TestCompositionsOfThree(t *testing.T) {
	check := func(d, e, f int) {
		left := impl.ComposeDir(impl.ComposeDir(d, e), f)
		right := impl.ComposeDir(d, impl.ComposeDir(e, f))
		if left != right {
			t.Fatalf("%s, %s and %s compose to %s or to %s", dirTexts[d], dirTexts[e], dirTexts[f], dirTexts[left], dirTexts[right])
		}
	}
	for first := range directionNames {
		for second := range directionNames {
			for third := range directionNames {
				check(1<<first, 1<<second, 1<<third)
			}
		}
	}
	random := rand.New(rand.NewSource(10))
	for range 20000 {
		check(random.Intn(impl.DirSets), random.Intn(impl.DirSets), random.Intn(impl.DirSets))
	}
}

// Of three places, the outer two are in a direction that the one in between
// leaves; so are they if places are turned, or taken the other way round.
func TestDirectionsOfThreePlaces(t *testing.T) {
	random := rand.New(rand.NewSource(1))
	place := func(limit int) impl.Place {
		return impl.Place{X: random.Intn(2*limit+1) - limit, Y: random.Intn(2*limit+1) - limit}
	}
	for _, limit := range []int{1, 2, 5, impl.MaxTime} {
		for range 2000 {
			a, b, c := place(limit), place(limit), place(limit)
			first, second := dirOfText(impl.DirOf(a, b)), dirOfText(impl.DirOf(b, c))
			if !impl.DirHolds(impl.ComposeDir(first, second), a, c) {
				t.Errorf("%v, %v and %v are not as composed", a, b, c)
			}
			if !impl.DirHolds(impl.TurnDir(first), b, a) || !impl.DirHolds(impl.QuarterDir(first), quarter(a), quarter(b)) {
				t.Errorf("%v and %v are not as turned", a, b)
			}
			x, y := impl.AxesOf(first)
			if x != impl.OrderOf(a.X, b.X) || y != impl.OrderOf(a.Y, b.Y) {
				t.Errorf("%v and %v have other orders than %d and %d", a, b, x, y)
			}
		}
	}
}

func TestAxesOf(t *testing.T) {
	for d := range impl.DirSets {
		x, y := impl.AxesOf(d)
		if wantX, wantY := plainAxes(d); x != wantX || y != wantY {
			t.Errorf("AxesOf of %s = %d, %d, want %d, %d", dirTexts[d], x, y, wantX, wantY)
		}
		// A quarter makes X of Y, the other way round, and Y of X.
		turnedX, turnedY := impl.AxesOf(impl.QuarterDir(d))
		if turnedX != impl.TurnPoint(y) || turnedY != x {
			t.Errorf("a quarter of %s has the orders %d, %d", dirTexts[d], turnedX, turnedY)
		}
	}
	for _, d := range noDirSets {
		if x, y := impl.AxesOf(d); x != -1 || y != -1 {
			t.Errorf("AxesOf(%d) = %d, %d, want -1, -1", d, x, y)
		}
	}
}

func TestAxesOfExamples(t *testing.T) {
	for s, want := range map[string][2]int{
		"-": {0, 0}, "=": {2, 2}, "sw": {1, 1}, "s": {2, 1}, "e": {4, 2}, "nw": {1, 4},
		"n,ne": {6, 4}, "sw,ne": {5, 5}, "se,w": {5, 3}, "sw,=,ne": {7, 7}, "s,w,e,n": {7, 7}, "sw,s,se,w,=,e,nw,n,ne": {7, 7},
	} {
		if x, y := impl.AxesOf(dirOfText(s)); x != want[0] || y != want[1] {
			t.Errorf("AxesOf of %s = %d, %d, want %v", s, x, y, want)
		}
	}
}

func TestDirOfAxes(t *testing.T) {
	for x := range impl.PointSets {
		for y := range impl.PointSets {
			if got, want := impl.DirOfAxes(x, y), plainDirOfAxes(x, y); got != want {
				t.Errorf("DirOfAxes(%d, %d) = %d, want %d", x, y, got, want)
			}
			if impl.CountOrders(x) > 0 && impl.CountOrders(y) > 0 {
				if ownX, ownY := impl.AxesOf(impl.DirOfAxes(x, y)); ownX != x || ownY != y {
					t.Errorf("the block of %d and %d has the orders %d and %d", x, y, ownX, ownY)
				}
			}
		}
		for _, y := range noPointSets {
			if impl.DirOfAxes(x, y) != -1 || impl.DirOfAxes(y, x) != -1 || impl.DirOfAxes(y, y) != -1 {
				t.Errorf("DirOfAxes of %d and %d, which is no set, is not -1", x, y)
			}
		}
	}
	// Without orders of one coordinate, those of the other one tell nothing.
	for r := range impl.PointSets {
		if impl.DirOfAxes(0, r) != 0 || impl.DirOfAxes(r, 0) != 0 {
			t.Errorf("DirOfAxes of %d and of no orders has directions", r)
		}
	}
}

func TestIsBlock(t *testing.T) {
	count := 0
	for d := range impl.DirSets {
		got := impl.IsBlock(d)
		if got != blocks[d] {
			t.Errorf("IsBlock of %s = %v", dirTexts[d], got)
		}
		x, y := impl.AxesOf(d)
		if around := impl.DirOfAxes(x, y); got != (around == d) || around&d != d {
			t.Errorf("%s has %s around it, but IsBlock is %v", dirTexts[d], dirTexts[around], got)
		}
		if got {
			count++
		}
	}
	// The empty one, and one for each two sets with orders.
	if count != 1+7*7 {
		t.Errorf("%d sets are blocks", count)
	}
	for _, d := range noDirSets {
		if impl.IsBlock(d) {
			t.Errorf("IsBlock(%d), of no set, is true", d)
		}
	}
}

func TestIsBlockExamples(t *testing.T) {
	for s, want := range map[string]bool{
		"-": true, "=": true, "sw": true, "n,ne": true, "sw,se": true, "s,n": true, "sw,se,nw,ne": true, "w,=,e": true, "sw,s,se,w,=,e,nw,n,ne": true,
		"sw,ne": false, "se,nw": false, "s,w": false, "sw,=": false, "sw,s,w": false, "s,w,=,e,n": false, "sw,s,se,w,e,nw,n,ne": false, "s,se,w,=,e,nw,n,ne": false,
	} {
		if got := impl.IsBlock(dirOfText(s)); got != want {
			t.Errorf("IsBlock of %s = %v", s, got)
		}
	}
}

// Quarters and turns make blocks of blocks, and of other sets other sets.
func TestBlocksTurn(t *testing.T) {
	for d := range impl.DirSets {
		if is := impl.IsBlock(d); impl.IsBlock(impl.TurnDir(d)) != is || impl.IsBlock(impl.QuarterDir(d)) != is {
			t.Errorf("%s is a block or none, but turned it is not so", dirTexts[d])
		}
	}
}
