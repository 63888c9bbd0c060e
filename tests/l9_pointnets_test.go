package tests

import (
	"fmt"
	"math"
	"math/rand"
	"regexp"
	"slices"
	"strconv"
	"strings"
	"testing"

	"loop.example/intervalsandplaces/impl"
)

// These tests hold promise 9, "A network of points is consistent exactly if it
// does not close empty, as networks of intervals told by orders are.", against
// all models of networks of at most 5 points, and for more points against loops
// of points that are not behind each other.

// turnedSets has TurnPoint of each set of orders.
var turnedSets = [impl.PointSets]int{0, 4, 2, 6, 1, 5, 3, 7}

// A plainPoints has the set of orders of each point and each.
type plainPoints [][]int

// plainFreePoints returns the network of so many points that allows everything.
func plainFreePoints(size int) plainPoints {
	n := make(plainPoints, size)
	for i := range n {
		n[i] = slices.Repeat([]int{7}, size)
		n[i][i] = 2
	}
	return n
}

// with returns the network with another set of two different points.
func (n plainPoints) with(i, k, r int) plainPoints {
	changed := make(plainPoints, len(n))
	for i := range n {
		changed[i] = slices.Clone(n[i])
	}
	changed[i][k], changed[k][i] = r, turnedSets[r]
	return changed
}

// net writes the sets of a network one behind the other, row by row.
func (n plainPoints) net() impl.PointNet {
	orders := ""
	for _, row := range n {
		for _, r := range row {
			orders += strconv.Itoa(r)
		}
	}
	return impl.PointNet{Size: len(n), Orders: orders}
}

// text writes the sets of pairs that do not have all orders.
func (n plainPoints) text() string {
	text := strconv.Itoa(len(n))
	for _, p := range plainPairs(len(n)) {
		if r := n[p[0]][p[1]]; r != 7 {
			text += fmt.Sprintf(";%d %s %d", p[0], pointTexts[r], p[1])
		}
	}
	return text
}

// plainSizes are the texts of the numbers of points that a network may have.
var plainSizes = []string{"1", "2", "3", "4", "5", "6", "7", "8", "9", "10", "11", "12"}

var plainPartOfText = regexp.MustCompile(`;(\d+) ([-<=>]+) (\d+)`)

// plainPointsOfText reads what looks like a network, and then looks whether it is
// what it would be written as.
func plainPointsOfText(s string) (plainPoints, bool) {
	head, _, _ := strings.Cut(s, ";")
	size := 1 + slices.Index(plainSizes, head)
	if size == 0 {
		return nil, false
	}
	n := plainFreePoints(size)
	for _, part := range plainPartOfText.FindAllStringSubmatch(s, -1) {
		i, noFirst := strconv.Atoi(part[1])
		k, noSecond := strconv.Atoi(part[3])
		r := slices.Index(pointTexts[:], part[2])
		if noFirst == nil && noSecond == nil && i < k && k < size && r >= 0 {
			n = n.with(i, k, r)
		}
	}
	return n, n.text() == s
}

// pointsOfText returns the network with a text that is valid.
func pointsOfText(s string) plainPoints {
	n, ok := plainPointsOfText(s)
	if !ok {
		panic(s)
	}
	return n
}

// holds reports whether as many numbers are in all orders.
func (n plainPoints) holds(list []int) bool {
	for i := range n {
		for k := range n {
			if n[i][k]&plainOrder(list[i], list[k]) == 0 {
				return false
			}
		}
	}
	return true
}

// plainComposed has plainComposition of each two sets.
var plainComposed = plainSetCompositions()

func plainSetCompositions() [8][8]int {
	var table [8][8]int
	for r := range 8 {
		for s := range 8 {
			table[r][s] = plainComposition(r, s)
		}
	}
	return table
}

// isClosed is the sentence on closed networks.
func (n plainPoints) isClosed() bool {
	for i := range n {
		for k := range n {
			for l := range n {
				if i != k && n[i][k]&^plainComposed[n[i][l]][n[l][k]] != 0 {
					return false
				}
			}
		}
	}
	return true
}

// closed takes orders away until the network is closed.
func (n plainPoints) closed() plainPoints {
	for !n.isClosed() {
		for i := range n {
			for k := range n {
				for l := range n {
					if r := n[i][k] & plainComposed[n[i][l]][n[l][k]]; i != k && r != n[i][k] {
						n = n.with(i, k, r)
					}
				}
			}
		}
	}
	return n
}

func (n plainPoints) isEmpty() bool {
	return slices.ContainsFunc(n, func(row []int) bool { return slices.Contains(row, 0) })
}

// within reports whether no pair has an order that it has not in m.
func (n plainPoints) within(m plainPoints) bool {
	for i := range n {
		for k := range n {
			if n[i][k]&^m[i][k] != 0 {
				return false
			}
		}
	}
	return true
}

// hasModel looks for loops of points of which none is behind the next one: their
// points are equal in each model. If all of these, and no others, are made equal,
// the rest can be put in a row, so that there is a model exactly if no pair of one
// loop must be different, and no set is empty.
func (n plainPoints) hasModel() bool {
	reached := make([][]bool, len(n))
	for i := range n {
		for k := range n {
			reached[i] = append(reached[i], n[i][k]&4 == 0)
		}
	}
	for l := range n {
		for i := range n {
			for k := range n {
				reached[i][k] = reached[i][k] || reached[i][l] && reached[l][k]
			}
		}
	}
	for i := range n {
		for k := range n {
			if n[i][k] == 0 || reached[i][k] && reached[k][i] && n[i][k]&2 == 0 {
				return false
			}
		}
	}
	return true
}

// plainRanks counts for each number how many different ones are less.
func plainRanks(list []int) []int {
	ranks := []int{}
	for _, x := range list {
		less := map[int]bool{}
		for _, y := range list {
			if y < x {
				less[y] = true
			}
		}
		ranks = append(ranks, len(less))
	}
	return ranks
}

// first chooses for each pair the least order with which there still is a model,
// and returns this; nil if there is none.
func (n plainPoints) first() []int {
	if !n.hasModel() {
		return nil
	}
	for _, p := range plainPairs(len(n)) {
		for _, o := range []int{1, 2, 4} {
			if m := n.with(p[0], p[1], o); n[p[0]][p[1]]&o != 0 && m.hasModel() {
				n = m
				break
			}
		}
	}
	before := []int{}
	for i := range n {
		count := 0
		for k := range n {
			if n[k][i] == 1 {
				count++
			}
		}
		before = append(before, count)
	}
	return plainRanks(before)
}

// rankLists has all lists of 1 to 5 numbers that are their own ranks. Those come
// first in which the first pair that differs has the order with the less number.
var rankLists = [...][][]int{1: plainRankLists(1), 2: plainRankLists(2), 3: plainRankLists(3), 4: plainRankLists(4), 5: plainRankLists(5)}

func plainRankLists(size int) [][]int {
	lists := [][]int{}
	var extend func(list []int)
	extend = func(list []int) {
		if len(list) == size {
			if slices.Equal(plainRanks(list), list) {
				lists = append(lists, list)
			}
			return
		}
		for x := range size {
			extend(append(slices.Clone(list), x))
		}
	}
	extend(nil)
	slices.SortFunc(lists, func(a, b []int) int {
		for _, p := range plainPairs(size) {
			if c := plainOrder(a[p[0]], a[p[1]]) - plainOrder(b[p[0]], b[p[1]]); c != 0 {
				return c
			}
		}
		return 0
	})
	return lists
}

// models returns all models of at most 5 points that are their own ranks, the
// first one first.
func (n plainPoints) models() [][]int {
	models := [][]int{}
	for _, list := range rankLists[len(n)] {
		if n.holds(list) {
			models = append(models, list)
		}
	}
	return models
}

// chosenPoints returns the network of so many points whose pairs have the sets
// that are the digits of a number.
func chosenPoints(size, number int) plainPoints {
	n := plainFreePoints(size)
	for _, p := range plainPairs(size) {
		n = n.with(p[0], p[1], number%8)
		number /= 8
	}
	return n
}

// fewPoints has all networks of at most 3 points, and some of 4 and 5.
var fewPoints = plainFewPoints()

func plainFewPoints() []plainPoints {
	random := rand.New(rand.NewSource(31))
	list := []plainPoints{plainFreePoints(1)}
	for number := range 8 {
		list = append(list, chosenPoints(2, number))
	}
	for number := range 512 {
		list = append(list, chosenPoints(3, number))
	}
	for number := 5; number < 1<<18; number += 331 {
		list = append(list, chosenPoints(4, number))
	}
	for range 700 {
		list = append(list, chosenPoints(5, random.Intn(1<<30)|random.Intn(1<<30)), chosenPoints(4, random.Intn(1<<18)|random.Intn(1<<18)))
	}
	return list
}

// A knownPoints is a network with a model.
type knownPoints struct {
	plainPoints
	model []int
}

// knownPointNets are networks of 4 to 12 points that are made around a model:
// each pair has its order, and perhaps others.
func knownPointNets() []knownPoints {
	random := rand.New(rand.NewSource(32))
	list := []knownPoints{}
	for size := 4; size <= impl.MaxPoints; size++ {
		for try := range 60 {
			n, model := plainFreePoints(size), []int{}
			for range size {
				model = append(model, random.Intn(1+random.Intn(2*size))-size/2)
			}
			for _, p := range plainPairs(size) {
				others := []int{0, 0, 7, 5, 3, 6, 2}[random.Intn(2+try%6)]
				n = n.with(p[0], p[1], others|plainOrder(model[p[0]], model[p[1]]))
			}
			list = append(list, knownPoints{n, model})
		}
	}
	return list
}

// manyPoints has networks of 4 to 12 points, with models and without.
var manyPoints = plainManyPoints()

func plainManyPoints() []plainPoints {
	random := rand.New(rand.NewSource(33))
	list := []plainPoints{}
	for _, n := range knownPointNets() {
		list = append(list, n.plainPoints)
		// One set more, which may be one that no model has.
		i, k := random.Intn(len(n.plainPoints)), random.Intn(len(n.plainPoints)-1)
		if k >= i {
			k++
		}
		list = append(list, n.with(i, k, random.Intn(8)))
	}
	for size := 6; size <= impl.MaxPoints; size++ {
		list = append(list, plainFreePoints(size))
		for try := range 40 {
			n := plainFreePoints(size)
			for _, p := range plainPairs(size) {
				sets := []int{7, 7, 7, 5, 3, 6, 1, 4, 2, 0}
				if random.Intn(size) < 3 {
					n = n.with(p[0], p[1], sets[random.Intn(4+try%7)])
				}
			}
			list = append(list, n)
		}
	}
	for _, text := range pointTextsWithLoops {
		list = append(list, pointsOfText(text))
	}
	return list
}

// pointTextsWithLoops has points that must be equal, or must be different, though
// this is told only by way of many others.
var pointTextsWithLoops = []string{
	"12;0 < 1;1 < 2;2 < 3;3 < 4;4 < 5;5 < 6;6 < 7;7 < 8;8 < 9;9 < 10;10 < 11",
	"12;0 > 1;0 < 11;1 > 2;2 > 3;3 > 4;4 > 5;5 > 6;6 > 7;7 > 8;8 > 9;9 > 10;10 > 11",
	"12;0 <= 1;0 => 11;1 <= 2;2 <= 3;3 <= 4;4 <= 5;5 <= 6;6 <= 7;7 <= 8;8 <= 9;9 <= 10;10 <= 11",
	"12;0 <= 1;0 => 11;1 <= 2;2 <= 3;3 <= 4;4 <= 5;4 <> 9;5 <= 6;6 <= 7;7 <= 8;8 <= 9;9 <= 10;10 <= 11",
	"12;0 <= 1;0 <> 11;1 <= 2;2 <= 3;3 <= 4;4 <= 5;5 <= 6;6 <= 7;7 <= 8;8 <= 9;9 <= 10;10 <= 11",
	"12;0 <= 1;0 = 11;1 <= 2;2 <= 3;3 <= 4;4 <= 5;5 <= 6;6 <= 7;7 < 8;8 <= 9;9 <= 10;10 <= 11",
	"11;0 <> 1;0 <> 2;0 <> 3;0 <> 4;0 <> 5;0 <> 6;0 <> 7;0 <> 8;0 <> 9;0 <> 10",
	"7;0 = 1;1 = 2;2 = 3;3 = 4;4 = 5;5 = 6",
	"7;0 = 1;0 <> 6;1 = 2;2 = 3;3 = 4;4 = 5;5 = 6",
	"6;0 => 1;0 => 2;0 => 3;1 <= 2;1 <= 3;2 <> 3",
}

// noPointNets are not valid.
var noPointNets = plainNoPointNets()

func plainNoPointNets() []impl.PointNet {
	list := []impl.PointNet{
		{}, {Size: 1}, {Orders: "2"}, {Size: -1, Orders: "2"}, {Size: 1, Orders: "22"}, {Size: 1, Orders: "1"}, {Size: 1, Orders: "0"}, {Size: 1, Orders: "7"}, {Size: 1, Orders: "="},
		{Size: 2}, {Size: 2, Orders: "2"}, {Size: 2, Orders: "277"}, {Size: 2, Orders: "27722"}, {Size: 2, Orders: "2772\n"}, {Size: 2, Orders: " 2772"}, {Size: -2, Orders: "2772"}, {Size: 3, Orders: "2772"},
		{Size: 2, Orders: "2112"}, {Size: 2, Orders: "2442"}, {Size: 2, Orders: "2332"}, {Size: 2, Orders: "2662"}, // the same both ways
		{Size: 2, Orders: "2702"}, {Size: 2, Orders: "2072"}, {Size: 2, Orders: "2142 "},
		{Size: 2, Orders: "1772"}, {Size: 2, Orders: "2771"}, {Size: 2, Orders: "7777"}, {Size: 2, Orders: "0772"}, // a point is not equal to itself
		{Size: 2, Orders: "2882"}, {Size: 2, Orders: "2992"}, {Size: 2, Orders: "2//2"}, {Size: 2, Orders: "2::2"}, {Size: 2, Orders: "2  2"}, {Size: 2, Orders: "2aa2"}, {Size: 2, Orders: "2--2"},
		{Size: 2, Orders: "2\x00\x002"}, {Size: 2, Orders: "2\x07\x072"}, {Size: 2, Orders: "2\xb7\xb72"}, {Size: 2, Orders: "2\xff\xff2"}, {Size: 2, Orders: "2\x2f\x2f2"}, {Size: 2, Orders: "２2"},
		{Size: math.MinInt}, {Size: math.MaxInt}, {Size: math.MaxInt, Orders: "2"}, {Size: math.MinInt, Orders: "2"},
		{Size: 1 << 31}, {Size: 1 << 32}, {Size: -1 << 31}, {Size: 1 << 62}, {Size: -1 << 32}, // whose squares overflow to 0
	}
	for _, size := range []int{13, 14, 24, 100} {
		list = append(list, plainFreePoints(size).net())
	}
	twelve := plainFreePoints(12).net()
	return append(list, impl.PointNet{Size: 12, Orders: twelve.Orders[:143]}, impl.PointNet{Size: 11, Orders: twelve.Orders}, impl.PointNet{Size: 12, Orders: twelve.Orders + "7"})
}

// otherPoints are no points of any network.
var otherPoints = []int{-1, 12, 13, -12, 1 << 32, math.MinInt, math.MaxInt}

// wantPoints checks a result that is a network of points, and true.
func wantPoints(t *testing.T, got impl.PointNet, ok bool, want plainPoints, what string, args ...any) {
	t.Helper()
	if got != want.net() || !ok {
		t.Errorf("%s = %v, %v, want %s", fmt.Sprintf(what, args...), got, ok, want.text())
	}
}

// wantNoPoints checks the result for arguments that are not what they should be.
func wantNoPoints(t *testing.T, got impl.PointNet, ok bool, what string, args ...any) {
	t.Helper()
	if got != (impl.PointNet{}) || ok {
		t.Errorf("%s = %v, %v, want the zero value and false", fmt.Sprintf(what, args...), got, ok)
	}
}

// wantModel checks FirstPoints, which is nil if there is none.
func wantModel(t *testing.T, n plainPoints, want []int) {
	t.Helper()
	got, ok := impl.FirstPoints(n.net())
	if !slices.Equal(got, want) || ok != (want != nil) {
		t.Errorf("FirstPoints(%s) = %v, %v, want %v", n.text(), got, ok, want)
	}
}

func TestLimitOfPointNets(t *testing.T) {
	if impl.MaxPoints != 12 {
		t.Errorf("MaxPoints = %d", impl.MaxPoints)
	}
}

func TestPointNetValid(t *testing.T) {
	for _, n := range slices.Concat(fewPoints, manyPoints) {
		if !impl.PointNetValid(n.net()) {
			t.Errorf("PointNetValid(%v) = false", n.net())
		}
	}
	for _, no := range noPointNets {
		if impl.PointNetValid(no) {
			t.Errorf("PointNetValid(%v) = true", no)
		}
	}
}

// All texts of digits, for one point and for two, are networks exactly if the
// words of the document fit.
func TestPointNetValidOfAllDigits(t *testing.T) {
	for _, size := range []int{1, 2} {
		for _, orders := range wordsOf("01234567", size*size+1) {
			want := size == 1 && orders == "2" || size == 2 && len(orders) == 4 && orders[0] == '2' && orders[3] == '2' && int(orders[2]-'0') == turnedSets[orders[1]-'0']
			if got := impl.PointNetValid(impl.PointNet{Size: size, Orders: orders}); got != want {
				t.Errorf("PointNetValid of %d points and %q is %v", size, orders, got)
			}
		}
	}
}

// A digit tells what the one across from it is, so that none can be another one.
func TestPointNetValidWithAnotherByte(t *testing.T) {
	for at := 0; at < len(manyPoints); at += 29 {
		net := manyPoints[at].net()
		for place := range net.Orders {
			for _, other := range []byte("01234567/89: ab\x00\x02\x07\xb2\xb7\xff") {
				orders := []byte(net.Orders)
				orders[place] = other
				no := impl.PointNet{Size: net.Size, Orders: string(orders)}
				if got := impl.PointNetValid(no); got != (no == net) {
					t.Errorf("PointNetValid(%v) = %v", no, got)
				}
			}
		}
	}
}

func TestOrderIn(t *testing.T) {
	for at, n := range slices.Concat(fewPoints, manyPoints) {
		if len(n) > 3 && at%5 != 0 {
			continue
		}
		for i := -1; i <= len(n); i++ {
			for k := -1; k <= len(n); k++ {
				want := -1
				if i >= 0 && k >= 0 && i < len(n) && k < len(n) {
					want = n[i][k]
				}
				if got := impl.OrderIn(n.net(), i, k); got != want {
					t.Errorf("OrderIn(%s, %d, %d) = %d, want %d", n.text(), i, k, got, want)
				}
			}
		}
		for _, no := range otherPoints {
			if impl.OrderIn(n.net(), no, 0) != -1 || impl.OrderIn(n.net(), 0, no) != -1 || impl.OrderIn(n.net(), no, no) != -1 {
				t.Errorf("OrderIn(%s) of %d is not -1", n.text(), no)
			}
		}
	}
	for _, no := range noPointNets {
		for _, p := range [][2]int{{0, 0}, {0, 1}, {1, 0}, {1, 1}, {0, 11}} {
			if got := impl.OrderIn(no, p[0], p[1]); got != -1 {
				t.Errorf("OrderIn(%v, %d, %d) = %d, want -1", no, p[0], p[1], got)
			}
		}
	}
}

func TestFormatPointNet(t *testing.T) {
	for _, n := range slices.Concat(fewPoints, manyPoints) {
		if got := impl.FormatPointNet(n.net()); got != n.text() {
			t.Errorf("FormatPointNet(%v) = %q, want %q", n.net(), got, n.text())
		}
	}
	for _, no := range noPointNets {
		if got := impl.FormatPointNet(no); got != "" {
			t.Errorf("FormatPointNet(%v) = %q, want the empty string", no, got)
		}
	}
}

func TestParsePointNet(t *testing.T) {
	for _, n := range slices.Concat(fewPoints, manyPoints) {
		got, ok := impl.ParsePointNet(n.text())
		wantPoints(t, got, ok, n, "ParsePointNet(%q)", n.text())
	}
	for _, c := range []struct{ text, orders string }{
		{"1", "2"}, {"2", "2772"}, {"2;0 - 1", "2002"}, {"2;0 < 1", "2142"}, {"2;0 = 1", "2222"}, {"2;0 <= 1", "2362"}, {"2;0 > 1", "2412"}, {"2;0 <> 1", "2552"}, {"2;0 => 1", "2632"},
		{"3;0 < 1;1 <= 2", "217423762"}, {"3;0 - 2", "270727072"}, {"3;1 <> 2", "277725752"},
		{"10;8 < 9", strings.Repeat("2777777777"+"7", 8) + "21" + strings.Repeat("7", 8) + "42"},
	} {
		got, ok := impl.ParsePointNet(c.text)
		if got.Orders != c.orders || !ok || impl.FormatPointNet(got) != c.text {
			t.Errorf("ParsePointNet(%q) = %v, %v, want %s", c.text, got, ok, c.orders)
		}
	}
}

// wantRead checks whether a text is read as the words of the document say.
func wantRead(t *testing.T, s string) {
	t.Helper()
	got, ok := impl.ParsePointNet(s)
	if n, is := plainPointsOfText(s); is {
		wantPoints(t, got, ok, n, "ParsePointNet(%q)", s)
		return
	}
	wantNoPoints(t, got, ok, "ParsePointNet(%q)", s)
}

func TestParsePointNetOfOtherTexts(t *testing.T) {
	for _, s := range []string{
		"", "0", "13", "14", "99", "100", "-1", "+1", "01", "012", "1.", "1 ", " 1", "1\n", "1\x00", "\xff", "a", ";", "1;", "2;", ";2", "2;;", "２", "1e1", "0x2", "1_0", "18446744073709551617", "4294967298",
		"1;0 = 0", "2;0 = 0", "2;1 = 1", "2;0 < 0", "2;0 < 2", "2;2 < 0", "2;-1 < 0", "2;0 < -1", "1;0 < 1", "3;0 < 3", "3;3 < 4", "12;0 < 12", "12;11 < 12", "12;11 < 11",
		"3;1 < 0", "2;1 > 0", "3;0 >< 1", "3;0 << 1", "3;0 =< 1", "3;0 >= 1", "3;0 -< 1", "3;0 <=> 1", "3;0 ? 1", "3;0  1", "3;0 1", "3;0 <", "3;< 1", "3;0 < 1 2", "3;0 < 1 ", "3; 0 < 1", "3;0  < 1", "3;0 <  1", "3;0\t<\t1",
		"3;1 < 2;0 < 1", "3;0 < 2;0 < 1", "3;0 < 1;0 < 1", "3;0 < 1;0 <= 1", "3;0 < 1;1 > 0", "3;0 - 1;0 < 1", "3;0 < 1;1 < 2;", "3;;0 < 1", "3 ;0 < 1", "3;0 < 1,1 < 2", "3;0 < 01", "3;00 < 1", "3;+0 < 1", "3;0 < +1", "3;-0 < 1", "3;0 < 1\n", "3;0 <=> 1;1 < 2",
		"12;10 < 11;9 < 10", "12;9 < 11;9 < 10", "12;2 < 3;10 < 11;3 < 4", "12;0 < 011", "12;0 < 1;0 < 18446744073709551618",
	} {
		got, ok := impl.ParsePointNet(s)
		wantNoPoints(t, got, ok, "ParsePointNet(%q)", s)
	}
	for _, s := range []string{"12;2 < 11;10 < 11", "12;1 < 2;1 < 10;1 < 11;2 < 10;9 - 10;10 = 11", "11;0 < 10"} {
		wantRead(t, s)
		if _, ok := impl.ParsePointNet(s); !ok {
			t.Errorf("ParsePointNet(%q) is false", s)
		}
	}
	for _, s := range wordsOf("012;< ", 6) {
		wantRead(t, s)
		wantRead(t, "3;0 "+s)
	}
}

// Texts with one byte more, less, or another one are read only if they are those
// of other networks.
func TestParsePointNetOfChangedTexts(t *testing.T) {
	const bytes = "0123456789;<=>- +\x00\xff"
	texts := []string{}
	for at := 0; at < len(fewPoints); at += 13 {
		texts = append(texts, fewPoints[at].text())
	}
	for at := 0; at < len(manyPoints); at += 131 {
		texts = append(texts, manyPoints[at].text())
	}
	for _, text := range texts {
		for at := range len(text) + 1 {
			for i := range len(bytes) {
				wantRead(t, text[:at]+bytes[i:i+1]+text[at:])
				if at < len(text) {
					wantRead(t, text[:at]+bytes[i:i+1]+text[at+1:])
				}
			}
			if at < len(text) {
				wantRead(t, text[:at]+text[at+1:])
			}
		}
	}
}

func TestLimitOrder(t *testing.T) {
	for at, n := range slices.Concat(fewPoints, manyPoints) {
		if len(n) > 3 && at%5 != 0 {
			continue
		}
		for i := -1; i <= len(n); i++ {
			for k := -1; k <= len(n); k++ {
				for r := -1; r <= 8; r++ {
					if len(n) > 2 && (at+i+k+r)%7 != 0 {
						continue
					}
					got, ok := impl.LimitOrder(n.net(), i, k, r)
					if i < 0 || k < 0 || i >= len(n) || k >= len(n) || i == k || r < 0 || r > 7 {
						wantNoPoints(t, got, ok, "LimitOrder(%s, %d, %d, %d)", n.text(), i, k, r)
						continue
					}
					wantPoints(t, got, ok, n.with(i, k, n[i][k]&r), "LimitOrder(%s, %d, %d, %d)", n.text(), i, k, r)
				}
			}
		}
	}
}

func TestLimitOrderOfOtherArguments(t *testing.T) {
	for _, no := range noPointNets {
		for _, p := range [][2]int{{0, 1}, {1, 0}, {0, 0}, {0, 11}} {
			got, ok := impl.LimitOrder(no, p[0], p[1], 7)
			wantNoPoints(t, got, ok, "LimitOrder(%v, %d, %d, 7)", no, p[0], p[1])
		}
	}
	for _, n := range manyPoints[:50] {
		for _, r := range noPointSets {
			got, ok := impl.LimitOrder(n.net(), 0, 1, r)
			wantNoPoints(t, got, ok, "LimitOrder(%s, 0, 1, %d)", n.text(), r)
		}
		for _, no := range otherPoints {
			for _, p := range [][2]int{{0, no}, {no, 0}, {no, no}} {
				got, ok := impl.LimitOrder(n.net(), p[0], p[1], 1)
				wantNoPoints(t, got, ok, "LimitOrder(%s, %d, %d, 1)", n.text(), p[0], p[1])
			}
		}
	}
	if got, ok := impl.LimitOrder(impl.PointNet{Size: 1, Orders: "2"}, 0, 0, 2); got != (impl.PointNet{}) || ok {
		t.Errorf("LimitOrder of one point is %v, %v", got, ok)
	}
}

// Of all networks of at most three points, the closed one has the orders of each
// closed network within.
func TestClosePointsOfThree(t *testing.T) {
	closedOnes := [][]plainPoints{1: nil, 2: nil, 3: nil}
	for _, n := range fewPoints {
		if len(n) <= 3 && n.isClosed() {
			closedOnes[len(n)] = append(closedOnes[len(n)], n)
		}
	}
	for _, n := range fewPoints {
		if len(n) > 3 {
			continue
		}
		want := plainFreePoints(len(n))
		for _, p := range plainPairs(len(n)) {
			r := 0
			for _, m := range closedOnes[len(n)] {
				if m.within(n) {
					r |= m[p[0]][p[1]]
				}
			}
			want = want.with(p[0], p[1], r)
		}
		if !want.isClosed() {
			t.Fatalf("there is no greatest closed network within %s", n.text())
		}
		got, ok := impl.ClosePoints(n.net())
		wantPoints(t, got, ok, want, "ClosePoints(%s)", n.text())
	}
}

func TestClosePoints(t *testing.T) {
	for _, n := range slices.Concat(fewPoints, manyPoints) {
		want := n.closed()
		got, ok := impl.ClosePoints(n.net())
		wantPoints(t, got, ok, want, "ClosePoints(%s)", n.text())
		again, ok := impl.ClosePoints(got)
		wantPoints(t, again, ok, want, "ClosePoints(%s)", want.text())
	}
	for _, no := range noPointNets {
		got, ok := impl.ClosePoints(no)
		wantNoPoints(t, got, ok, "ClosePoints(%v)", no)
	}
}

func TestClosePointsExamples(t *testing.T) {
	for text, want := range map[string]string{
		"1": "1", "2": "2", "12": "12", "2;0 - 1": "2;0 - 1", "2;0 <> 1": "2;0 <> 1", "3;0 <> 1;1 <> 2": "3;0 <> 1;1 <> 2",
		"3;0 < 1;1 <= 2":                       "3;0 < 1;0 < 2;1 <= 2", // of the document
		"3;0 = 1;1 <> 2":                       "3;0 = 1;0 <> 2;1 <> 2",
		"3;0 <= 1;0 => 2;1 <= 2":               "3;0 = 1;0 = 2;1 = 2",
		"3;0 <= 1;0 <> 2;1 <= 2":               "3;0 <= 1;0 < 2;1 <= 2",
		"3;0 - 1":                              "3;0 - 1;0 - 2;1 - 2",
		"4;1 - 2":                              "4;0 - 1;0 - 2;0 - 3;1 - 2;1 - 3;2 - 3",
		"3;0 < 1;0 > 2;1 < 2":                  "3;0 - 1;0 - 2;1 - 2",
		"4;0 <= 1;0 <= 2;1 <> 2;1 <= 3;2 <= 3": "4;0 <= 1;0 <= 2;0 <= 3;1 <> 2;1 <= 3;2 <= 3", // though 0 and 3 are not equal in any model
		"5;0 < 4;1 = 3":                        "5;0 < 4;1 = 3",
		"4;0 <= 1;0 > 3;1 <= 2;2 <= 3":         "4;0 - 1;0 - 2;0 - 3;1 - 2;1 - 3;2 - 3",
		"12;0 > 1;1 > 2;2 > 11":                "12;0 > 1;0 > 2;0 > 11;1 > 2;1 > 11;2 > 11",
		"6;0 < 1;2 < 3;4 < 5":                  "6;0 < 1;2 < 3;4 < 5",
		"4;0 > 1;1 > 2;2 > 3":                  "4;0 > 1;0 > 2;0 > 3;1 > 2;1 > 3;2 > 3",
		"4;0 <= 1;0 => 3;1 <= 2;2 <= 3":        "4;0 = 1;0 = 2;0 = 3;1 = 2;1 = 3;2 = 3",
		"5;0 <= 1;0 => 3;1 <= 2;2 <= 3;3 < 4":  "5;0 = 1;0 = 2;0 = 3;0 < 4;1 = 2;1 = 3;1 < 4;2 = 3;2 < 4;3 < 4",
		"4;0 <> 1;0 <> 2;0 <> 3;1 <> 2;1 <> 3": "4;0 <> 1;0 <> 2;0 <> 3;1 <> 2;1 <> 3",
		"12;0 < 2;0 = 11;1 = 2;1 < 11;3 < 4":   "12;" + strings.Join(plainEmptyParts(12), ";"),
		"3;0 = 1;0 = 2;1 <> 2":                 "3;0 - 1;0 - 2;1 - 2",
	} {
		got, ok := impl.ClosePoints(pointsOfText(text).net())
		if impl.FormatPointNet(got) != want || !ok {
			t.Errorf("ClosePoints(%s) = %s, %v, want %s", text, impl.FormatPointNet(got), ok, want)
		}
	}
}

// plainEmptyParts returns the texts of all pairs of so many points, without orders.
func plainEmptyParts(size int) []string {
	parts := []string{}
	for _, p := range plainPairs(size) {
		parts = append(parts, fmt.Sprintf("%d - %d", p[0], p[1]))
	}
	return parts
}

// Closing keeps all models, and adds none.
func TestClosePointsKeepsModels(t *testing.T) {
	for _, n := range fewPoints {
		closed, _ := impl.ClosePoints(n.net())
		for _, list := range rankLists[len(n)] {
			if n.holds(list) != impl.PointsHold(closed, list) {
				t.Errorf("ClosePoints(%s) = %s, of which only one has the model %v", n.text(), impl.FormatPointNet(closed), list)
			}
		}
	}
	for _, n := range knownPointNets() {
		closed, _ := impl.ClosePoints(n.net())
		if !impl.PointsHold(closed, n.model) {
			t.Errorf("ClosePoints(%s) = %s has not the model %v", n.text(), impl.FormatPointNet(closed), n.model)
		}
	}
}

// A network has a model exactly if it does not close empty.
func TestPointsConsistent(t *testing.T) {
	with, without := 0, 0
	for _, n := range fewPoints {
		want := len(n.models()) > 0
		if n.hasModel() != want || n.closed().isEmpty() == want {
			t.Fatalf("%s has models: %v, by loops %v, closes empty %v", n.text(), want, n.hasModel(), n.closed().isEmpty())
		}
		if got := impl.PointsConsistent(n.net()); got != want {
			t.Errorf("PointsConsistent(%s) = %v", n.text(), got)
		}
	}
	for _, n := range manyPoints {
		want := n.hasModel()
		if n.closed().isEmpty() == want {
			t.Fatalf("%s has models: %v, closes empty %v", n.text(), want, !want)
		}
		if got := impl.PointsConsistent(n.net()); got != want {
			t.Errorf("PointsConsistent(%s) = %v", n.text(), got)
		}
		if want {
			with++
		} else {
			without++
		}
	}
	if with < 600 || without < 200 {
		t.Errorf("%d large networks have models, and %d have none", with, without)
	}
	for _, no := range noPointNets {
		if impl.PointsConsistent(no) {
			t.Errorf("PointsConsistent(%v) = true", no)
		}
	}
}

func TestPointsConsistentExamples(t *testing.T) {
	for text, want := range map[string]bool{
		"1": true, "2": true, "12": true,
		"2;0 - 1": false, "3;0 - 1": false, "12;10 - 11": false, // sets without orders
		"2;0 <> 1": true, "3;0 <> 1;0 <> 2;1 <> 2": true, // points that must be different
		"3;0 = 1;0 = 2;1 <> 2": false, "3;0 = 1;0 <> 2;1 <> 2": true, "3;0 <= 1;0 <> 2;1 <= 2": true,
		"4;0 <= 1;0 = 3;1 <> 2;1 <= 3;2 <= 3": true, "4;0 <= 1;0 <= 2;0 = 3;1 <> 2;1 <= 3;2 <= 3": false,
		"3;0 < 1;0 > 2;1 < 2": false, "3;0 < 1;0 = 2;1 < 2": false, "3;0 <= 1;0 => 2;1 <= 2": true, "3;0 <= 1;0 => 2;1 < 2": false,
		pointTextsWithLoops[0]: true, pointTextsWithLoops[1]: false, pointTextsWithLoops[2]: true, pointTextsWithLoops[3]: false, pointTextsWithLoops[4]: true,
	} {
		if got := impl.PointsConsistent(pointsOfText(text).net()); got != want {
			t.Errorf("PointsConsistent(%s) = %v", text, got)
		}
	}
}

func TestPointsHold(t *testing.T) {
	for at, n := range fewPoints {
		step := max(1, len(n)-2) // of many lists, some are enough
		for place := at % step; place < len(rankLists[len(n)]); place += step {
			list := rankLists[len(n)][place]
			want := n.holds(list)
			if got := impl.PointsHold(n.net(), list); got != want {
				t.Errorf("PointsHold(%s, %v) = %v", n.text(), list, got)
			}
			wide := []int{}
			for _, x := range list {
				wide = append(wide, 500000*x-impl.MaxTime)
			}
			if got := impl.PointsHold(n.net(), wide); got != want {
				t.Errorf("PointsHold(%s, %v) = %v", n.text(), wide, got)
			}
		}
	}
	for _, n := range knownPointNets() {
		if !impl.PointsHold(n.net(), n.model) {
			t.Errorf("PointsHold(%s, %v) = false", n.text(), n.model)
		}
		for i := range n.model {
			other := slices.Clone(n.model)
			other[i] += 1 - 2*(i%2)
			if got := impl.PointsHold(n.net(), other); got != n.holds(other) {
				t.Errorf("PointsHold(%s, %v) = %v", n.text(), other, got)
			}
		}
	}
}

// As many points as the network has are needed, and numbers that are no points
// are in no order, even if there are no others.
func TestPointsHoldOfOtherLists(t *testing.T) {
	for size := 1; size <= impl.MaxPoints; size++ {
		free := plainFreePoints(size).net()
		for length := range 15 {
			if got := impl.PointsHold(free, make([]int, length)); got != (length == size) {
				t.Errorf("PointsHold of %d points and %d numbers is %v", size, length, got)
			}
		}
		if impl.PointsHold(free, nil) {
			t.Errorf("PointsHold of %d points and no list is true", size)
		}
		for at := range size {
			for _, no := range noPoints {
				list := make([]int, size)
				list[at] = no
				if impl.PointsHold(free, list) {
					t.Errorf("PointsHold of %v is true", list)
				}
			}
			for _, x := range somePoints {
				list := make([]int, size)
				list[at] = x
				if !impl.PointsHold(free, list) {
					t.Errorf("PointsHold of %v is false", list)
				}
			}
		}
	}
	for _, no := range noPointNets {
		for length := range 14 {
			if impl.PointsHold(no, make([]int, length)) {
				t.Errorf("PointsHold(%v) of %d points is true", no, length)
			}
		}
	}
}

// The first model is the first one of all lists that are their own ranks.
func TestFirstPoints(t *testing.T) {
	for _, n := range fewPoints {
		var want []int
		if models := n.models(); len(models) > 0 {
			want = models[0]
		}
		if !slices.Equal(n.first(), want) {
			t.Fatalf("%s has the first model %v, not %v", n.text(), want, n.first())
		}
		wantModel(t, n, want)
	}
	for _, n := range manyPoints {
		want := n.first()
		wantModel(t, n, want)
		if want != nil && !impl.PointsHold(n.net(), want) {
			t.Errorf("%v is no model of %s", want, n.text())
		}
	}
	for _, no := range noPointNets {
		if list, ok := impl.FirstPoints(no); len(list) != 0 || ok {
			t.Errorf("FirstPoints(%v) = %v, %v", no, list, ok)
		}
	}
}

func TestFirstPointsExamples(t *testing.T) {
	for text, want := range map[string][]int{
		"1": {0}, "2": {0, 1}, "2;0 = 1": {0, 0}, "2;0 > 1": {1, 0}, "2;0 => 1": {0, 0}, "2;0 <> 1": {0, 1}, "2;0 - 1": nil,
		"3": {0, 1, 2}, "3;0 < 1;1 <= 2": {0, 1, 2}, "3;0 => 1": {0, 0, 1}, "3;0 > 1;0 = 2": {1, 0, 1}, "3;0 > 1;1 > 2": {2, 1, 0}, "3;1 > 2": {0, 2, 1}, "3;0 > 1": {1, 0, 2},
		"3;0 => 1;1 => 2": {0, 0, 0}, "3;0 = 1;0 <> 2;1 = 2": nil, "3;0 => 1;0 > 2;1 => 2": {1, 1, 0}, "3;0 > 2": {1, 2, 0}, "3;0 = 2": {0, 1, 0},
		"4;0 => 1;0 => 2;0 => 3;1 <= 2;1 <= 3;2 <> 3": {2, 0, 2, 1}, // 0 and 1 could be equal by what closing leaves
		"4;0 => 1;0 => 2;1 <> 2;1 => 3;2 => 3":        {1, 1, 0, 0}, // points that must be different
		"4;0 <= 1;0 <= 2;1 <> 2;1 <= 3;2 <= 3":        {0, 1, 2, 3},
		"5;0 > 1;2 = 3":                               {1, 0, 2, 2, 3},
		"12":                                          {0, 1, 2, 3, 4, 5, 6, 7, 8, 9, 10, 11},
		"12;0 > 1;1 > 2;2 > 3;3 > 4;4 > 5;5 > 6;6 > 7;7 > 8;8 > 9;9 > 10;10 > 11": {11, 10, 9, 8, 7, 6, 5, 4, 3, 2, 1, 0},
		"12;0 > 11":            {1, 2, 3, 4, 5, 6, 7, 8, 9, 10, 11, 0},
		"12;0 = 11;3 > 10":     {0, 1, 2, 4, 5, 6, 7, 8, 9, 10, 3, 0},
		pointTextsWithLoops[2]: {0, 0, 0, 0, 0, 0, 0, 0, 0, 0, 0, 0},
		pointTextsWithLoops[3]: nil,
	} {
		wantModel(t, pointsOfText(text), want)
	}
}

// endsOfList returns the ends of intervals, From and To of one after the other.
func endsOfList(list []impl.Interval) []int {
	ends := []int{}
	for _, a := range list {
		ends = append(ends, a.From, a.To)
	}
	return ends
}

// plainEndsNet writes the orders of the ends of all relations.
func plainEndsNet(n plainNet) plainPoints {
	points := plainFreePoints(2 * len(n))
	for i := range n {
		points = points.with(2*i, 2*i+1, 1)
		for k := range n {
			if i == k {
				continue
			}
			orders := plainEndOrders(n[i][k])
			points = points.with(2*i, 2*k, orders[0]).with(2*i, 2*k+1, orders[1]).with(2*i+1, 2*k, orders[2]).with(2*i+1, 2*k+1, orders[3])
		}
	}
	return points
}

// plainNetOfEnds writes the relations that the orders of ends of intervals tell.
func plainNetOfEnds(n plainPoints) plainNet {
	net := plainFree(len(n) / 2)
	for _, p := range plainPairs(len(net)) {
		i, k := 2*p[0], 2*p[1]
		net = net.with(p[0], p[1], plainRelOfOrders([]int{n[i][k], n[i][k+1], n[i+1][k], n[i+1][k+1]}))
	}
	return net
}

// isPointable reports whether all relations are what the orders of ends tell.
func (n plainNet) isPointable() bool {
	return n.all(func(r int) bool { return plainRelOfOrders(plainEndOrders(r)) == r })
}

// pointableNets returns networks of 1 to 6 nodes, all of whose relations are told
// by orders of ends, with models and without.
func pointableNets() []plainNet {
	random := rand.New(rand.NewSource(34))
	list := []plainNet{}
	for size := 1; size <= impl.MaxNodes; size++ {
		for try := range 50 {
			n, model := plainFree(size), plans[size][random.Intn(len(plans[size]))]
			for _, p := range plainPairs(size) {
				orders := orderedEnds(model[p[0]], model[p[1]])
				for place := range orders {
					orders[place] |= []int{0, 7, random.Intn(8)}[random.Intn(1+try%3)]
				}
				n = n.with(p[0], p[1], plainRelOfOrders(orders))
			}
			list = append(list, n)
			// Relations of another model may leave none.
			other := plans[size][random.Intn(len(plans[size]))]
			for _, p := range plainPairs(size) {
				if random.Intn(size+1) == 0 {
					n = n.with(p[0], p[1], plainBasic(other[p[0]], other[p[1]]))
				}
			}
			list = append(list, n)
		}
	}
	return list
}

func TestEndsNet(t *testing.T) {
	for _, n := range slices.Concat(someNets, smallNets, largeNets, pointableNets()) {
		got, ok := impl.EndsNet(n.net())
		wantPoints(t, got, ok, plainEndsNet(n), "EndsNet(%s)", n.text())
	}
	for text, want := range map[string]string{
		"1":        "2;0 < 1",
		"2":        "4;0 < 1;2 < 3",
		"2;0 - 1":  "4;0 < 1;0 - 2;0 - 3;1 - 2;1 - 3;2 < 3",
		"2;0 bm 1": "4;0 < 1;0 < 2;0 < 3;1 <= 2;1 < 3;2 < 3",
		"2;0 o 1":  "4;0 < 1;0 < 2;0 < 3;1 > 2;1 < 3;2 < 3", // of the script of the document
		"2;0 bB 1": "4;0 < 1;0 <> 2;0 <> 3;1 <> 2;1 <> 3;2 < 3",
		"2;0 e 1":  "4;0 < 1;0 = 2;0 < 3;1 > 2;1 = 3;2 < 3",
		"6":        "12;0 < 1;2 < 3;4 < 5;6 < 7;8 < 9;10 < 11",
		"3;0 B 2":  "6;0 < 1;0 > 4;0 > 5;1 > 4;1 > 5;2 < 3;4 < 5",
	} {
		got, ok := impl.EndsNet(netOfText(text).net())
		if impl.FormatPointNet(got) != want || !ok {
			t.Errorf("EndsNet(%s) = %s, %v, want %s", text, impl.FormatPointNet(got), ok, want)
		}
	}
	for _, no := range noNets {
		got, ok := impl.EndsNet(no)
		wantNoPoints(t, got, ok, "EndsNet(%v)", no)
	}
}

// The ends of models are models of the network of ends, and for relations told by
// orders of ends no others are.
func TestEndsNetHasModels(t *testing.T) {
	for at, n := range slices.Concat(someNets, smallNets, pointableNets()) {
		ends, _ := impl.EndsNet(n.net())
		for at := at % 5; at < len(plans[len(n)]); at += 5 {
			list := plans[len(n)][at]
			holds, got := n.holds(list), impl.PointsHold(ends, endsOfList(list))
			if holds && !got || got != holds && n.isPointable() {
				t.Errorf("PointsHold of EndsNet(%s) and the ends of %v is %v", n.text(), list, got)
			}
		}
	}
}

func TestNetOfEnds(t *testing.T) {
	nets, others := 0, 0
	for _, n := range slices.Concat(fewPoints, manyPoints) {
		isEnds := len(n)%2 == 0
		for i := 0; isEnds && i < len(n); i += 2 {
			isEnds = n[i][i+1] == 1
		}
		got, ok := impl.NetOfEnds(n.net())
		if !isEnds {
			others++
			wantNoNet(t, got, ok, "NetOfEnds(%s)", n.text())
			// The same points with each From before its To are intervals.
			if len(n)%2 != 0 {
				continue
			}
			for i := 0; i < len(n); i += 2 {
				n = n.with(i, i+1, 1)
			}
			got, ok = impl.NetOfEnds(n.net())
		}
		nets++
		wantNet(t, got, ok, plainNetOfEnds(n), "NetOfEnds(%s)", n.text())
	}
	if nets < 500 || others < 500 {
		t.Errorf("%d networks are those of ends, and %d are not", nets, others)
	}
	for _, no := range noPointNets {
		got, ok := impl.NetOfEnds(no)
		wantNoNet(t, got, ok, "NetOfEnds(%v)", no)
	}
}

func TestNetOfEndsExamples(t *testing.T) {
	for text, want := range map[string]string{
		"1": "", "3;0 < 1": "", "5;0 < 1;2 < 3": "", "11;0 < 1;2 < 3;4 < 5;6 < 7;8 < 9": "", // odd numbers of points
		"2": "", "2;0 - 1": "", "2;0 = 1": "", "2;0 > 1": "", "2;0 <= 1": "", "2;0 <> 1": "", "2;0 => 1": "", // From is not told to be before To
		"4": "", "4;0 < 1": "", "4;2 < 3": "", "4;0 < 1;2 <= 3": "", "4;0 < 1;2 > 3": "", "4;0 < 1;0 < 3;1 < 2": "", "4;0 <= 1;2 < 3": "", "4;0 < 1;2 - 3": "",
		"12;0 < 1;2 < 3;4 < 5;6 < 7;8 < 9": "", "12;0 < 1;2 < 3;4 < 5;6 < 7;8 < 9;10 <= 11": "",
		"2;0 < 1": "1", "4;0 < 1;2 < 3": "2",
		"12;0 < 1;2 < 3;4 < 5;6 < 7;8 < 9;10 < 11":               "6",
		"12;0 < 1;0 = 10;1 = 11;2 < 3;4 < 5;6 < 7;8 < 9;10 < 11": "6;0 e 5",
		"4;0 < 1;1 <= 2;2 < 3":                                   "2;0 bm 1",
		"4;0 < 1;0 < 2;0 < 3;1 <= 2;1 < 3;2 < 3":                 "2;0 bm 1",
		"4;0 < 1;0 <> 2;0 <> 3;1 <> 2;1 <> 3;2 < 3":              "2;0 bodDOB 1", // more than bB, which is not told by them
		"4;0 < 1;0 - 2;2 < 3":                                    "2;0 - 1",
		"4;0 < 1;0 = 2;1 > 3;2 < 3":                              "2;0 S 1",
		"4;0 < 1;0 => 3;2 < 3":                                   "2;0 MB 1",
		"4;0 < 1;0 > 3;1 < 2;2 < 3":                              "2;0 - 1", // orders that no intervals have
		"6;0 < 1;1 = 4;2 < 3;4 < 5":                              "3;0 m 2",
		"6;0 < 1;2 < 3;3 > 5;4 < 5":                              "3;1 DSOMB 2",
	} {
		got, ok := impl.NetOfEnds(pointsOfText(text).net())
		if want == "" {
			wantNoNet(t, got, ok, "NetOfEnds(%s)", text)
			continue
		}
		if impl.FormatNet(got) != want || !ok {
			t.Errorf("NetOfEnds(%s) = %s, %v, want %s", text, impl.FormatNet(got), ok, want)
		}
	}
}

// A network is the one of its ends exactly if its relations are told by orders of
// ends, and otherwise it lies within that one.
func TestNetOfEndsOfEndsNet(t *testing.T) {
	for _, n := range slices.Concat(someNets, smallNets, largeNets, openNets, pointableNets()) {
		ends, _ := impl.EndsNet(n.net())
		got, ok := impl.NetOfEnds(ends)
		if !ok || !impl.WithinNet(n.net(), got) || (got == n.net()) != n.isPointable() {
			t.Errorf("NetOfEnds(%s) = %s, %v, of %s", impl.FormatPointNet(ends), impl.FormatNet(got), ok, n.text())
		}
		if again, ok := impl.EndsNet(got); again != ends || !ok {
			t.Errorf("EndsNet(%s) = %s, %v, want %s", impl.FormatNet(got), impl.FormatPointNet(again), ok, impl.FormatPointNet(ends))
		}
	}
}

func TestPointableNet(t *testing.T) {
	pointable := 0
	for r := range impl.RelSets {
		want := plainRelOfOrders(plainEndOrders(r)) == r
		if want {
			pointable++
		}
		for _, n := range []plainNet{plainFree(2).with(0, 1, r), plainFree(3).with(r%3, (r+1)%3, r)} {
			if got := impl.PointableNet(n.net()); got != want {
				t.Errorf("PointableNet(%s) = %v", n.text(), got)
			}
		}
	}
	if pointable != 188 {
		t.Errorf("%d of 188 relations are told by orders of ends", pointable)
	}
	for _, n := range slices.Concat(someNets, smallNets, largeNets, openNets, pointableNets()) {
		if got := impl.PointableNet(n.net()); got != n.isPointable() {
			t.Errorf("PointableNet(%s) = %v", n.text(), got)
		}
	}
	for _, n := range pointableNets() {
		if !impl.PointableNet(n.net()) {
			t.Errorf("PointableNet(%s) = false", n.text())
		}
	}
	for size := 2; size <= impl.MaxNodes; size++ {
		for _, p := range plainPairs(size) {
			if n := plainFree(size).with(p[0], p[1], plainRel("bB")); impl.PointableNet(n.net()) {
				t.Errorf("PointableNet(%s) = true", n.text())
			}
		}
		if !impl.PointableNet(plainFree(size).net()) {
			t.Errorf("PointableNet(%d) = false", size)
		}
	}
	for text, want := range map[string]bool{"1": true, "2;0 - 1": true, "2;0 bm 1": true, "3;0 b 1;1 d 2": true, "3;0 b 1;1 bB 2": false, "3;0 bo 1": true, "3;0 oD 1": true, "3;0 bF 1": false, "3;0 bD 1": false} {
		if got := impl.PointableNet(netOfText(text).net()); got != want {
			t.Errorf("PointableNet(%s) = %v", text, got)
		}
	}
	for _, no := range noNets {
		if impl.PointableNet(no) {
			t.Errorf("PointableNet(%v) = true", no)
		}
	}
}

// Networks of intervals whose relations are told by orders of ends have a model
// exactly if they do not close empty, and if their ends do not, either.
func TestPointableNetsConsistent(t *testing.T) {
	with, without := 0, 0
	for _, n := range pointableNets() {
		want := n.hasModel()
		if want {
			with++
		} else {
			without++
		}
		ends, _ := impl.EndsNet(n.net())
		if impl.IsConsistent(n.net()) != want || impl.ClosesEmpty(n.net()) == want || impl.PointsConsistent(ends) != want {
			t.Errorf("%s has models: %v, but IsConsistent %v, ClosesEmpty %v, and PointsConsistent of its ends %v", n.text(), want, impl.IsConsistent(n.net()), impl.ClosesEmpty(n.net()), impl.PointsConsistent(ends))
		}
		first, ok := impl.FirstPoints(ends)
		if ok != want {
			t.Errorf("FirstPoints(%s) = %v, %v", impl.FormatPointNet(ends), first, ok)
		}
		if !ok {
			continue
		}
		list := []impl.Interval{}
		for i := range n {
			list = append(list, impl.Interval{From: first[2*i], To: first[2*i+1]})
		}
		if !n.holds(list) {
			t.Errorf("FirstPoints(%s) are the ends of %v, which is no model of %s", impl.FormatPointNet(ends), list, n.text())
		}
	}
	if with < 250 || without < 100 {
		t.Errorf("%d networks have models, and %d have none", with, without)
	}
	// Of other networks, the ends may have models of their own.
	others := 0
	for _, text := range closedNoModels {
		n := netOfText(text)
		if ends, _ := impl.EndsNet(n.net()); !n.isPointable() && impl.PointsConsistent(ends) {
			others++
		}
	}
	if others == 0 {
		t.Error("the ends of no network without a model have one")
	}
}

// Neither the lists nor the memory beyond their length may change, and results
// are new memory.
func TestPointNetsShareNoMemory(t *testing.T) {
	for size := 1; size <= impl.MaxPoints; size++ {
		n := plainFreePoints(size).net()
		first, _ := impl.FirstPoints(n)
		second, _ := impl.FirstPoints(n)
		want := slices.Clone(second)
		for i := range first[:cap(first)] {
			first[:cap(first)][i] = -77
		}
		if third, _ := impl.FirstPoints(n); !slices.Equal(second, want) || !slices.Equal(third, want) {
			t.Errorf("FirstPoints of %d points returns shared memory", size)
		}
		whole := []int{9, 1, 5, 3, 8, 0, 2, 7, 4, 6, 11, 10, 77, 78}
		kept := slices.Clone(whole)
		if impl.PointsHold(n, whole[:size]); !slices.Equal(whole, kept) {
			t.Errorf("PointsHold changes a list of %d points to %v", size, whole)
		}
	}
}
