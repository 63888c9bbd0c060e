package tests

import (
	"fmt"
	"math"
	"math/rand"
	"slices"
	"testing"

	"loop.example/intervalsandplaces/impl"
)

// These tests hold promise 6, "Closing keeps all models, and shows exactly for
// nearly convex relations whether there is one.", against the passes of the
// document, made on matrices of relations, and against models that are looked
// for.

// knownCompositions spares looking again for what two relations compose to.
var knownCompositions = map[[2]int]int{}

func plainTriangle(n plainNet, i, k, by int) int {
	key := [2]int{n[i][by], n[by][k]}
	composed, ok := knownCompositions[key]
	if !ok {
		composed = plainComposeRel(key[0], key[1])
		knownCompositions[key] = composed
	}
	return n[i][k] & composed
}

func (n plainNet) isClosed() bool {
	for i := range n {
		for k := range n {
			for by := range n {
				if i != k && plainTriangle(n, i, k, by) != n[i][k] {
					return false
				}
			}
		}
	}
	return true
}

// closed makes whole passes until one changes nothing, and returns what they
// change.
func (n plainNet) closed() (plainNet, []string) {
	steps := []string{}
	for before := -1; before != len(steps); {
		before = len(steps)
		for i := range n {
			for k := i + 1; k < len(n); k++ {
				for by := range n {
					if r := plainTriangle(n, i, k, by); r != n[i][k] {
						n = n.with(i, k, r)
						steps = append(steps, fmt.Sprintf("%d %s %d by %d", i, plainLetters(r), k, by))
					}
				}
			}
		}
	}
	return n, steps
}

// all reports whether all relations of pairs of nodes fit.
func (n plainNet) all(fits func(r int) bool) bool {
	for i := range n {
		for k := range n {
			if i != k && !fits(n[i][k]) {
				return false
			}
		}
	}
	return true
}

func (n plainNet) isEmpty() bool {
	return !n.all(func(r int) bool { return r != 0 })
}

// renamed returns the network with its nodes in another order.
func (n plainNet) renamed(nodes []int) plainNet {
	other := plainFree(len(n))
	for i := range n {
		for k := range n {
			other[i][k] = n[nodes[i]][nodes[k]]
		}
	}
	return other
}

// pointIntervals are the intervals among 12 points, which are as many as the ends
// of 6 intervals, and basicsOfPoints has the relation of each two of them.
var (
	pointIntervals = intervalsAmong([]int{0, 1, 2, 3, 4, 5, 6, 7, 8, 9, 10, 11})
	basicsOfPoints = plainBasicsOfPoints()
)

func plainBasicsOfPoints() [][]int {
	table := [][]int{}
	for _, a := range pointIntervals {
		row := []int{}
		for _, b := range pointIntervals {
			row = append(row, plainBasic(a, b))
		}
		table = append(table, row)
	}
	return table
}

// model looks for a model of the network, among as many points as it has ends;
// it returns nil if there is none.
func (n plainNet) model() []impl.Interval {
	all := []int{}
	for i, a := range pointIntervals {
		if a.To < 2*len(n) {
			all = append(all, i)
		}
	}
	return n.modelAmong(nil, slices.Repeat([][]int{all}, len(n)))
}

// modelAmong looks for a model that begins with some intervals, with each further
// one among those that fit to all of these.
func (n plainNet) modelAmong(list []impl.Interval, choices [][]int) []impl.Interval {
	if len(choices) == 0 {
		return list
	}
	node := len(list)
	for _, a := range choices[0] {
		left := [][]int{}
		for k, those := range choices[1:] {
			fits := []int{}
			for _, b := range those {
				if n[node][node+1+k]&basicsOfPoints[a][b] != 0 {
					fits = append(fits, b)
				}
			}
			left = append(left, fits)
		}
		if slices.ContainsFunc(left, func(fits []int) bool { return len(fits) == 0 }) {
			continue
		}
		if found := n.modelAmong(append(slices.Clone(list), pointIntervals[a]), left); found != nil {
			return found
		}
	}
	return nil
}

// plainNetOf returns the network of some intervals.
func plainNetOf(list []impl.Interval) plainNet {
	n := plainFree(len(list))
	for i := range list {
		for k := range list {
			n[i][k] = plainBasic(list[i], list[k])
		}
	}
	return n
}

// A knownNet is a network with a model.
type knownNet struct {
	plainNet
	model []impl.Interval
}

// knownNets returns networks of 2 to 6 nodes that are made of models: some pairs
// have other basic relations in addition, and some have all.
func knownNets() []knownNet {
	random := rand.New(rand.NewSource(6))
	list := []knownNet{}
	for size := 2; size <= impl.MaxNodes; size++ {
		for range 60 {
			model := []impl.Interval{}
			for range size {
				from := random.Intn(2*size - 1)
				model = append(model, impl.Interval{From: from, To: from + 1 + random.Intn(2*size-1-from)})
			}
			n := plainNetOf(model)
			for i := range n {
				for k := range i {
					more := []int{0, 1 << random.Intn(13), random.Intn(8192), random.Intn(8192) & random.Intn(8192), allBasics}
					n = n.with(i, k, n[i][k]|more[random.Intn(len(more))])
				}
			}
			list = append(list, knownNet{n, model})
		}
	}
	return list
}

// openNets has networks of all kinds to be closed.
var openNets = plainOpenNets()

func plainOpenNets() []plainNet {
	list := slices.Clone(someNets)
	for _, n := range knownNets() {
		list = append(list, n.plainNet)
	}
	for _, text := range []string{
		"3;0 b 1;1 d 2", "3;0 b 1;0 B 2;1 b 2", "2;0 - 1", "3;0 - 1", "6;4 - 5", "3;0 - 1;0 - 2;1 - 2", "4;0 - 1;2 b 3",
		"6;0 b 1;1 b 2;2 b 3;3 b 4;4 b 5", "6;0 b 5;1 B 2;2 B 3;3 B 4;4 B 5", "6;0 e 1;1 e 2;2 e 3;3 e 4;4 e 5", "4;0 m 1;0 bB 3;1 m 2;2 m 3",
		noModelText,
	} {
		net, ok := impl.ParseNet(text)
		if !ok {
			panic(text)
		}
		n := plainFree(net.Size)
		for i := range n {
			for k := range n {
				n[i][k] = impl.RelIn(net, i, k)
			}
		}
		list = append(list, n)
	}
	return list
}

// noModelText is of a network that is closed and not empty, and has no model.
// (If 0 starts 3, then 1 finishes it, and both 1 and 2 begin where 0 ends. If 0
// finishes 3, then 1 starts it, and both 1 and 2 have the begin of 0 within.)
const noModelText = "4;0 mO 1;0 mO 2;0 sf 3;1 bB 2;1 sf 3;2 d 3"

func TestTriangleRel(t *testing.T) {
	for at := 0; at < len(openNets); at += 3 {
		n := openNets[at]
		for i := range n {
			for k := range n {
				for by := range n {
					if got, want := impl.TriangleRel(n.net(), i, k, by), plainTriangle(n, i, k, by); got != want {
						t.Errorf("TriangleRel(%s, %d, %d, %d) = %s, want %s", n.text(), i, k, by, impl.FormatRel(got), plainLetters(want))
					}
				}
			}
		}
	}
}

func TestTriangleRelExamples(t *testing.T) {
	for _, c := range []struct {
		text     string
		i, k, by int
		want     string
	}{
		{"3;0 b 1;1 d 2", 0, 2, 1, "bmosd"}, {"3;0 b 1;1 d 2", 2, 0, 1, "DSOMB"}, {"3;0 b 1;0 m 2;1 d 2", 0, 2, 1, "m"}, {"3;0 b 1;0 fM 2;1 d 2", 0, 2, 1, "-"},
		// A third node that is one of both leaves everything.
		{"3;0 b 1;1 d 2", 0, 2, 0, basicLetters}, {"3;0 b 1;1 d 2", 0, 2, 2, basicLetters}, {"3;0 b 1;1 d 2", 0, 1, 0, "b"}, {"3;0 b 1;1 d 2", 0, 1, 1, "b"}, {"2;0 - 1", 0, 1, 0, "-"}, {"2;0 - 1", 0, 1, 1, "-"},
		// A node and itself stay equal, unless nothing is allowed in between.
		{"1", 0, 0, 0, "e"}, {"3;0 b 1;1 d 2", 0, 0, 1, "e"}, {"3;0 b 1;1 d 2", 2, 2, 2, "e"}, {"2;0 - 1", 0, 0, 1, "-"}, {"2;0 - 1", 1, 1, 0, "-"}, {"2;0 - 1", 0, 0, 0, "e"}, {"3;0 - 1", 0, 0, 2, "e"},
		// An empty relation leaves nothing on either side.
		{"3;0 - 1", 0, 2, 1, "-"}, {"3;0 - 1", 2, 1, 0, "-"}, {"3;0 - 1", 0, 1, 2, "-"}, {"3;1 - 2", 0, 2, 1, "-"},
		{"6;3 e 4;4 m 5", 3, 5, 4, "m"}, {"6;3 e 4;4 m 5", 5, 3, 4, "M"},
	} {
		net, _ := impl.ParseNet(c.text)
		if got := impl.FormatRel(impl.TriangleRel(net, c.i, c.k, c.by)); got != c.want {
			t.Errorf("TriangleRel(%s, %d, %d, %d) = %s, want %s", c.text, c.i, c.k, c.by, got, c.want)
		}
	}
}

// otherNodes are no nodes of any network.
var otherNodes = []int{-1, 6, 7, -6, math.MinInt, math.MaxInt}

func TestTrianglesOfOtherNodes(t *testing.T) {
	for _, n := range openNets {
		net := n.net()
		last := len(n) - 1
		for _, no := range append(slices.Clone(otherNodes), len(n)) {
			for _, c := range [][3]int{{no, 0, 0}, {0, no, 0}, {0, 0, no}, {0, last, no}, {no, 0, last}, {last, no, 0}, {no, no, 0}, {0, no, no}, {no, 0, no}, {no, no, no}} {
				if got := impl.TriangleRel(net, c[0], c[1], c[2]); got != -1 {
					t.Errorf("TriangleRel(%s, %d, %d, %d) = %d, want -1", n.text(), c[0], c[1], c[2], got)
				}
				if c[0] == no || c[1] == no {
					if got := impl.WhyTriangle(net, c[0], c[1]); got != -2 {
						t.Errorf("WhyTriangle(%s, %d, %d) = %d, want -2", n.text(), c[0], c[1], got)
					}
				}
			}
		}
	}
}

func TestClosingNoNetworks(t *testing.T) {
	for _, no := range noNets {
		for i := -1; i < 3; i++ {
			if got := impl.TriangleRel(no, 0, i, 0); got != -1 {
				t.Errorf("TriangleRel(%v, 0, %d, 0) = %d, want -1", no, i, got)
			}
			if got := impl.WhyTriangle(no, 0, i); got != -2 {
				t.Errorf("WhyTriangle(%v, 0, %d) = %d, want -2", no, i, got)
			}
			for _, r := range []int{0, 1, 64, allBasics, -1} {
				got, ok := impl.AddRel(no, 0, i, r)
				wantNoNet(t, got, ok, "AddRel(%v, 0, %d, %d)", no, i, r)
			}
		}
		for name, f := range map[string]func(impl.Net) bool{
			"IsClosed": impl.IsClosed, "IsEmptyNet": impl.IsEmptyNet, "ClosesEmpty": impl.ClosesEmpty, "IsAtomic": impl.IsAtomic, "NearlyConvexNet": impl.NearlyConvexNet,
		} {
			if f(no) {
				t.Errorf("%s(%v) = true", name, no)
			}
		}
		got, ok := impl.CloseNet(no)
		wantNoNet(t, got, ok, "CloseNet(%v)", no)
		if steps, ok := impl.CloseSteps(no); len(steps) != 0 || ok {
			t.Errorf("CloseSteps(%v) = %q, %v, want an empty slice and false", no, steps, ok)
		}
	}
}

func TestIsClosed(t *testing.T) {
	for _, n := range openNets {
		if got := impl.IsClosed(n.net()); got != n.isClosed() {
			t.Errorf("IsClosed(%s) = %v", n.text(), got)
		}
	}
	for text, want := range map[string]bool{
		"1": true, "2": true, "6": true, "3;0 b 1;1 d 2": false, "3;0 b 1;0 bmosd 2;1 d 2": true, "3;0 b 1;0 m 2;1 bd 2": false, "3;0 b 1;0 m 2;1 d 2": true, "3;0 b 1;0 bmosdf 2;1 d 2": false,
		"2;0 - 1": true, "3;0 - 1": false, "3;0 - 1;0 - 2": false, "3;0 - 1;0 - 2;1 - 2": true, "4;0 - 1;0 - 2;1 - 2": false,
		"6;3 b 4;4 b 5": false, "6;3 b 4;3 b 5;4 b 5": true, "3;0 bB 1;0 bB 2;1 bB 2": true, noModelText: true,
	} {
		net, ok := impl.ParseNet(text)
		if got := impl.IsClosed(net); got != want || !ok {
			t.Errorf("IsClosed(%s) = %v", text, got)
		}
	}
	for size := range plans {
		for i := range min(len(plans[size]), 300) {
			list := plans[size][i*7919%len(plans[size])]
			if net, _ := impl.NetOf(list); !impl.IsClosed(net) {
				t.Errorf("the network of %v is not closed", list)
			}
		}
	}
}

// A network is closed exactly if no third node tells why it is not, of nodes in
// either order.
func TestWhyTriangle(t *testing.T) {
	for _, n := range openNets {
		net := n.net()
		for i := range n {
			for k := range n {
				want := -1
				for by := len(n) - 1; by >= 0; by-- {
					if plainTriangle(n, i, k, by) != n[i][k] {
						want = by
					}
				}
				if got := impl.WhyTriangle(net, i, k); got != want {
					t.Errorf("WhyTriangle(%s, %d, %d) = %d, want %d", n.text(), i, k, got, want)
				}
			}
		}
	}
	for _, c := range []struct {
		text       string
		i, k, want int
	}{
		{"1", 0, 0, -1}, {"2;0 b 1", 0, 1, -1}, {"3;0 b 1;1 d 2", 0, 2, 1}, {"3;0 b 1;1 d 2", 2, 0, 1}, {"3;0 b 1;1 d 2", 0, 1, -1}, {"3;0 b 1;1 d 2", 1, 1, -1},
		{"4;0 b 1;0 b 2;1 b 3;2 d 3", 0, 3, 1}, {"4;0 d 1;0 b 2;1 b 3;2 d 3", 0, 3, 1}, {"4;0 d 1;0 b 2;2 d 3", 0, 3, 2},
		// Of a node and itself, only an empty relation can leave less.
		{"2;0 - 1", 0, 0, 1}, {"2;0 - 1", 1, 1, 0}, {"2;0 - 1", 0, 1, -1}, {"3;0 - 1", 2, 2, -1}, {"3;0 - 1", 0, 2, 1}, {"3;0 - 1", 2, 1, 0}, {"3;0 - 1;0 - 2;1 - 2", 0, 0, 1}, {"3;1 - 2", 2, 2, 1},
	} {
		net, _ := impl.ParseNet(c.text)
		if got := impl.WhyTriangle(net, c.i, c.k); got != c.want {
			t.Errorf("WhyTriangle(%s, %d, %d) = %d, want %d", c.text, c.i, c.k, got, c.want)
		}
	}
}

func TestCloseNet(t *testing.T) {
	for _, n := range openNets {
		want, wantSteps := n.closed()
		got, ok := impl.CloseNet(n.net())
		wantNet(t, got, ok, want, "CloseNet(%s)", n.text())
		if !impl.IsClosed(got) || !impl.WithinNet(got, n.net()) {
			t.Errorf("CloseNet(%s) = %s, which is not closed within it", n.text(), impl.FormatNet(got))
		}
		again, ok := impl.CloseNet(got)
		wantNet(t, again, ok, want, "CloseNet of CloseNet(%s)", n.text())
		if steps, ok := impl.CloseSteps(n.net()); !slices.Equal(steps, wantSteps) || !ok {
			t.Errorf("CloseSteps(%s) = %q, %v, want %q", n.text(), steps, ok, wantSteps)
		}
		if steps, ok := impl.CloseSteps(got); len(steps) != 0 || !ok {
			t.Errorf("CloseSteps of CloseNet(%s) = %q, %v", n.text(), steps, ok)
		}
		if got := impl.IsEmptyNet(n.net()); got != n.isEmpty() {
			t.Errorf("IsEmptyNet(%s) = %v", n.text(), got)
		}
		if got := impl.ClosesEmpty(n.net()); got != want.isEmpty() {
			t.Errorf("ClosesEmpty(%s) = %v", n.text(), got)
		}
	}
}

// Examples of changes that follow from changes, in one pass or in some, and of
// networks that become empty.
func TestCloseExamples(t *testing.T) {
	for _, c := range []struct {
		text, closed string
		steps        []string
	}{
		{"1", "1", nil}, {"2", "2", nil}, {"6", "6", nil}, {"2;0 oD 1", "2;0 oD 1", nil}, {"2;0 - 1", "2;0 - 1", nil},
		{"3;0 b 1;1 d 2", "3;0 b 1;0 bmosd 2;1 d 2", []string{"0 bmosd 2 by 1"}},
		{"3;0 b 1;0 B 2;1 b 2", "3;0 - 1;0 - 2;1 - 2", []string{"0 - 1 by 2", "0 - 2 by 1", "1 - 2 by 0"}},
		{"3;0 - 1", "3;0 - 1;0 - 2;1 - 2", []string{"0 - 2 by 1", "1 - 2 by 0"}},
		{"3;1 - 2", "3;0 - 1;0 - 2;1 - 2", []string{"0 - 1 by 2", "0 - 2 by 1"}},
		{"4;2 - 3", "4;0 - 1;0 - 2;0 - 3;1 - 2;1 - 3;2 - 3", []string{"0 - 2 by 3", "0 - 3 by 2", "1 - 2 by 0", "1 - 3 by 0", "0 - 1 by 2"}},
		{"4;0 e 1;1 e 2;2 e 3", "4;0 e 1;0 e 2;0 e 3;1 e 2;1 e 3;2 e 3", []string{"0 e 2 by 1", "0 e 3 by 2", "1 e 3 by 0"}},
		{"6;0 b 1;1 b 2;2 b 3;3 b 4;4 b 5", "6;0 b 1;0 b 2;0 b 3;0 b 4;0 b 5;1 b 2;1 b 3;1 b 4;1 b 5;2 b 3;2 b 4;2 b 5;3 b 4;3 b 5;4 b 5", []string{
			"0 b 2 by 1", "0 b 3 by 2", "0 b 4 by 3", "0 b 5 by 4", "1 b 3 by 2", "1 b 4 by 3", "1 b 5 by 4", "2 b 4 by 3", "2 b 5 by 4", "3 b 5 by 4"}},
		{"6;0 b 5;1 B 2;2 B 3;3 B 4;4 B 5", "6;0 b 1;0 b 2;0 b 3;0 b 4;0 b 5;1 B 2;1 B 3;1 B 4;1 B 5;2 B 3;2 B 4;2 B 5;3 B 4;3 B 5;4 B 5", []string{
			"0 b 4 by 5", "1 B 3 by 2", "1 B 4 by 3", "1 B 5 by 4", "2 B 4 by 3", "2 B 5 by 4", "3 B 5 by 4", "0 b 1 by 4", "0 b 2 by 4", "0 b 3 by 4"}},
		{"4;0 b 1;0 M 3;1 m 2;2 b 3", "4;0 - 1;0 - 2;0 - 3;1 - 2;1 - 3;2 - 3", []string{
			"0 b 2 by 1", "0 - 2 by 3", "0 - 3 by 2", "1 - 2 by 0", "1 - 3 by 0", "2 - 3 by 0", "0 - 1 by 2"}},
		{noModelText, noModelText, nil},
	} {
		net, _ := impl.ParseNet(c.text)
		got, ok := impl.CloseNet(net)
		if impl.FormatNet(got) != c.closed || !ok {
			t.Errorf("CloseNet(%s) = %s, %v, want %s", c.text, impl.FormatNet(got), ok, c.closed)
		}
		if steps, ok := impl.CloseSteps(net); !slices.Equal(steps, c.steps) || !ok {
			t.Errorf("CloseSteps(%s) = %q, %v, want %q", c.text, steps, ok, c.steps)
		}
	}
}

// The closed network has all closed networks within the network: here, all those
// of three nodes with few basic relations, one by one.
func TestCloseNetIsGreatest(t *testing.T) {
	random := rand.New(rand.NewSource(7))
	for range 60 {
		n, union := plainFree(3), plainFree(3)
		for _, p := range [][2]int{{0, 1}, {0, 2}, {1, 2}} {
			n = n.with(p[0], p[1], 1<<random.Intn(13)|1<<random.Intn(13)|1<<random.Intn(13))
			union = union.with(p[0], p[1], 0)
		}
		for a := n[0][1]; a >= 0; a = lesserPart(a, n[0][1]) {
			for b := n[0][2]; b >= 0; b = lesserPart(b, n[0][2]) {
				for c := n[1][2]; c >= 0; c = lesserPart(c, n[1][2]) {
					if plainFree(3).with(0, 1, a).with(0, 2, b).with(1, 2, c).isClosed() {
						union = union.with(0, 1, union[0][1]|a).with(0, 2, union[0][2]|b).with(1, 2, union[1][2]|c)
					}
				}
			}
		}
		got, ok := impl.CloseNet(n.net())
		wantNet(t, got, ok, union, "CloseNet(%s)", n.text())
	}
}

// lesserPart returns the part of a relation before another part; -1 if this is
// the empty one.
func lesserPart(part, r int) int {
	if part == 0 {
		return -1
	}
	return (part - 1) & r
}

// What is closed within a network is within the closed one.
func TestCloseNetHasClosedNetworks(t *testing.T) {
	for at, m := range openNets {
		closed, _ := impl.CloseNet(m.net())
		for _, n := range openNets[at%7:] {
			if len(m) != len(n) || len(m) < 3 {
				continue
			}
			met, _ := impl.MeetNets(m.net(), n.net())
			both, _ := impl.CloseNet(met)
			if !impl.WithinNet(both, closed) {
				t.Errorf("CloseNet(%s) is not within CloseNet(%s)", impl.FormatNet(met), m.text())
			}
		}
	}
}

// Neither the order of nodes nor the direction of time matters.
func TestCloseNetOfRenamedNodes(t *testing.T) {
	random := rand.New(rand.NewSource(8))
	for _, n := range openNets {
		want, _ := n.closed()
		for range 3 {
			nodes := random.Perm(len(n))
			got, ok := impl.CloseNet(n.renamed(nodes).net())
			wantNet(t, got, ok, want.renamed(nodes), "CloseNet(%s)", n.renamed(nodes).text())
		}
		mirrored, _ := impl.MirrorNet(n.net())
		got, _ := impl.CloseNet(mirrored)
		again, ok := impl.MirrorNet(got)
		wantNet(t, again, ok, want, "MirrorNet of CloseNet(%s)", impl.FormatNet(mirrored))
	}
}

// Closing keeps all models, and adds none.
func TestCloseNetKeepsModels(t *testing.T) {
	for _, n := range openNets {
		closed, _ := impl.CloseNet(n.net())
		for _, list := range plans[len(n)][:min(300, len(plans[len(n)]))] {
			if n.holds(list) != impl.NetHolds(closed, list) {
				t.Errorf("CloseNet(%s) = %s, of which only one has the model %v", n.text(), impl.FormatNet(closed), list)
			}
		}
	}
	for _, n := range knownNets() {
		closed, _ := impl.CloseNet(n.net())
		if !impl.NetHolds(closed, n.model) || impl.ClosesEmpty(n.net()) {
			t.Errorf("CloseNet(%s) = %s has not the model %v", n.text(), impl.FormatNet(closed), n.model)
		}
	}
}

// All basic relations of a closed network of three nodes are those of models, so
// that it is told exactly whether there is one.
func TestCloseNetOfThree(t *testing.T) {
	random := rand.New(rand.NewSource(9))
	for range 80 {
		n, want := plainFree(3), plainFree(3)
		for _, p := range [][2]int{{0, 1}, {0, 2}, {1, 2}} {
			n = n.with(p[0], p[1], random.Intn(8192)&random.Intn(8192)&random.Intn(8192))
			want = want.with(p[0], p[1], 0)
		}
		for _, list := range plans[3] {
			if own := plainNetOf(list); n.holds(list) {
				want = want.with(0, 1, want[0][1]|own[0][1]).with(0, 2, want[0][2]|own[0][2]).with(1, 2, want[1][2]|own[1][2])
			}
		}
		got, ok := impl.CloseNet(n.net())
		wantNet(t, got, ok, want, "CloseNet(%s)", n.text())
	}
}

// plainPreconvex returns all relations whose closure is convex.
func plainPreconvex() []int {
	list := []int{}
	for r := range impl.RelSets {
		if convexRels[plainClosure(r)] {
			list = append(list, r)
		}
	}
	return list
}

// nearlyConvexNets returns networks of 1 to 6 nodes, all of whose relations are
// nearly convex.
func nearlyConvexNets() []plainNet {
	random := rand.New(rand.NewSource(10))
	rels := plainPreconvex()
	list := []plainNet{}
	for size := 1; size <= impl.MaxNodes; size++ {
		for try := range 80 {
			n := plainFree(size)
			for i := range n {
				for k := range i {
					r := 0
					for r == 0 { // what some of them have in common is nearly convex, too, and closes empty more often
						r = allBasics
						for range 1 + try%4 {
							r &= rels[random.Intn(len(rels))]
						}
					}
					if random.Intn(size) < 4 {
						n = n.with(i, k, r)
					}
				}
			}
			list = append(list, n)
		}
	}
	return list
}

// Closing tells exactly whether a network of nearly convex relations has a model.
func TestClosesEmptyOfNearlyConvex(t *testing.T) {
	var with, without [impl.MaxNodes + 1]int
	for _, n := range nearlyConvexNets() {
		if !impl.NearlyConvexNet(n.net()) {
			t.Errorf("NearlyConvexNet(%s) = false", n.text())
		}
		model := n.model()
		if got := impl.ClosesEmpty(n.net()); got != (model == nil) {
			t.Errorf("ClosesEmpty(%s) = %v, and %v is a model", n.text(), got, model)
		}
		if model == nil {
			without[len(n)]++
		} else {
			with[len(n)]++
		}
	}
	for size := 3; size <= impl.MaxNodes; size++ {
		if with[size] < 3 || without[size] < 3 {
			t.Errorf("of %d nodes, %d networks have a model and %d have none", size, with[size], without[size])
		}
	}
}

// A network that closes empty has no model; of other ones than nearly convex
// relations, one that does not may have none, either.
func TestClosesEmptyOfOthers(t *testing.T) {
	for _, n := range openNets {
		if len(n) < 6 && impl.ClosesEmpty(n.net()) && n.model() != nil {
			t.Errorf("%s closes empty and has the model %v", n.text(), n.model())
		}
	}
	n := openNets[len(openNets)-1]
	if n.text() != noModelText || n.model() != nil || impl.ClosesEmpty(n.net()) || impl.NearlyConvexNet(n.net()) {
		t.Errorf("%s has the model %v, closes empty or is nearly convex", n.text(), n.model())
	}
	for text, want := range map[string]bool{
		"1": false, "2;0 - 1": true, "6;2 - 5": true, "3;0 b 1;0 B 2;1 b 2": true, "3;0 b 1;1 d 2": false, "4;0 b 1;1 b 2;2 b 3": false, "4;0 b 1;0 B 3;1 b 2;2 b 3": true,
		"6;0 m 1;0 m 5;1 m 2;2 m 3;3 m 4;4 m 5": true, "6;0 B 4;0 b 5;1 B 3;1 b 4;2 b 3;2 B 5": true, noModelText: false,
	} {
		net, ok := impl.ParseNet(text)
		if got := impl.ClosesEmpty(net); got != want || !ok {
			t.Errorf("ClosesEmpty(%s) = %v", text, got)
		}
	}
}

// Each pair of nodes tells alone that a network is empty, or not atomic or nearly
// convex.
func TestKindsOfNetworks(t *testing.T) {
	rels := plainPreconvex()
	for size := 2; size <= impl.MaxNodes; size++ {
		for i := range size {
			for k := range i {
				for _, r := range append([]int{3, 5, 4097, 8191, 320, 12, 24}, someRels...) {
					atomic := plainFree(size)
					for i := range size {
						for k := range i {
							atomic = atomic.with(i, k, 1<<((i*5+k)%13))
						}
					}
					for _, n := range []plainNet{plainFree(size).with(i, k, r), atomic.with(i, k, r)} {
						net := n.net()
						if got := impl.IsEmptyNet(net); got != (r == 0) {
							t.Errorf("IsEmptyNet(%s) = %v", n.text(), got)
						}
						if got := impl.IsAtomic(net); got != n.all(func(r int) bool { return r != 0 && r&(r-1) == 0 }) {
							t.Errorf("IsAtomic(%s) = %v", n.text(), got)
						}
						if got := impl.NearlyConvexNet(net); got != slices.Contains(rels, r) {
							t.Errorf("NearlyConvexNet(%s) = %v", n.text(), got)
						}
					}
				}
			}
		}
	}
}

func TestKindsOfNetworksExamples(t *testing.T) {
	for text, want := range map[string][3]bool{ // empty, atomic, nearly convex
		"1": {false, true, true}, "2": {false, false, true}, "6": {false, false, true}, "2;0 b 1": {false, true, true}, "2;0 - 1": {true, false, true}, "2;0 bB 1": {false, false, false}, "2;0 bo 1": {false, false, true},
		"3;0 b 1;1 d 2": {false, false, true}, "3;0 b 1;0 b 2;1 d 2": {false, true, true}, "3;0 b 1;0 B 2;1 b 2": {false, true, true}, // has no model
		"3;0 b 1;0 - 2;1 d 2": {true, false, true}, "3;0 - 1;0 bB 2": {true, false, false}, noModelText: {false, false, false},
	} {
		net, ok := impl.ParseNet(text)
		if got := [3]bool{impl.IsEmptyNet(net), impl.IsAtomic(net), impl.NearlyConvexNet(net)}; got != want || !ok {
			t.Errorf("%s is empty, atomic and nearly convex: %v, want %v", text, got, want)
		}
	}
	eachRel(func(r int, letters string) {
		net := plainFree(2).with(0, 1, r).net()
		if impl.IsEmptyNet(net) != (r == 0) || impl.ClosesEmpty(net) != (r == 0) || !impl.IsClosed(net) || impl.IsAtomic(net) != (len(letters) == 1 && r != 0) || impl.NearlyConvexNet(net) != convexRels[plainClosure(r)] {
			t.Errorf("kinds of the network of two nodes with %s", letters)
		}
	})
}

func TestAddRel(t *testing.T) {
	for at, n := range openNets {
		for i := range n {
			for k := range n {
				r := someRels[(at*7+i*31+k*11)%len(someRels)]
				got, ok := impl.AddRel(n.net(), i, k, r)
				if i == k {
					wantNoNet(t, got, ok, "AddRel(%s, %d, %d, %d)", n.text(), i, k, r)
					continue
				}
				want, _ := n.with(i, k, n[i][k]&r).closed()
				wantNet(t, got, ok, want, "AddRel(%s, %d, %d, %d)", n.text(), i, k, r)
			}
		}
	}
}

func TestAddRelExamples(t *testing.T) {
	for _, c := range []struct {
		text, rel string
		i, k      int
		want      string
	}{
		{"3;0 b 1;1 d 2", "sd", 0, 2, "3;0 b 1;0 sd 2;1 d 2"}, {"3;0 b 1;1 d 2", "sdB", 0, 2, "3;0 b 1;0 sd 2;1 d 2"}, {"3;0 b 1;1 d 2", "SD", 2, 0, "3;0 b 1;0 sd 2;1 d 2"},
		{"3;0 b 1;1 d 2", basicLetters, 1, 2, "3;0 b 1;0 bmosd 2;1 d 2"}, {"3;0 b 1;1 d 2", "B", 0, 2, "3;0 - 1;0 - 2;1 - 2"}, {"3;0 b 1;1 d 2", "-", 0, 1, "3;0 - 1;0 - 2;1 - 2"},
		{"3;0 b 1;1 d 2", "m", 0, 1, "3;0 - 1;0 - 2;1 - 2"}, {"2;0 bm 1", "mo", 0, 1, "2;0 m 1"}, {"2;0 bm 1", "mo", 1, 0, "2;0 - 1"}, {"3;0 b 1", "b", 1, 2, "3;0 b 1;0 b 2;1 b 2"},
		{"3;0 b 1", "b", 2, 1, "3;0 b 1;1 B 2"}, {"6;0 b 4", "e", 5, 4, "6;0 b 4;0 b 5;4 e 5"},
	} {
		net, _ := impl.ParseNet(c.text)
		got, ok := impl.AddRel(net, c.i, c.k, plainRel(c.rel))
		if impl.FormatNet(got) != c.want || !ok {
			t.Errorf("AddRel(%s, %d, %d, %s) = %s, %v, want %s", c.text, c.i, c.k, c.rel, impl.FormatNet(got), ok, c.want)
		}
	}
	for _, text := range []string{"1", "2", "3;0 - 1;0 - 2;1 - 2", "6;0 b 1"} {
		net, _ := impl.ParseNet(text)
		for _, r := range noRels {
			got, ok := impl.AddRel(net, 0, 1, r)
			wantNoNet(t, got, ok, "AddRel(%s, 0, 1, %d)", text, r)
		}
		for _, no := range append(slices.Clone(otherNodes), net.Size) {
			got, ok := impl.AddRel(net, 0, no, 1)
			wantNoNet(t, got, ok, "AddRel(%s, 0, %d, 1)", text, no)
			got, ok = impl.AddRel(net, no, 0, 1)
			wantNoNet(t, got, ok, "AddRel(%s, %d, 0, 1)", text, no)
		}
		got, ok := impl.AddRel(net, 0, 0, 64)
		wantNoNet(t, got, ok, "AddRel(%s, 0, 0, 64)", text)
	}
}

// Lists of steps share no memory, and no call depends on an earlier one.
func TestStepsShareNoMemory(t *testing.T) {
	for _, n := range openNets {
		first, _ := impl.CloseSteps(n.net())
		kept := slices.Clone(first)
		for i := range first {
			first[i] = ""
		}
		_ = append(first, "")
		if second, ok := impl.CloseSteps(n.net()); !slices.Equal(second, kept) || !ok {
			t.Errorf("CloseSteps(%s) = %q, then %q", n.text(), kept, second)
		}
	}
}
