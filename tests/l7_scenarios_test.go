package tests

import (
	"fmt"
	"math/bits"
	"math/rand"
	"slices"
	"testing"

	"loop.example/intervalsandplaces/impl"
)

// These tests hold promise 7, "A network is consistent exactly if it has a
// scenario, which is that of a model.", against the networks of all plans of at
// most 4 intervals, and for more nodes against models that are looked for, and
// against choices of which all triangles are seen to hold.

// plainPairs returns the pairs of so many nodes, in order.
func plainPairs(size int) [][2]int {
	list := [][2]int{}
	for i := range size {
		for k := i + 1; k < size; k++ {
			list = append(list, [2]int{i, k})
		}
	}
	return list
}

// A plainChoice has the basic relation of each pair, in order.
type plainChoice []int

// plainScenarios returns the basic relations that the pairs of so many intervals
// have in some plan, each once, and those with earlier letters first.
func plainScenarios(size int) []plainChoice {
	pairs := plainPairs(size)
	seen := map[int]plainChoice{}
	var extend func(list []int)
	extend = func(list []int) {
		if len(list) < size {
			for a := range pointIntervals {
				if pointIntervals[a].To < 2*size {
					extend(append(slices.Clone(list), a))
				}
			}
			return
		}
		place, choice := 0, plainChoice{}
		for _, p := range pairs {
			b := basicsOfPoints[list[p[0]]][list[p[1]]]
			place = 13*place + bits.TrailingZeros(uint(b))
			choice = append(choice, b)
		}
		seen[place] = choice
	}
	extend(nil)
	places := []int{}
	for place := range seen {
		places = append(places, place)
	}
	slices.Sort(places)
	list := []plainChoice{}
	for _, place := range places {
		list = append(list, seen[place])
	}
	return list
}

// allScenarios has plainScenarios of each size up to 4.
var allScenarios = [...][]plainChoice{1: plainScenarios(1), 2: plainScenarios(2), 3: plainScenarios(3), 4: plainScenarios(4)}

// chosen returns the network that has just the basic relations of a choice.
func (n plainNet) chosen(c plainChoice) plainNet {
	for at, p := range plainPairs(len(n)) {
		n = n.with(p[0], p[1], c[at])
	}
	return n
}

// scenarios returns the scenarios of a network of at most 4 nodes, in order.
func (n plainNet) scenarios() []plainChoice {
	allowed := plainChoice{}
	for _, p := range plainPairs(len(n)) {
		allowed = append(allowed, n[p[0]][p[1]])
	}
	list := []plainChoice{}
choices:
	for _, c := range allScenarios[len(n)] {
		for at, b := range c {
			if allowed[at]&b == 0 {
				continue choices
			}
		}
		list = append(list, c)
	}
	return list
}

// minimalOf returns the network of all basic relations of some choices.
func minimalOf(size int, list []plainChoice) plainNet {
	n := plainFree(size)
	for at, p := range plainPairs(size) {
		r := 0
		for _, c := range list {
			r |= c[at]
		}
		n = n.with(p[0], p[1], r)
	}
	return n
}

// hasModel reports whether the network has a model.
func (n plainNet) hasModel() bool {
	return n.model() != nil
}

// weakest returns the pairs with which alone a network loses its models.
func (n plainNet) weakest() []string {
	list := []string{}
	if n.hasModel() {
		return list
	}
	for _, p := range plainPairs(len(n)) {
		if n.with(p[0], p[1], allBasics).hasModel() {
			list = append(list, fmt.Sprintf("%d %s %d", p[0], plainLetters(n[p[0]][p[1]]), p[1]))
		}
	}
	return list
}

// netOfText returns the network with a text that is valid.
func netOfText(text string) plainNet {
	net, ok := impl.ParseNet(text)
	if !ok {
		panic(text)
	}
	n := plainFree(net.Size)
	for i := range n {
		for k := range n {
			n[i][k] = impl.RelIn(net, i, k)
		}
	}
	return n
}

// allPairs returns the network of so many nodes in which each pair i less than k
// has the same relation.
func allPairs(size int, letters string) plainNet {
	n := plainFree(size)
	for _, p := range plainPairs(size) {
		n = n.with(p[0], p[1], plainRel(letters))
	}
	return n
}

// randomNet returns a network of relations of which each has one basic relation
// more or less likely.
func randomNet(random *rand.Rand, size, share int) plainNet {
	n := plainFree(size)
	for _, p := range plainPairs(size) {
		r := 0
		for b := range 13 {
			if random.Intn(13) < share {
				r |= 1 << b
			}
		}
		n = n.with(p[0], p[1], r)
	}
	return n
}

// closedNoModels are texts of networks that close without becoming empty, but
// have no model; most of them are not closed themselves.
var closedNoModels = []string{
	noModelText,
	"4;0 seD 1;0 oeO 2;0 bsFDSM 3;1 fS 2;1 bfFM 3;2 mS 3",
	"4;0 sFS 1;0 FO 2;0 mfSB 3;1 dDM 2;1 O 3;2 sO 3",
	"4;0 d 1;0 mofDS 2;0 boeDB 3;1 osfeO 2;1 odS 3;2 mM 3",
	"4;0 sfD 1;0 dDSOB 2;0 mB 3;1 sf 2;1 osSO 3;2 fD 3",
	"5;0 mO 1;0 mO 2;0 sf 3;1 bB 2;1 sf 3;2 d 3",
	"5;1 mO 2;1 mO 3;1 sf 4;2 bB 3;2 sf 4;3 d 4",
	"5;0 FB 1;0 mseB 2;0 sdSO 3;0 bdfeDOB 4;1 osdfDSM 2;1 bfDO 3;1 bmeOB 4;2 bfM 3;2 sdF 4;3 sdFDM 4",
	"5;0 boeFOB 1;0 bsfFDO 2;0 mosfF 3;0 mB 4;1 oeSM 2;1 msdS 3;1 oFO 4;2 bmsOB 3;2 oFD 4;3 osSO 4",
	"5;0 msdDS 1;0 dDS 2;0 dDO 3;0 bdO 4;1 boSMB 2;1 fFDMB 3;1 osf 4;2 msfeB 3;2 mdD 4;3 bmFOM 4",
	"6;0 mO 1;0 mO 2;0 sf 3;1 bB 2;1 sf 3;2 d 3;3 b 4",
	"6;0 sfeFDSMB 1;0 bsFDSO 2;0 bmsfS 3;0 dfMB 4;0 bosfeSM 5;1 mseM 2;1 osdfSM 3;1 bmsfFSOB 4;1 bmO 5;2 bmsSOB 3;2 sdD 4;2 mdfM 5;3 modOMB 4;3 eFSMB 5;4 mFD 5",
	"6;0 mdSOM 1;0 sfeF 2;0 odfFDOB 3;0 odeM 4;0 osdfeFDO 5;1 fFDB 2;1 oeFSO 3;1 mosfFDSM 4;1 moSB 5;2 beFDSB 3;2 boseDB 4;2 oDSM 5;3 bosfDOB 4;3 mFM 5;4 mofeDOM 5",
	"6;0 feDMB 1;0 osDMB 2;0 boeO 3;0 bosfSOM 4;0 fFO 5;1 ofFS 2;1 sB 3;1 deFS 4;1 bmodSOB 5;2 msdeDM 3;2 osfDSM 4;2 bmfFB 5;3 dfFDS 4;3 ofB 5;4 sdeFM 5",
}

// smallNets has networks of at most 4 nodes, with models and without.
var smallNets = plainSmallNets()

func plainSmallNets() []plainNet {
	random := rand.New(rand.NewSource(11))
	list := []plainNet{}
	for _, n := range openNets {
		if len(n) <= 4 {
			list = append(list, n)
		}
	}
	for share := 1; share <= 13; share++ {
		for range 8 {
			list = append(list, randomNet(random, 2, share), randomNet(random, 3, share), randomNet(random, 4, share))
		}
	}
	for _, text := range closedNoModels {
		if n := netOfText(text); len(n) == 4 {
			list = append(list, n)
		}
	}
	return list
}

// largeNets has networks of 5 and 6 nodes, with models and without, of which it
// can be told quickly.
var largeNets = plainLargeNets()

func plainLargeNets() []plainNet {
	random := rand.New(rand.NewSource(12))
	list := []plainNet{}
	for _, n := range knownNets() {
		if len(n.plainNet) > 4 {
			list = append(list, n.plainNet)
		}
	}
	for share := 3; share <= 6; share++ {
		for range 8 {
			list = append(list, randomNet(random, 5, share), randomNet(random, 6, share))
		}
	}
	for _, text := range closedNoModels {
		if n := netOfText(text); len(n) > 4 {
			list = append(list, n)
		}
	}
	return list
}

func TestAllScenarios(t *testing.T) {
	for size, want := range []int{1: 1, 2: 13, 3: 409, 4: 23917} {
		if got := len(allScenarios[size]); size > 0 && got != want {
			t.Errorf("%d intervals have %d scenarios, want %d", size, got, want)
		}
	}
}

func TestIsScenario(t *testing.T) {
	for _, n := range slices.Concat(smallNets, largeNets, openNets) {
		want := n.isClosed() && n.all(func(r int) bool { return r != 0 && r&(r-1) == 0 })
		if got := impl.IsScenario(n.net()); got != want {
			t.Errorf("IsScenario(%s) = %v", n.text(), got)
		}
	}
	for text, want := range map[string]bool{
		"1": true, "2": false, "6": false, "2;0 e 1": true, "2;0 - 1": false, "2;0 bm 1": false, "3;0 b 1;0 b 2;1 b 2": true, "3;0 b 1;0 B 2;1 b 2": false, "3;0 b 1;1 b 2": false,
		"3;0 b 1;0 - 2;1 b 2": false, "3;0 - 1;0 - 2;1 - 2": false, "3;0 b 1;0 bm 2;1 b 2": false, noModelText: false,
	} {
		if got := impl.IsScenario(netOfText(text).net()); got != want {
			t.Errorf("IsScenario(%s) = %v", text, got)
		}
	}
}

// Of all choices of basic relations for three nodes, exactly those are scenarios
// that some plan has.
func TestIsScenarioOfThree(t *testing.T) {
	at := 0
	for place := range 13 * 13 * 13 {
		c := plainChoice{1 << (place / 169), 1 << (place / 13 % 13), 1 << (place % 13)}
		n := plainFree(3).chosen(c)
		want := at < len(allScenarios[3]) && slices.Equal(allScenarios[3][at], c)
		if want {
			at++
		}
		if got := impl.IsScenario(n.net()); got != want {
			t.Errorf("IsScenario(%s) = %v", n.text(), got)
		}
		count := 0
		if want {
			count = 1
		}
		if got := impl.CountScenarios(n.net()); got != count {
			t.Errorf("CountScenarios(%s) = %d, want %d", n.text(), got, count)
		}
	}
	if at != 409 {
		t.Errorf("%d of 409 scenarios are met", at)
	}
}

// The network of a plan is a scenario, and the first and only one of itself.
func TestScenariosOfPlans(t *testing.T) {
	for size := 1; size <= impl.MaxNodes; size++ {
		for at := range min(len(plans[size]), 150) {
			list := plans[size][at*7919%len(plans[size])]
			net, _ := impl.NetOf(list)
			first, ok := impl.FirstScenario(net)
			if !impl.IsScenario(net) || first != net || !ok || !impl.IsConsistent(net) || impl.CountScenarios(net) != 1 {
				t.Errorf("%s, which is the network of %v, has the first of %d scenarios %s, %v", impl.FormatNet(net), list, impl.CountScenarios(net), impl.FormatNet(first), ok)
			}
			if minimal, ok := impl.MinimalNet(net); ok != (size <= 5) || ok && minimal != net {
				t.Errorf("MinimalNet(%s) = %s, %v", impl.FormatNet(net), impl.FormatNet(minimal), ok)
			}
		}
	}
}

// wantFirst checks FirstScenario, which is nil if there is none.
func wantFirst(t *testing.T, n plainNet, want plainNet) {
	t.Helper()
	got, ok := impl.FirstScenario(n.net())
	if want == nil {
		wantNoNet(t, got, ok, "FirstScenario(%s)", n.text())
		return
	}
	wantNet(t, got, ok, want, "FirstScenario(%s)", n.text())
}

// wantMinimal checks MinimalNet, which is nil if there is none.
func wantMinimal(t *testing.T, n plainNet, want plainNet) {
	t.Helper()
	got, ok := impl.MinimalNet(n.net())
	if want == nil {
		wantNoNet(t, got, ok, "MinimalNet(%s)", n.text())
		return
	}
	wantNet(t, got, ok, want, "MinimalNet(%s)", n.text())
}

func TestScenariosOfSmallNetworks(t *testing.T) {
	for _, n := range smallNets {
		list := n.scenarios()
		if got := impl.IsConsistent(n.net()); got != (len(list) > 0) {
			t.Errorf("IsConsistent(%s) = %v", n.text(), got)
		}
		if got := impl.CountScenarios(n.net()); got != min(len(list), 2000) {
			t.Errorf("CountScenarios(%s) = %d, want %d", n.text(), got, min(len(list), 2000))
		}
		if len(list) == 0 {
			wantFirst(t, n, nil)
			wantMinimal(t, n, nil)
			continue
		}
		wantFirst(t, n, plainFree(len(n)).chosen(list[0]))
		wantMinimal(t, n, minimalOf(len(n), list))
	}
}

// A network is consistent exactly if it has a model; its first scenario is that
// of a model, and has the first basic relation that is left at each pair.
func TestScenariosOfLargeNetworks(t *testing.T) {
	var with, without [impl.MaxNodes + 1]int
	for _, n := range largeNets {
		consistent := n.hasModel()
		if got := impl.IsConsistent(n.net()); got != consistent {
			t.Errorf("IsConsistent(%s) = %v", n.text(), got)
		}
		if !consistent {
			without[len(n)]++
			wantFirst(t, n, nil)
			wantMinimal(t, n, nil)
			if got := impl.CountScenarios(n.net()); got != 0 {
				t.Errorf("CountScenarios(%s) = %d, want 0", n.text(), got)
			}
			continue
		}
		with[len(n)]++
		first, _ := impl.FirstScenario(n.net())
		model := netOfText(impl.FormatNet(first)).model()
		if !n.holds(model) || plainNetOf(model).net() != first {
			t.Errorf("FirstScenario(%s) = %s is not the network of a model", n.text(), impl.FormatNet(first))
		}
	}
	for size := 5; size <= impl.MaxNodes; size++ {
		if with[size] < 30 || without[size] < 10 {
			t.Errorf("of %d nodes, %d networks have a model and %d have none", size, with[size], without[size])
		}
	}
}

// first chooses for each pair the first basic relation that leaves a model.
func (n plainNet) first() plainNet {
	for _, p := range plainPairs(len(n)) {
		for b := 1; b <= allBasics; b *= 2 {
			if chosen := n.with(p[0], p[1], b); n[p[0]][p[1]]&b != 0 && chosen.hasModel() {
				n = chosen
				break
			}
		}
	}
	return n
}

// minimal has all basic relations that leave a model.
func (n plainNet) minimal() plainNet {
	minimal := plainFree(len(n))
	for _, p := range plainPairs(len(n)) {
		r := 0
		for b := 1; b <= allBasics; b *= 2 {
			if n[p[0]][p[1]]&b != 0 && n.with(p[0], p[1], b).hasModel() {
				r |= b
			}
		}
		minimal = minimal.with(p[0], p[1], r)
	}
	return minimal
}

func TestFirstScenarioOfLargeNetworks(t *testing.T) {
	for at := 0; at < len(largeNets); at += 3 {
		if n := largeNets[at]; impl.IsConsistent(n.net()) {
			wantFirst(t, n, n.first())
		}
	}
}

func TestMinimalNetOfLargeNetworks(t *testing.T) {
	for at, n := range largeNets {
		if len(n) == 6 {
			wantMinimal(t, n, nil)
		} else if at%3 == 0 && impl.IsConsistent(n.net()) {
			wantMinimal(t, n, n.minimal())
		}
	}
}

// countChoices counts the choices of which all triangles hold, node by node, up to
// one more than are told of.
func (n plainNet) countChoices() int {
	pairs := [][2]int{}
	for k := range n {
		for i := range k {
			pairs = append(pairs, [2]int{i, k})
		}
	}
	count := 0
	var choose func(n plainNet, at int)
	choose = func(n plainNet, at int) {
		if count > 2000 {
			return
		}
		if at == len(pairs) {
			count++
			return
		}
		i, k := pairs[at][0], pairs[at][1]
		left := n[i][k]
		for by := range i {
			left &= plainTriangle(n, i, k, by)
		}
		for b := 1; b <= allBasics; b *= 2 {
			if left&b != 0 {
				choose(n.with(i, k, b), at+1)
			}
		}
	}
	choose(n, 0)
	return count
}

func TestCountScenariosOfLargeNetworks(t *testing.T) {
	counted := 0
	for _, n := range largeNets {
		closed, _ := impl.CloseNet(n.net())
		if impl.CountChoices(closed) > 20000000 {
			continue
		}
		counted++
		if got, want := impl.CountScenarios(n.net()), min(n.countChoices(), 2000); got != want {
			t.Errorf("CountScenarios(%s) = %d, want %d", n.text(), got, want)
		}
	}
	if counted < 50 {
		t.Errorf("only %d networks are counted", counted)
	}
}

func TestCountScenariosExamples(t *testing.T) {
	if impl.MaxScenarios != 2000 {
		t.Errorf("MaxScenarios = %d", impl.MaxScenarios)
	}
	for text, want := range map[string]int{
		"1": 1, "2": 13, "3": 409, "4": 2000, "5": 2000, "6": 2000, "2;0 - 1": 0, "6;4 - 5": 0, "2;0 bm 1": 2, "3;0 b 1;1 d 2": 5, "3;0 b 1;0 B 2;1 b 2": 0,
		"5;0 e 1;0 e 2;0 e 3;0 e 4": 1, "6;0 b 1;1 b 2;2 b 3;3 b 4;4 b 5": 1, noModelText: 0,
		// One less than the limit, just as many, and one more.
		"4;0 bmsfeFDSOMB 1;0 bmosfeFSOMB 2;0 bmosdfDM 3;1 msdfFDO 2;1 bosfeFSOMB 3;2 bmsdfeFSOMB 3":                                                                                      1999,
		"6;0 sdfFDSOM 1;0 osdeDOM 2;0 boseFSMB 3;0 odDSB 4;0 mosfeFO 5;1 bmeFDSO 2;1 bmfFSO 3;1 bosdeFDSOB 4;1 mosfDSOM 5;2 bmsfB 3;2 sdfFDSOMB 4;2 bmsdMB 5;3 s 4;3 mosdFSO 5;4 boDM 5": 1999,
		"4;0 bmdeFDSMB 1;0 bmosdeFDSB 2;0 mofSB 3;1 bmsdfeFOMB 2;1 bmosfeDOMB 3;2 bmdfeDSMB 3":                                                                                           2000,
		"4;0 msdFDSOB 1;0 bmofeDSB 2;0 bmeFDOMB 3;1 bsDOM 2;1 bmosdeDSB 3;2 bmosdfeDSOB 3":                                                                                               2000,
	} {
		if got := impl.CountScenarios(netOfText(text).net()); got != want {
			t.Errorf("CountScenarios(%s) = %d, want %d", text, got, want)
		}
	}
	// Orders of up to six, and orders in which some are equal.
	for size, want := range []int{1: 1, 2: 2, 3: 6, 4: 24, 5: 120, 6: 720} {
		for _, letters := range []string{"bB", "dD", "oO", "sS", "fF"} {
			if n := allPairs(size, letters); size > 0 && impl.CountScenarios(n.net()) != want {
				t.Errorf("CountScenarios(%s) = %d, want %d", n.text(), impl.CountScenarios(n.net()), want)
			}
		}
	}
	for size, want := range []int{1: 1, 2: 3, 3: 13, 4: 75, 5: 541, 6: 2000} {
		for _, letters := range []string{"beB", "deD", "seS", "feF"} {
			if n := allPairs(size, letters); size > 0 && impl.CountScenarios(n.net()) != want {
				t.Errorf("CountScenarios(%s) = %d, want %d", n.text(), impl.CountScenarios(n.net()), want)
			}
		}
	}
}

func TestScenarioExamples(t *testing.T) {
	for _, c := range []struct {
		text, first, minimal string // empty if there is none
	}{
		{"1", "1", "1"}, {"2", "2;0 b 1", "2"}, {"2;0 oM 1", "2;0 o 1", "2;0 oM 1"}, {"2;0 B 1", "2;0 B 1", "2;0 B 1"}, {"2;0 - 1", "", ""},
		{"3", "3;0 b 1;0 b 2;1 b 2", "3"}, {"3;0 b 1;1 d 2", "3;0 b 1;0 b 2;1 d 2", "3;0 b 1;0 bmosd 2;1 d 2"}, {"3;1 B 2", "3;0 b 1;0 b 2;1 B 2", "3;1 B 2"},
		{"3;0 b 1;0 B 2;1 b 2", "", ""}, {"3;1 - 2", "", ""}, {"3;0 bB 1;0 e 2;1 e 2", "", ""}, {"4;0 bB 1;1 e 2;2 e 3", "4;0 b 1;0 b 2;0 b 3;1 e 2;1 e 3;2 e 3", "4;0 bB 1;0 bB 2;0 bB 3;1 e 2;1 e 3;2 e 3"},
		// Earlier pairs come first, whatever this leaves of later ones.
		{"3;0 bm 1;0 mB 2;1 bB 2", "3;0 b 1;0 m 2;1 B 2", "3;0 bm 1;0 mB 2;1 B 2"}, {"3;0 sS 1;0 e 2;1 s 2", "3;0 S 1;0 e 2;1 s 2", "3;0 S 1;0 e 2;1 s 2"},
		// Pairs that are decided leave one choice after the other.
		{"4;0 b 1;0 bB 3;1 b 2;2 b 3", "4;0 b 1;0 b 2;0 b 3;1 b 2;1 b 3;2 b 3", "4;0 b 1;0 b 2;0 b 3;1 b 2;1 b 3;2 b 3"},
		{"6;0 b 1;0 m 2;0 o 3;0 s 4;0 d 5", "6;0 b 1;0 m 2;0 o 3;0 s 4;0 d 5;1 d 2;1 d 3;1 d 4;1 d 5;2 d 3;2 d 4;2 d 5;3 d 4;3 d 5;4 d 5", ""},
		// Closing leaves basic relations that no scenario has: here, m of 2 and 3, and
		// then d, which is the first one that is left.
		{"4;0 oS 1;0 D 2;0 D 3;1 mO 2;1 oO 3;2 mf 3", "4;0 o 1;0 D 2;0 D 3;1 O 2;1 O 3;2 f 3", "4;0 oS 1;0 D 2;0 D 3;1 mO 2;1 oO 3;2 f 3"},
		{"4;0 mO 1;0 mO 2;0 sf 3;1 bB 2;1 sf 3;2 dM 3", "4;0 O 1;0 m 2;0 f 3;1 b 2;1 s 3;2 M 3", "4;0 O 1;0 m 2;0 f 3;1 b 2;1 s 3;2 M 3"},
		{noModelText, "", ""}, {"6", "6;0 b 1;0 b 2;0 b 3;0 b 4;0 b 5;1 b 2;1 b 3;1 b 4;1 b 5;2 b 3;2 b 4;2 b 5;3 b 4;3 b 5;4 b 5", ""},
	} {
		net := netOfText(c.text).net()
		if first, ok := impl.FirstScenario(net); impl.FormatNet(first) != c.first || ok != (c.first != "") {
			t.Errorf("FirstScenario(%s) = %s, %v, want %s", c.text, impl.FormatNet(first), ok, c.first)
		}
		if minimal, ok := impl.MinimalNet(net); impl.FormatNet(minimal) != c.minimal || ok != (c.minimal != "") {
			t.Errorf("MinimalNet(%s) = %s, %v, want %s", c.text, impl.FormatNet(minimal), ok, c.minimal)
		}
		if got := impl.IsConsistent(net); got != (c.first != "") {
			t.Errorf("IsConsistent(%s) = %v", c.text, got)
		}
	}
}

// That a network closes without becoming empty does not tell that it has a model.
func TestClosedWithoutModels(t *testing.T) {
	for _, text := range closedNoModels {
		n := netOfText(text)
		net := n.net()
		if closed, _ := n.closed(); closed.isEmpty() || n.hasModel() {
			t.Errorf("%s closes empty or has a model", text)
		}
		if impl.IsConsistent(net) || impl.CountScenarios(net) != 0 || impl.IsScenario(net) {
			t.Errorf("%s has %d scenarios", text, impl.CountScenarios(net))
		}
		wantFirst(t, n, nil)
		wantMinimal(t, n, nil)
		for _, p := range plainPairs(len(n)) {
			for _, r := range []int{0, 1, n[p[0]][p[1]], allBasics} {
				if impl.AllowsRel(net, p[0], p[1], r) || !impl.EntailsRel(net, p[0], p[1], r) {
					t.Errorf("%s allows %d %s %d, or does not entail it", text, p[0], plainLetters(r), p[1])
				}
			}
		}
		empty := plainFree(len(n)).with(1, 0, 0).net()
		if got := impl.SameModels(net, empty); got != (len(n) <= 5) {
			t.Errorf("SameModels(%s, %s) = %v", text, impl.FormatNet(empty), got)
		}
		if impl.SameModels(net, plainFree(len(n)).net()) || impl.SameModels(plainFree(len(n)).net(), net) {
			t.Errorf("%s has the models of the network that allows everything", text)
		}
	}
}

// wantTold checks what is told of two nodes that have the basic relations of r in
// some scenarios each, and no other ones.
func wantTold(t *testing.T, n plainNet, i, k, r int) {
	t.Helper()
	net, lowest := n.net(), r&-r
	for _, asked := range []int{0, allBasics, r, allBasics - r, lowest, r - lowest, allBasics - lowest, plainTurn(r), n[i][k], n[i][k] - r} {
		if got := impl.AllowsRel(net, i, k, asked); got != (asked&r != 0) {
			t.Errorf("AllowsRel(%s, %d, %d, %s) = %v", n.text(), i, k, plainLetters(asked), got)
		}
		if got := impl.EntailsRel(net, i, k, asked); got != (r&^asked == 0) {
			t.Errorf("EntailsRel(%s, %d, %d, %s) = %v", n.text(), i, k, plainLetters(asked), got)
		}
	}
}

func TestAllowsAndEntailsRel(t *testing.T) {
	for at, n := range smallNets {
		minimal := minimalOf(len(n), n.scenarios())
		for _, p := range plainPairs(len(n)) {
			i, k := p[at%2], p[1-at%2] // in either order
			wantTold(t, n, i, k, minimal[i][k])
		}
	}
	for at := 0; at < len(largeNets); at += 9 {
		n := largeNets[at]
		minimal := n.minimal()
		for _, p := range plainPairs(len(n)) {
			i, k := p[at%2], p[1-at%2]
			wantTold(t, n, i, k, minimal[i][k])
		}
	}
}

func TestAllowsAndEntailsRelExamples(t *testing.T) {
	for _, c := range []struct {
		text              string
		i, k              int
		rel               string
		allowed, entailed bool
	}{
		{"3;0 b 1;1 d 2", 0, 2, "bmosd", true, true}, {"3;0 b 1;1 d 2", 2, 0, "DSOMB", true, true}, {"3;0 b 1;1 d 2", 0, 2, "bmos", true, false}, {"3;0 b 1;1 d 2", 0, 2, "feFDSOMB", false, false},
		{"3;0 b 1;1 d 2", 0, 2, "-", false, false}, {"3;0 b 1;1 d 2", 0, 1, basicLetters, true, true}, {"3;0 b 1;1 d 2", 1, 0, "b", false, false}, {"3;0 b 1;1 d 2", 1, 0, "B", true, true},
		{"3;0 b 1;0 B 2;1 b 2", 0, 1, "b", false, true}, {"3;0 b 1;0 B 2;1 b 2", 0, 1, "-", false, true}, {"2;0 - 1", 0, 1, basicLetters, false, true}, {"2;0 - 1", 1, 0, "-", false, true},
		{"6;0 b 1;1 b 2;2 b 3;3 b 4;4 b 5", 0, 5, "b", true, true}, {"6;0 b 1;1 b 2;2 b 3;3 b 4;4 b 5", 5, 0, "b", false, false}, {"6", 4, 5, "e", true, false},
		{"4;0 oS 1;0 D 2;0 D 3;1 mO 2;1 oO 3;2 mf 3", 2, 3, "m", false, false}, {"4;0 oS 1;0 D 2;0 D 3;1 mO 2;1 oO 3;2 mf 3", 2, 3, "f", true, true},
	} {
		net := netOfText(c.text).net()
		if got := impl.AllowsRel(net, c.i, c.k, plainRel(c.rel)); got != c.allowed {
			t.Errorf("AllowsRel(%s, %d, %d, %s) = %v", c.text, c.i, c.k, c.rel, got)
		}
		if got := impl.EntailsRel(net, c.i, c.k, plainRel(c.rel)); got != c.entailed {
			t.Errorf("EntailsRel(%s, %d, %d, %s) = %v", c.text, c.i, c.k, c.rel, got)
		}
	}
}

// Of nodes and relations that are none, nothing is allowed and nothing entailed,
// even in networks without models.
func TestAllowsAndEntailsRelOfOthers(t *testing.T) {
	wantNeither := func(net impl.Net, i, k, r int) {
		t.Helper()
		if impl.AllowsRel(net, i, k, r) || impl.EntailsRel(net, i, k, r) {
			t.Errorf("%v allows or entails %d, %d, %d", net, i, k, r)
		}
	}
	for _, text := range []string{"1", "2", "2;0 - 1", "3;0 b 1;0 B 2;1 b 2", "6", noModelText} {
		net := netOfText(text).net()
		for _, r := range []int{0, 1, 64, allBasics} {
			for _, no := range append(slices.Clone(otherNodes), net.Size) {
				wantNeither(net, 0, no, r)
				wantNeither(net, no, 0, r)
				wantNeither(net, no, no, r)
			}
			for i := range net.Size {
				wantNeither(net, i, i, r)
			}
		}
		for _, r := range noRels {
			wantNeither(net, 0, 1, r)
			wantNeither(net, 1, 0, r)
		}
	}
}

func TestScenariosOfNoNetworks(t *testing.T) {
	for _, no := range noNets {
		if impl.IsScenario(no) || impl.IsConsistent(no) {
			t.Errorf("%v, which is no network, is a scenario or consistent", no)
		}
		if got := impl.CountScenarios(no); got != -1 {
			t.Errorf("CountScenarios(%v) = %d, want -1", no, got)
		}
		got, ok := impl.FirstScenario(no)
		wantNoNet(t, got, ok, "FirstScenario(%v)", no)
		got, ok = impl.MinimalNet(no)
		wantNoNet(t, got, ok, "MinimalNet(%v)", no)
		for _, r := range []int{0, 1, allBasics, -1} {
			if impl.AllowsRel(no, 0, 1, r) || impl.EntailsRel(no, 0, 1, r) {
				t.Errorf("%v, which is no network, allows or entails %d", no, r)
			}
		}
		if got := impl.WeakestPairs(no); len(got) != 0 {
			t.Errorf("WeakestPairs(%v) = %q", no, got)
		}
		for _, other := range []impl.Net{no, plainFree(1).net(), plainFree(2).net(), plainFree(2).with(0, 1, 0).net(), {}} {
			if impl.SameModels(no, other) || impl.SameModels(other, no) {
				t.Errorf("SameModels of %v, which is no network, and %v", no, other)
			}
		}
	}
}

func TestWeakestPairs(t *testing.T) {
	some := 0
	for _, n := range slices.Concat(smallNets, largeNets) {
		want := n.weakest()
		if len(want) > 0 {
			some++
		}
		if got := impl.WeakestPairs(n.net()); !slices.Equal(got, want) {
			t.Errorf("WeakestPairs(%s) = %q, want %q", n.text(), got, want)
		}
	}
	if some < 30 {
		t.Errorf("only %d networks have weakest pairs", some)
	}
	for text, want := range map[string][]string{
		"1": nil, "6": nil, "2;0 - 1": {"0 - 1"}, "2;0 b 1": nil, "3;0 bB 1;0 bB 2;1 bB 2": nil,
		"3;0 b 1;0 B 2;1 b 2": {"0 b 1", "0 B 2", "1 b 2"}, "4;0 b 1;0 B 2;1 b 2;2 bm 3": {"0 b 1", "0 B 2", "1 b 2"}, "4;1 b 2;1 B 3;2 b 3": {"1 b 2", "1 B 3", "2 b 3"},
		"3;0 - 1": {"0 - 1"}, "3;0 - 1;1 - 2": nil, "6;1 b 2;4 - 5": {"4 - 5"}, "3;0 - 1;0 b 2;1 B 2": {"0 - 1"},
		"4;0 b 1;0 B 2;0 B 3;1 b 2;1 b 3":       {"0 b 1"},                             // two triangles with one pair
		"6;0 b 1;0 B 2;1 b 2;3 b 4;3 B 5;4 b 5": nil,                                   // two triangles without one
		"5;0 e 1;0 bB 3;1 e 2;2 e 3;3 b 4":      {"0 e 1", "0 bB 3", "1 e 2", "2 e 3"}, // the last pair does not matter
		noModelText:                             {"0 mO 1", "0 mO 2", "0 sf 3", "1 bB 2", "1 sf 3", "2 d 3"},
	} {
		if got := impl.WeakestPairs(netOfText(text).net()); !slices.Equal(got, want) {
			t.Errorf("WeakestPairs(%s) = %q, want %q", text, got, want)
		}
	}
}

// Networks have the same models exactly if they have the same scenarios.
func TestSameModelsOfSmallNetworks(t *testing.T) {
	random := rand.New(rand.NewSource(13))
	var same, different int
	for _, n := range smallNets {
		closed, _ := n.closed()
		own := n.scenarios()
		others := []plainNet{n, closed, minimalOf(len(n), own), smallNets[random.Intn(len(smallNets))], plainFree(len(n)), plainFree(len(n) + 1)}
		for _, p := range plainPairs(len(n)) {
			others = append(others, n.with(p[0], p[1], n[p[0]][p[1]]^1<<random.Intn(13)), n.with(p[0], p[1], n[p[0]][p[1]]&^(1<<random.Intn(13))), n.with(p[0], p[1], 0))
		}
		for _, m := range others {
			want := len(m) == len(n) && slices.EqualFunc(m.scenarios(), own, slices.Equal[plainChoice])
			if impl.SameModels(m.net(), n.net()) != want || impl.SameModels(n.net(), m.net()) != want {
				t.Errorf("SameModels(%s, %s) = %v", m.text(), n.text(), !want)
			}
			if want {
				same++
			} else {
				different++
			}
		}
	}
	if same < 500 || different < 500 {
		t.Errorf("%d have the same models, %d have not", same, different)
	}
}

func TestSameModelsOfLargeNetworks(t *testing.T) {
	for at, n := range largeNets {
		closed, _ := n.closed()
		if got := impl.SameModels(n.net(), closed.net()); got != (len(n) == 5) {
			t.Errorf("SameModels(%s, %s) = %v", n.text(), closed.text(), got)
		}
		if len(n) == 6 || at%4 > 0 {
			continue
		}
		minimal := n.minimal()
		for _, p := range plainPairs(len(n)) {
			for b := 1; b <= allBasics; b *= 2 {
				// What no model has may be taken away, and what some model has may not.
				less := n.with(p[0], p[1], n[p[0]][p[1]]&^b)
				want := minimal[p[0]][p[1]]&b == 0
				if impl.SameModels(less.net(), n.net()) != want || impl.SameModels(n.net(), less.net()) != want {
					t.Errorf("SameModels(%s, %s) = %v", less.text(), n.text(), !want)
				}
			}
		}
	}
}

func TestSameModelsExamples(t *testing.T) {
	for _, c := range []struct {
		m, n string
		want bool
	}{
		{"1", "1", true}, {"2", "2", true}, {"5", "5", true}, {"6", "6", false}, {"6;0 b 1", "6;0 b 1", false}, {"6;0 - 1", "6;0 - 1", false}, {"1", "2", false}, {"2;0 - 1", "3;0 - 1", false}, {"5", "6", false},
		{"3;0 b 1;1 d 2", "3;0 b 1;0 bmosd 2;1 d 2", true}, {"3;0 b 1;1 d 2", "3;0 b 1;0 bmosdf 2;1 d 2", true}, {"3;0 b 1;1 d 2", "3;0 b 1;0 bmos 2;1 d 2", false},
		{"3;0 - 1", "3;1 - 2", true}, {"3;0 - 1", "3;0 b 1;0 B 2;1 b 2", true}, {"3;0 - 1", "3", false}, {"3", "3;0 - 1", false}, {"5;0 - 1", "5;0 b 1;0 B 4;1 b 4", true},
		{"2;0 b 1", "2;0 bm 1", false}, {"2;0 bm 1", "2;0 b 1", false}, {"2;0 b 1", "2;0 B 1", false}, {"2;0 b 1", "2;0 - 1", false},
		{"4;0 oS 1;0 D 2;0 D 3;1 mO 2;1 oO 3;2 mf 3", "4;0 oS 1;0 D 2;0 D 3;1 mO 2;1 oO 3;2 f 3", true},
		{"5;0 e 1;1 e 2;2 e 3;3 e 4", "5;0 e 1;0 e 2;0 e 3;0 e 4", true}, {"5;0 e 1;1 e 2;2 e 3", "5;0 e 1;0 e 2;0 e 3;0 e 4", false},
	} {
		if got := impl.SameModels(netOfText(c.m).net(), netOfText(c.n).net()); got != c.want {
			t.Errorf("SameModels(%s, %s) = %v", c.m, c.n, got)
		}
	}
}

// Neither the order of nodes nor the direction of time matters.
func TestScenariosOfRenamedNodes(t *testing.T) {
	random := rand.New(rand.NewSource(14))
	for at, n := range slices.Concat(smallNets, largeNets) {
		if at%4 != 0 {
			continue
		}
		nodes := random.Perm(len(n))
		mirrored, _ := impl.MirrorNet(n.net())
		renamed := n.renamed(nodes)
		for _, other := range []impl.Net{renamed.net(), mirrored} {
			if impl.CountScenarios(other) != impl.CountScenarios(n.net()) || impl.IsConsistent(other) != impl.IsConsistent(n.net()) {
				t.Errorf("%s has %d scenarios, but %s has %d", impl.FormatNet(other), impl.CountScenarios(other), n.text(), impl.CountScenarios(n.net()))
			}
		}
		minimal, ok := impl.MinimalNet(n.net())
		if !ok {
			wantMinimal(t, renamed, nil)
			continue
		}
		wantMinimal(t, renamed, netOfText(impl.FormatNet(minimal)).renamed(nodes))
		got, _ := impl.MinimalNet(mirrored)
		if want, _ := impl.MirrorNet(minimal); got != want {
			t.Errorf("MinimalNet(%s) = %s, want %s", impl.FormatNet(mirrored), impl.FormatNet(got), impl.FormatNet(want))
		}
	}
}

// Lists of pairs share no memory, and no call depends on an earlier one.
func TestWeakestPairsShareNoMemory(t *testing.T) {
	for _, text := range []string{"3;0 b 1;0 B 2;1 b 2", "2;0 - 1", noModelText} {
		net := netOfText(text).net()
		first := impl.WeakestPairs(net)
		kept := slices.Clone(first)
		for i := range first {
			first[i] = ""
		}
		_ = append(first, "")
		if second := impl.WeakestPairs(net); !slices.Equal(second, kept) {
			t.Errorf("WeakestPairs(%s) = %q, then %q", text, kept, second)
		}
	}
}
