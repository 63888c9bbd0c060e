package tests

import (
	"fmt"
	"math"
	"math/rand"
	"slices"
	"testing"

	"loop.example/intervalsandplaces/impl"
)

// These tests hold promise 8, "A scenario has one packed model, which is found
// from its orders.", against all orders of ends of up to 4 intervals, and against
// plans whose moments are counted one by one.

// plainEndsOfPlan returns the different ends of a plan, in order.
func plainEndsOfPlan(list []impl.Interval) []int {
	ends := []int{}
	for x := -12; x <= 30; x++ {
		if slices.ContainsFunc(list, func(a impl.Interval) bool { return a.From == x || a.To == x }) {
			ends = append(ends, x)
		}
	}
	return ends
}

// plainPacked counts for each end how many different ones are less.
func plainPacked(list []impl.Interval) []impl.Interval {
	packed := []impl.Interval{}
	for _, a := range list {
		var p impl.Interval
		for _, x := range plainEndsOfPlan(list) {
			if x < a.From {
				p.From++
			}
			if x < a.To {
				p.To++
			}
		}
		packed = append(packed, p)
	}
	return packed
}

// plainBusy returns the intervals that begin at x or before, and end after it.
func plainBusy(list []impl.Interval, x int) []int {
	busy := []int{}
	for i := range list {
		for from := list[i].From; from < list[i].To; from++ {
			if from == x {
				busy = append(busy, i)
			}
		}
	}
	return busy
}

// momentPlans are plans of 1 to 6 intervals between the points -12 and 30, all
// of whose moments can be looked at: ends coincide in some of them, and there are
// gaps between intervals.
var momentPlans = plainMomentPlans()

func plainMomentPlans() [][]impl.Interval {
	random := rand.New(rand.NewSource(21))
	list := slices.Concat(plans[1], plans[2], plans[3], plans[4], plans[5], [][]impl.Interval{
		{{From: 0, To: 20}, {From: 20, To: 30}, {From: 10, To: 30}}, // like that of the document
		{{From: -12, To: 30}},                                  // one alone
		{{From: 0, To: 1}, {From: 9, To: 10}},                  // a gap
		{{From: 9, To: 10}, {From: 0, To: 1}},                  // a gap, the other way round
		{{From: 0, To: 1}, {From: 1, To: 2}},                   // no gap
		{{From: 0, To: 9}, {From: 2, To: 3}, {From: 5, To: 6}}, // gaps that are covered
		{{From: 3, To: 7}, {From: 3, To: 7}, {From: 3, To: 7}, {From: 3, To: 7}, {From: 3, To: 7}, {From: 3, To: 7}},               // all ends coincide
		{{From: 0, To: 1}, {From: 2, To: 3}, {From: 4, To: 5}, {From: 6, To: 7}, {From: 8, To: 9}, {From: 10, To: 11}},             // none does
		{{From: -11, To: 27}, {From: -9, To: 25}, {From: -7, To: 23}, {From: -5, To: 21}, {From: -3, To: 19}, {From: -1, To: 17}},  // each within the one before
		{{From: 20, To: 30}, {From: 14, To: 20}, {From: 8, To: 14}, {From: 3, To: 8}, {From: -1, To: 3}, {From: -12, To: -1}},      // a chain backwards
		{{From: -12, To: -11}, {From: 29, To: 30}, {From: -12, To: 2}, {From: 7, To: 30}, {From: -3, To: -2}, {From: 11, To: 12}},  // one gap, in the middle
		{{From: -12, To: -10}, {From: -12, To: -10}, {From: -8, To: 3}, {From: -8, To: 3}, {From: 28, To: 30}, {From: 28, To: 30}}, // pairs, with gaps
		{{From: 0, To: 3}, {From: 1, To: 3}, {From: 2, To: 3}, {From: 3, To: 4}, {From: 3, To: 5}, {From: 3, To: 6}},               // three end where three begin
		{{From: 0, To: 3}, {From: 3, To: 6}, {From: 2, To: 4}, {From: 5, To: 6}, {From: 5, To: 8}, {From: 5, To: 6}},               // the busiest time is not the first
		{{From: 5, To: 6}, {From: 5, To: 7}, {From: 5, To: 8}, {From: 0, To: 9}, {From: -2, To: -1}, {From: 15, To: 16}},           // nor the last
		{{From: -12, To: 30}, {From: -12, To: 0}, {From: 0, To: 30}, {From: -12, To: 30}, {From: -1, To: 0}, {From: 0, To: 1}},     // two halves
		{{From: -5, To: 0}, {From: 0, To: 5}, {From: -5, To: 5}, {From: 6, To: 7}, {From: -8, To: -7}, {From: -8, To: 7}},          // a gap on either side of what meets
		{{From: 1, To: 2}, {From: 1, To: 3}, {From: 1, To: 4}, {From: 1, To: 5}, {From: 1, To: 6}, {From: 1, To: 7}},               // with one begin
		{{From: 0, To: 7}, {From: 1, To: 7}, {From: 2, To: 7}, {From: 3, To: 7}, {From: 4, To: 7}, {From: 5, To: 7}},               // with one end
		{{From: 29, To: 30}, {From: -12, To: -11}, {From: 3, To: 4}, {From: 9, To: 10}, {From: 20, To: 21}, {From: 0, To: 1}},      // moments alone
	})
	for size := 2; size <= impl.MaxNodes; size++ {
		for range 200 {
			plan := []impl.Interval{}
			last := -12 + 4 + random.Intn(39)
			for range size {
				from := -12 + random.Intn(last+12)
				plan = append(plan, impl.Interval{From: from, To: from + 1 + random.Intn(last-from)})
			}
			list = append(list, plan)
		}
	}
	return list
}

// noPlans are lists that are no plans: too short, too long, or with an interval
// that is not valid, at any place.
var noPlans = plainNoPlans()

func plainNoPlans() [][]impl.Interval {
	a := impl.Interval{From: 0, To: 1}
	lists := [][]impl.Interval{nil, {}, slices.Repeat([]impl.Interval{a}, 7), slices.Repeat([]impl.Interval{a}, 8), slices.Repeat([]impl.Interval{a}, 1000), make([]impl.Interval, 6), make([]impl.Interval, 7)}
	for _, no := range noIntervals {
		for size := 1; size <= 7; size++ {
			for at := range size {
				list := slices.Repeat([]impl.Interval{a}, size)
				list[at] = no
				lists = append(lists, list)
			}
		}
	}
	return lists
}

// wantPlan checks a result that is a plan, and true.
func wantPlan(t *testing.T, got []impl.Interval, ok bool, want []impl.Interval, what string, args ...any) {
	t.Helper()
	if !slices.Equal(got, want) || !ok {
		t.Errorf("%s = %v, %v, want %v", fmt.Sprintf(what, args...), got, ok, want)
	}
}

// wantNoPlan checks the result for arguments that are not what they should be.
func wantNoPlan(t *testing.T, got []impl.Interval, ok bool, what string, args ...any) {
	t.Helper()
	if len(got) != 0 || ok {
		t.Errorf("%s = %v, %v, want an empty slice and false", fmt.Sprintf(what, args...), got, ok)
	}
}

// scaled returns the plan with each end times a number, and then greater by
// another one.
func scaled(list []impl.Interval, times, by int) []impl.Interval {
	scaled := []impl.Interval{}
	for _, a := range list {
		scaled = append(scaled, impl.Interval{From: times*a.From + by, To: times*a.To + by})
	}
	return scaled
}

func TestPackModel(t *testing.T) {
	for _, list := range momentPlans {
		want := plainPacked(list)
		got, ok := impl.PackModel(list)
		wantPlan(t, got, ok, want, "PackModel(%v)", list)
		again, ok := impl.PackModel(got)
		wantPlan(t, again, ok, want, "PackModel(%v)", got)
		own, _ := impl.NetOf(list)
		if packed, ok := impl.NetOf(got); packed != own || !ok {
			t.Errorf("PackModel(%v) = %v has another network", list, got)
		}
		// Each end from 0 to the last one is there.
		ends := plainEndsOfPlan(got)
		if ends[0] != 0 || ends[len(ends)-1] != len(ends)-1 || len(ends) != len(plainEndsOfPlan(list)) {
			t.Errorf("PackModel(%v) = %v has the ends %v", list, got, ends)
		}
		wide, ok := impl.PackModel(scaled(list, 33333, -39))
		wantPlan(t, wide, ok, want, "PackModel(%v)", scaled(list, 33333, -39))
	}
}

func TestPackModelExamples(t *testing.T) {
	for _, c := range []struct{ list, want []impl.Interval }{
		{[]impl.Interval{{From: 0, To: 20}, {From: 20, To: 30}, {From: 10, To: 50}}, []impl.Interval{{From: 0, To: 2}, {From: 2, To: 3}, {From: 1, To: 4}}},
		{[]impl.Interval{{From: -1000000, To: 1000000}}, []impl.Interval{{From: 0, To: 1}}},
		{[]impl.Interval{{From: 999999, To: 1000000}, {From: -1000000, To: -999999}}, []impl.Interval{{From: 2, To: 3}, {From: 0, To: 1}}},
		{[]impl.Interval{{From: 7, To: 9}, {From: 7, To: 9}}, []impl.Interval{{From: 0, To: 1}, {From: 0, To: 1}}},
		{[]impl.Interval{{From: 5, To: 8}, {From: -3, To: 5}}, []impl.Interval{{From: 1, To: 2}, {From: 0, To: 1}}},
		{
			[]impl.Interval{{From: 100, To: 101}, {From: 90, To: 102}, {From: 80, To: 103}, {From: 70, To: 104}, {From: 60, To: 105}, {From: 50, To: 106}},
			[]impl.Interval{{From: 5, To: 6}, {From: 4, To: 7}, {From: 3, To: 8}, {From: 2, To: 9}, {From: 1, To: 10}, {From: 0, To: 11}},
		},
	} {
		got, ok := impl.PackModel(c.list)
		wantPlan(t, got, ok, c.want, "PackModel(%v)", c.list)
	}
}

// Plans have the same network exactly if they are packed to the same plan: of
// each scenario there is one packed model.
func TestOnePackedModel(t *testing.T) {
	packedOf := map[impl.Net]string{}
	netOf := map[string]impl.Net{}
	for _, list := range momentPlans {
		net, _ := impl.NetOf(list)
		packed, _ := impl.PackModel(list)
		text := fmt.Sprint(packed)
		if known, ok := packedOf[net]; ok && known != text {
			t.Errorf("%s has the packed models %s and %s", impl.FormatNet(net), known, text)
		}
		if known, ok := netOf[text]; ok && known != net {
			t.Errorf("%s has the networks %s and %s", text, impl.FormatNet(known), impl.FormatNet(net))
		}
		packedOf[net], netOf[text] = text, net
		model, ok := impl.ModelOf(net)
		wantPlan(t, model, ok, packed, "ModelOf(%s)", impl.FormatNet(net))
		found, ok := impl.FindModel(net)
		wantPlan(t, found, ok, packed, "FindModel(%s)", impl.FormatNet(net))
	}
	if len(packedOf) < 1000 || len(packedOf) != len(netOf) {
		t.Errorf("%d networks have %d packed models", len(packedOf), len(netOf))
	}
}

// Of all scenarios of up to three nodes, and of some of four, the model has the
// network, and is packed.
func TestModelOfScenarios(t *testing.T) {
	for size := 1; size <= 4; size++ {
		step := 1
		if size == 4 {
			step = 17
		}
		for at := 0; at < len(allScenarios[size]); at += step {
			n := plainFree(size).chosen(allScenarios[size][at])
			got, ok := impl.ModelOf(n.net())
			if !ok || len(got) != size || plainNetOf(got).net() != n.net() || !impl.NetHolds(n.net(), got) {
				t.Errorf("ModelOf(%s) = %v, %v", n.text(), got, ok)
				continue
			}
			wantPlan(t, got, ok, plainPacked(got), "ModelOf(%s)", n.text())
		}
	}
}

// Of three nodes, exactly those choices have a model that are scenarios.
func TestModelOfThree(t *testing.T) {
	models := 0
	for place := range 13 * 13 * 13 {
		n := plainFree(3).chosen(plainChoice{1 << (place / 169), 1 << (place / 13 % 13), 1 << (place % 13)})
		got, ok := impl.ModelOf(n.net())
		if want := n.isClosed(); ok != want || !ok && len(got) != 0 {
			t.Errorf("ModelOf(%s) = %v, %v", n.text(), got, ok)
		}
		if ok {
			models++
		}
	}
	if models != 409 {
		t.Errorf("%d of 409 scenarios have a model", models)
	}
}

func TestModelOfOtherNetworks(t *testing.T) {
	others := 0
	for _, n := range slices.Concat(smallNets, largeNets, openNets) {
		if n.isClosed() && n.all(func(r int) bool { return r != 0 && r&(r-1) == 0 }) {
			continue
		}
		others++
		got, ok := impl.ModelOf(n.net())
		wantNoPlan(t, got, ok, "ModelOf(%s)", n.text())
	}
	if others < 300 {
		t.Errorf("only %d networks are no scenarios", others)
	}
	for _, text := range []string{
		"2", "6", "2;0 - 1", "2;0 bm 1", "3;0 b 1;1 b 2", "3;0 b 1;0 bm 2;1 b 2", "3;0 b 1;0 B 2;1 b 2", "3;0 b 1;0 - 2;1 b 2", "3;0 - 1;0 - 2;1 - 2",
		"3;0 b 1;0 bmosd 2;1 d 2", // closed, but with a choice
		"4;0 e 1;0 e 2;0 e 3;1 e 2;1 e 3;2 b 3", noModelText,
	} {
		got, ok := impl.ModelOf(netOfText(text).net())
		wantNoPlan(t, got, ok, "ModelOf(%s)", text)
	}
	for _, no := range noNets {
		got, ok := impl.ModelOf(no)
		wantNoPlan(t, got, ok, "ModelOf(%v)", no)
		got, ok = impl.FindModel(no)
		wantNoPlan(t, got, ok, "FindModel(%v)", no)
	}
}

func TestFindModelOfSmallNetworks(t *testing.T) {
	for _, n := range smallNets {
		got, ok := impl.FindModel(n.net())
		list := n.scenarios()
		if len(list) == 0 {
			wantNoPlan(t, got, ok, "FindModel(%s)", n.text())
			continue
		}
		if first := plainFree(len(n)).chosen(list[0]); !ok || len(got) != len(n) || plainNetOf(got).net() != first.net() {
			t.Errorf("FindModel(%s) = %v, %v, want a model of %s", n.text(), got, ok, first.text())
			continue
		}
		wantPlan(t, got, ok, plainPacked(got), "FindModel(%s)", n.text())
	}
}

func TestFindModelOfLargeNetworks(t *testing.T) {
	for _, n := range largeNets {
		got, ok := impl.FindModel(n.net())
		if !n.hasModel() {
			wantNoPlan(t, got, ok, "FindModel(%s)", n.text())
			continue
		}
		first, _ := impl.FirstScenario(n.net())
		if !ok || len(got) != len(n) || !n.holds(got) || plainNetOf(got).net() != first {
			t.Errorf("FindModel(%s) = %v, %v, want a model of %s", n.text(), got, ok, impl.FormatNet(first))
			continue
		}
		wantPlan(t, got, ok, plainPacked(got), "FindModel(%s)", n.text())
		model, ok := impl.ModelOf(first)
		wantPlan(t, model, ok, got, "ModelOf(%s)", impl.FormatNet(first))
	}
}

func TestModelExamples(t *testing.T) {
	for _, c := range []struct {
		text string
		want []impl.Interval // empty if there is none
	}{
		{"1", []impl.Interval{{From: 0, To: 1}}},
		{"2", []impl.Interval{{From: 0, To: 1}, {From: 2, To: 3}}},
		{"2;0 e 1", []impl.Interval{{From: 0, To: 1}, {From: 0, To: 1}}},
		{"2;0 M 1", []impl.Interval{{From: 1, To: 2}, {From: 0, To: 1}}},
		{"2;0 oM 1", []impl.Interval{{From: 0, To: 2}, {From: 1, To: 3}}},
		{"2;0 fD 1", []impl.Interval{{From: 1, To: 2}, {From: 0, To: 2}}},
		{"2;0 - 1", nil},
		{"3;0 m 1;0 o 2;1 d 2", []impl.Interval{{From: 0, To: 2}, {From: 2, To: 3}, {From: 1, To: 4}}},
		{"3;0 d 1;1 d 2", []impl.Interval{{From: 2, To: 3}, {From: 1, To: 4}, {From: 0, To: 5}}},
		{"3;0 b 1;1 d 2", []impl.Interval{{From: 0, To: 1}, {From: 3, To: 4}, {From: 2, To: 5}}},
		{"3;0 b 1;0 d 2;1 d 2", []impl.Interval{{From: 1, To: 2}, {From: 3, To: 4}, {From: 0, To: 5}}}, // of the script of the document
		{"3;0 b 1;0 B 2;1 b 2", nil},
		{"3;0 e 1;1 e 2", []impl.Interval{{From: 0, To: 1}, {From: 0, To: 1}, {From: 0, To: 1}}},
		{"4;0 oS 1;0 D 2;0 D 3;1 mO 2;1 oO 3;2 mf 3", []impl.Interval{{From: 0, To: 5}, {From: 3, To: 6}, {From: 2, To: 4}, {From: 1, To: 4}}},
		{"6;0 m 1;1 m 2;2 m 3;3 m 4;4 m 5", []impl.Interval{{From: 0, To: 1}, {From: 1, To: 2}, {From: 2, To: 3}, {From: 3, To: 4}, {From: 4, To: 5}, {From: 5, To: 6}}},
		{"6", []impl.Interval{{From: 0, To: 1}, {From: 2, To: 3}, {From: 4, To: 5}, {From: 6, To: 7}, {From: 8, To: 9}, {From: 10, To: 11}}},
		{"6;0 d 1;1 d 2;2 d 3;3 d 4;4 d 5", []impl.Interval{{From: 5, To: 6}, {From: 4, To: 7}, {From: 3, To: 8}, {From: 2, To: 9}, {From: 1, To: 10}, {From: 0, To: 11}}},
		{noModelText, nil},
	} {
		got, ok := impl.FindModel(netOfText(c.text).net())
		if c.want == nil {
			wantNoPlan(t, got, ok, "FindModel(%s)", c.text)
			continue
		}
		wantPlan(t, got, ok, c.want, "FindModel(%s)", c.text)
	}
}

func TestShiftModel(t *testing.T) {
	for at, list := range momentPlans {
		for _, by := range []int{0, 1, -1, 5, -5, 40, -40, 999970, -999988, 999960 - at, at - 999980} {
			got, ok := impl.ShiftModel(list, by)
			wantPlan(t, got, ok, scaled(list, 1, by), "ShiftModel(%v, %d)", list, by)
			own, _ := impl.NetOf(list)
			if shifted, _ := impl.NetOf(got); shifted != own {
				t.Errorf("ShiftModel(%v, %d) = %v has another network", list, by, got)
			}
			back, ok := impl.ShiftModel(got, -by)
			wantPlan(t, back, ok, list, "ShiftModel(%v, %d)", got, -by)
		}
	}
}

// A plan is shifted exactly as far as its first and its last end stay points.
func TestShiftModelTooFar(t *testing.T) {
	for _, list := range [][]impl.Interval{
		{{From: 0, To: 1}}, {{From: 0, To: 20}, {From: 20, To: 30}, {From: 10, To: 50}}, {{From: -1000000, To: 1000000}}, {{From: -1000000, To: -999999}}, {{From: 999999, To: 1000000}},
		{{From: 5, To: 7}, {From: -1000000, To: 6}}, {{From: 5, To: 1000000}, {From: -3, To: 6}}, {{From: -7, To: 3}, {From: 999998, To: 999999}, {From: -999998, To: -4}},
	} {
		first, last := list[0].From, list[0].To
		for _, a := range list {
			first, last = min(first, a.From), max(last, a.To)
		}
		down, up := -1000000-first, 1000000-last
		for _, by := range []int{0, 1, -1, down, down - 1, down + 1, up, up - 1, up + 1, 1999999, -1999999, 2000000, -2000000} {
			got, ok := impl.ShiftModel(list, by)
			if by < down || by > up {
				wantNoPlan(t, got, ok, "ShiftModel(%v, %d)", list, by)
				continue
			}
			wantPlan(t, got, ok, scaled(list, 1, by), "ShiftModel(%v, %d)", list, by)
		}
		for _, by := range []int{2000001, -2000001, 4000000, -4000000, 1 << 32, -1 << 32, 1 << 62, -1 << 62, math.MaxInt, math.MinInt, math.MaxInt - 1000000, math.MinInt + 1000000} {
			got, ok := impl.ShiftModel(list, by)
			wantNoPlan(t, got, ok, "ShiftModel(%v, %d)", list, by)
		}
	}
	got, ok := impl.ShiftModel([]impl.Interval{{From: -1000000, To: -999999}}, 1999999)
	wantPlan(t, got, ok, []impl.Interval{{From: 999999, To: 1000000}}, "ShiftModel by 1999999")
	got, ok = impl.ShiftModel([]impl.Interval{{From: 999999, To: 1000000}}, -1999999)
	wantPlan(t, got, ok, []impl.Interval{{From: -1000000, To: -999999}}, "ShiftModel by -1999999")
}

func TestSpanAndCountEnds(t *testing.T) {
	for _, list := range momentPlans {
		ends := plainEndsOfPlan(list)
		want := impl.Interval{From: ends[0], To: ends[len(ends)-1]}
		if got, ok := impl.SpanOf(list); got != want || !ok {
			t.Errorf("SpanOf(%v) = %v, %v, want %v", list, got, ok, want)
		}
		packed, _ := impl.PackModel(list)
		if got, ok := impl.SpanOf(packed); got != (impl.Interval{From: 0, To: len(ends) - 1}) || !ok {
			t.Errorf("SpanOf(%v) = %v, %v, want 0:%d", packed, got, ok, len(ends)-1)
		}
		for _, same := range [][]impl.Interval{list, packed, scaled(list, 33333, -39)} {
			if got := impl.CountEnds(same); got != len(ends) {
				t.Errorf("CountEnds(%v) = %d, want %d", same, got, len(ends))
			}
		}
	}
	for _, c := range []struct {
		list []impl.Interval
		span impl.Interval
		ends int
	}{
		{[]impl.Interval{{From: -1000000, To: 1000000}}, impl.Interval{From: -1000000, To: 1000000}, 2},
		{[]impl.Interval{{From: 999999, To: 1000000}, {From: -1000000, To: -999999}}, impl.Interval{From: -1000000, To: 1000000}, 4},
		{[]impl.Interval{{From: 0, To: 20}, {From: 20, To: 30}, {From: 10, To: 50}}, impl.Interval{From: 0, To: 50}, 5},
		{slices.Repeat([]impl.Interval{{From: 3, To: 4}}, 6), impl.Interval{From: 3, To: 4}, 2},
	} {
		if got, ok := impl.SpanOf(c.list); got != c.span || !ok {
			t.Errorf("SpanOf(%v) = %v, %v, want %v", c.list, got, ok, c.span)
		}
		if got := impl.CountEnds(c.list); got != c.ends {
			t.Errorf("CountEnds(%v) = %d, want %d", c.list, got, c.ends)
		}
	}
}

// Each moment is looked at, and some around the plan; where nothing lies, there
// are gaps.
func TestMoments(t *testing.T) {
	gaps := 0
	for _, list := range momentPlans {
		most, covered := 0, 0
		for x := -14; x <= 31; x++ {
			want := plainBusy(list, x)
			if got := impl.BusyAt(list, x); !slices.Equal(got, want) {
				t.Errorf("BusyAt(%v, %d) = %v, want %v", list, x, got, want)
			}
			most = max(most, len(want))
			if len(want) > 0 {
				covered++
			}
		}
		if got := impl.MostBusy(list); got != most {
			t.Errorf("MostBusy(%v) = %d, want %d", list, got, most)
		}
		if got := impl.CoveredOf(list); got != covered {
			t.Errorf("CoveredOf(%v) = %d, want %d", list, got, covered)
		}
		if span, _ := impl.SpanOf(list); impl.LengthOf(span) > covered {
			gaps++
		}
		// Times are stretched, but not what lies at them.
		wide := scaled(list, 33333, -39)
		if got := impl.MostBusy(wide); got != most {
			t.Errorf("MostBusy(%v) = %d, want %d", wide, got, most)
		}
		if got := impl.CoveredOf(wide); got != 33333*covered {
			t.Errorf("CoveredOf(%v) = %d, want %d", wide, got, 33333*covered)
		}
	}
	if gaps < 300 {
		t.Errorf("only %d plans have gaps", gaps)
	}
}

func TestMomentsExamples(t *testing.T) {
	type at map[int][]int
	for _, c := range []struct {
		list          []impl.Interval
		most, covered int
		busy          at
	}{
		{[]impl.Interval{{From: 0, To: 20}, {From: 20, To: 30}, {From: 10, To: 50}}, 2, 50, at{-1: nil, 0: {0}, 9: {0}, 10: {0, 2}, 19: {0, 2}, 20: {1, 2}, 29: {1, 2}, 30: {2}, 49: {2}, 50: nil}},
		{[]impl.Interval{{From: 0, To: 2}, {From: 5, To: 6}}, 1, 3, at{0: {0}, 1: {0}, 2: nil, 4: nil, 5: {1}, 6: nil}},
		{[]impl.Interval{{From: 5, To: 6}, {From: 0, To: 2}}, 1, 3, at{0: {1}, 5: {0}}},
		{[]impl.Interval{{From: 0, To: 1}, {From: 1, To: 2}}, 1, 2, at{0: {0}, 1: {1}}}, // what meets has no moment in common
		{[]impl.Interval{{From: 0, To: 9}, {From: 2, To: 3}, {From: 5, To: 6}}, 2, 9, at{2: {0, 1}, 3: {0}, 5: {0, 2}, 8: {0}, 9: nil}},
		{slices.Repeat([]impl.Interval{{From: -7, To: 7}}, 6), 6, 14, at{-8: nil, -7: {0, 1, 2, 3, 4, 5}, 6: {0, 1, 2, 3, 4, 5}, 7: nil}},
		{[]impl.Interval{{From: -1000000, To: 1000000}}, 1, 2000000, at{-1000001: nil, -1000000: {0}, 999999: {0}, 1000000: nil}},
		{[]impl.Interval{{From: 999999, To: 1000000}, {From: -1000000, To: -999999}}, 1, 2, at{-1000000: {1}, -999999: nil, 0: nil, 999998: nil, 999999: {0}}},
		{[]impl.Interval{{From: 0, To: 3}, {From: 1, To: 3}, {From: 2, To: 3}, {From: 3, To: 4}, {From: 3, To: 5}, {From: 3, To: 6}}, 3, 6, at{2: {0, 1, 2}, 3: {3, 4, 5}}},
	} {
		if got := impl.MostBusy(c.list); got != c.most {
			t.Errorf("MostBusy(%v) = %d, want %d", c.list, got, c.most)
		}
		if got := impl.CoveredOf(c.list); got != c.covered {
			t.Errorf("CoveredOf(%v) = %d, want %d", c.list, got, c.covered)
		}
		for x, want := range c.busy {
			if got := impl.BusyAt(c.list, x); !slices.Equal(got, want) {
				t.Errorf("BusyAt(%v, %d) = %v, want %v", c.list, x, got, want)
			}
		}
		// Numbers that are no points are no moments of any interval.
		for _, x := range []int{-1000001, 1000000, 1000001, 1 << 32, -1 << 32, math.MinInt, math.MinInt + 1, math.MaxInt - 1, math.MaxInt} {
			if got := impl.BusyAt(c.list, x); len(got) != 0 {
				t.Errorf("BusyAt(%v, %d) = %v, want an empty slice", c.list, x, got)
			}
		}
	}
}

func TestShowModel(t *testing.T) {
	for _, list := range momentPlans {
		packed := plainPacked(list)
		want := slices.Repeat([]string{""}, len(list))
		for x := range len(plainEndsOfPlan(list)) - 1 {
			for i := range want {
				if slices.Contains(plainBusy(packed, x), i) {
					want[i] += "#"
				} else {
					want[i] += "."
				}
			}
		}
		for _, same := range [][]impl.Interval{list, packed, scaled(list, 33333, -39)} {
			if got := impl.ShowModel(same); !slices.Equal(got, want) {
				t.Errorf("ShowModel(%v) = %q, want %q", same, got, want)
			}
		}
	}
}

func TestShowModelExamples(t *testing.T) {
	for _, c := range []struct {
		list []impl.Interval
		want []string
	}{
		{[]impl.Interval{{From: 0, To: 2}, {From: 2, To: 3}, {From: 1, To: 5}}, []string{"##..", "..#.", ".###"}}, // of the document
		{[]impl.Interval{{From: 0, To: 20}, {From: 20, To: 30}, {From: 10, To: 50}}, []string{"##..", "..#.", ".###"}},
		{[]impl.Interval{{From: 1, To: 2}, {From: 3, To: 4}, {From: 0, To: 5}}, []string{".#...", "...#.", "#####"}}, // of its script
		{[]impl.Interval{{From: -1000000, To: 1000000}}, []string{"#"}},
		{[]impl.Interval{{From: 0, To: 1}, {From: 50, To: 60}}, []string{"#..", "..#"}}, // a gap is one moment
		{[]impl.Interval{{From: 50, To: 60}, {From: 0, To: 50}}, []string{".#", "#."}},
		{slices.Repeat([]impl.Interval{{From: 3, To: 9}}, 6), []string{"#", "#", "#", "#", "#", "#"}},
		{
			[]impl.Interval{{From: 0, To: 1}, {From: 2, To: 3}, {From: 4, To: 5}, {From: 6, To: 7}, {From: 8, To: 9}, {From: 10, To: 11}},
			[]string{"#..........", "..#........", "....#......", "......#....", "........#..", "..........#"},
		},
	} {
		if got := impl.ShowModel(c.list); !slices.Equal(got, c.want) {
			t.Errorf("ShowModel(%v) = %q, want %q", c.list, got, c.want)
		}
	}
}

func TestModelsOfNoPlans(t *testing.T) {
	for _, no := range noPlans {
		got, ok := impl.PackModel(no)
		wantNoPlan(t, got, ok, "PackModel(%v)", no)
		for _, by := range []int{0, 1, -1, 5, 2000000, -2000000, math.MaxInt, math.MinInt} {
			got, ok := impl.ShiftModel(no, by)
			wantNoPlan(t, got, ok, "ShiftModel(%v, %d)", no, by)
		}
		if got, ok := impl.SpanOf(no); got != (impl.Interval{}) || ok {
			t.Errorf("SpanOf(%v) = %v, %v", no, got, ok)
		}
		for _, x := range []int{-1000000, -1, 0, 1, 1000000, math.MinInt, math.MaxInt} {
			if got := impl.BusyAt(no, x); len(got) != 0 {
				t.Errorf("BusyAt(%v, %d) = %v, want an empty slice", no, x, got)
			}
		}
		if impl.MostBusy(no) != -1 || impl.CoveredOf(no) != -1 || impl.CountEnds(no) != -1 {
			t.Errorf("MostBusy, CoveredOf and CountEnds of %v are %d, %d and %d, want -1", no, impl.MostBusy(no), impl.CoveredOf(no), impl.CountEnds(no))
		}
		if got := impl.ShowModel(no); len(got) != 0 {
			t.Errorf("ShowModel(%v) = %q, want an empty slice", no, got)
		}
	}
	// Shifting makes no plan of a list that is none.
	list := []impl.Interval{{From: 1000000, To: 1000001}}
	got, ok := impl.ShiftModel(list, -5)
	wantNoPlan(t, got, ok, "ShiftModel(%v, -5)", list)
}

// Neither the lists nor the memory beyond their length may change, and results
// are new memory.
func TestModelsShareNoMemory(t *testing.T) {
	whole := []impl.Interval{{From: 0, To: 20}, {From: 20, To: 30}, {From: 10, To: 50}, {From: -5, To: 7}, {From: 3, To: 4}, {From: 0, To: 9}, {From: 9, To: 7}, {}}
	kept := slices.Clone(whole)
	net := netOfText("3;0 m 1;0 o 2;1 d 2").net()
	for length := range whole {
		list := whole[:length]
		for name, f := range map[string]func() []impl.Interval{
			"PackModel":  func() []impl.Interval { got, _ := impl.PackModel(list); return got },
			"ShiftModel": func() []impl.Interval { got, _ := impl.ShiftModel(list, 0); return got },
			"ModelOf":    func() []impl.Interval { got, _ := impl.ModelOf(net); return got },
			"FindModel":  func() []impl.Interval { got, _ := impl.FindModel(net); return got },
		} {
			first, second := f(), f()
			want := slices.Clone(second)
			for i := range first[:cap(first)] {
				first[:cap(first)][i] = impl.Interval{From: -77, To: 77}
			}
			if !slices.Equal(second, want) || !slices.Equal(f(), want) {
				t.Errorf("%s of %d intervals returns shared memory", name, length)
			}
		}
		busy, lines := impl.BusyAt(list, 15), impl.ShowModel(list)
		wantBusy, wantLines := slices.Clone(busy), slices.Clone(lines)
		for i := range busy[:cap(busy)] {
			busy[:cap(busy)][i] = -77
		}
		for i := range lines[:cap(lines)] {
			lines[:cap(lines)][i] = ""
		}
		if !slices.Equal(impl.BusyAt(list, 15), wantBusy) || !slices.Equal(impl.ShowModel(list), wantLines) {
			t.Errorf("BusyAt or ShowModel of %d intervals returns shared memory", length)
		}
		impl.SpanOf(list)
		impl.MostBusy(list)
		impl.CoveredOf(list)
		impl.CountEnds(list)
		if !slices.Equal(whole, kept) {
			t.Errorf("a list of %d intervals is changed to %v", length, whole)
		}
	}
}
