package tests

import (
	"fmt"
	"math"
	"slices"
	"strings"
	"testing"

	"loop.example/intervalsandplaces/impl"
)

// These tests hold promise 5, "A network allows exactly its models.", against
// matrices of relations that are written as the document says, and against
// lists of intervals.

// A plainNet has the relation of each node and each.
type plainNet [][]int

// plainSwap exchanges the letters of a relation by pairs.
func plainSwap(r int, pairs string) int {
	letters := plainLetters(r)
	swapped := ""
	for i := range letters {
		at := strings.IndexByte(pairs, letters[i])
		if at < 0 {
			swapped += letters[i : i+1]
		} else {
			swapped += pairs[at^1 : at^1+1]
		}
	}
	return plainRel(swapped)
}

func plainTurn(r int) int    { return plainSwap(r, "bBmMoOsSdDfF") }
func plainMirrors(r int) int { return plainSwap(r, "bBmMoOsfSF") }

// plainFree returns the network of so many nodes that allows everything.
func plainFree(size int) plainNet {
	n := make(plainNet, size)
	for i := range n {
		for k := range n {
			r := allBasics
			if i == k {
				r = 64
			}
			n[i] = append(n[i], r)
		}
	}
	return n
}

// with returns the network with another relation of two different nodes.
func (n plainNet) with(i, k, r int) plainNet {
	changed := make(plainNet, len(n))
	for i := range n {
		changed[i] = slices.Clone(n[i])
	}
	changed[i][k], changed[k][i] = r, plainTurn(r)
	return changed
}

// net writes the relations of a network one behind the other, row by row.
func (n plainNet) net() impl.Net {
	rels := ""
	for _, row := range n {
		for _, r := range row {
			rels += fmt.Sprintf("%04x", r)
		}
	}
	return impl.Net{Size: len(n), Rels: rels}
}

// text writes the relations of pairs that do not have all basic relations.
func (n plainNet) text() string {
	text := fmt.Sprint(len(n))
	for i := range n {
		for k := i + 1; k < len(n); k++ {
			if n[i][k] != allBasics {
				text += fmt.Sprintf(";%d %s %d", i, plainLetters(n[i][k]), k)
			}
		}
	}
	return text
}

// holds reports whether as many intervals are in all relations.
func (n plainNet) holds(list []impl.Interval) bool {
	for i := range n {
		for k := range n {
			if n[i][k]&plainBasic(list[i], list[k]) == 0 {
				return false
			}
		}
	}
	return true
}

// someNets returns networks of 1 to 6 nodes: the free ones, and some of all
// kinds of relations, also empty ones, each at some pairs.
var someNets = plainNets()

func plainNets() []plainNet {
	list := []plainNet{}
	next := 12345
	for size := 1; size <= impl.MaxNodes; size++ {
		list = append(list, plainFree(size))
		for kind := range 4 * size {
			n := plainFree(size)
			for i := range n {
				for k := i + 1; k < size; k++ {
					next = next * 1103515245 % 2147483647
					basic := 1 << (next >> 5 % 13)
					kinds := [...]int{next >> 5 % impl.RelSets, basic, allBasics - basic, 0}
					if kind%3 != 0 || next>>9%2 == 0 {
						n = n.with(i, k, kinds[next>>20%(3+kind%2)]) // without empty ones in each other network
					}
				}
			}
			list = append(list, n)
		}
	}
	return list
}

// noNets are not valid.
var noNets = plainNoNets()

func plainNoNets() []impl.Net {
	two := "00401fff1fff0040"
	list := []impl.Net{
		{}, {Size: 1}, {Size: 0, Rels: "0040"}, {Size: -1, Rels: "0040"}, {Size: 2, Rels: "0040"}, {Size: 1, Rels: two},
		{Size: -2, Rels: two}, {Size: 1, Rels: "00400040"}, {Size: 1, Rels: "004"}, {Size: 1, Rels: "040"}, {Size: 1, Rels: "40"}, {Size: 1, Rels: "00040"},
		{Size: 1, Rels: "0041"}, {Size: 1, Rels: "0000"}, {Size: 1, Rels: "1fff"}, {Size: 1, Rels: "2040"}, {Size: 1, Rels: "ffff"}, {Size: 1, Rels: "e"},
		{Size: 2, Rels: "00401FFF1FFF0040"}, {Size: 2, Rels: "00402fff2fff0040"}, {Size: 2, Rels: "0040ffffffff0040"}, {Size: 2, Rels: "0040200020000040"},
		{Size: 2, Rels: "0040000100010040"},                  // b both ways
		{Size: 2, Rels: "0040000110000000"},                  // the second node is not equal to itself
		{Size: 2, Rels: "0000000110000040"},                  // nor is the first one here
		{Size: 2, Rels: "0040000110000 40"},                  // not a digit
		{Size: 2, Rels: "0040+00110000040"},                  // a sign
		{Size: 2, Rels: "00400x0110000040"},                  // a prefix
		{Size: 2, Rels: "00400_0110000040"},                  // a separator
		{Size: 2, Rels: "0040000110000040\n"},                // a byte more
		{Size: 2, Rels: "0040\x00\x00\x00\x01" + "10000040"}, // values instead of digits
		{Size: 2, Rels: "0040000110000\xe9\x80"},             // bytes beyond ASCII
		{Size: 3, Rels: two}, {Size: math.MinInt}, {Size: math.MaxInt}, {Size: math.MaxInt, Rels: "0040"},
		{Size: 1 << 31}, {Size: 1 << 32}, {Size: -1 << 31}, {Size: 1 << 62}, // whose squares overflow to 0
	}
	for _, size := range []int{7, 8, 100} {
		list = append(list, plainFree(size).net())
	}
	return list
}

// eachNet calls a function for some networks.
func eachNet(t *testing.T, f func(n plainNet, net impl.Net)) {
	t.Helper()
	for _, n := range someNets {
		f(n, n.net())
	}
}

// wantNet checks a result that is a network, and true.
func wantNet(t *testing.T, got impl.Net, ok bool, want plainNet, what string, args ...any) {
	t.Helper()
	if got != want.net() || !ok {
		t.Errorf("%s = %v, %v, want %s", fmt.Sprintf(what, args...), got, ok, want.text())
	}
}

// wantNoNet checks the result for arguments that are not what they should be.
func wantNoNet(t *testing.T, got impl.Net, ok bool, what string, args ...any) {
	t.Helper()
	if got != (impl.Net{}) || ok {
		t.Errorf("%s = %v, %v, want the zero value and false", fmt.Sprintf(what, args...), got, ok)
	}
}

// listsOf returns all lists of so many of some intervals.
func listsOf(intervals []impl.Interval, length int) [][]impl.Interval {
	lists := [][]impl.Interval{nil}
	for range length {
		longer := [][]impl.Interval{}
		for _, list := range lists {
			for _, a := range intervals {
				longer = append(longer, append(slices.Clone(list), a))
			}
		}
		lists = longer
	}
	return lists
}

// plans are lists of intervals by their length, which is 1 to 6: for up to three
// they are all that differ by the order of their ends.
var plans = map[int][][]impl.Interval{
	1: listsOf(intervalsAmong([]int{0, 1}), 1),
	2: listsOf(intervalsAmong([]int{0, 1, 2, 3}), 2),
	3: listsOf(intervalsAmong([]int{0, 1, 2, 3, 4, 5}), 3),
	4: listsOf(intervalsAmong([]int{-1, 0, 1, 2}), 4),
	5: listsOf(intervalsAmong([]int{-3, 0, 1}), 5),
	6: listsOf(intervalsAmong([]int{-1000000, 0, 1000000}), 6),
}

func TestNetValid(t *testing.T) {
	if impl.MaxNodes != 6 {
		t.Errorf("MaxNodes = %d", impl.MaxNodes)
	}
	eachNet(t, func(n plainNet, net impl.Net) {
		if !impl.NetValid(net) {
			t.Errorf("NetValid(%v) = false", net)
		}
	})
	for _, net := range noNets {
		if impl.NetValid(net) {
			t.Errorf("NetValid(%v) = true", net)
		}
	}
	for _, net := range []impl.Net{{Size: 1, Rels: "0040"}, {Size: 2, Rels: "0040000000000040"}, {Size: 2, Rels: "0040000110000040"}, {Size: 2, Rels: "0040004000400040"}} {
		if !impl.NetValid(net) {
			t.Errorf("NetValid(%v) = false", net)
		}
	}
}

// Of all pairs of relations of two nodes, only those are valid of which one is
// the other one turned; here, of all relations with few others.
func TestNetValidTurns(t *testing.T) {
	eachRel(func(r int, letters string) {
		n := plainFree(2).with(0, 1, r)
		if !impl.NetValid(n.net()) {
			t.Errorf("NetValid(%v) = false", n.net())
		}
		for _, other := range []int{r, r ^ 1, r ^ 64, r ^ 4096, plainMirrors(r), 0, allBasics} {
			n[1][0] = other
			if got := impl.NetValid(n.net()); got != (other == plainTurn(r)) {
				t.Errorf("NetValid(%v) = %v", n.net(), got)
			}
		}
	})
}

// No digit can be another byte alone: its relation has another one that is it
// turned, or is that of a node and itself.
func TestNetValidBytes(t *testing.T) {
	for _, text := range []string{"1", "2;0 b 1", "2", "3;0 bm 1;1 d 2", "3;0 - 1;0 eS 2"} {
		net, _ := impl.ParseNet(text)
		for i := range net.Rels {
			for b := range 256 {
				changed := impl.Net{Size: net.Size, Rels: net.Rels[:i] + string([]byte{byte(b)}) + net.Rels[i+1:]}
				if got := impl.NetValid(changed); got != (changed == net) {
					t.Errorf("NetValid(%v) = %v, with the byte %d changed", changed, got, i)
				}
			}
			for _, changed := range []string{net.Rels[:i], net.Rels[i+1:] + "0", net.Rels[:i] + "0" + net.Rels[i:]} {
				if impl.NetValid(impl.Net{Size: net.Size, Rels: changed}) && changed != net.Rels {
					t.Errorf("NetValid of %d nodes with %q", net.Size, changed)
				}
			}
		}
	}
}

func TestFreeNet(t *testing.T) {
	for size := 1; size <= impl.MaxNodes; size++ {
		net, ok := impl.FreeNet(size)
		wantNet(t, net, ok, plainFree(size), "FreeNet(%d)", size)
		for _, list := range plans[size] {
			if !impl.NetHolds(net, list) {
				t.Fatalf("FreeNet(%d) does not allow %v", size, list)
			}
		}
	}
	for _, size := range []int{0, -1, 7, 8, -6, 36, 1 << 31, 1 << 32, math.MinInt, math.MaxInt} {
		net, ok := impl.FreeNet(size)
		wantNoNet(t, net, ok, "FreeNet(%d)", size)
	}
}

func TestRelIn(t *testing.T) {
	noNodes := []int{-1, 6, 7, -6, math.MinInt, math.MaxInt}
	eachNet(t, func(n plainNet, net impl.Net) {
		for i := range n {
			for k := range n {
				if got := impl.RelIn(net, i, k); got != n[i][k] {
					t.Errorf("RelIn(%s, %d, %d) = %d, want %d", n.text(), i, k, got, n[i][k])
				}
			}
			for _, no := range append(noNodes, len(n)) {
				if impl.RelIn(net, i, no) != -1 || impl.RelIn(net, no, i) != -1 || impl.RelIn(net, no, no) != -1 {
					t.Errorf("RelIn(%s) of %d and %d is not -1", n.text(), i, no)
				}
			}
		}
	})
	for _, net := range noNets {
		if got := impl.RelIn(net, 0, 0); got != -1 {
			t.Errorf("RelIn(%v, 0, 0) = %d, want -1", net, got)
		}
		if got := impl.RelIn(net, 0, 1); got != -1 {
			t.Errorf("RelIn(%v, 0, 1) = %d, want -1", net, got)
		}
	}
}

// Nodes are given in either order; the relation is that of the first one and
// the second one.
func TestPutAndLimitRel(t *testing.T) {
	rels := []int{0, 1, 2, 64, 4096, 3, 6144, 24, 8190, allBasics}
	eachNet(t, func(n plainNet, net impl.Net) {
		for i := range n {
			for k := range n {
				for _, r := range rels {
					put, isPut := impl.PutRel(net, i, k, r)
					limited, isLimited := impl.LimitRel(net, i, k, r)
					if i == k {
						wantNoNet(t, put, isPut, "PutRel(%s, %d, %d, %d)", n.text(), i, k, r)
						wantNoNet(t, limited, isLimited, "LimitRel(%s, %d, %d, %d)", n.text(), i, k, r)
						continue
					}
					wantNet(t, put, isPut, n.with(i, k, r), "PutRel(%s, %d, %d, %d)", n.text(), i, k, r)
					wantNet(t, limited, isLimited, n.with(i, k, n[i][k]&r), "LimitRel(%s, %d, %d, %d)", n.text(), i, k, r)
				}
			}
		}
	})
}

func TestPutAndLimitRelExamples(t *testing.T) {
	for _, c := range []struct {
		text         string
		i, k         int
		rel          string
		put, limited string
	}{
		{"2", 0, 1, "b", "2;0 b 1", "2;0 b 1"},
		{"2", 1, 0, "b", "2;0 B 1", "2;0 B 1"},
		{"2;0 b 1", 0, 1, basicLetters, "2", "2;0 b 1"},
		{"2;0 b 1", 1, 0, "b", "2;0 B 1", "2;0 - 1"},
		{"2;0 b 1", 0, 1, "-", "2;0 - 1", "2;0 - 1"},
		{"2;0 - 1", 1, 0, "ms", "2;0 SM 1", "2;0 - 1"},
		{"2;0 osd 1", 1, 0, "eFDSO", "2;0 osdfe 1", "2;0 osd 1"},
		{"3;0 bm 1;1 d 2", 2, 0, "mO", "3;0 bm 1;0 oM 2;1 d 2", "3;0 bm 1;0 oM 2;1 d 2"},
		{"6", 5, 0, "s", "6;0 S 5", "6;0 S 5"},
		{"6;4 bB 5", 4, 5, "bm", "6;4 bm 5", "6;4 b 5"},
	} {
		net, _ := impl.ParseNet(c.text)
		if got, ok := impl.PutRel(net, c.i, c.k, plainRel(c.rel)); impl.FormatNet(got) != c.put || !ok {
			t.Errorf("PutRel(%s, %d, %d, %s) = %s, %v, want %s", c.text, c.i, c.k, c.rel, impl.FormatNet(got), ok, c.put)
		}
		if got, ok := impl.LimitRel(net, c.i, c.k, plainRel(c.rel)); impl.FormatNet(got) != c.limited || !ok {
			t.Errorf("LimitRel(%s, %d, %d, %s) = %s, %v, want %s", c.text, c.i, c.k, c.rel, impl.FormatNet(got), ok, c.limited)
		}
	}
}

func TestPutAndLimitOtherRel(t *testing.T) {
	for name, f := range map[string]func(impl.Net, int, int, int) (impl.Net, bool){"PutRel": impl.PutRel, "LimitRel": impl.LimitRel} {
		for _, text := range []string{"1", "2", "3;0 - 1;0 - 2;1 - 2", "6;0 b 1"} {
			net, _ := impl.ParseNet(text)
			for _, r := range noRels {
				got, ok := f(net, 0, 1, r)
				wantNoNet(t, got, ok, "%s(%s, 0, 1, %d)", name, text, r)
				got, ok = f(net, 1, 0, r)
				wantNoNet(t, got, ok, "%s(%s, 1, 0, %d)", name, text, r)
			}
			for _, no := range []int{-1, net.Size, 6, 7, math.MinInt, math.MaxInt} {
				got, ok := f(net, 0, no, 1)
				wantNoNet(t, got, ok, "%s(%s, 0, %d, 1)", name, text, no)
				got, ok = f(net, no, 0, 1)
				wantNoNet(t, got, ok, "%s(%s, %d, 0, 1)", name, text, no)
			}
			got, ok := f(net, 0, 0, 64) // that of a node and itself stays as it is, and is none to be given
			wantNoNet(t, got, ok, "%s(%s, 0, 0, 64)", name, text)
		}
		for _, no := range noNets {
			got, ok := f(no, 0, 1, 1)
			wantNoNet(t, got, ok, "%s(%v, 0, 1, 1)", name, no)
		}
	}
}

func TestTextsOfNetworks(t *testing.T) {
	nets := slices.Clone(someNets)
	eachRel(func(r int, letters string) {
		nets = append(nets, plainFree(2).with(0, 1, r))
	})
	for _, n := range nets {
		if got := impl.FormatNet(n.net()); got != n.text() {
			t.Errorf("FormatNet(%v) = %q, want %q", n.net(), got, n.text())
		}
		got, ok := impl.ParseNet(n.text())
		wantNet(t, got, ok, n, "ParseNet(%q)", n.text())
	}
	for _, no := range noNets {
		if got := impl.FormatNet(no); got != "" {
			t.Errorf("FormatNet(%v) = %q, want the empty string", no, got)
		}
	}
	for text, want := range map[string]plainNet{
		"1": plainFree(1), "2": plainFree(2), "6": plainFree(6), "2;0 - 1": plainFree(2).with(0, 1, 0), "2;0 e 1": plainFree(2).with(1, 0, 64),
		"3;0 bm 1;1 d 2": plainFree(3).with(0, 1, 3).with(1, 2, 16), // of the document
		"6;0 B 5;4 mM 5": plainFree(6).with(5, 0, 1).with(4, 5, 2050),
	} {
		got, ok := impl.ParseNet(text)
		wantNet(t, got, ok, want, "ParseNet(%q)", text)
	}
}

// Only the texts of networks are parsed: here, of those in which a byte is
// missing, added, changed, or exchanged with the next one.
func TestParseNetOfChangedTexts(t *testing.T) {
	for _, text := range []string{"1", "2", "2;0 b 1", "2;0 - 1", "3;0 bm 1;1 d 2", "4;0 osdfeFDSOMB 3;1 - 2;2 eS 3", "6;0 b 1;0 m 2;4 B 5"} {
		changed := []string{}
		for i := range len(text) + 1 {
			for _, b := range []byte("0123456bmsdeEB-; :+\n\x00\xff") {
				changed = append(changed, text[:i]+string([]byte{b})+text[i:])
				if i < len(text) {
					changed = append(changed, text[:i]+string([]byte{b})+text[i+1:])
				}
			}
			if i < len(text) {
				changed = append(changed, text[:i]+text[i+1:], text[:i])
			}
			if i+1 < len(text) {
				changed = append(changed, text[:i]+text[i+1:i+2]+text[i:i+1]+text[i+2:])
			}
		}
		for _, s := range changed {
			net, ok := impl.ParseNet(s)
			want, is := plainNetOfText(s)
			if is != ok || is && net != want.net() || !is && net != (impl.Net{}) {
				t.Errorf("ParseNet(%q) = %v, %v", s, net, ok)
			}
		}
	}
}

// plainNetOfText reads what fits the words of the document, step by step.
func plainNetOfText(s string) (plainNet, bool) {
	if s == "" || s[0] < '1' || s[0] > '6' {
		return nil, false
	}
	n := plainFree(int(s[0] - '0'))
	for i := range n {
		for k := i + 1; k < len(n); k++ {
			from := strings.Index(s, fmt.Sprintf(";%d ", i))
			for from >= 0 {
				rel, _, _ := strings.Cut(s[from+3:], " ")
				if strings.HasPrefix(s[from+3+len(rel):], fmt.Sprintf(" %d", k)) {
					n = n.with(i, k, plainRel(rel))
					break
				}
				further := strings.Index(s[from+1:], fmt.Sprintf(";%d ", i))
				if further < 0 {
					break
				}
				from += 1 + further
			}
		}
	}
	return n, n.text() == s
}

func TestParseNetOfOtherTexts(t *testing.T) {
	for _, s := range []string{
		"", "0", "7", "8", "9", "10", "-1", "+1", "01", "1.", "1 ", " 1", "1\n", "1\x00", "\xff", "a", "b", ";", "1;", "2;", ";2", "2;;", "２",
		"1;0 e 0", "2;0 e 0", "2;1 e 1", "2;0 b 0", "2;0 b 2", "2;2 b 0", "2;-1 b 0", "2;0 b -1", "1;0 b 1", "3;0 b 3", "3;0 b 9", "3;3 b 4",
		"3;1 b 0", "2;1 b 0", "3;0 mb 1", "3;0 bb 1", "3;0 E 1", "3;0 bm- 1", "3;0  1", "3;0 1", "3;0 b", "3;b 1", "3;0 b 1 2", "3;0 all 1", "3;0 none 1",
		"3;1 d 2;0 b 1", "3;0 b 2;0 b 1", "3;0 b 1;0 b 1", "3;0 b 1;0 m 1", "3;0 b 1;1 B 0", "3;0 - 1;0 b 1", "3;0 b 1;1 d 2;", "3;;0 b 1", "3 ;0 b 1",
		"3;0 bmosdfeFDSOMB 1", "2;0 bmosdfeFDSOMB 1", "2;0 b 1 ", "2; 0 b 1", "2;0  b 1", "2;0 b  1", "2;00 b 1", "2;0 b 01", "2;0 b +1", "2;+0 b 1", "2;-0 b 1",
		"2;0 b 1\n", "2;0\tb 1", "2,0 b 1", "22", "2:0 b 1", "2;0 b 1;2", "2;0 b 1;", "2;0 B 1;0 - 1", "2;0 b\x00 1", "2;0 b\xff 1", "2;9223372036854775808 b 1",
		"18446744073709551617", "4294967298;0 b 1", "2;4294967296 b 1", "2;0x0 b 1", "0x2", "2_0", "2;0_0 b 1",
		strings.Repeat("2;0 b 1", 1000), "2" + strings.Repeat(";0 b 1", 10000), strings.Repeat(";", 10000), "2;0 " + strings.Repeat("b", 10000) + " 1", "2" + strings.Repeat(" ", 10000),
	} {
		net, ok := impl.ParseNet(s)
		wantNoNet(t, net, ok, "ParseNet(%.40q)", s)
	}
}

func TestNetOf(t *testing.T) {
	for size := 1; size <= impl.MaxNodes; size++ {
		for _, list := range plans[size] {
			want := plainFree(size)
			for i := range list {
				for k := range list {
					want[i][k] = plainBasic(list[i], list[k])
				}
			}
			net, ok := impl.NetOf(list)
			wantNet(t, net, ok, want, "NetOf(%v)", list)
			if !impl.NetHolds(net, list) {
				t.Errorf("%v is no model of its network", list)
			}
		}
	}
	for text, list := range map[string][]impl.Interval{
		"1":                                     {{From: -1000000, To: 1000000}},
		"2;0 e 1":                               {{From: 0, To: 1}, {From: 0, To: 1}},
		"3;0 m 1;0 o 2;1 d 2":                   {{From: 0, To: 2}, {From: 2, To: 3}, {From: 1, To: 5}},
		"3;0 B 1;0 S 2;1 b 2":                   {{From: 5, To: 9}, {From: -7, To: -3}, {From: 5, To: 6}},
		"4;0 b 1;0 b 2;0 b 3;1 f 2;1 M 3;2 O 3": {{From: 0, To: 1}, {From: 5, To: 7}, {From: 3, To: 7}, {From: 2, To: 5}},
	} {
		if net, ok := impl.NetOf(list); impl.FormatNet(net) != text || !ok {
			t.Errorf("NetOf(%v) = %q, %v, want %q", list, impl.FormatNet(net), ok, text)
		}
	}
}

func TestNetOfOtherLists(t *testing.T) {
	a := impl.Interval{From: 0, To: 1}
	lists := [][]impl.Interval{nil, {}, {a, a, a, a, a, a, a}, make([]impl.Interval, 6), slices.Repeat([]impl.Interval{a}, 1000)}
	for _, no := range noIntervals {
		lists = append(lists, []impl.Interval{no}, []impl.Interval{no, a}, []impl.Interval{a, no}, []impl.Interval{no, no}, []impl.Interval{a, a, a, a, a, no})
	}
	for _, list := range lists {
		net, ok := impl.NetOf(list)
		wantNoNet(t, net, ok, "NetOf(%v)", list)
		for size := 1; size <= impl.MaxNodes; size++ {
			if impl.NetHolds(plainFree(size).net(), list) {
				t.Errorf("%v is a model of the network of %d nodes", list, size)
			}
		}
	}
}

// A network allows its models: lists with as many intervals as nodes of which
// each pair is in its relation. They are looked for among small lists.
func TestNetHolds(t *testing.T) {
	eachNet(t, func(n plainNet, net impl.Net) {
		models := 0
		for size, lists := range plans {
			if size != len(n) && impl.NetHolds(net, lists[0]) {
				t.Errorf("NetHolds(%s, %v) = true", n.text(), lists[0])
			}
		}
		lists := plans[len(n)]
		for i := range min(len(lists), 400) {
			list := lists[(i*7919)%len(lists)]
			want := n.holds(list)
			if got := impl.NetHolds(net, list); got != want {
				t.Errorf("NetHolds(%s, %v) = %v", n.text(), list, got)
			}
			if want {
				models++
			}
		}
		if strings.Contains(n.text(), "-") && models > 0 {
			t.Errorf("%s has models", n.text())
		}
	})
	for _, no := range noNets {
		for _, lists := range plans {
			if impl.NetHolds(no, lists[0]) || impl.NetHolds(no, nil) {
				t.Errorf("%v, which is no network, has a model", no)
			}
		}
	}
}

// Each pair of nodes tells alone whether some intervals are a model, and whether
// a network is within another one.
func TestNetHoldsEachPair(t *testing.T) {
	for _, lists := range plans {
		for at := range min(len(lists), 40) {
			list := lists[(at*7919)%len(lists)]
			own, _ := impl.NetOf(list)
			for i := range list {
				for k := range list {
					if i == k {
						continue
					}
					basic := plainBasic(list[i], list[k])
					with, without := plainFree(len(list)).with(i, k, basic).net(), plainFree(len(list)).with(i, k, allBasics-basic).net()
					if !impl.NetHolds(with, list) || !impl.WithinNet(own, with) {
						t.Errorf("%s does not allow %v", impl.FormatNet(with), list)
					}
					if impl.NetHolds(without, list) || impl.WithinNet(own, without) {
						t.Errorf("%s allows %v", impl.FormatNet(without), list)
					}
				}
			}
		}
	}
}

// Networks of two nodes allow exactly the intervals in their relation.
func TestNetHoldsOfTwo(t *testing.T) {
	eachRel(func(r int, letters string) {
		net := plainFree(2).with(0, 1, r).net()
		for i := range 36 {
			list := plans[2][(i*7+r)%36]
			if got := impl.NetHolds(net, list); got != (r&plainBasic(list[0], list[1]) != 0) {
				t.Errorf("NetHolds(%s, %v) = %v", impl.FormatNet(net), list, got)
			}
		}
	})
}

// nodeLists returns all lists of 1 to length numbers from -1 to the size.
func nodeLists(size, length int) [][]int {
	lists, longest := [][]int{}, [][]int{nil}
	for range length {
		longer := [][]int{}
		for _, list := range longest {
			for i := -1; i <= size; i++ {
				longer = append(longer, append(slices.Clone(list), i))
			}
		}
		lists, longest = append(lists, longer...), longer
	}
	return lists
}

func TestPartNet(t *testing.T) {
	eachNet(t, func(n plainNet, net impl.Net) {
		for _, nodes := range nodeLists(len(n), 3) {
			want := plainFree(len(nodes))
			are := true
			for i, node := range nodes {
				are = are && 0 <= node && node < len(n) && !slices.Contains(nodes[:i], node)
			}
			got, ok := impl.PartNet(net, nodes)
			if !are {
				wantNoNet(t, got, ok, "PartNet(%s, %v)", n.text(), nodes)
				continue
			}
			for i := range nodes {
				for k := range nodes {
					want[i][k] = n[nodes[i]][nodes[k]]
				}
			}
			wantNet(t, got, ok, want, "PartNet(%s, %v)", n.text(), nodes)
		}
		all := []int{}
		for i := range n {
			all = append(all, i)
		}
		got, ok := impl.PartNet(net, all)
		wantNet(t, got, ok, n, "PartNet(%s, %v)", n.text(), all)
	})
	for _, no := range noNets {
		got, ok := impl.PartNet(no, []int{0})
		wantNoNet(t, got, ok, "PartNet(%v, 0)", no)
	}
}

func TestPartNetExamples(t *testing.T) {
	for _, c := range []struct {
		text  string
		nodes []int
		want  string
	}{
		{"3;0 bm 1;1 d 2", []int{2, 1}, "2;0 D 1"}, {"3;0 bm 1;1 d 2", []int{0}, "1"}, {"3;0 bm 1;1 d 2", []int{2, 0}, "2"},
		{"3;0 bm 1;1 d 2", []int{2, 1, 0}, "3;0 D 1;1 MB 2"}, {"1", []int{0}, "1"}, {"2;0 - 1", []int{1, 0}, "2;0 - 1"}, {"2;0 - 1", []int{1}, "1"},
		{"6;0 b 5;2 s 3", []int{5, 4, 3, 2, 1, 0}, "6;0 B 5;2 S 3"}, {"6;0 b 5;2 s 3", []int{3, 2, 5, 0}, "4;0 S 1;2 B 3"},
		{"3", nil, ""}, {"3", []int{}, ""}, {"3", []int{3}, ""}, {"3", []int{-1}, ""}, {"3", []int{1, 1}, ""}, {"3", []int{0, 1, 2, 0}, ""}, {"3", []int{0, 1, 2, 3}, ""},
		{"1", []int{0, 0}, ""}, {"6", []int{0, 1, 2, 3, 4, 5, 0}, ""}, {"6", []int{0, 1, 2, 3, 4, 5, 6}, ""}, {"6", make([]int, 1000), ""}, {"3", []int{math.MinInt, math.MaxInt}, ""},
	} {
		net, _ := impl.ParseNet(c.text)
		got, ok := impl.PartNet(net, c.nodes)
		if impl.FormatNet(got) != c.want || ok != (c.want != "") {
			t.Errorf("PartNet(%s, %v) = %s, %v, want %s", c.text, c.nodes, impl.FormatNet(got), ok, c.want)
		}
		if c.want == "" {
			wantNoNet(t, got, ok, "PartNet(%s, %v)", c.text, c.nodes)
		}
	}
}

// A part allows the models whose intervals are those of the nodes.
func TestPartNetOfModels(t *testing.T) {
	for _, list := range plans[3] {
		net, _ := impl.NetOf(list)
		part, _ := impl.PartNet(net, []int{2, 0})
		if want, _ := impl.NetOf([]impl.Interval{list[2], list[0]}); part != want {
			t.Errorf("PartNet of the network of %v and 2, 0 = %s", list, impl.FormatNet(part))
		}
	}
}

// What is in both of two networks is allowed by MeetNets, and what one has no
// more than the other one is told by WithinNet.
func TestMeetAndWithinNet(t *testing.T) {
	for _, m := range someNets {
		for _, n := range someNets {
			met, ok := impl.MeetNets(m.net(), n.net())
			within := impl.WithinNet(m.net(), n.net())
			if len(m) != len(n) {
				wantNoNet(t, met, ok, "MeetNets(%s, %s)", m.text(), n.text())
				if within {
					t.Errorf("WithinNet(%s, %s) = true", m.text(), n.text())
				}
				continue
			}
			want, isWithin := plainFree(len(m)), true
			for i := range m {
				for k := range m {
					want[i][k] = m[i][k] & n[i][k]
					isWithin = isWithin && want[i][k] == m[i][k]
				}
			}
			wantNet(t, met, ok, want, "MeetNets(%s, %s)", m.text(), n.text())
			if within != isWithin {
				t.Errorf("WithinNet(%s, %s) = %v", m.text(), n.text(), within)
			}
			if !impl.WithinNet(met, m.net()) || !impl.WithinNet(met, n.net()) || !impl.WithinNet(m.net(), m.net()) {
				t.Errorf("MeetNets(%s, %s) is not within both, or one not within itself", m.text(), n.text())
			}
		}
	}
}

// The models of MeetNets are those of both networks.
func TestMeetNetsOfModels(t *testing.T) {
	for i, m := range someNets {
		for _, n := range someNets[i:] {
			if len(m) != len(n) {
				continue
			}
			met, _ := impl.MeetNets(m.net(), n.net())
			lists := plans[len(m)]
			for i := range min(len(lists), 50) {
				list := lists[(i*7919)%len(lists)]
				if got := impl.NetHolds(met, list); got != (m.holds(list) && n.holds(list)) {
					t.Errorf("MeetNets(%s, %s) holds %v: %v", m.text(), n.text(), list, got)
				}
			}
		}
	}
}

func TestMeetAndWithinNetExamples(t *testing.T) {
	for _, c := range []struct {
		m, n, met string
		within    bool
	}{
		{"1", "1", "1", true}, {"2", "2", "2", true}, {"2;0 b 1", "2", "2;0 b 1", true}, {"2", "2;0 b 1", "2;0 b 1", false},
		{"2;0 b 1", "2;0 m 1", "2;0 - 1", false}, {"2;0 - 1", "2;0 m 1", "2;0 - 1", true}, {"2;0 m 1", "2;0 - 1", "2;0 - 1", false}, {"2;0 - 1", "2;0 - 1", "2;0 - 1", true},
		{"2;0 bm 1", "2;0 mo 1", "2;0 m 1", false}, {"3;0 b 1", "3;1 b 2", "3;0 b 1;1 b 2", false}, {"3;0 bm 1;1 d 2", "3;0 bmo 1", "3;0 bm 1;1 d 2", true},
		{"3;0 - 1", "3;1 b 2", "3;0 - 1;1 b 2", false}, // although m has no model
		{"6;4 b 5", "6;4 bB 5", "6;4 b 5", true}, {"6;4 bB 5", "6;4 b 5", "6;4 b 5", false},
		{"1", "2", "", false}, {"3", "2", "", false}, {"5;0 b 1", "6;0 b 1", "", false}, {"6", "1", "", false},
	} {
		m, _ := impl.ParseNet(c.m)
		n, _ := impl.ParseNet(c.n)
		if met, ok := impl.MeetNets(m, n); impl.FormatNet(met) != c.met || ok != (c.met != "") {
			t.Errorf("MeetNets(%s, %s) = %s, %v, want %s", c.m, c.n, impl.FormatNet(met), ok, c.met)
		}
		if got := impl.WithinNet(m, n); got != c.within {
			t.Errorf("WithinNet(%s, %s) = %v", c.m, c.n, got)
		}
	}
	for _, no := range noNets {
		for _, other := range []impl.Net{no, plainFree(1).net(), plainFree(2).net(), plainFree(6).net(), {}} {
			met, ok := impl.MeetNets(no, other)
			wantNoNet(t, met, ok, "MeetNets(%v, %v)", no, other)
			met, ok = impl.MeetNets(other, no)
			wantNoNet(t, met, ok, "MeetNets(%v, %v)", other, no)
			if impl.WithinNet(no, other) || impl.WithinNet(other, no) {
				t.Errorf("WithinNet of %v and %v, one of which is no network", no, other)
			}
		}
	}
}

func TestMirrorNet(t *testing.T) {
	eachNet(t, func(n plainNet, net impl.Net) {
		want := plainFree(len(n))
		for i := range n {
			for k := range n {
				want[i][k] = plainMirrors(n[i][k])
			}
		}
		got, ok := impl.MirrorNet(net)
		wantNet(t, got, ok, want, "MirrorNet(%s)", n.text())
		again, ok := impl.MirrorNet(got)
		wantNet(t, again, ok, n, "MirrorNet of MirrorNet(%s)", n.text())
	})
	for text, want := range map[string]string{
		"1": "1", "2": "2", "2;0 - 1": "2;0 - 1", "2;0 sS 1": "2;0 fF 1", "2;0 deD 1": "2;0 deD 1", "3;0 bm 1;1 d 2": "3;0 MB 1;1 d 2", "6;0 o 5": "6;0 O 5",
	} {
		net, _ := impl.ParseNet(text)
		if got, ok := impl.MirrorNet(net); impl.FormatNet(got) != want || !ok {
			t.Errorf("MirrorNet(%s) = %s, %v, want %s", text, impl.FormatNet(got), ok, want)
		}
	}
	for _, no := range noNets {
		got, ok := impl.MirrorNet(no)
		wantNoNet(t, got, ok, "MirrorNet(%v)", no)
	}
}

// The models of the mirrored network are the mirrored models.
func TestMirrorNetOfModels(t *testing.T) {
	for size := 1; size <= impl.MaxNodes; size++ {
		for _, list := range plans[size] {
			mirrored := []impl.Interval{}
			for _, a := range list {
				mirrored = append(mirrored, plainMirror(a))
			}
			net, _ := impl.NetOf(list)
			got, ok := impl.MirrorNet(net)
			if want, _ := impl.NetOf(mirrored); got != want || !ok {
				t.Errorf("MirrorNet(%s) = %s, %v, want %s", impl.FormatNet(net), impl.FormatNet(got), ok, impl.FormatNet(want))
			}
		}
	}
}

func TestCountChoices(t *testing.T) {
	eachNet(t, func(n plainNet, net impl.Net) {
		want := 1
		for i := range n {
			for k := range i {
				want *= len(plainZonesOf(n[i][k]))
			}
		}
		if got := impl.CountChoices(net); got != want {
			t.Errorf("CountChoices(%s) = %d, want %d", n.text(), got, want)
		}
	})
	for text, want := range map[string]int{
		"1": 1, "2": 13, "3": 2197, "4": 4826809, "6": 51185893014090757, "2;0 - 1": 0, "6;4 - 5": 0, "2;0 b 1": 1, "3;0 bm 1;1 d 2": 26,
		"3;0 bB 1;0 bB 2;1 bB 2": 8, "6;0 b 1": 3937376385699289,
	} {
		net, _ := impl.ParseNet(text)
		if got := impl.CountChoices(net); got != want {
			t.Errorf("CountChoices(%s) = %d, want %d", text, got, want)
		}
	}
	for _, no := range noNets {
		if got := impl.CountChoices(no); got != -1 {
			t.Errorf("CountChoices(%v) = %d, want -1", no, got)
		}
	}
}

// Neither the lists nor the memory beyond their length may change.
func TestNetworksChangeNoLists(t *testing.T) {
	net := plainFree(3).net()
	intervals := []impl.Interval{{From: 0, To: 2}, {From: 1, To: 3}, {From: 5, To: 6}, {From: 9, To: 7}, {}, {From: 1, To: 2}, {From: 1, To: 2}, {}}
	nodes := []int{2, 0, 1, 7, -1, 0, 2, 5}
	keptIntervals, keptNodes := slices.Clone(intervals), slices.Clone(nodes)
	for length := range intervals {
		impl.NetOf(intervals[:length])
		impl.NetHolds(net, intervals[:length])
		impl.PartNet(net, nodes[:length])
		if !slices.Equal(intervals, keptIntervals) || !slices.Equal(nodes, keptNodes) {
			t.Errorf("lists of %d elements are changed to %v, %v", length, intervals, nodes)
		}
	}
}
