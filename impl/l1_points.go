package impl

import (
	"math/bits"
	"slices"
	"strings"
)

// Limits of points.
const (
	PointSets = 8
	MaxTime   = 1000000
)

// An order is one of the three relations of two points. Its number is the
// value of its digit in a set, so that a set is the sum of its orders.
type order int

const (
	orderBefore order = 1 << iota
	orderEqual
	orderBehind
)

// everyOrder has the orders as texts have their signs, from left to right.
var everyOrder = [...]order{orderBefore, orderEqual, orderBehind}

// An orderSet is a set of orders.
type orderSet int

// ordersOf returns the set of some orders.
func ordersOf(list ...order) orderSet {
	set := orderSet(0)
	for _, o := range list {
		set |= orderSet(o)
	}
	return set
}

// compareNumbers returns the order of any two numbers.
func compareNumbers(x, y int) order {
	switch {
	case x < y:
		return orderBefore
	case x > y:
		return orderBehind
	}
	return orderEqual
}

// turned returns the order of the same points the other way round.
func (o order) turned() order {
	switch o {
	case orderBefore:
		return orderBehind
	case orderBehind:
		return orderBefore
	}
	return o
}

// then returns the orders that o and, by way of a third number, p leave. That
// number need not be a point, so opposite orders leave all three: between
// points that are next to each other, and beyond the last one, there is always
// room for it.
func (o order) then(p order) orderSet {
	switch {
	case o == orderEqual:
		return ordersOf(p)
	case p == orderEqual || o == p:
		return ordersOf(o)
	}
	return ordersOf(orderBefore, orderEqual, orderBehind)
}

// sign returns the text of an order.
func (o order) sign() string {
	switch o {
	case orderBefore:
		return "<"
	case orderEqual:
		return "="
	}
	return ">"
}

// has reports whether an order is in the set.
func (s orderSet) has(o order) bool {
	return s&orderSet(o) != 0
}

// turned returns the set of the turned orders.
func (s orderSet) turned() orderSet {
	set := orderSet(0)
	for _, o := range everyOrder {
		if s.has(o) {
			set |= ordersOf(o.turned())
		}
	}
	return set
}

// then returns the orders that some order of each set leaves.
func (s orderSet) then(t orderSet) orderSet {
	set := orderSet(0)
	for _, o := range everyOrder {
		for _, p := range everyOrder {
			if s.has(o) && t.has(p) {
				set |= o.then(p)
			}
		}
	}
	return set
}

// count returns how many orders the set has.
func (s orderSet) count() int {
	return bits.OnesCount(uint(s))
}

// text returns the signs of the orders of the set.
func (s orderSet) text() string {
	if s == ordersOf() {
		return "-"
	}
	var text strings.Builder
	for _, o := range everyOrder {
		if s.has(o) {
			text.WriteString(o.sign())
		}
	}
	return text.String()
}

// isPoint reports whether a number is a point.
func isPoint(x int) bool {
	return -MaxTime <= x && x <= MaxTime
}

// PointValid reports whether a number is a set of orders of two points.
func PointValid(r int) bool {
	return 0 <= r && r < PointSets
}

// OrderOf returns the order of two points.
func OrderOf(x int, y int) int {
	if !isPoint(x) || !isPoint(y) {
		return 0
	}
	return int(compareNumbers(x, y))
}

// PointHolds reports whether two points are in one of some orders.
func PointHolds(r int, x int, y int) bool {
	// OrderOf is 0 for numbers that are no points, and no set has that order.
	return PointValid(r) && orderSet(r).has(order(OrderOf(x, y)))
}

// FormatPoint returns the text of a set of orders.
func FormatPoint(r int) string {
	if !PointValid(r) {
		return ""
	}
	return orderSet(r).text()
}

// ParsePoint parses the text of a set of orders.
func ParsePoint(s string) (int, bool) {
	for r := range PointSets {
		if FormatPoint(r) == s {
			return r, true
		}
	}
	return 0, false
}

// TurnPoint returns the orders of two points the other way round.
func TurnPoint(r int) int {
	if !PointValid(r) {
		return -1
	}
	return int(orderSet(r).turned())
}

// ComposePoint returns the orders that can be by way of a third point.
func ComposePoint(r int, s int) int {
	if !PointValid(r) || !PointValid(s) {
		return -1
	}
	return int(orderSet(r).then(orderSet(s)))
}

// CountOrders returns the number of orders of a set.
func CountOrders(r int) int {
	if !PointValid(r) {
		return -1
	}
	return orderSet(r).count()
}

// SortPoints returns the points in order, each once.
func SortPoints(list []int) []int {
	sorted := slices.Clone(list)
	slices.Sort(sorted)
	return slices.Compact(sorted)
}

// RanksOfPoints returns the place of each point among all different ones.
func RanksOfPoints(list []int) []int {
	sorted := SortPoints(list)
	ranks := make([]int, 0, len(list))
	for _, x := range list {
		rank, _ := slices.BinarySearch(sorted, x)
		ranks = append(ranks, rank)
	}
	return ranks
}
