package tests

import (
	"fmt"
	"math"
	"slices"
	"testing"

	"loop.example/g00177/impl"
)

func lineTo(node int, hops ...int) impl.Line {
	return impl.Line{To: node, Hops: hops}
}

func lineToThing(key int, hops ...int) impl.Line {
	return impl.Line{Thing: true, To: key, Hops: hops}
}

func goneTurn(l impl.Line) impl.Turn {
	return impl.Turn{Gone: true, Line: l}
}

func lineTurn(l impl.Line) impl.Turn {
	return impl.Turn{Line: l}
}

func sameEnd(a, b impl.Line) bool {
	return a.Thing == b.Thing && a.To == b.To
}

func sameLine(a, b impl.Line) bool {
	return sameEnd(a, b) && slices.Equal(a.Hops, b.Hops)
}

// sameLines asks for the same order, too.
func sameLines(a, b []impl.Line) bool {
	return slices.EqualFunc(a, b, sameLine)
}

func sameTurns(a, b []impl.Turn) bool {
	return slices.EqualFunc(a, b, func(a, b impl.Turn) bool { return a.Gone == b.Gone && sameLine(a.Line, b.Line) })
}

// hasEnd is whether a list has any line that leads where this one does.
func hasEnd(list []impl.Line, l impl.Line) bool {
	return slices.ContainsFunc(list, func(one impl.Line) bool { return sameEnd(one, l) })
}

func tableBy(list []impl.Route) []impl.Line {
	var table []impl.Line
	for _, r := range list {
		if l := (impl.Line{Thing: r.Thing, To: r.To, Hops: r.Hops}); !hasEnd(table, l) {
			table = append(table, l)
		}
	}
	return table
}

// differBy is what the document's words make of two tables, line by line.
func differBy(a, b []impl.Line) []impl.Turn {
	var list []impl.Turn
	for _, l := range a {
		if !hasEnd(b, l) {
			list = append(list, impl.Turn{Gone: true, Line: impl.Line{Thing: l.Thing, To: l.To}})
		}
	}
	for _, l := range b {
		if !slices.ContainsFunc(a, func(one impl.Line) bool { return sameLine(one, l) }) {
			list = append(list, lineTurn(l))
		}
	}
	return list
}

// applyBy turns the list itself, Turn by Turn.
func applyBy(a []impl.Line, list []impl.Turn) []impl.Line {
	table := slices.Clone(a)
	for _, turn := range list {
		at := slices.IndexFunc(table, func(one impl.Line) bool { return sameEnd(one, turn.Line) })
		table = slices.DeleteFunc(table, func(one impl.Line) bool { return sameEnd(one, turn.Line) })
		switch {
		case turn.Gone:
		case at < 0:
			table = append(table, turn.Line)
		default:
			table = slices.Insert(table, at, turn.Line)
		}
	}
	return table
}

// sameTableBy takes each line of one out of the other.
func sameTableBy(a, b []impl.Line) bool {
	left := slices.Clone(b)
	for _, l := range a {
		at := slices.IndexFunc(left, func(one impl.Line) bool { return sameLine(one, l) })
		if at < 0 {
			return false
		}
		left = slices.Delete(left, at, at+1)
	}
	return len(left) == 0
}

// walkBy goes on by itself with one node less to go to, and one pick less.
func walkBy(tables [][]impl.Line, from, to int, picks []int, left int) ([]int, bool) {
	if from == to {
		return []int{to}, true
	}
	if from < 1 || from > len(tables) || left == 0 {
		return nil, false
	}
	at := slices.IndexFunc(tables[from-1], func(l impl.Line) bool { return sameEnd(l, lineTo(to)) })
	if at < 0 || len(tables[from-1][at].Hops) == 0 {
		return nil, false
	}
	pick, hops := 0, tables[from-1][at].Hops
	if len(picks) > 0 {
		if picks[0] > 0 {
			pick = picks[0]
		}
		picks = picks[1:]
	}
	rest, ok := walkBy(tables, hops[pick%len(hops)], to, picks, left-1)
	if !ok {
		return nil, false
	}
	return append([]int{from}, rest...), true
}

func mustBeTable(t *testing.T, name string, list []impl.Route, want ...impl.Line) {
	t.Helper()
	if got := impl.TableOf(list); !sameLines(got, want) {
		t.Errorf("%s: TableOf(%+v) = %+v; want %+v", name, list, got, want)
	}
	if got := impl.TableOf(list); !sameLines(got, tableBy(list)) {
		t.Errorf("%s: TableOf(%+v) = %+v; by the words %+v", name, list, got, tableBy(list))
	}
}

func mustDiffer(t *testing.T, name string, a, b []impl.Line, want ...impl.Turn) {
	t.Helper()
	if got := impl.Differ(a, b); !sameTurns(got, want) {
		t.Errorf("%s: Differ(%+v, %+v) = %+v; want %+v", name, a, b, got, want)
	}
	mustDifferBy(t, name, a, b)
}

func mustDifferBy(t *testing.T, name string, a, b []impl.Line) []impl.Turn {
	t.Helper()
	got := impl.Differ(a, b)
	if want := differBy(a, b); !sameTurns(got, want) {
		t.Fatalf("%s: Differ(%+v, %+v) = %+v; by the words %+v", name, a, b, got, want)
	}
	return got
}

func mustApply(t *testing.T, name string, a []impl.Line, list []impl.Turn, want ...impl.Line) {
	t.Helper()
	if got := impl.Apply(a, list); !sameLines(got, want) {
		t.Errorf("%s: Apply(%+v, %+v) = %+v; want %+v", name, a, list, got, want)
	}
	mustApplyBy(t, name, a, list)
}

func mustApplyBy(t *testing.T, name string, a []impl.Line, list []impl.Turn) []impl.Line {
	t.Helper()
	got := impl.Apply(a, list)
	if want := applyBy(a, list); !sameLines(got, want) {
		t.Fatalf("%s: Apply(%+v, %+v) = %+v; by the words %+v", name, a, list, got, want)
	}
	return got
}

// mustBeSame asks both ways round.
func mustBeSame(t *testing.T, name string, a, b []impl.Line, want bool) {
	t.Helper()
	if impl.SameTable(a, b) != want || impl.SameTable(b, a) != want || sameTableBy(a, b) != want {
		t.Fatalf("%s: SameTable(%+v, %+v) = %v, the other way round %v, by the words %v; want %v",
			name, a, b, impl.SameTable(a, b), impl.SameTable(b, a), sameTableBy(a, b), want)
	}
}

func mustWalk(t *testing.T, name string, tables [][]impl.Line, from, to int, picks []int, want ...int) {
	t.Helper()
	got, ok := impl.Walk(tables, from, to, picks)
	by, also := walkBy(tables, from, to, picks, 2*impl.MaxNodes)
	if !ok || !also || !slices.Equal(got, want) || !slices.Equal(by, want) {
		t.Fatalf("%s: Walk(%+v, %d, %d, %v) = %v, %v; by the words %v, %v; want %v", name, tables, from, to, picks, got, ok, by, also, want)
	}
}

func mustNotWalk(t *testing.T, name string, tables [][]impl.Line, from, to int, picks ...int) {
	t.Helper()
	got, ok := impl.Walk(tables, from, to, picks)
	by, also := walkBy(tables, from, to, picks, 2*impl.MaxNodes)
	if ok || also || len(got) > 0 {
		t.Fatalf("%s: Walk(%+v, %d, %d, %v) = %v, %v; by the words %v, %v", name, tables, from, to, picks, got, ok, by, also)
	}
}

func mustWalkBy(t *testing.T, name string, tables [][]impl.Line, from, to int, picks []int) bool {
	t.Helper()
	got, ok := impl.Walk(tables, from, to, picks)
	by, also := walkBy(tables, from, to, picks, 2*impl.MaxNodes)
	if ok != also || !slices.Equal(got, by) {
		t.Fatalf("%s: Walk(%+v, %d, %d, %v) = %v, %v; by the words %v, %v", name, tables, from, to, picks, got, ok, by, also)
	}
	return ok
}

func TestTablesOfRoutesWrittenOut(t *testing.T) {
	mustBeTable(t, "nil", nil)
	mustBeTable(t, "no routes", []impl.Route{})
	mustBeTable(t, "one of each kind",
		[]impl.Route{toNode(impl.WithinArea, 2, 5, 2), toNode(impl.BeyondArea, 3, 9, 2, 4), toNear(3, 7, 4), toFar(5, 6, 8, 2, 4, 6)},
		lineTo(2, 2), lineTo(3, 2, 4), lineToThing(3, 4), lineToThing(5, 2, 4, 6))
	mustBeTable(t, "a thing of one's own, which has no Hops", []impl.Route{toNear(4, 3), toNode(impl.WithinArea, 4, 1, 4)}, lineToThing(4), lineTo(4, 4))
	mustBeTable(t, "a node and a thing with one To", []impl.Route{toNode(impl.WithinArea, 3, 5, 2), toNear(3, 5, 4)}, lineTo(3, 2), lineToThing(3, 4))
	mustBeTable(t, "one twice, the first one stands",
		[]impl.Route{toNode(impl.BeyondArea, 2, 9, 5), toNear(2, 1, 6), toNode(impl.WithinArea, 2, 1, 2), toFar(2, 1, 1, 3), toNode(impl.WithinArea, 3, 1, 3), toNode(impl.WithinArea, 2, 0)},
		lineTo(2, 5), lineToThing(2, 6), lineTo(3, 3))
	mustBeTable(t, "the first one has no Hops", []impl.Route{toNode(impl.WithinArea, 2, 5), toNode(impl.WithinArea, 2, 5, 4)}, lineTo(2))
	mustBeTable(t, "out of order, and Hops too", []impl.Route{toNear(9, 1, 4, 2, 4), toNode(impl.BeyondArea, 6, 1, 3), toNode(impl.WithinArea, 1, 1, 3)},
		lineToThing(9, 4, 2, 4), lineTo(6, 3), lineTo(1, 3))
	mustBeTable(t, "numbers that are no nodes", []impl.Route{toNode(77, math.MaxInt, -1, math.MinInt, 0), toNode(0, math.MinInt, 3, -1), toNode(0, 0, 0, 0)},
		lineTo(math.MaxInt, math.MinInt, 0), lineTo(math.MinInt, -1), lineTo(0, 0))
}

// drawnHops are few and of few nodes, so that many are the same.
func drawnHops(d *draws) []int {
	var hops []int
	for node := 1; node <= 3; node++ {
		if d.below(2) == 0 {
			hops = append(hops, node)
		}
	}
	if d.below(6) == 0 {
		slices.Reverse(hops)
	}
	return hops
}

// oddInts are no nodes and no places, or at the ends of what an int holds.
var oddInts = []int{math.MinInt, math.MinInt + 1, -7, -1, 0, 7, 13, math.MaxInt - 1, math.MaxInt}

// drawnLines may have lines that are there twice, and numbers that are no nodes.
func drawnLines(d *draws) []impl.Line {
	var list []impl.Line
	for range d.below(9) {
		l := impl.Line{Thing: d.below(3) == 0, To: 1 + d.below(5), Hops: drawnHops(d)}
		if d.below(12) == 0 {
			l.To = oddInts[d.below(len(oddInts))]
		}
		if d.below(12) == 0 {
			l.Hops = append(l.Hops, oddInts[d.below(len(oddInts))])
		}
		list = append(list, l)
	}
	return list
}

// drawnTable has one line of each.
func drawnTable(d *draws) []impl.Line {
	var table []impl.Line
	for _, l := range drawnLines(d) {
		if !hasEnd(table, l) {
			table = append(table, l)
		}
	}
	return table
}

func drawnTurns(d *draws) []impl.Turn {
	var list []impl.Turn
	for _, l := range drawnLines(d) {
		list = append(list, impl.Turn{Gone: d.below(3) == 0, Line: l})
	}
	return list
}

func mixed[T any](list []T, d *draws) []T {
	list = slices.Clone(list)
	for at := range list {
		other := d.below(len(list))
		list[at], list[other] = list[other], list[at]
	}
	return list
}

// mustMakeOneOfTheOther holds promise 11's first half of two tables, with no Turn
// too many.
func mustMakeOneOfTheOther(t *testing.T, name string, a, b []impl.Line) {
	t.Helper()
	list := mustDifferBy(t, name, a, b)
	made := mustApplyBy(t, name, a, list)
	mustBeSame(t, name, made, b, true)
	if again := impl.Differ(made, b); len(again) > 0 {
		t.Fatalf("%s: of %+v and %+v %+v differs still", name, a, b, again)
	}
	for _, table := range [][]impl.Line{a, b} {
		if self := impl.Differ(table, table); len(self) > 0 {
			t.Fatalf("%s: %+v differs from itself: %+v", name, table, self)
		}
	}
	if impl.SameTable(a, b) != (len(list) == 0) {
		t.Fatalf("%s: SameTable(%+v, %+v) = %v, and %+v differs", name, a, b, impl.SameTable(a, b), list)
	}
	for at := range list {
		less := slices.Delete(slices.Clone(list), at, at+1)
		if impl.SameTable(impl.Apply(a, less), b) {
			t.Fatalf("%s: %+v of %+v is not needed", name, list[at], list)
		}
	}
}

// Promise 11's first half, of every two tables of up to three lines.
func TestWhatDiffersOfSmallTables(t *testing.T) {
	hops := [][]int{nil, {1}, {2}, {1, 2}}
	ends := []impl.Line{lineTo(1), lineTo(2), lineToThing(2)}
	var tables [][]impl.Line
	for choice := range 5 * 5 * 5 {
		var table []impl.Line
		for _, l := range ends {
			if which := choice % 5; which < len(hops) {
				l.Hops = hops[which]
				table = append(table, l)
			}
			choice /= 5
		}
		tables = append(tables, table)
	}
	d := &draws{state: 1}
	for _, a := range tables {
		for _, b := range tables {
			mustMakeOneOfTheOther(t, "small", a, b)
			mustMakeOneOfTheOther(t, "small, in another order", mixed(a, d), mixed(b, d))
		}
	}
}

// Promise 11's first half, of drawn lines.
func TestWhatDiffersOfDrawnTables(t *testing.T) {
	n := watched{}
	for number := range 4000 {
		d := &draws{state: number}
		a, b := drawnTable(d), drawnTable(d)
		if d.below(3) == 0 {
			b = mixed(a, d)[d.below(len(a)+1):]
		}
		mustMakeOneOfTheOther(t, fmt.Sprint("number ", number), a, b)
		list := impl.Differ(a, b)
		gone := slices.ContainsFunc(list, func(turn impl.Turn) bool { return turn.Gone })
		added := slices.ContainsFunc(list, func(turn impl.Turn) bool { return !turn.Gone && !hasEnd(a, turn.Line) })
		n.count("nothing differs", len(list) == 0 && len(a) > 0)
		n.count("gone and new at once", gone && added)
		n.count("other Hops", slices.ContainsFunc(list, func(turn impl.Turn) bool { return !turn.Gone && hasEnd(a, turn.Line) }))
	}
	for _, what := range []string{"nothing differs", "gone and new at once", "other Hops"} {
		if n[what] < 100 {
			t.Errorf("too few of %s: %d", what, n[what])
		}
	}
}

// tablesOf are of all nodes of a net, by the records that it would have at rest.
func tablesOf(t *testing.T, x impl.Net) [][]impl.Line {
	t.Helper()
	var tables [][]impl.Line
	s := atRest(t, x)
	for node := 1; node <= x.N; node++ {
		routes := impl.RoutesOf(s, impl.AreasOf(x, node), impl.Border(x, node), node)
		table := impl.TableOf(routes)
		if !sameLines(table, tableBy(routes)) || len(table) != len(routes) {
			t.Fatalf("TableOf(%+v) = %+v", routes, table)
		}
		tables = append(tables, table)
	}
	return tables
}

// Promise 11's first half, of the routes of drawn nets: of two nodes, and of one node
// ahead of a link that falls and behind it.
func TestWhatDiffersOfRoutesOfNets(t *testing.T) {
	differ := 0
	for number := range 200 {
		for name, x := range map[string]impl.Net{"net": drawnNet(number), "borders": drawnBorders(number)} {
			x = withThings(x, number)
			tables := tablesOf(t, x)
			for _, a := range tables {
				for _, b := range tables {
					mustMakeOneOfTheOther(t, name, a, b)
				}
			}
			if len(x.Links) == 0 {
				continue
			}
			cut := x
			at := number % len(x.Links)
			cut.Links = slices.Delete(slices.Clone(x.Links), at, at+1)
			for at, b := range tablesOf(t, cut) {
				mustMakeOneOfTheOther(t, name, tables[at], b)
				mustMakeOneOfTheOther(t, name, b, tables[at])
				differ += len(impl.Differ(tables[at], b))
			}
		}
	}
	if differ < 500 {
		t.Errorf("too little differs: %d", differ)
	}
}

func TestDifferWrittenOut(t *testing.T) {
	some := []impl.Line{lineTo(2, 2), lineTo(3, 2, 4), lineToThing(3, 4)}
	mustDiffer(t, "both empty", nil, []impl.Line{})
	mustDiffer(t, "the first empty", nil, some, lineTurn(some[0]), lineTurn(some[1]), lineTurn(some[2]))
	mustDiffer(t, "the second empty", some, nil, goneTurn(lineTo(2)), goneTurn(lineTo(3)), goneTurn(lineToThing(3)))
	mustDiffer(t, "itself", some, some)
	mustDiffer(t, "the same in another order", some, []impl.Line{some[2], some[0], some[1]})
	mustDiffer(t, "Hops alone are others", some, []impl.Line{some[0], lineTo(3, 2, 5), some[2]}, lineTurn(lineTo(3, 2, 5)))
	mustDiffer(t, "one Hop less", some, []impl.Line{some[0], lineTo(3, 2), some[2]}, lineTurn(lineTo(3, 2)))
	mustDiffer(t, "one Hop more", some, []impl.Line{lineTo(2, 2, 3), some[1], some[2]}, lineTurn(lineTo(2, 2, 3)))
	mustDiffer(t, "no Hops any more", some, []impl.Line{some[0], some[1], lineToThing(3)}, lineTurn(lineToThing(3)))
	mustDiffer(t, "the same Hops in another order", some, []impl.Line{some[0], lineTo(3, 4, 2), some[2]}, lineTurn(lineTo(3, 4, 2)))
	mustDiffer(t, "no Hops, as nil and as an empty list", []impl.Line{{To: 4}}, []impl.Line{{To: 4, Hops: []int{}}})
	mustDiffer(t, "one gone", some, some[1:], goneTurn(lineTo(2)))
	mustDiffer(t, "one new", some[:2], some, lineTurn(lineToThing(3, 4)))
	mustDiffer(t, "a thing where a node was", []impl.Line{lineTo(5, 2)}, []impl.Line{lineToThing(5, 2)}, goneTurn(lineTo(5)), lineTurn(lineToThing(5, 2)))
	mustDiffer(t, "a node where a thing was", []impl.Line{lineToThing(5, 2)}, []impl.Line{lineTo(5, 2)}, goneTurn(lineToThing(5)), lineTurn(lineTo(5, 2)))
	mustDiffer(t, "gone first, in the first one's order, then in the second one's",
		[]impl.Line{lineTo(6, 1), lineTo(2, 2), lineToThing(1, 3), lineTo(3, 2), lineTo(1, 5)},
		[]impl.Line{lineToThing(9, 4), lineTo(3, 3), lineTo(5, 5), lineTo(2, 2), lineTo(4, 3)},
		goneTurn(lineTo(6)), goneTurn(lineToThing(1)), goneTurn(lineTo(1)),
		lineTurn(lineToThing(9, 4)), lineTurn(lineTo(3, 3)), lineTurn(lineTo(5, 5)), lineTurn(lineTo(4, 3)))
	for _, odd := range oddInts {
		mustDiffer(t, "odd numbers", []impl.Line{lineTo(odd, 1)}, []impl.Line{lineTo(1, odd)}, goneTurn(lineTo(odd)), lineTurn(lineTo(1, odd)))
	}
}

// A list that has a line twice is no table; each line is looked at as it stands.
func TestDifferOfLinesThatAreThereTwice(t *testing.T) {
	one, other := lineTo(2, 2), lineTo(2, 3)
	mustDiffer(t, "both gone", []impl.Line{one, lineTo(4, 4), one, other}, []impl.Line{lineTo(4, 4)}, goneTurn(lineTo(2)), goneTurn(lineTo(2)), goneTurn(lineTo(2)))
	mustDiffer(t, "both new", nil, []impl.Line{one, one, other}, lineTurn(one), lineTurn(one), lineTurn(other))
	mustDiffer(t, "both there", []impl.Line{one, other}, []impl.Line{one, other})
	mustDiffer(t, "both there, in another order", []impl.Line{one, other}, []impl.Line{other, one})
	mustDiffer(t, "one line, once and twice", []impl.Line{one}, []impl.Line{one, one})
	mustDiffer(t, "one line, twice and once", []impl.Line{one, one}, []impl.Line{one})
	mustDiffer(t, "neither is", []impl.Line{one, other}, []impl.Line{lineTo(2, 4)}, lineTurn(lineTo(2, 4)))
	for number := range 2000 {
		d := &draws{state: number}
		a, b := drawnLines(d), drawnLines(d)
		mustDifferBy(t, "drawn", a, b)
		mustDiffer(t, "drawn, with itself", a, a)
		mustDiffer(t, "drawn, with itself in another order", a, mixed(a, d))
	}
}

func TestApplyWrittenOut(t *testing.T) {
	some := []impl.Line{lineTo(2, 2), lineTo(3, 2, 4), lineToThing(3, 4)}
	mustApply(t, "nothing", nil, nil)
	mustApply(t, "no Turns", some, nil, some...)
	mustApply(t, "no Turns, an empty list", some, []impl.Turn{}, some...)
	mustApply(t, "one gone", some, []impl.Turn{goneTurn(lineTo(3))}, some[0], some[2])
	mustApply(t, "the thing gone", some, []impl.Turn{goneTurn(lineToThing(3))}, some[0], some[1])
	mustApply(t, "the first gone, whatever Hops are told", some, []impl.Turn{goneTurn(lineTo(2, 5, 6))}, some[1], some[2])
	mustApply(t, "all gone", some, []impl.Turn{goneTurn(lineToThing(3)), goneTurn(lineTo(2)), goneTurn(lineTo(3))})
	mustApply(t, "gone and not there", some, []impl.Turn{goneTurn(lineTo(4)), goneTurn(lineToThing(2))}, some...)
	mustApply(t, "gone of nothing", nil, []impl.Turn{goneTurn(lineTo(4))})
	mustApply(t, "gone twice", some, []impl.Turn{goneTurn(lineTo(2)), goneTurn(lineTo(2))}, some[1], some[2])
	mustApply(t, "in its place, the first", some, []impl.Turn{lineTurn(lineTo(2, 5))}, lineTo(2, 5), some[1], some[2])
	mustApply(t, "in its place, midway", some, []impl.Turn{lineTurn(lineTo(3))}, some[0], lineTo(3), some[2])
	mustApply(t, "in its place, the last", some, []impl.Turn{lineTurn(lineToThing(3, 1, 2, 3))}, some[0], some[1], lineToThing(3, 1, 2, 3))
	mustApply(t, "as it was", some, []impl.Turn{lineTurn(some[1])}, some...)
	mustApply(t, "a new one behind all", some, []impl.Turn{lineTurn(lineTo(1, 6))}, some[0], some[1], some[2], lineTo(1, 6))
	mustApply(t, "new ones, in their order", some[:1], []impl.Turn{lineTurn(lineTo(6, 6)), lineTurn(lineToThing(2, 1)), lineTurn(lineTo(1, 6))},
		some[0], lineTo(6, 6), lineToThing(2, 1), lineTo(1, 6))
	mustApply(t, "new ones of nothing", nil, []impl.Turn{lineTurn(lineTo(6, 6)), lineTurn(lineTo(1, 6))}, lineTo(6, 6), lineTo(1, 6))
	mustApply(t, "numbers that are no nodes", []impl.Line{lineTo(math.MinInt, 0), lineTo(0, -1)}, []impl.Turn{goneTurn(lineTo(0)), lineTurn(lineTo(math.MaxInt, math.MinInt))},
		lineTo(math.MinInt, 0), lineTo(math.MaxInt, math.MinInt))
}

func TestApplyOfSeveralTurnsForOneLine(t *testing.T) {
	some := []impl.Line{lineTo(2, 2), lineTo(3, 2, 4), lineToThing(3, 4)}
	mustApply(t, "turned twice", some, []impl.Turn{lineTurn(lineTo(2, 5)), lineTurn(lineTo(2, 6))}, lineTo(2, 6), some[1], some[2])
	mustApply(t, "turned, and gone", some, []impl.Turn{lineTurn(lineTo(2, 5)), goneTurn(lineTo(2))}, some[1], some[2])
	mustApply(t, "gone, and there again, behind all", some, []impl.Turn{goneTurn(lineTo(2)), lineTurn(lineTo(2, 5))}, some[1], some[2], lineTo(2, 5))
	mustApply(t, "gone, there again, and turned", some, []impl.Turn{goneTurn(lineTo(2)), lineTurn(lineTo(2, 5)), lineTurn(lineTo(2, 6))}, some[1], some[2], lineTo(2, 6))
	mustApply(t, "new, and turned in its new place", some, []impl.Turn{lineTurn(lineTo(5, 5)), lineTurn(lineTo(6, 6)), lineTurn(lineTo(5, 4))},
		some[0], some[1], some[2], lineTo(5, 4), lineTo(6, 6))
	mustApply(t, "new, gone, and new", some, []impl.Turn{lineTurn(lineTo(5, 5)), lineTurn(lineTo(6, 6)), goneTurn(lineTo(5)), lineTurn(lineTo(5, 4))},
		some[0], some[1], some[2], lineTo(6, 6), lineTo(5, 4))
	mustApply(t, "new, and gone", nil, []impl.Turn{lineTurn(lineTo(5, 5)), goneTurn(lineTo(5))})
}

// One line takes the place of all that lead where it does; what no Turn speaks of
// stays as it stands.
func TestApplyToLinesThatAreThereTwice(t *testing.T) {
	twice := []impl.Line{lineTo(4, 4), lineTo(2, 2), lineToThing(2, 6), lineTo(2, 2), lineTo(4, 5), lineTo(2, 3)}
	mustApply(t, "no Turns", twice, nil, twice...)
	mustApply(t, "gone", twice, []impl.Turn{goneTurn(lineTo(2))}, twice[0], twice[2], twice[4])
	mustApply(t, "turned", twice, []impl.Turn{lineTurn(lineTo(2, 9))}, twice[0], lineTo(2, 9), twice[2], twice[4])
	mustApply(t, "gone, and there again", twice, []impl.Turn{goneTurn(lineTo(4)), lineTurn(lineTo(4, 1))}, twice[1], twice[2], twice[3], twice[5], lineTo(4, 1))
	for number := range 3000 {
		d := &draws{state: number}
		mustApplyBy(t, "drawn", drawnLines(d), drawnTurns(d))
	}
}

func TestSameTables(t *testing.T) {
	some := []impl.Line{lineTo(2, 2), lineTo(3, 2, 4), lineToThing(3, 4)}
	mustBeSame(t, "nothing", nil, []impl.Line{}, true)
	mustBeSame(t, "itself", some, some, true)
	mustBeSame(t, "a copy", some, copyLines(some), true)
	mustBeSame(t, "another order", some, []impl.Line{some[1], some[2], some[0]}, true)
	mustBeSame(t, "backwards", some, []impl.Line{some[2], some[1], some[0]}, true)
	mustBeSame(t, "something and nothing", some, nil, false)
	mustBeSame(t, "one line more", some, append(slices.Clone(some), lineTo(4, 4)), false)
	mustBeSame(t, "one line more ahead", some, append([]impl.Line{lineTo(1, 4)}, some...), false)
	mustBeSame(t, "another line", some, []impl.Line{some[0], some[1], lineToThing(4, 4)}, false)
	mustBeSame(t, "a node and a thing", some, []impl.Line{some[0], some[1], lineTo(3, 4)}, false)
	mustBeSame(t, "a node and a thing with one To, turned about", []impl.Line{lineTo(3, 1), lineToThing(3, 2)}, []impl.Line{lineTo(3, 2), lineToThing(3, 1)}, false)
	mustBeSame(t, "a node and a thing with one To, in another order", []impl.Line{lineTo(3, 1), lineToThing(3, 2)}, []impl.Line{lineToThing(3, 2), lineTo(3, 1)}, true)
	mustBeSame(t, "other Hops", some, []impl.Line{some[0], lineTo(3, 2, 5), some[2]}, false)
	mustBeSame(t, "a Hop less", some, []impl.Line{some[0], lineTo(3, 2), some[2]}, false)
	mustBeSame(t, "Hops in another order", some, []impl.Line{some[0], lineTo(3, 4, 2), some[2]}, false)
	mustBeSame(t, "Hops of two lines exchanged", some, []impl.Line{lineTo(2, 2, 4), lineTo(3, 2), some[2]}, false)
	mustBeSame(t, "no Hops, as nil and as an empty list", []impl.Line{{To: 4}}, []impl.Line{{To: 4, Hops: []int{}}}, true)
	mustBeSame(t, "the ends of what an int holds", []impl.Line{lineTo(math.MinInt, math.MaxInt), lineTo(math.MaxInt)}, []impl.Line{lineTo(math.MaxInt), lineTo(math.MinInt, math.MaxInt)}, true)
	mustBeSame(t, "an end and the other", []impl.Line{lineTo(math.MinInt)}, []impl.Line{lineTo(math.MaxInt)}, false)
}

// Lines that are there twice count twice: nothing but their order is left out.
func TestSameTablesWithLinesThatAreThereTwice(t *testing.T) {
	a, b, c := lineTo(2, 2), lineTo(3, 3), lineTo(2, 3)
	mustBeSame(t, "twice and twice", []impl.Line{a, b, a}, []impl.Line{a, a, b}, true)
	mustBeSame(t, "twice and once", []impl.Line{a, a}, []impl.Line{a}, false)
	mustBeSame(t, "twice, and beside another", []impl.Line{a, a}, []impl.Line{a, b}, false)
	mustBeSame(t, "one twice and the other twice", []impl.Line{a, a, b}, []impl.Line{a, b, b}, false)
	mustBeSame(t, "with two Hops", []impl.Line{a, c}, []impl.Line{c, a}, true)
	mustBeSame(t, "with two Hops and with one", []impl.Line{a, c}, []impl.Line{a, a}, false)
	for number := range 3000 {
		d := &draws{state: number}
		list := drawnLines(d)
		mustBeSame(t, "in another order", list, mixed(list, d), true)
		other := drawnLines(d)
		mustBeSame(t, "two lists", list, other, sameTableBy(list, other))
		if len(list) == 0 {
			continue
		}
		at := d.below(len(list))
		mustBeSame(t, "one less", list, slices.Delete(slices.Clone(list), at, at+1), false)
		turned := mixed(list, d)
		turned[at].Hops = append(slices.Clone(turned[at].Hops), 4)
		mustBeSame(t, "one Hop more", list, turned, false)
	}
}

// chain leads through so many nodes, one behind the other, up to the last.
func chain(nodes int) [][]impl.Line {
	var tables [][]impl.Line
	for node := 1; node < nodes; node++ {
		tables = append(tables, []impl.Line{lineTo(nodes, node+1)})
	}
	return tables
}

// upTo are the numbers 1 .. most.
func upTo(most int) []int {
	var list []int
	for n := 1; n <= most; n++ {
		list = append(list, n)
	}
	return list
}

func TestWalksWrittenOut(t *testing.T) {
	tables := [][]impl.Line{
		{lineToThing(5, 9), lineTo(2, 2), lineTo(5, 2, 3, 4)},
		{lineTo(5, 3, 4), lineToThing(5)},
		{lineTo(4, 4), lineTo(5, 5)},
		{lineTo(5, 5, 3)},
		{lineTo(1, 4)},
	}
	mustWalk(t, "to itself", tables, 1, 1, nil, 1)
	mustWalk(t, "to itself, with picks", tables, 3, 3, []int{1, 2}, 3)
	mustWalk(t, "to a neighbour", tables, 1, 2, nil, 1, 2)
	mustWalk(t, "to a neighbour, one Hop whatever is picked", tables, 1, 2, []int{5}, 1, 2)
	mustWalk(t, "over several, no picks", tables, 1, 5, nil, 1, 2, 3, 5)
	mustWalk(t, "over several, an empty list", tables, 1, 5, []int{}, 1, 2, 3, 5)
	mustWalk(t, "the second Hop", tables, 1, 5, []int{1}, 1, 3, 5)
	mustWalk(t, "the last Hop", tables, 1, 5, []int{2}, 1, 4, 5)
	mustWalk(t, "each its own pick", tables, 1, 5, []int{0, 1, 0}, 1, 2, 4, 5)
	mustWalk(t, "a pick for each step", tables, 1, 5, []int{0, 1, 1, 7}, 1, 2, 4, 3, 5)
	mustWalk(t, "one Hop takes a pick, too", tables, 1, 5, []int{1, 1, 1}, 1, 3, 5)
	mustWalk(t, "fewer picks than steps", tables, 1, 5, []int{0, 1}, 1, 2, 4, 5)
	mustWalk(t, "more picks than steps", tables, 1, 5, []int{2, 0, 1, 1, 1}, 1, 4, 5)
	mustWalk(t, "just how many there are", tables, 1, 5, []int{3, 2}, 1, 2, 3, 5)
	mustWalk(t, "more than there are", tables, 1, 5, []int{4, 2}, 1, 3, 5)
	mustWalk(t, "far more than there are", tables, 1, 5, []int{300000002, 4}, 1, 4, 5)
	mustWalk(t, "the greatest, which is 1 modulo 3 and 1 modulo 2", tables, 1, 5, []int{math.MaxInt, math.MaxInt}, 1, 3, 5)
	mustWalk(t, "the greatest, at two Hops", tables, 2, 5, []int{math.MaxInt}, 2, 4, 5)
	for _, below := range []int{-1, -2, -3, -4, math.MinInt, math.MinInt + 1} {
		mustWalk(t, "below 0", tables, 1, 5, []int{below, 1, below}, 1, 2, 4, 5)
		mustWalk(t, "below 0, the second", tables, 1, 5, []int{0, below}, 1, 2, 3, 5)
	}
	mustWalk(t, "to a node that has no table", chain(3), 1, 3, nil, 1, 2, 3)
	mustWalk(t, "from the last that has one", chain(3), 2, 3, nil, 2, 3)
	mustWalk(t, "Hops that are not ascending, with one twice", [][]impl.Line{{lineTo(2, 7, 2, 7)}}, 1, 2, []int{4}, 1, 2)
	mustWalk(t, "the first of two lines", [][]impl.Line{{lineTo(3, 2), lineTo(3, 3)}, {lineTo(3, 3)}}, 1, 3, nil, 1, 2, 3)
}

func TestWalksThatComeNowhere(t *testing.T) {
	tables := [][]impl.Line{
		{lineTo(2, 2), lineTo(3, 2), lineTo(4, 2, 9), lineTo(5, 5), lineTo(6), lineToThing(7, 2), lineTo(8, 8)},
		{lineTo(4, 4), lineTo(5, 5)},
		nil,
		{},
	}
	mustNotWalk(t, "no line to it", tables, 2, 3)
	mustNotWalk(t, "no line to it on the way", tables, 1, 3)
	mustNotWalk(t, "no lines at all, nil", tables, 3, 1)
	mustNotWalk(t, "no lines at all", tables, 4, 1)
	mustNotWalk(t, "no Hops", tables, 1, 6)
	mustNotWalk(t, "no Hops, and picks", tables, 1, 6, 0, 1)
	mustNotWalk(t, "a thing alone has that number", tables, 1, 7)
	mustNotWalk(t, "a Hop that has no table", tables, 1, 4, 1)
	mustWalk(t, "the other Hop", tables, 1, 4, nil, 1, 2, 4)
	mustWalk(t, "a Hop that has no table, and is the node", tables, 1, 8, nil, 1, 8)
	mustNotWalk(t, "the first of two lines has no Hops", [][]impl.Line{{lineTo(2), lineTo(2, 2)}}, 1, 2)
	mustNotWalk(t, "a node that leads to itself", [][]impl.Line{{lineTo(2, 1)}}, 1, 2)
	mustNotWalk(t, "no tables", nil, 1, 2)
	mustWalk(t, "no tables, to itself", nil, 1, 1, nil, 1)
	for _, behind := range []int{5, 6} {
		mustNotWalk(t, "from a node that has no table", tables, behind, 2)
		mustNotWalk(t, "from a node that has no table, with a pick", tables, behind, 2, 0)
	}
	for _, odd := range oddInts {
		mustNotWalk(t, "from no node", tables, odd, 2)
		mustNotWalk(t, "to what no table has", tables, 2, odd)
		mustWalk(t, "from it to itself", tables, odd, odd, []int{1}, odd)
		mustNotWalk(t, "a Hop that is no node", [][]impl.Line{{lineTo(2, odd)}}, 1, 2)
		mustWalk(t, "to what a table has", [][]impl.Line{{lineTo(odd, odd)}}, 1, odd, nil, 1, odd)
	}
	mustNotWalk(t, "a Hop just behind the tables", [][]impl.Line{{lineTo(4, 2)}, {lineTo(4, 3)}}, 1, 4)
	mustNotWalk(t, "a Hop 0", [][]impl.Line{{lineTo(4, 0)}, {lineTo(4, 4)}}, 1, 4)
}

// As many as 2 times MaxNodes are gone to, and no more: through a row of nodes, and
// in a ring.
func TestWalksAtTheirMost(t *testing.T) {
	most := 2 * impl.MaxNodes
	mustWalk(t, "one less", chain(most), 1, most, nil, upTo(most)...)
	mustWalk(t, "just as many", chain(most+1), 1, most+1, nil, upTo(most+1)...)
	mustNotWalk(t, "one more", chain(most+2), 1, most+2)
	mustWalk(t, "one more, from the second on", chain(most+2), 2, most+2, nil, upTo(most + 2)[1:]...)
	mustNotWalk(t, "many more", chain(5*most), 1, 5*most)
	// Two nodes, of which the first leads out where it is picked.
	ring := [][]impl.Line{{lineTo(3, 2, 3)}, {lineTo(3, 1, 3)}}
	for steps := 1; steps <= most+2; steps++ {
		picks := append(make([]int, steps-1), 1)
		want := make([]int, steps)
		for at := range want {
			want[at] = 1 + at%2
		}
		want = append(want, 3)
		if steps <= most {
			mustWalk(t, fmt.Sprint("a ring left at step ", steps), ring, 1, 3, picks, want...)
		} else {
			mustNotWalk(t, fmt.Sprint("a ring left at step ", steps), ring, 1, 3, picks...)
		}
	}
	mustNotWalk(t, "a ring that is never left", ring, 1, 3)
	for size := 1; size <= most+3; size++ {
		var round [][]impl.Line
		for node := 1; node <= size; node++ {
			round = append(round, []impl.Line{lineTo(99, 1+node%size)})
		}
		mustNotWalk(t, fmt.Sprint("a ring of ", size), round, 1, 99, 1, 2, 3)
	}
}

func TestDrawnWalks(t *testing.T) {
	came := watched{}
	for number := range 6000 {
		d := &draws{state: number}
		tables := make([][]impl.Line, d.below(8))
		for at := range tables {
			tables[at] = drawnLines(d)
			for to := 1; to <= 4; to++ {
				if d.below(3) > 0 {
					tables[at] = append(tables[at], lineTo(to, append(drawnHops(d), 1+d.below(5))...))
				}
			}
		}
		var picks []int
		for range d.below(16) {
			picks = append(picks, d.below(9)-2)
			if d.below(8) == 0 {
				picks[len(picks)-1] = oddInts[d.below(len(oddInts))]
			}
		}
		from, to := 1+d.below(7), 1+d.below(5)
		ok := mustWalkBy(t, "drawn", tables, from, to, picks)
		nodes, _ := impl.Walk(tables, from, to, picks)
		came.count("come", ok && from != to)
		came.count("come over several", len(nodes) > 3)
		came.count("come nowhere", !ok)
	}
	for _, what := range []string{"come", "come over several", "come nowhere"} {
		if came[what] < 100 {
			t.Errorf("too few that %s: %d", what, came[what])
		}
	}
}

// within are the tables of the routes within areas, and what is told that they cost.
type within struct {
	net    impl.Net
	tables [][]impl.Line
	told   map[[2]int]int
}

// withinOf has the routes of node 1 first.
func withinOf(x impl.Net, routes [][]impl.Route) within {
	w := within{net: x, told: map[[2]int]int{}}
	for at, list := range routes {
		list = slices.DeleteFunc(slices.Clone(list), func(r impl.Route) bool { return r.Kind != impl.WithinArea })
		w.tables = append(w.tables, impl.TableOf(list))
		for _, r := range list {
			w.told[[2]int{at + 1, r.To}] = r.Cost
		}
	}
	return w
}

// costOf is what it costs to go from node to node, by the cheapest link of each two.
func (w within) costOf(t *testing.T, nodes []int) int {
	t.Helper()
	cost := 0
	for at := 1; at < len(nodes); at++ {
		least := math.MaxInt
		for area := range impl.MaxArea + 1 {
			if link := impl.CostTo(w.net, nodes[at-1], nodes[at], area); link > 0 {
				least = min(least, link)
			}
		}
		if least == math.MaxInt {
			t.Fatalf("%+v: in %v there is no link to %d", w.net, nodes, nodes[at])
		}
		cost += least
	}
	return cost
}

// eachPick goes through all rows of picks that there are from a node on to another.
func (w within) eachPick(at, to int, picks []int, f func(picks []int)) {
	if at == to || len(picks) > impl.MaxNodes {
		f(picks)
		return
	}
	for _, l := range w.tables[at-1] {
		if !l.Thing && l.To == to {
			for pick, hop := range l.Hops {
				w.eachPick(hop, to, append(slices.Clone(picks), pick), f)
			}
		}
	}
}

// mustComeThere holds promise 11's second half: who follows the tables comes to each
// node that they have, whatever is picked. In a net of one area that costs just what
// was told; where there are more, a node on the way may know of a cheaper way within
// an area that the first one is not in.
func (w within) mustComeThere(t *testing.T, name string, seen watched) {
	t.Helper()
	areas := map[int]bool{}
	for _, l := range w.net.Links {
		areas[l.Area] = true
	}
	for ends, told := range w.told {
		follow := func(picks []int) {
			nodes, ok := impl.Walk(w.tables, ends[0], ends[1], picks)
			if !ok || nodes[0] != ends[0] || nodes[len(nodes)-1] != ends[1] || len(nodes) > w.net.N {
				t.Fatalf("%s: %+v: Walk(%+v, %d, %d, %v) = %v, %v", name, w.net, w.tables, ends[0], ends[1], picks, nodes, ok)
			}
			cost := w.costOf(t, nodes)
			if cost > told || len(areas) == 1 && cost != told {
				t.Fatalf("%s: %+v: from %d to %d by %v it costs %d; told was %d", name, w.net, ends[0], ends[1], nodes, cost, told)
			}
			seen.count("cheaper than told", cost < told)
			seen.count("just as told", cost == told)
			seen.count("over several nodes", len(nodes) > 3)
		}
		d := &draws{state: told}
		ways := 0
		w.eachPick(ends[0], ends[1], nil, func(picks []int) {
			ways++
			follow(picks)
			for at := range picks {
				if picks[at] == 0 {
					picks[at] = oddInts[d.below(4)]
				}
			}
			follow(picks)
			follow(append(picks, 1, 2, 3))
		})
		for range 3 {
			follow([]int{d.below(100), d.below(100), d.below(100), oddInts[d.below(len(oddInts))], d.below(7)})
		}
		follow(nil)
		seen.count("by several ways", ways > 1)
	}
}

// inOneArea has all links of a net in one, of two between the same nodes the first.
func inOneArea(x impl.Net, area int) impl.Net {
	var links []impl.Link
	for _, l := range x.Links {
		l.Area = area
		if len(links) == 0 || links[len(links)-1].A != l.A || links[len(links)-1].B != l.B {
			links = append(links, l)
		}
	}
	x.Links = links
	return x
}

func routesAtRest(t *testing.T, x impl.Net) [][]impl.Route {
	t.Helper()
	if !impl.NetOk(x) {
		t.Fatalf("%+v is no right net", x)
	}
	s := atRest(t, x)
	var routes [][]impl.Route
	for node := 1; node <= x.N; node++ {
		routes = append(routes, impl.RoutesOf(s, impl.AreasOf(x, node), impl.Border(x, node), node))
	}
	return routes
}

// Promise 11's second half, of nets of one area and of several.
func TestWhoFollowsTablesComesThere(t *testing.T) {
	one, several := watched{}, watched{}
	for number := range 400 {
		for name, x := range map[string]impl.Net{"net": drawnNet(number), "borders": drawnBorders(number)} {
			x = withThings(x, number)
			withinOf(x, routesAtRest(t, x)).mustComeThere(t, name, several)
			x = inOneArea(x, number%(impl.MaxArea+1))
			withinOf(x, routesAtRest(t, x)).mustComeThere(t, name+" in one area", one)
		}
	}
	for name, x := range rightNets {
		withinOf(x, routesAtRest(t, x)).mustComeThere(t, name, several)
		x = inOneArea(x, 1)
		withinOf(x, routesAtRest(t, x)).mustComeThere(t, name+" in one area", one)
	}
	eachSmallNet(func(x impl.Net) { withinOf(x, routesAtRest(t, x)).mustComeThere(t, "small", several) })
	if one["cheaper than told"] > 0 {
		t.Errorf("in one area: cheaper than told: %d", one["cheaper than told"])
	}
	for _, what := range []string{"just as told", "over several nodes", "by several ways"} {
		if one[what] < 500 || several[what] < 500 {
			t.Errorf("too few %s: %d in one area, %d in several", what, one[what], several[what])
		}
	}
}

// The same of what nodes find that told each other what there is.
func TestWhoFollowsTablesOfNodesThatTalkedComesThere(t *testing.T) {
	for number := range 4 {
		net := inOneArea(withThings(drawnBorders(number), number), number%(impl.MaxArea+1))
		k := &talk{nodes: map[int]impl.Node{}}
		for id := 1; id <= net.N; id++ {
			n, _ := impl.NodeNew(net, id, 0)
			k.nodes[id] = n
		}
		for range 8 {
			k.tick(t, "talk")
			k.deliver(t, "talk", firstAhead)
		}
		var routes [][]impl.Route
		for id := 1; id <= net.N; id++ {
			routes = append(routes, impl.Routes(k.nodes[id]))
		}
		seen := watched{}
		withinOf(net, routes).mustComeThere(t, fmt.Sprint("number ", number), seen)
		if seen["just as told"] == 0 {
			t.Errorf("number %d: %+v: nobody comes anywhere", number, net)
		}
	}
}

func copyLines(list []impl.Line) []impl.Line {
	own := slices.Clone(list)
	for at := range own {
		own[at].Hops = slices.Clone(own[at].Hops)
	}
	return own
}

func copyTurns(list []impl.Turn) []impl.Turn {
	own := slices.Clone(list)
	for at := range own {
		own[at].Line.Hops = slices.Clone(own[at].Line.Hops)
	}
	return own
}

func linesOfTurns(list []impl.Turn) []impl.Line {
	var lines []impl.Line
	for _, turn := range list {
		lines = append(lines, turn.Line)
	}
	return lines
}

// roomyInts has spare room behind it, which is 77 and on.
func roomyInts(list []int) []int {
	return append(slices.Clone(list), 77, 78, 79, 80)[: len(list) : len(list)+4]
}

// roomyLines has spare room behind the list, and behind the Hops of each.
func roomyLines(list []impl.Line) []impl.Line {
	room := make([]impl.Line, 0, len(list)+3)
	for _, l := range list {
		l.Hops = roomyInts(l.Hops)
		room = append(room, l)
	}
	return append(room, lineTo(77, 7), lineTo(78), lineToThing(79, 9))[:len(list)]
}

func roomyTurns(list []impl.Turn) []impl.Turn {
	room := make([]impl.Turn, 0, len(list)+2)
	for _, turn := range list {
		turn.Line.Hops = roomyInts(turn.Line.Hops)
		room = append(room, turn)
	}
	return append(room, lineTurn(lineTo(77, 7)), goneTurn(lineTo(78)))[:len(list)]
}

// linesInFull have the room behind the list, and behind the Hops of each.
func linesInFull(list []impl.Line) []impl.Line {
	full := slices.Clone(list[:cap(list)])
	for at := range full {
		full[at].Hops = slices.Clone(full[at].Hops[:cap(full[at].Hops)])
	}
	return full
}

func turnsInFull(list []impl.Turn) []impl.Turn {
	full := slices.Clone(list[:cap(list)])
	for at := range full {
		full[at].Line.Hops = slices.Clone(full[at].Line.Hops[:cap(full[at].Line.Hops)])
	}
	return full
}

func overwriteLines(list []impl.Line) {
	for _, l := range list {
		for at := range l.Hops[:cap(l.Hops)] {
			l.Hops[:cap(l.Hops)][at] = -99
		}
	}
	list = list[:cap(list)]
	for at := range list {
		list[at] = lineTo(-99)
	}
}

func overwriteTurns(list []impl.Turn) {
	overwriteLines(linesOfTurns(list))
	list = list[:cap(list)]
	for at := range list {
		list[at] = goneTurn(lineTo(-99))
	}
}

// mustShareNothing holds that no two Hops of one answer, and none of what was handed
// in, share memory.
func mustShareNothing(t *testing.T, name string, answer []impl.Line, given ...[]impl.Line) {
	t.Helper()
	seen := map[any]bool{}
	for _, list := range given {
		for _, l := range list {
			for _, place := range placesOf(l.Hops) {
				seen[place] = true
			}
		}
	}
	for _, l := range answer {
		for _, place := range placesOf(l.Hops) {
			if seen[place] {
				t.Fatalf("%s: memory is shared: %+v", name, answer)
			}
			seen[place] = true
		}
	}
}

func mustStayLines(t *testing.T, name string, ask func() []impl.Line, given ...[]impl.Line) {
	t.Helper()
	first, second := ask(), ask()
	mustShareNothing(t, name, second, append(given, first)...)
	kept := copyLines(second)
	overwriteLines(first)
	if !sameLines(second, kept) {
		t.Fatalf("%s: two answers share memory: %+v; want %+v", name, second, kept)
	}
	overwriteLines(second)
	if third := ask(); !sameLines(third, kept) {
		t.Fatalf("%s: asked again, it is %+v; want %+v", name, third, kept)
	}
}

func mustStayTurns(t *testing.T, name string, ask func() []impl.Turn, given ...[]impl.Line) {
	t.Helper()
	first, second := ask(), ask()
	mustShareNothing(t, name, linesOfTurns(second), append(given, linesOfTurns(first))...)
	kept := copyTurns(second)
	overwriteTurns(first)
	if !sameTurns(second, kept) {
		t.Fatalf("%s: two answers share memory: %+v; want %+v", name, second, kept)
	}
	overwriteTurns(second)
	if third := ask(); !sameTurns(third, kept) {
		t.Fatalf("%s: asked again, it is %+v; want %+v", name, third, kept)
	}
}

func TestTablesLeaveTheirArgumentsAlone(t *testing.T) {
	for number := range 1000 {
		d := &draws{state: number}
		a, b, list := roomyLines(drawnLines(d)), roomyLines(drawnLines(d)), roomyTurns(drawnTurns(d))
		keptA, keptB, keptList := linesInFull(a), linesInFull(b), turnsInFull(list)
		mustStayTurns(t, "Differ", func() []impl.Turn { return impl.Differ(a, b) }, a, b)
		mustStayLines(t, "Apply", func() []impl.Line { return impl.Apply(a, list) }, a, linesOfTurns(list))
		mustStayLines(t, "Apply of no Turns", func() []impl.Line { return impl.Apply(a, nil) }, a)
		impl.SameTable(a, b)
		impl.SameTable(a, a)
		if !sameLines(linesInFull(a), keptA) || !sameLines(linesInFull(b), keptB) || !sameTurns(turnsInFull(list), keptList) {
			t.Fatalf("an argument was written into: %+v, %+v, %+v; want %+v, %+v, %+v", linesInFull(a), linesInFull(b), turnsInFull(list), keptA, keptB, keptList)
		}
		var routes []impl.Route
		for _, l := range a {
			routes = append(routes, impl.Route{Thing: l.Thing, To: l.To, Kind: 1, Cost: 2, Hops: l.Hops})
		}
		room := append(slices.Clone(routes), toNode(1, 77, 7, 7), toNear(78, 8))
		routes = room[:len(routes)]
		keptRoutes := copyRoutes(room)
		mustStayLines(t, "TableOf", func() []impl.Line { return impl.TableOf(routes) }, a)
		if !sameRoutes(room, keptRoutes) || !sameLines(linesInFull(a), keptA) {
			t.Fatalf("the routes were written into: %+v; want %+v", room, keptRoutes)
		}
	}
}

func TestWalksLeaveTheirArgumentsAlone(t *testing.T) {
	for number := range 300 {
		d := &draws{state: number}
		var tables [][]impl.Line
		var kept [][]impl.Line
		for range 4 {
			tables = append(tables, roomyLines(append(drawnLines(d), lineTo(4, 2, 3, 4), lineTo(3, 3))))
			kept = append(kept, linesInFull(tables[len(tables)-1]))
		}
		given := append(slices.Clone(tables), roomyLines([]impl.Line{lineTo(4, 4)}))[:len(tables)]
		picks := roomyInts([]int{number % 3, -1, number % 2})
		for from := 0; from <= 5; from++ {
			for to := 0; to <= 5; to++ {
				first, _ := impl.Walk(given, from, to, picks)
				second, _ := impl.Walk(given, from, to, picks)
				mustBeApart(t, first, second)
				mustBeApart(t, second, slices.Clone(second))
			}
		}
		if !slices.Equal(picks[:cap(picks)], []int{number % 3, -1, number % 2, 77, 78, 79, 80}) {
			t.Fatalf("the picks were written into: %v", picks[:cap(picks)])
		}
		for at := range tables {
			if !sameLines(linesInFull(given[at]), kept[at]) {
				t.Fatalf("a table was written into: %+v; want %+v", linesInFull(given[at]), kept[at])
			}
		}
		if !sameLines(given[:5][4], []impl.Line{lineTo(4, 4)}) {
			t.Fatalf("the room behind the tables was written into: %+v", given[:5][4])
		}
	}
}

// Lines that are handed in with one list of Hops among them, or with nothing but room
// in them, come back each with Hops of its own.
func TestTablesPartWhatLinesShare(t *testing.T) {
	room := []int{5, 6, 77, 78}
	hops := room[:2]
	shared := []impl.Line{lineTo(1, 0), lineTo(2, 0), lineToThing(2, 0), lineTo(3)}
	for at := range shared {
		shared[at].Hops = hops
	}
	shared[3].Hops = room[:0]
	var routes []impl.Route
	var turns []impl.Turn
	for _, l := range shared {
		routes = append(routes, impl.Route{Thing: l.Thing, To: l.To, Hops: l.Hops})
		turns = append(turns, lineTurn(l))
	}
	turns = append(turns, turns[0], goneTurn(impl.Line{To: 9, Hops: hops}))
	mustStayLines(t, "TableOf", func() []impl.Line { return impl.TableOf(routes) }, shared)
	mustStayLines(t, "Apply", func() []impl.Line { return impl.Apply(shared, nil) }, shared)
	mustStayLines(t, "Apply to itself", func() []impl.Line { return impl.Apply(append(shared, shared...), turns) }, shared)
	mustStayLines(t, "Apply to nothing", func() []impl.Line { return impl.Apply(nil, turns) }, shared)
	mustStayTurns(t, "Differ from nothing", func() []impl.Turn { return impl.Differ(nil, shared) }, shared)
	mustStayTurns(t, "Differ to nothing", func() []impl.Turn { return impl.Differ(shared, nil) }, shared)
	if !slices.Equal(room, []int{5, 6, 77, 78}) {
		t.Errorf("the Hops that were handed in are now %v", room)
	}
	nodes, ok := impl.Walk([][]impl.Line{shared}, 1, 3, nil)
	if ok || len(nodes) > 0 {
		t.Errorf("Walk by no Hops: %v, %v", nodes, ok)
	}
}

// What is asked again is answered again, in the same order, also of long lists.
func TestTablesAnswerTheSameEachTime(t *testing.T) {
	var long, other []impl.Line
	var routes []impl.Route
	var want []impl.Line
	for n := range 3000 {
		l := impl.Line{Thing: n%3 == 0, To: (n * 7919) % 3000, Hops: []int{n % 5, n % 7}}
		long = append(long, l)
		routes = append(routes, impl.Route{Thing: l.Thing, To: l.To, Hops: l.Hops}, impl.Route{Thing: l.Thing, To: l.To, Hops: []int{9}})
		want = append(want, l)
		if n%2 == 0 {
			other = append(other, impl.Line{Thing: n%3 == 0, To: l.To, Hops: []int{n % 3, n % 7}})
		}
	}
	turns := impl.Differ(long, other)
	made := impl.Apply(long, turns)
	if !impl.SameTable(made, other) || len(turns) == 0 {
		t.Fatal("a long list does not become the other")
	}
	for range 5 {
		if !sameLines(impl.TableOf(routes), want) || !sameTurns(impl.Differ(long, other), turns) || !sameLines(impl.Apply(long, turns), made) || !sameLines(impl.Apply(long, nil), long) {
			t.Fatal("another answer to the same question")
		}
		if !impl.SameTable(long, mixed(long, &draws{state: 3})) || impl.SameTable(long, long[1:]) {
			t.Fatal("SameTable of a long list")
		}
	}
}
