package tests

import (
	"fmt"
	"math"
	"slices"
	"testing"

	"loop.example/g00177/impl"
)

func beyondTold(area, owner, key, cost int) impl.Record {
	return impl.Record{Area: area, Kind: impl.KindBeyond, Owner: owner, Key: key, Seq: 2, Cost: cost}
}

func thingTold(owner, key, cost int) impl.Record {
	return impl.Record{Area: impl.Outside, Kind: impl.KindThing, Owner: owner, Key: key, Seq: 3, Cost: cost}
}

func farTold(owner, key, cost int) impl.Record {
	return with(thingTold(owner, key, cost), func(r *impl.Record) { r.Far = true })
}

// inArea are the KindNode records of the nodes that have links there, of which
// rows tell: two nodes and a Cost.
func inArea(area int, rows ...[3]int) []impl.Record {
	var nodes []int
	for _, row := range rows {
		nodes = append(nodes, row[0], row[1])
	}
	return tellBoth(area, rows...).silentBut(nodes...).store()
}

// storeOf has them all, each in its place; what it makes is a right store.
func storeOf(t *testing.T, lists ...[]impl.Record) []impl.Record {
	t.Helper()
	s := slices.Concat(lists...)
	slices.SortFunc(s, func(a, b impl.Record) int {
		if impl.Before(a, b) {
			return -1
		}
		return 1
	})
	if !impl.StoreOk(s) {
		t.Fatalf("no right store: %s", brief(s))
	}
	return s
}

func sameRoute(a, b impl.Route) bool {
	return a.Thing == b.Thing && a.To == b.To && a.Kind == b.Kind && a.Cost == b.Cost && a.Far == b.Far && slices.Equal(a.Hops, b.Hops)
}

func sameRoutes(a, b []impl.Route) bool {
	return slices.EqualFunc(a, b, sameRoute)
}

// known is a right store, and what the document's words make of it, found in
// another manner: node by node and with every way gone through.
type known struct {
	s    []impl.Record
	ways map[[2]int][]impl.Way
}

func knownOf(s []impl.Record) known {
	return known{s: s, ways: map[[2]int][]impl.Way{}}
}

// in are the ways within an area.
func (k known) in(area, from int) []impl.Way {
	if from < 1 || from > impl.MaxNodes {
		return nil
	}
	list, ok := k.ways[[2]int{area, from}]
	if !ok {
		x := told{area: area}.silentBut()
		for _, r := range k.s {
			if r.Kind != impl.KindNode || r.Area != area {
				continue
			}
			x.silent[r.Owner] = false
			for _, n := range r.Near {
				x.cost[r.Owner][n.To] = n.Cost
			}
		}
		list = x.ways(from)
		k.ways[[2]int{area, from}] = list
	}
	return list
}

// leastTo is, of all those to a node, the least Cost, with the Hops of all that
// have it.
func leastTo(to int, list []impl.Way) (impl.Way, bool) {
	cost, hops := math.MaxInt, map[int]bool{}
	for _, w := range list {
		if w.To == to {
			cost = min(cost, w.Cost)
		}
	}
	for _, w := range list {
		for _, hop := range w.Hops {
			if w.To == to && w.Cost == cost {
				hops[hop] = true
			}
		}
	}
	least := impl.Way{To: to, Cost: cost}
	for hop := 1; hop <= impl.MaxNodes; hop++ {
		if hops[hop] {
			least.Hops = append(least.Hops, hop)
		}
	}
	return least, cost < math.MaxInt
}

func (k known) within(areas []int, from int) []impl.Way {
	var all, list []impl.Way
	for _, area := range areas {
		all = append(all, k.in(area, from)...)
	}
	for to := 1; to <= impl.MaxNodes; to++ {
		if w, ok := leastTo(to, all); ok {
			list = append(list, w)
		}
	}
	return list
}

func (k known) beyond(areas []int, border bool, from int) []impl.Way {
	var all, list []impl.Way
	for _, area := range areas {
		for _, r := range k.s {
			if r.Kind != impl.KindBeyond || r.Area != area || r.Owner == from || border && area != 0 {
				continue
			}
			w, ok := leastTo(r.Owner, k.in(area, from))
			if ok && r.Cost < impl.Infinite && r.Cost+w.Cost < impl.Infinite {
				all = append(all, impl.Way{To: r.Key, Cost: r.Cost + w.Cost, Hops: w.Hops})
			}
		}
	}
	within := k.within(areas, from)
	for to := 1; to <= impl.MaxNodes; to++ {
		_, has := leastTo(to, within)
		if w, ok := leastTo(to, all); ok && !has {
			list = append(list, w)
		}
	}
	return list
}

// thingRoute has ways to owners of near ones, with what those cost, and ways to
// owners of far ones, whose costs stand beside them.
func thingRoute(key int, near, far []impl.Way, costs []int) (impl.Route, bool) {
	for at := range near {
		near[at].To = key
	}
	if w, ok := leastTo(key, near); ok {
		return impl.Route{Thing: true, To: key, Kind: impl.ToThing, Cost: w.Cost, Hops: w.Hops}, true
	}
	var least []impl.Way
	for at, w := range far {
		if costs[at] == slices.Min(costs) {
			w.To = key
			least = append(least, w)
		}
	}
	w, ok := leastTo(key, least)
	if !ok {
		return impl.Route{}, false
	}
	return impl.Route{Thing: true, To: key, Kind: impl.ToFar, Cost: w.Cost, Far: slices.Min(costs), Hops: w.Hops}, true
}

func (k known) routes(areas []int, border bool, from int) []impl.Route {
	var list []impl.Route
	within, beyond := k.within(areas, from), k.beyond(areas, border, from)
	for _, w := range within {
		if w.To != from {
			list = append(list, impl.Route{To: w.To, Kind: impl.WithinArea, Cost: w.Cost, Hops: w.Hops})
		}
	}
	for _, w := range beyond {
		list = append(list, impl.Route{To: w.To, Kind: impl.BeyondArea, Cost: w.Cost, Hops: w.Hops})
	}
	for key := 1; key <= 9; key++ {
		var near, far []impl.Way
		var costs []int
		for _, r := range k.s {
			w, ok := leastTo(r.Owner, append(slices.Clone(within), beyond...))
			if r.Owner == from {
				w, ok = impl.Way{}, true
			}
			if r.Kind != impl.KindThing || r.Key != key || r.Cost == impl.Infinite || !ok {
				continue
			}
			if r.Far {
				far, costs = append(far, w), append(costs, r.Cost)
			} else {
				w.Cost += r.Cost
				near = append(near, w)
			}
		}
		if route, ok := thingRoute(key, near, far, costs); ok {
			list = append(list, route)
		}
	}
	return list
}

// told is what Beyond answers. What is beyond is looked for by area 0 alone, so
// that both rules tell of some nodes.
func (k known) told(areas []int, from, area int) []impl.Record {
	var others, middle []int
	for _, other := range areas {
		if other != area {
			others = append(others, other)
		}
		if other == 0 && area != 0 {
			middle = []int{0}
		}
	}
	var list []impl.Record
	for node := 1; node <= impl.MaxNodes; node++ {
		first, told := leastTo(node, k.within(others, from))
		if !told {
			first, told = leastTo(node, k.beyond(middle, true, from))
		}
		if _, here := leastTo(node, k.in(area, from)); told && !here && node != from {
			list = append(list, impl.Record{Area: area, Kind: impl.KindBeyond, Owner: from, Key: node, Cost: first.Cost})
		}
	}
	return list
}

// mustBeKnown holds all that is asked of a store against the document's words.
func mustBeKnown(t *testing.T, k known, areas []int, border bool, from int) {
	t.Helper()
	if got, want := impl.RoutesWithin(k.s, areas, from), k.within(areas, from); !sameWays(got, want) {
		t.Fatalf("%+v: RoutesWithin(.., %v, %d) = %v; want %v", k.s, areas, from, got, want)
	}
	if got, want := impl.RoutesBeyond(k.s, areas, border, from), k.beyond(areas, border, from); !sameWays(got, want) {
		t.Fatalf("%+v: RoutesBeyond(.., %v, %v, %d) = %v; want %v", k.s, areas, border, from, got, want)
	}
	if got, want := impl.RoutesOf(k.s, areas, border, from), k.routes(areas, border, from); !sameRoutes(got, want) {
		t.Fatalf("%+v: RoutesOf(.., %v, %v, %d) = %+v; want %+v", k.s, areas, border, from, got, want)
	}
	for area := -1; area <= impl.MaxArea+1; area++ {
		if got, want := impl.Beyond(k.s, areas, from, area), k.told(areas, from, area); !sameRecords(got, want) {
			t.Fatalf("%+v: Beyond(.., %v, %d, %d) = %+v; want %+v", k.s, areas, from, area, got, want)
		}
	}
}

// mustLeadOnce holds promise 7 against WaysIn alone: routes lead to each node
// once, and not to the one that asks; what is within costs what the best way of
// its areas costs; what is within is not beyond.
func mustLeadOnce(t *testing.T, s []impl.Record, areas []int, border bool, from int) {
	t.Helper()
	var within []impl.Way
	for _, area := range areas {
		within = append(within, impl.WaysIn(s, area, from)...)
	}
	led := map[[2]int]bool{}
	lastKind, lastTo := 0, 0
	for _, r := range impl.RoutesOf(s, areas, border, from) {
		place := [2]int{r.To, 0}
		if r.Thing {
			place[1] = 1
		}
		if led[place] || !r.Thing && r.To == from {
			t.Fatalf("%+v: %v, %v, from %d: once more, or to itself, %+v", s, areas, border, from, r)
		}
		led[place] = true
		w, has := leastTo(r.To, within)
		switch {
		case r.Thing != (r.Kind == impl.ToThing || r.Kind == impl.ToFar):
			t.Fatalf("%+v: %v, %v, from %d: %+v", s, areas, border, from, r)
		case !r.Thing && has != (r.Kind == impl.WithinArea):
			t.Fatalf("%+v: %v, %v, from %d: the way within is %v, %v; the route %+v", s, areas, border, from, w, has, r)
		case r.Kind == impl.WithinArea && (r.Cost != w.Cost || !slices.Equal(r.Hops, w.Hops)):
			t.Fatalf("%+v: %v, %v, from %d: the way is %v, the route %+v", s, areas, border, from, w, r)
		}
		// Things stand by their Key, of whichever kind they are.
		kind := min(r.Kind, impl.ToThing)
		if kind < lastKind || kind == lastKind && r.To <= lastTo {
			t.Fatalf("%+v: %v, %v, from %d: out of order %+v", s, areas, border, from, r)
		}
		lastKind, lastTo = kind, r.To
	}
	for _, w := range within {
		if w.To != from && !led[[2]int{w.To, 0}] {
			t.Fatalf("%+v: %v, %v, from %d: no route to %d", s, areas, border, from, w.To)
		}
	}
}

// drawnCost is small, so that many sums are the same, or about as great as it may
// be.
func drawnCost(d *draws) int {
	if d.below(8) > 0 {
		return d.below(6)
	}
	return impl.Infinite - d.below(8)
}

// drawnStore has records of all kinds in all areas, in which some nodes are; what
// they tell beyond need not be true.
func drawnStore(t *testing.T, number int) []impl.Record {
	t.Helper()
	d := &draws{state: number}
	var s []impl.Record
	for area := range impl.MaxArea + 1 {
		x := drawnTold(3*number + area)
		x.area = area
		for node := range x.silent {
			x.silent[node] = x.silent[node] || d.below(3) == 0
		}
		s = append(s, x.store()...)
		for owner := 1; owner <= impl.MaxNodes; owner++ {
			for key := 1; key <= impl.MaxNodes; key++ {
				if d.below(3) == 0 {
					s = append(s, beyondTold(area, owner, key, drawnCost(d)))
				}
			}
		}
	}
	for owner := 1; owner <= impl.MaxNodes; owner++ {
		for key := 1; key <= 9; key++ {
			r := thingTold(owner, key, 1+d.below(4))
			r.Far = d.below(3) > 0
			if d.below(6) == 0 {
				r.Cost = impl.Infinite
			}
			if d.below(3) == 0 {
				s = append(s, r)
			}
		}
	}
	return storeOf(t, s[:min(len(s), impl.MaxStore)])
}

// someAreas are all choices of areas, some of them out of order, with one twice,
// or with numbers that are none.
var someAreas = [][]int{nil, {0}, {1}, {2}, {0, 1}, {0, 2}, {1, 2}, {0, 1, 2}, {2, 0}, {2, 1, 0}, {1, 1}, {0, 1, 0, 1},
	{-1, 0, 1, 3}, {impl.Outside, 2}, {3, math.MinInt, math.MaxInt}, {math.MaxInt, 0, 0, 8, 2, -1, 2}}

// watched counts what is to be seen often enough in what is drawn.
type watched map[string]int

func (n watched) count(what string, is bool) {
	if is {
		n[what]++
	}
}

func (n watched) look(k known, areas []int, border bool, from int) {
	within := k.within(areas, from)
	for _, r := range k.routes(areas, border, from) {
		n.count(fmt.Sprint("routes of kind ", r.Kind), true)
		n.count(fmt.Sprint("routes of kind ", r.Kind, " by several hops"), len(r.Hops) > 1)
		n.count("things of one's own", r.Thing && len(r.Hops) == 0)
	}
	for _, r := range k.s {
		w, has := leastTo(r.Key, within)
		owner, reached := leastTo(r.Owner, k.in(r.Area, from))
		if r.Kind != impl.KindBeyond || !has || !reached || r.Owner == from || !slices.Contains(areas, r.Area) {
			continue
		}
		n.count("nodes within that are told of beyond, cheaper", owner.Cost+r.Cost < w.Cost)
	}
}

// Promise 7, by whatever MaxNodes nodes tell in several areas.
func TestRoutesOfSixNodes(t *testing.T) {
	n := watched{}
	for number := range 150 {
		k := knownOf(drawnStore(t, number))
		for from := 0; from <= impl.MaxNodes+1; from++ {
			for at := range 3 {
				areas := someAreas[(number+3*from+at)%len(someAreas)]
				for _, border := range []bool{false, true} {
					mustBeKnown(t, k, areas, border, from)
					mustLeadOnce(t, k.s, areas, border, from)
					n.look(k, areas, border, from)
				}
			}
		}
	}
	for _, what := range []string{"routes of kind 1", "routes of kind 2", "routes of kind 3", "routes of kind 4",
		"routes of kind 1 by several hops", "routes of kind 2 by several hops", "routes of kind 3 by several hops", "routes of kind 4 by several hops",
		"things of one's own", "nodes within that are told of beyond, cheaper"} {
		if n[what] < 100 {
			t.Errorf("too few %s: %d", what, n[what])
		}
	}
}

// drawnBorders is a right net of MaxNodes nodes, each in one area or two, so that
// much is beyond.
func drawnBorders(number int) impl.Net {
	d := &draws{state: number}
	x := impl.Net{N: impl.MaxNodes}
	in := map[[2]int]bool{}
	for a := 1; a <= x.N; a++ {
		in[[2]int{a, d.below(3)}] = true
		if d.below(3) == 0 {
			in[[2]int{a, 0}] = true
		}
	}
	most := []int{1, 2, 4, impl.MaxCost}[d.below(4)]
	for a := 1; a <= x.N; a++ {
		for b := a + 1; b <= x.N; b++ {
			for area := range impl.MaxArea + 1 {
				if in[[2]int{a, area}] && in[[2]int{b, area}] && len(x.Links) < impl.MaxLinks {
					x.Links = append(x.Links, impl.Link{A: a, B: b, Cost: 1 + d.below(most), Area: area})
				}
			}
		}
	}
	return x
}

// withThings puts things into a net, by a rule.
func withThings(x impl.Net, number int) impl.Net {
	d := &draws{state: number}
	for key := 1; key <= 4; key++ {
		x.Things = append(x.Things, impl.Thing{Owner: 1 + d.below(x.N), Key: (key + 1) / 2 * 3, Cost: 1 + d.below(3), Far: d.below(2) == 0})
	}
	slices.SortFunc(x.Things, func(a, b impl.Thing) int { return 10*(a.Key-b.Key) + a.Owner - b.Owner })
	x.Things = slices.CompactFunc(x.Things, func(a, b impl.Thing) bool { return a.Key == b.Key && a.Owner == b.Owner })
	return x
}

// atRest are the records that a net would have: nodes at borders tell each other
// what is beyond, till there is nothing new.
func atRest(t *testing.T, x impl.Net) []impl.Record {
	t.Helper()
	first := recordsOf(x)
	for _, thing := range x.Things {
		first = append(first, with(thingTold(thing.Owner, thing.Key, thing.Cost), func(r *impl.Record) { r.Far = thing.Far }))
	}
	s := storeOf(t, first)
	for range 3 {
		var beyond []impl.Record
		for node := 1; node <= x.N; node++ {
			for _, area := range impl.AreasOf(x, node) {
				if impl.Border(x, node) {
					beyond = append(beyond, impl.Beyond(s, impl.AreasOf(x, node), node, area)...)
				}
			}
		}
		for at := range beyond {
			beyond[at].Seq = 1
		}
		s = storeOf(t, first, beyond)
	}
	return s
}

// shortest are the least costs by all links of a net, whatever their areas.
func shortest(x impl.Net) (table [impl.MaxNodes + 1][impl.MaxNodes + 1]int) {
	for a := range table {
		for b := range table {
			table[a][b] = impl.Infinite
			if a == b {
				table[a][b] = 0
			}
		}
	}
	for _, l := range x.Links {
		table[l.A][l.B] = min(table[l.A][l.B], l.Cost)
		table[l.B][l.A] = table[l.A][l.B]
	}
	for by := range table {
		for a := range table {
			for b := range table {
				table[a][b] = min(table[a][b], table[a][by]+table[by][b])
			}
		}
	}
	return table
}

// Promise 7 by the records that a net would have.
func TestRoutesOfNets(t *testing.T) {
	beyond := 0
	check := func(x impl.Net) {
		t.Helper()
		if !impl.NetOk(x) {
			t.Fatalf("%v is no right net", x)
		}
		k := knownOf(atRest(t, x))
		least := shortest(x)
		for node := 1; node <= x.N; node++ {
			areas, border := impl.AreasOf(x, node), impl.Border(x, node)
			mustBeKnown(t, k, areas, border, node)
			mustLeadOnce(t, k.s, areas, border, node)
			for _, r := range impl.RoutesOf(k.s, areas, border, node) {
				if !r.Thing && (r.Cost < least[node][r.To] || len(r.Hops) == 0) {
					t.Fatalf("%v: from %d: %+v; the shortest way of all costs %d", x, node, r, least[node][r.To])
				}
				if r.Kind == impl.BeyondArea {
					beyond++
				}
			}
		}
	}
	eachSmallNet(check)
	for _, x := range rightNets {
		check(x)
	}
	for number := range 300 {
		check(withThings(drawnNet(number), number))
		check(withThings(drawnBorders(number), number))
	}
	if beyond < 1000 {
		t.Errorf("too few routes beyond: %d", beyond)
	}
}

func toNode(kind, to, cost int, hops ...int) impl.Route {
	return impl.Route{To: to, Kind: kind, Cost: cost, Hops: hops}
}

func toNear(key, cost int, hops ...int) impl.Route {
	return impl.Route{Thing: true, To: key, Kind: impl.ToThing, Cost: cost, Hops: hops}
}

func toFar(key, cost, more int, hops ...int) impl.Route {
	return impl.Route{Thing: true, To: key, Kind: impl.ToFar, Cost: cost, Far: more, Hops: hops}
}

// asked is a question to RoutesOf, and its answer.
type asked struct {
	s      []impl.Record
	areas  []int
	border bool
	from   int
	want   []impl.Route
}

func mustAnswer(t *testing.T, cases map[string]asked) {
	t.Helper()
	for name, c := range cases {
		if got := impl.RoutesOf(c.s, c.areas, c.border, c.from); !sameRoutes(got, c.want) {
			t.Errorf("%s: RoutesOf = %+v; want %+v", name, got, c.want)
		}
		mustBeKnown(t, knownOf(c.s), c.areas, c.border, c.from)
		mustLeadOnce(t, c.s, c.areas, c.border, c.from)
	}
}

func TestKindsOfRoutes(t *testing.T) {
	if kinds := [4]int{impl.WithinArea, impl.BeyondArea, impl.ToThing, impl.ToFar}; kinds != [4]int{1, 2, 3, 4} {
		t.Errorf("the kinds are %v", kinds)
	}
}

func TestRoutesWithinAreas(t *testing.T) {
	one := storeOf(t, inArea(1, [3]int{1, 2, 4}, [3]int{2, 3, 5}))
	two := storeOf(t, inArea(0, [3]int{1, 2, 4}, [3]int{1, 3, 2}, [3]int{2, 3, 2}), inArea(2, [3]int{1, 4, 1}, [3]int{2, 4, 3}, [3]int{3, 4, 9}))
	mustAnswer(t, map[string]asked{
		"one area alone":       {one, []int{1}, false, 1, []impl.Route{toNode(1, 2, 4, 2), toNode(1, 3, 9, 2)}},
		"one area, the middle": {one, []int{1}, false, 2, []impl.Route{toNode(1, 1, 4, 1), toNode(1, 3, 5, 3)}},
		"another area":         {one, []int{0, 2}, true, 1, nil},
		"no area":              {one, nil, false, 1, nil},
		"who is not there":     {one, []int{1}, false, 4, nil},
		"who is no node":       {one, []int{1}, false, 7, nil},
		// To 2 both areas have ways at 4, to 3 one has at 2 and one at 10.
		"two areas, at one cost and two": {two, []int{0, 2}, true, 1, []impl.Route{toNode(1, 2, 4, 2, 3, 4), toNode(1, 3, 2, 3), toNode(1, 4, 1, 4)}},
		"the other way round":            {two, []int{2, 0}, true, 1, []impl.Route{toNode(1, 2, 4, 2, 3, 4), toNode(1, 3, 2, 3), toNode(1, 4, 1, 4)}},
		"the first area alone":           {two, []int{0}, false, 1, []impl.Route{toNode(1, 2, 4, 2, 3), toNode(1, 3, 2, 3)}},
		"the second area alone":          {two, []int{2}, false, 1, []impl.Route{toNode(1, 2, 4, 4), toNode(1, 3, 10, 4), toNode(1, 4, 1, 4)}},
		"who is in one of both":          {two, []int{0, 2}, true, 4, []impl.Route{toNode(1, 1, 1, 1), toNode(1, 2, 3, 2), toNode(1, 3, 9, 3)}},
	})
	// From itself is among the ways, and goes by no hop.
	if got, want := impl.RoutesWithin(two, []int{0, 2}, 1), []impl.Way{{To: 1}, {To: 2, Cost: 4, Hops: []int{2, 3, 4}}, {To: 3, Cost: 2, Hops: []int{3}}, {To: 4, Cost: 1, Hops: []int{4}}}; !sameWays(got, want) {
		t.Errorf("RoutesWithin = %v; want %v", got, want)
	}
}

// Areas are told apart: no way goes on in another area than it began in.
func TestRoutesWithinStayInTheirArea(t *testing.T) {
	s := storeOf(t, inArea(0, [3]int{1, 2, 1}), inArea(1, [3]int{2, 3, 1}))
	mustAnswer(t, map[string]asked{
		"from one end":   {s, []int{0, 1}, false, 1, []impl.Route{toNode(1, 2, 1, 2)}},
		"from the other": {s, []int{0, 1}, false, 3, []impl.Route{toNode(1, 2, 1, 2)}},
		"from between":   {s, []int{0, 1}, true, 2, []impl.Route{toNode(1, 1, 1, 1), toNode(1, 3, 1, 3)}},
	})
}

func TestRoutesByOneBorderAndByTwo(t *testing.T) {
	// 1 and 2 in area 0, 2 and 3 in area 1; 2 is at the border.
	one := atRest(t, impl.Net{N: 3, Links: linksOf([][4]int{{1, 2, 4, 0}, {2, 3, 5, 1}})})
	// 1 - 2 - 4 and 1 - 3 - 4, in area 0 and then in area 1, 5 behind 4; at one cost.
	two := atRest(t, impl.Net{N: 5, Links: linksOf([][4]int{{1, 2, 4, 0}, {1, 3, 2, 0}, {2, 4, 1, 1}, {3, 4, 3, 1}, {4, 5, 7, 1}})})
	// The same, by 3 at one less.
	cheaper := atRest(t, impl.Net{N: 5, Links: linksOf([][4]int{{1, 2, 4, 0}, {1, 3, 1, 0}, {2, 4, 1, 1}, {3, 4, 3, 1}, {4, 5, 7, 1}})})
	// Areas 1 and 2, each with a border of its own, and area 0 between.
	chain := atRest(t, rightNets["a chain through all areas"])
	mustAnswer(t, map[string]asked{
		"one border, from 1":        {one, []int{0}, false, 1, []impl.Route{toNode(1, 2, 4, 2), toNode(2, 3, 9, 2)}},
		"one border, from it":       {one, []int{0, 1}, true, 2, []impl.Route{toNode(1, 1, 4, 1), toNode(1, 3, 5, 3)}},
		"one border, from 3":        {one, []int{1}, false, 3, []impl.Route{toNode(1, 2, 5, 2), toNode(2, 1, 9, 2)}},
		"two borders, from 1":       {two, []int{0}, false, 1, []impl.Route{toNode(1, 2, 4, 2), toNode(1, 3, 2, 3), toNode(2, 4, 5, 2, 3), toNode(2, 5, 12, 2, 3)}},
		"two borders, from 4":       {two, []int{1}, false, 4, []impl.Route{toNode(1, 2, 1, 2), toNode(1, 3, 3, 3), toNode(1, 5, 7, 5), toNode(2, 1, 5, 2, 3)}},
		"two borders, from 5":       {two, []int{1}, false, 5, []impl.Route{toNode(1, 2, 8, 4), toNode(1, 3, 10, 4), toNode(1, 4, 7, 4), toNode(2, 1, 12, 4)}},
		"two borders, from one":     {two, []int{0, 1}, true, 2, []impl.Route{toNode(1, 1, 4, 1), toNode(1, 3, 4, 4), toNode(1, 4, 1, 4), toNode(1, 5, 8, 4)}},
		"one is cheaper, from 1":    {cheaper, []int{0}, false, 1, []impl.Route{toNode(1, 2, 4, 2), toNode(1, 3, 1, 3), toNode(2, 4, 4, 3), toNode(2, 5, 11, 3)}},
		"through all areas, from 1": {chain, []int{1}, false, 1, []impl.Route{toNode(1, 2, 1, 2), toNode(2, 3, 21, 2), toNode(2, 4, 1021, 2)}},
		"through all areas, from 2": {chain, []int{0, 1}, true, 2, []impl.Route{toNode(1, 1, 1, 1), toNode(1, 3, 20, 3), toNode(2, 4, 1020, 3)}},
		"through all areas, from 4": {chain, []int{2}, false, 4, []impl.Route{toNode(1, 3, 1000, 3), toNode(2, 1, 1021, 3), toNode(2, 2, 1020, 3)}},
	})
}

func TestWhatIsWithinIsNotBeyond(t *testing.T) {
	nodes := slices.Concat(inArea(0, [3]int{1, 2, 3}, [3]int{2, 3, 900}), inArea(1, [3]int{1, 4, 2}))
	s := storeOf(t, nodes, []impl.Record{beyondTold(0, 2, 3, 0), beyondTold(0, 2, 4, 0), beyondTold(0, 2, 1, 0), beyondTold(0, 2, 2, 0), beyondTold(1, 4, 3, 1), beyondTold(1, 4, 6, 9)})
	mustAnswer(t, map[string]asked{
		"in area 0":     {s, []int{0}, false, 1, []impl.Route{toNode(1, 2, 3, 2), toNode(1, 3, 903, 2), toNode(2, 4, 3, 2)}},
		"in area 1":     {s, []int{1}, false, 1, []impl.Route{toNode(1, 4, 2, 4), toNode(2, 3, 3, 4), toNode(2, 6, 11, 4)}},
		"in both":       {s, []int{0, 1}, false, 1, []impl.Route{toNode(1, 2, 3, 2), toNode(1, 3, 903, 2), toNode(1, 4, 2, 4), toNode(2, 6, 11, 4)}},
		"at the border": {s, []int{0, 1}, true, 1, []impl.Route{toNode(1, 2, 3, 2), toNode(1, 3, 903, 2), toNode(1, 4, 2, 4)}},
	})
}

func TestRoutesBeyondGoByLeastSums(t *testing.T) {
	nodes := slices.Concat(inArea(0, [3]int{1, 2, 3}, [3]int{1, 3, 1}, [3]int{2, 3, 2}), inArea(1, [3]int{1, 4, 2}))
	mustAnswer(t, map[string]asked{
		"one owner":         {storeOf(t, nodes, []impl.Record{beyondTold(0, 3, 6, 7)}), []int{0}, false, 1, []impl.Route{toNode(1, 2, 3, 2, 3), toNode(1, 3, 1, 3), toNode(2, 6, 8, 3)}},
		"two, at one sum":   {storeOf(t, nodes, []impl.Record{beyondTold(0, 2, 6, 5), beyondTold(0, 3, 6, 7)}), []int{0}, false, 1, []impl.Route{toNode(1, 2, 3, 2, 3), toNode(1, 3, 1, 3), toNode(2, 6, 8, 2, 3)}},
		"two, at two sums":  {storeOf(t, nodes, []impl.Record{beyondTold(0, 2, 6, 5), beyondTold(0, 3, 6, 6)}), []int{0}, false, 1, []impl.Route{toNode(1, 2, 3, 2, 3), toNode(1, 3, 1, 3), toNode(2, 6, 7, 3)}},
		"in two areas":      {storeOf(t, nodes, []impl.Record{beyondTold(0, 3, 6, 7), beyondTold(1, 4, 6, 6)}), []int{0, 1}, false, 1, []impl.Route{toNode(1, 2, 3, 2, 3), toNode(1, 3, 1, 3), toNode(1, 4, 2, 4), toNode(2, 6, 8, 3, 4)}},
		"in two, at border": {storeOf(t, nodes, []impl.Record{beyondTold(0, 3, 6, 7), beyondTold(1, 4, 6, 6)}), []int{0, 1}, true, 1, []impl.Route{toNode(1, 2, 3, 2, 3), toNode(1, 3, 1, 3), toNode(1, 4, 2, 4), toNode(2, 6, 8, 3)}},
		"in 1 at border":    {storeOf(t, nodes, []impl.Record{beyondTold(1, 4, 6, 6)}), []int{0, 1}, true, 1, []impl.Route{toNode(1, 2, 3, 2, 3), toNode(1, 3, 1, 3), toNode(1, 4, 2, 4)}},
		"at Cost 0":         {storeOf(t, nodes, []impl.Record{beyondTold(0, 3, 5, 0), beyondTold(0, 2, 6, 0)}), []int{0}, false, 1, []impl.Route{toNode(1, 2, 3, 2, 3), toNode(1, 3, 1, 3), toNode(2, 5, 1, 3), toNode(2, 6, 3, 2, 3)}},
		"of another area":   {storeOf(t, nodes, []impl.Record{beyondTold(2, 3, 6, 7), beyondTold(1, 3, 6, 7)}), []int{0, 1, 2}, false, 1, []impl.Route{toNode(1, 2, 3, 2, 3), toNode(1, 3, 1, 3), toNode(1, 4, 2, 4)}},
	})
}

// ownersAndCosts are KindBeyond records that are told to 1, in area 0 or 1 as
// asked, with whether they lead to 6; the way to 2 costs 5 there, 4 is not there.
func ownersAndCosts(area int) map[string]struct {
	r     impl.Record
	leads bool
} {
	return map[string]struct {
		r     impl.Record
		leads bool
	}{
		"at nothing":               {beyondTold(area, 2, 6, 0), true},
		"sum one below Infinite":   {beyondTold(area, 2, 6, impl.Infinite-6), true},
		"sum at Infinite":          {beyondTold(area, 2, 6, impl.Infinite-5), false},
		"sum one above Infinite":   {beyondTold(area, 2, 6, impl.Infinite-4), false},
		"cost one below Infinite":  {beyondTold(area, 2, 6, impl.Infinite-1), false},
		"cost at Infinite":         {beyondTold(area, 2, 6, impl.Infinite), false},
		"of oneself":               {beyondTold(area, 1, 6, 7), false},
		"of oneself at nothing":    {beyondTold(area, 1, 6, 0), false},
		"of oneself, at Infinite":  {beyondTold(area, 1, 6, impl.Infinite), false},
		"of who can't be reached":  {beyondTold(area, 3, 6, 7), false},
		"of who is not there":      {beyondTold(area, 4, 6, 7), false},
		"of the one that it is to": {beyondTold(area, 6, 6, 0), false},
		"to the one that asks":     {beyondTold(area, 2, 1, 0), false},
		"to the one that tells":    {beyondTold(area, 2, 2, 0), false},
	}
}

func TestRoutesBeyondAtTheEdges(t *testing.T) {
	for _, area := range []int{0, 1} {
		other := 1 - area
		nodes := slices.Concat(inArea(area, [3]int{1, 2, 5}, [3]int{3, 5, 1}), inArea(other, [3]int{1, 3, 2}))
		for name, c := range ownersAndCosts(area) {
			s := storeOf(t, nodes, []impl.Record{c.r})
			for _, border := range []bool{false, true} {
				for _, areas := range [][]int{{area}, {0, 1}, {other}, nil} {
					var want []impl.Way
					if c.leads && slices.Contains(areas, area) && (!border || area == 0) {
						want = []impl.Way{{To: 6, Cost: 5 + c.r.Cost, Hops: []int{2}}}
					}
					if got := impl.RoutesBeyond(s, areas, border, 1); !sameWays(got, want) {
						t.Errorf("%s, area %d, areas %v, %v: %v; want %v", name, area, areas, border, got, want)
					}
					mustBeKnown(t, knownOf(s), areas, border, 1)
					mustLeadOnce(t, s, areas, border, 1)
				}
			}
		}
	}
}

// One record that is refused does not stand in the way of another one.
func TestRoutesBeyondPassOverWhatIsRefused(t *testing.T) {
	nodes := inArea(0, [3]int{1, 2, 5}, [3]int{1, 4, 3}, [3]int{3, 5, 1})
	for name, c := range ownersAndCosts(0) {
		if c.leads || c.r.Owner == 4 {
			continue
		}
		s := storeOf(t, nodes, []impl.Record{c.r, beyondTold(0, 4, 6, 30)})
		want := []impl.Way{{To: 6, Cost: 33, Hops: []int{4}}}
		if got := impl.RoutesBeyond(s, []int{0}, false, 1); !sameWays(got, want) {
			t.Errorf("%s: %v; want %v", name, got, want)
		}
	}
}

func TestRoutesToThings(t *testing.T) {
	nodes := inArea(0, [3]int{1, 2, 3}, [3]int{1, 3, 1}, [3]int{3, 4, 3})
	within := []impl.Route{toNode(1, 2, 3, 2), toNode(1, 3, 1, 3), toNode(1, 4, 4, 3)}
	cases := map[string]asked{}
	for name, c := range map[string]struct {
		things []impl.Record
		want   []impl.Route
	}{
		"one":                        {[]impl.Record{thingTold(2, 4, 5)}, []impl.Route{toNear(4, 8, 2)}},
		"the number of a node":       {[]impl.Record{thingTold(4, 2, 1000)}, []impl.Route{toNear(2, 1004, 3)}},
		"two keys":                   {[]impl.Record{thingTold(3, 9, 1), thingTold(4, 1, 1)}, []impl.Route{toNear(1, 5, 3), toNear(9, 2, 3)}},
		"two at one cost":            {[]impl.Record{thingTold(2, 4, 5), thingTold(3, 4, 7)}, []impl.Route{toNear(4, 8, 2, 3)}},
		"three at one cost":          {[]impl.Record{thingTold(2, 4, 5), thingTold(3, 4, 7), thingTold(4, 4, 4)}, []impl.Route{toNear(4, 8, 2, 3)}},
		"two at two costs":           {[]impl.Record{thingTold(2, 4, 5), thingTold(3, 4, 8)}, []impl.Route{toNear(4, 8, 2)}},
		"two at two, the second":     {[]impl.Record{thingTold(2, 4, 5), thingTold(3, 4, 6)}, []impl.Route{toNear(4, 7, 3)}},
		"one's own":                  {[]impl.Record{thingTold(1, 4, 5)}, []impl.Route{toNear(4, 5)}},
		"one's own beside dearer":    {[]impl.Record{thingTold(1, 4, 5), thingTold(3, 4, 5)}, []impl.Route{toNear(4, 5)}},
		"one's own beside cheaper":   {[]impl.Record{thingTold(1, 4, 5), thingTold(3, 4, 3)}, []impl.Route{toNear(4, 4, 3)}},
		"one's own beside as cheap":  {[]impl.Record{thingTold(1, 4, 5), thingTold(3, 4, 4)}, []impl.Route{toNear(4, 5, 3)}},
		"one's own, far":             {[]impl.Record{farTold(1, 4, 5)}, []impl.Route{toFar(4, 0, 5)}},
		"one's own, far, and others": {[]impl.Record{farTold(1, 4, 5), farTold(2, 4, 5)}, []impl.Route{toFar(4, 0, 5)}},
		"one's own, far, too dear":   {[]impl.Record{farTold(1, 4, 6), farTold(2, 4, 5)}, []impl.Route{toFar(4, 3, 5, 2)}},
		"one's own, far, one near":   {[]impl.Record{farTold(1, 4, 1), thingTold(2, 4, 1000)}, []impl.Route{toNear(4, 1003, 2)}},
		"far beside near":            {[]impl.Record{farTold(3, 4, 1), thingTold(4, 4, 999)}, []impl.Route{toNear(4, 1003, 3)}},
		"far beside two near":        {[]impl.Record{thingTold(2, 4, 5), farTold(3, 4, 1), thingTold(4, 4, 3)}, []impl.Route{toNear(4, 7, 3)}},
		"far at the near one's cost": {[]impl.Record{thingTold(2, 4, 5), farTold(3, 4, 8)}, []impl.Route{toNear(4, 8, 2)}},
		"far beside near of another": {[]impl.Record{farTold(2, 4, 5), thingTold(3, 5, 1)}, []impl.Route{toFar(4, 3, 5, 2), toNear(5, 2, 3)}},
		"far alone":                  {[]impl.Record{farTold(4, 4, 7)}, []impl.Route{toFar(4, 4, 7, 3)}},
		"far, one Far, two ways":     {[]impl.Record{farTold(2, 4, 7), farTold(3, 4, 7)}, []impl.Route{toFar(4, 1, 7, 3)}},
		"far, one Far, the first":    {[]impl.Record{farTold(2, 4, 7), farTold(4, 4, 7)}, []impl.Route{toFar(4, 3, 7, 2)}},
		"far, two Fars":              {[]impl.Record{farTold(2, 4, 6), farTold(3, 4, 7)}, []impl.Route{toFar(4, 3, 6, 2)}},
		"far, two Fars, the second":  {[]impl.Record{farTold(3, 4, 7), farTold(4, 4, 6)}, []impl.Route{toFar(4, 4, 6, 3)}},
		"at Infinite":                {[]impl.Record{thingTold(2, 4, impl.Infinite)}, nil},
		"far at Infinite":            {[]impl.Record{farTold(2, 4, impl.Infinite)}, nil},
		"one's own at Infinite":      {[]impl.Record{thingTold(1, 4, impl.Infinite), farTold(1, 5, impl.Infinite)}, nil},
		"near at Infinite, one far":  {[]impl.Record{thingTold(2, 4, impl.Infinite), farTold(4, 4, 7)}, []impl.Route{toFar(4, 4, 7, 3)}},
		"at Infinite beside another": {[]impl.Record{thingTold(2, 4, impl.Infinite), thingTold(4, 4, 7)}, []impl.Route{toNear(4, 11, 3)}},
		"at who is not reached":      {[]impl.Record{thingTold(6, 4, 1), farTold(5, 5, 1)}, nil},
		"near not reached, one far":  {[]impl.Record{farTold(2, 4, 9), thingTold(6, 4, 1)}, []impl.Route{toFar(4, 3, 9, 2)}},
		"not reached beside another": {[]impl.Record{thingTold(2, 4, 9), thingTold(6, 4, 1)}, []impl.Route{toNear(4, 12, 2)}},
	} {
		cases[name] = asked{storeOf(t, nodes, c.things), []int{0}, false, 1, append(slices.Clone(within), c.want...)}
	}
	mustAnswer(t, cases)
}

// Far things at one Far and one way's cost go by the hops of all.
func TestRoutesToFarThingsByAllHops(t *testing.T) {
	s := storeOf(t, inArea(2, [3]int{1, 2, 3}, [3]int{1, 3, 3}, [3]int{1, 5, 3}, [3]int{1, 6, 2}),
		[]impl.Record{farTold(2, 7, 4), farTold(3, 7, 4), farTold(5, 7, 5), farTold(6, 8, 4)})
	mustAnswer(t, map[string]asked{"from 1": {s, []int{2}, false, 1, []impl.Route{
		toNode(1, 2, 3, 2), toNode(1, 3, 3, 3), toNode(1, 5, 3, 5), toNode(1, 6, 2, 6), toFar(7, 3, 4, 2, 3), toFar(8, 2, 4, 6)}}})
}

func TestRoutesToThingsBeyond(t *testing.T) {
	s := storeOf(t, inArea(0, [3]int{1, 2, 3}, [3]int{1, 3, 1}), []impl.Record{
		beyondTold(0, 2, 5, 4), beyondTold(0, 3, 5, 6), beyondTold(0, 3, 6, impl.Infinite-2), beyondTold(0, 3, 4, impl.Infinite-1),
		thingTold(5, 1, 2), farTold(5, 2, 2), thingTold(6, 3, 1000), farTold(6, 4, 1000), thingTold(4, 5, 1),
		thingTold(2, 6, 6), thingTold(5, 6, 2), thingTold(2, 7, 1), thingTold(5, 7, 1)})
	nodes := []impl.Route{toNode(1, 2, 3, 2), toNode(1, 3, 1, 3), toNode(2, 5, 7, 2, 3), toNode(2, 6, impl.Infinite-1, 3)}
	mustAnswer(t, map[string]asked{
		// What a thing costs in all has no limit: Infinite is one for nodes beyond.
		"from 1": {s, []int{0}, false, 1, append(nodes, toNear(1, 9, 2, 3), toFar(2, 7, 2, 2, 3), toNear(3, impl.Infinite+999, 3), toFar(4, impl.Infinite-1, 1000, 3),
			toNear(6, 9, 2, 3), toNear(7, 4, 2))},
		"at no border of area 0": {s, []int{1}, true, 1, nil},
	})
}

// A node that has told of no area, or has no way, has its own things all the same.
func TestThingsOfOnesOwnAreAlwaysThere(t *testing.T) {
	s := storeOf(t, inArea(0, [3]int{1, 2, 3}), []impl.Record{thingTold(3, 4, 5), farTold(3, 5, 6), thingTold(1, 4, 1)})
	mustAnswer(t, map[string]asked{
		"in an area where it is not": {s, []int{0}, false, 3, []impl.Route{toNear(4, 5), toFar(5, 0, 6)}},
		"without areas":              {s, nil, false, 3, []impl.Route{toNear(4, 5), toFar(5, 0, 6)}},
		"of nobody":                  {s, []int{0}, false, 0, nil},
	})
}

// mustTellBeyond has rows of Key and Cost of what Beyond answers.
func mustTellBeyond(t *testing.T, name string, s []impl.Record, areas []int, from, area int, rows ...[2]int) {
	t.Helper()
	var want []impl.Record
	for _, row := range rows {
		want = append(want, impl.Record{Area: area, Kind: impl.KindBeyond, Owner: from, Key: row[0], Cost: row[1]})
	}
	if got := impl.Beyond(s, areas, from, area); !sameRecords(got, want) {
		t.Errorf("%s: Beyond(.., %v, %d, %d) = %+v; want %+v", name, areas, from, area, got, want)
	}
	if got := knownOf(s).told(areas, from, area); !sameRecords(got, want) {
		t.Errorf("%s: by the document's words it is %+v; want %+v", name, got, want)
	}
}

func TestBeyondIntoAreas(t *testing.T) {
	// 2 is at the border of all; 6 is told of in area 0 by 1, in area 1 by 3, in area 2 by 4.
	s := storeOf(t, inArea(0, [3]int{1, 2, 3}), inArea(1, [3]int{2, 3, 4}), inArea(2, [3]int{2, 4, 5}, [3]int{4, 5, 6}),
		[]impl.Record{beyondTold(0, 1, 6, 10), beyondTold(1, 3, 6, 1), beyondTold(2, 4, 6, 1)})
	all := []int{0, 1, 2}
	mustTellBeyond(t, "into area 0, what is within the others", s, all, 2, 0, [2]int{3, 4}, [2]int{4, 5}, [2]int{5, 11})
	mustTellBeyond(t, "into area 1, what is beyond area 0, too", s, all, 2, 1, [2]int{1, 3}, [2]int{4, 5}, [2]int{5, 11}, [2]int{6, 13})
	mustTellBeyond(t, "into area 2", s, all, 2, 2, [2]int{1, 3}, [2]int{3, 4}, [2]int{6, 13})
	mustTellBeyond(t, "areas out of order", s, []int{2, 0, 1, 0}, 2, 1, [2]int{1, 3}, [2]int{4, 5}, [2]int{5, 11}, [2]int{6, 13})
	mustTellBeyond(t, "with two areas, into area 0", s, []int{0, 1}, 2, 0, [2]int{3, 4})
	mustTellBeyond(t, "with two areas, into the other", s, []int{0, 1}, 2, 1, [2]int{1, 3}, [2]int{6, 13})
	mustTellBeyond(t, "into its one area", s, []int{1}, 2, 1)
	mustTellBeyond(t, "into area 0, its one", s, []int{0}, 2, 0)
	mustTellBeyond(t, "without areas", s, nil, 2, 1)
	mustTellBeyond(t, "without area 0", s, []int{1, 2}, 2, 1, [2]int{4, 5}, [2]int{5, 11})
	mustTellBeyond(t, "by who is in one area", s, all, 3, 1)
	mustTellBeyond(t, "by who is in one area, into another", s, all, 3, 0, [2]int{2, 4})
	mustTellBeyond(t, "by who is not there", s, all, 6, 1)
	mustTellBeyond(t, "into what is no area", s, all, 2, 3, [2]int{1, 3}, [2]int{3, 4}, [2]int{4, 5}, [2]int{5, 11}, [2]int{6, 13})
}

func TestBeyondOfNodesThatBothRulesTellOf(t *testing.T) {
	nodes := slices.Concat(inArea(0, [3]int{1, 2, 3}, [3]int{1, 4, 1}), inArea(1, [3]int{2, 3, 4}), inArea(2, [3]int{2, 5, 50}))
	// 5 is within area 2 at 50, and told of in area 0 at 5; 3 is within area 1.
	s := storeOf(t, nodes, []impl.Record{beyondTold(0, 1, 5, 2), beyondTold(0, 1, 3, 0), beyondTold(0, 1, 6, 0), beyondTold(0, 4, 6, 5), beyondTold(0, 1, 2, 0)})
	all := []int{0, 1, 2}
	mustTellBeyond(t, "the first one counts", s, all, 2, 1, [2]int{1, 3}, [2]int{4, 4}, [2]int{5, 50}, [2]int{6, 3})
	mustTellBeyond(t, "into area 2", s, all, 2, 2, [2]int{1, 3}, [2]int{3, 4}, [2]int{4, 4}, [2]int{6, 3})
	mustTellBeyond(t, "into area 0", s, all, 2, 0, [2]int{3, 4}, [2]int{5, 50})
	mustTellBeyond(t, "without area 2", s, []int{0, 1}, 2, 1, [2]int{1, 3}, [2]int{4, 4}, [2]int{5, 5}, [2]int{6, 3})
}

// What has a way within the area is not told into it, however dear that way is.
func TestBeyondLeavesOutWhatIsWithin(t *testing.T) {
	s := storeOf(t, inArea(0, [3]int{1, 2, 3}, [3]int{2, 3, 1}, [3]int{2, 4, 1}), inArea(1, [3]int{2, 3, 900}, [3]int{2, 6, 900}, [3]int{2, 5, 2}),
		[]impl.Record{beyondTold(0, 1, 6, 0), beyondTold(0, 1, 5, 0)})
	mustTellBeyond(t, "into area 1", s, []int{0, 1}, 2, 1, [2]int{1, 3}, [2]int{4, 1})
	mustTellBeyond(t, "into area 0", s, []int{0, 1}, 2, 0, [2]int{5, 2}, [2]int{6, 900})
	// Area 1 is none of its areas here, but the ways in it are there.
	mustTellBeyond(t, "into area 1, with area 0 alone", s, []int{0}, 2, 1, [2]int{1, 3}, [2]int{4, 1})
}

// Two of its other areas lead to one node: the lesser cost is told.
func TestBeyondTellsTheLeastOfItsOtherAreas(t *testing.T) {
	s := storeOf(t, inArea(0, [3]int{2, 5, 8}), inArea(1, [3]int{2, 5, 7}, [3]int{2, 6, 9}), inArea(2, [3]int{2, 3, 1}))
	mustTellBeyond(t, "into area 2", s, []int{0, 1, 2}, 2, 2, [2]int{5, 7}, [2]int{6, 9})
}

// Sums at the edge of Infinite are told, or not, as they are beyond.
func TestBeyondAtInfinite(t *testing.T) {
	nodes := slices.Concat(inArea(0, [3]int{1, 2, 5}), inArea(1, [3]int{2, 3, 4}))
	mustTellBeyond(t, "one below", storeOf(t, nodes, []impl.Record{beyondTold(0, 1, 6, impl.Infinite-6)}), []int{0, 1}, 2, 1, [2]int{1, 5}, [2]int{6, impl.Infinite - 1})
	mustTellBeyond(t, "at it", storeOf(t, nodes, []impl.Record{beyondTold(0, 1, 6, impl.Infinite-5)}), []int{0, 1}, 2, 1, [2]int{1, 5})
	mustTellBeyond(t, "told at it", storeOf(t, nodes, []impl.Record{beyondTold(0, 1, 6, impl.Infinite)}), []int{0, 1}, 2, 1, [2]int{1, 5})
	mustTellBeyond(t, "of itself", storeOf(t, nodes, []impl.Record{beyondTold(0, 2, 6, 1)}), []int{0, 1}, 2, 1, [2]int{1, 5})
}

func TestHopsToNodesAndThings(t *testing.T) {
	s := storeOf(t, inArea(0, [3]int{1, 2, 3}, [3]int{1, 3, 3}, [3]int{2, 4, 1}, [3]int{3, 4, 1}), []impl.Record{beyondTold(0, 3, 5, 1), thingTold(2, 4, 5), thingTold(1, 5, 5), farTold(3, 9, 1)})
	list := impl.RoutesOf(s, []int{0}, false, 1)
	nodes := map[int][]int{2: {2}, 3: {3}, 4: {2, 3}, 5: {3}}
	things := map[int][]int{4: {2}, 9: {3}}
	for _, to := range []int{math.MinInt, -1, 0, 1, 2, 3, 4, 5, 6, 7, 8, 9, 10, math.MaxInt} {
		if got := impl.HopsTo(list, false, to); !slices.Equal(got, nodes[to]) {
			t.Errorf("HopsTo a node %d = %v; want %v", to, got, nodes[to])
		}
		if got := impl.HopsTo(list, true, to); !slices.Equal(got, things[to]) {
			t.Errorf("HopsTo a thing %d = %v; want %v", to, got, things[to])
		}
		for _, none := range [][]impl.Route{nil, {}} {
			if got := impl.HopsTo(none, to%2 == 0, to); len(got) > 0 {
				t.Errorf("HopsTo of nothing, %d = %v", to, got)
			}
		}
	}
}

// A list that RoutesOf never makes is taken as it stands: the first route counts,
// whatever its kind, its cost and the order of its hops.
func TestHopsToInAnyList(t *testing.T) {
	list := []impl.Route{{Thing: true, To: 2, Kind: impl.WithinArea, Hops: []int{9, 1, 9}}, {To: 2, Kind: impl.ToFar, Cost: 900, Hops: []int{5}},
		{To: 2, Kind: impl.WithinArea, Cost: 1, Hops: []int{6}}, {To: -4, Kind: 77, Hops: []int{-1}}, {Thing: true, To: 3}, {Thing: true, To: 3, Hops: []int{8}}}
	for name, c := range map[string]struct {
		thing bool
		to    int
		want  []int
	}{
		"a thing":              {true, 2, []int{9, 1, 9}},
		"the first of two":     {false, 2, []int{5}},
		"no node":              {false, -4, []int{-1}},
		"no such thing":        {true, -4, nil},
		"the first has none":   {true, 3, nil},
		"the node is not":      {false, 3, nil},
		"nothing of that name": {false, 77, nil},
	} {
		if got := impl.HopsTo(list, c.thing, c.to); !slices.Equal(got, c.want) {
			t.Errorf("%s: HopsTo = %v; want %v", name, got, c.want)
		}
	}
}

// ownThings are, of a list that is no right store, the routes to what from tells
// of: each Key once, near ahead of far, at the least Cost.
func ownThings(s []impl.Record, from int) []impl.Route {
	best := map[int]impl.Route{}
	var keys []int
	for _, r := range s {
		if r.Kind != impl.KindThing || r.Owner != from || r.Cost >= impl.Infinite {
			continue
		}
		route := toNear(r.Key, r.Cost)
		if r.Far {
			route = toFar(r.Key, 0, r.Cost)
		}
		known, ok := best[r.Key]
		if !ok {
			keys = append(keys, r.Key)
		}
		if !ok || route.Kind < known.Kind || route.Kind == known.Kind && route.Cost+route.Far < known.Cost+known.Far {
			best[r.Key] = route
		}
	}
	slices.Sort(keys)
	var list []impl.Route
	for _, key := range keys {
		list = append(list, best[key])
	}
	return list
}

// misledRoutes are lists that are no right stores, with records of all kinds.
func misledRoutes(t *testing.T) map[string][]impl.Record {
	stores := misled()
	s := storeOf(t, inArea(0, [3]int{1, 2, 3}), inArea(1, [3]int{2, 3, 4}), []impl.Record{beyondTold(0, 2, 3, 4), beyondTold(1, 2, 1, 3), thingTold(1, 4, 5), farTold(2, 4, 5), farTold(1, 5, 6)})
	for at := range s {
		stores[fmt.Sprint("twice, at ", at)] = slices.Insert(slices.Clone(s), at, s[at])
		stores[fmt.Sprint("seq 0, at ", at)] = append(append(slices.Clone(s[:at]), withSeq(s[at], 0)), s[at+1:]...)
	}
	for _, cost := range []int{math.MinInt, -1, 0, impl.MaxCost + 1, impl.Infinite - 1, impl.Infinite + 1, math.MaxInt} {
		stores[fmt.Sprint("a thing at ", cost)] = append(slices.Clone(s), thingTold(1, 9, cost), thingTold(2, 9, cost), farTold(3, 9, cost))
		stores[fmt.Sprint("a node beyond at ", cost)] = append(slices.Clone(s), beyondTold(1, 3, 6, cost))
		stores[fmt.Sprint("keys and owners at ", cost)] = append(slices.Clone(s), thingTold(1, cost, 3), thingTold(cost, 3, 3), farTold(1, cost, 3), beyondTold(cost, 2, cost, 3))
	}
	return stores
}

// In a list that is not right there are no ways, so that nothing is left but what
// from tells of itself.
func TestRoutesInWhatIsNotRight(t *testing.T) {
	some := []int{math.MinInt, -1, 0, 1, 2, 3, 6, 7, math.MaxInt}
	for name, s := range misledRoutes(t) {
		if impl.StoreOk(s) {
			t.Fatalf("%s: a right store", name)
		}
		for _, areas := range someAreas {
			for _, from := range some {
				for _, border := range []bool{false, true} {
					if got := impl.RoutesBeyond(s, areas, border, from); len(got) > 0 {
						t.Fatalf("%s: RoutesBeyond(.., %v, %v, %d) = %v", name, areas, border, from, got)
					}
					if got, want := impl.RoutesOf(s, areas, border, from), ownThings(s, from); !sameRoutes(got, want) {
						t.Fatalf("%s: RoutesOf(.., %v, %v, %d) = %+v; want %+v", name, areas, border, from, got, want)
					}
				}
				if got := impl.RoutesWithin(s, areas, from); len(got) > 0 {
					t.Fatalf("%s: RoutesWithin(.., %v, %d) = %v", name, areas, from, got)
				}
				for _, area := range some {
					if got := impl.Beyond(s, areas, from, area); len(got) > 0 {
						t.Fatalf("%s: Beyond(.., %v, %d, %d) = %v", name, areas, from, area, got)
					}
				}
			}
		}
	}
}

// Areas out of order, twice, or that are none, answer as those that there are do.
func TestRoutesOfAnyAreas(t *testing.T) {
	s := drawnStore(t, 11)
	for _, areas := range someAreas {
		var real []int
		for area := range impl.MaxArea + 1 {
			if slices.Contains(areas, area) {
				real = append(real, area)
			}
		}
		long := slices.Repeat(append(slices.Clone(areas), 3, -1), 5000)
		for _, from := range []int{math.MinInt, -1, 0, 1, 2, 3, 4, 5, 6, 7, math.MaxInt} {
			for _, border := range []bool{false, true} {
				want := impl.RoutesOf(s, real, border, from)
				if from < 1 || from > impl.MaxNodes {
					want = nil
				}
				for _, list := range [][]int{areas, long} {
					if got := impl.RoutesOf(s, list, border, from); !sameRoutes(got, want) {
						t.Fatalf("%d areas, from %d: %+v; want %+v", len(list), from, got, want)
					}
				}
			}
			for _, area := range []int{math.MinInt, -1, 0, 1, 2, 3, impl.Outside, math.MaxInt} {
				want := impl.Beyond(s, real, from, area)
				if from < 1 || from > impl.MaxNodes {
					want = nil
				}
				for _, list := range [][]int{areas, long} {
					if got := impl.Beyond(s, list, from, area); !sameRecords(got, want) {
						t.Fatalf("%d areas, from %d into %d: %+v; want %+v", len(list), from, area, got, want)
					}
				}
			}
		}
	}
}

// A full store is one still; one more is none.
func TestRoutesInAFullStore(t *testing.T) {
	x := tellBoth(0, [3]int{1, 2, 4}, [3]int{2, 6, 4})
	s := slices.Concat(x.store(), eachKey(1)[impl.MaxNodes:])
	if got := impl.RoutesWithin(s[:impl.MaxStore], []int{0}, 1); !sameWays(got, x.ways(1)) {
		t.Errorf("a full store: %v; want %v", got, x.ways(1))
	}
	mustBeKnown(t, knownOf(s[:impl.MaxStore]), []int{0, 1, 2}, false, 1)
	if got := impl.RoutesOf(s[:impl.MaxStore+1], []int{0}, false, 5); len(got) > 0 {
		t.Errorf("one record too many: %v", got)
	}
}

func copyRoutes(list []impl.Route) []impl.Route {
	own := slices.Clone(list)
	for at := range own {
		own[at].Hops = slices.Clone(own[at].Hops)
	}
	return own
}

// overwriteRoutes writes over all that an answer has, its spare room too.
func overwriteRoutes(list []impl.Route) {
	for _, r := range list {
		hops := r.Hops[:cap(r.Hops)]
		for at := range hops {
			hops[at] = -99
		}
	}
	list = list[:cap(list)]
	for at := range list {
		list[at] = impl.Route{To: -99}
	}
}

// mustStayRoutes writes over one answer, and looks whether another one to the
// same question stays as it is; no two Hops of it share memory.
func mustStayRoutes(t *testing.T, ask func() []impl.Route) {
	t.Helper()
	first, second := ask(), ask()
	var hops []impl.Way
	for _, r := range second {
		hops = append(hops, impl.Way{Hops: r.Hops})
	}
	mustBeHopsApart(t, hops)
	kept := copyRoutes(second)
	overwriteRoutes(first)
	if !sameRoutes(second, kept) {
		t.Fatalf("two answers share memory: %v; want %v", second, kept)
	}
	overwriteRoutes(second)
	if third := ask(); !sameRoutes(third, kept) {
		t.Fatalf("asked again, it is %v; want %v", third, kept)
	}
}

func mustStayRecords(t *testing.T, ask func() []impl.Record) {
	t.Helper()
	first, second := ask(), ask()
	mustBeListsApart(t, "Beyond", second)
	kept := deepCopy(second)
	overwrite(first)
	if !sameRecords(second, kept) {
		t.Fatalf("two answers share memory: %s; want %s", brief(second), brief(kept))
	}
	overwrite(second)
	if third := ask(); !sameRecords(third, kept) {
		t.Fatalf("asked again, it is %s; want %s", brief(third), brief(kept))
	}
}

func TestRoutesLeaveTheirArgumentsAlone(t *testing.T) {
	lists := [][]impl.Record{nil, fewKeys(3), eachKey(1)[:impl.MaxStore], eachKey(1)[:impl.MaxStore+1]}
	for number := range 12 {
		lists = append(lists, drawnStore(t, number))
	}
	for _, list := range misledRoutes(t) {
		lists = append(lists, list)
	}
	for number, list := range lists {
		s, room := roomy(list)
		kept := deepCopy(room)
		for at := range 4 {
			// The rest is spare room behind the argument.
			wholeAreas := append(slices.Clone(someAreas[(4*number+at)%len(someAreas)]), 0, 1, 2, 77)
			areas := wholeAreas[:len(wholeAreas)-4]
			keptAreas := slices.Clone(wholeAreas)
			for from := 0; from <= impl.MaxNodes+1; from++ {
				mustStayWays(t, "RoutesWithin", func() []impl.Way { return impl.RoutesWithin(s, areas, from) })
				for _, border := range []bool{false, true} {
					mustStayWays(t, "RoutesBeyond", func() []impl.Way { return impl.RoutesBeyond(s, areas, border, from) })
					mustStayRoutes(t, func() []impl.Route { return impl.RoutesOf(s, areas, border, from) })
				}
				for area := -1; area <= impl.MaxArea+1; area++ {
					mustStayRecords(t, func() []impl.Record { return impl.Beyond(s, areas, from, area) })
				}
			}
			if !slices.Equal(wholeAreas, keptAreas) {
				t.Fatalf("the areas were written into: %v; want %v", wholeAreas, keptAreas)
			}
		}
		mustBeAsItWas(t, "routes", s, room, kept)
	}
}

func TestHopsToLeavesRoutesAlone(t *testing.T) {
	room := []int{3, 1, 77, 78}
	list := append(make([]impl.Route, 0, 5), impl.Route{To: 2, Hops: room[:2]}, impl.Route{To: 3, Hops: room[2:2]}, impl.Route{Thing: true, To: 2, Hops: room[3:3]})
	kept := copyRoutes(list[:5])
	for to := range 5 {
		for _, thing := range []bool{false, true} {
			first, second := impl.HopsTo(list, thing, to), impl.HopsTo(list, thing, to)
			mustBeApart(t, first, second)
			mustBeApart(t, second, slices.Clone(second))
		}
	}
	if !slices.Equal(room, []int{3, 1, 77, 78}) || !sameRoutes(list[:5], kept) {
		t.Errorf("an argument was written into: %v, %v", room, list[:5])
	}
}
