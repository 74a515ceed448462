package tests

import (
	"math"
	"slices"
	"testing"

	"loop.example/g00177/impl"
)

// told is what nodes tell of each other in one area, place by the one that tells
// and the one that it tells of; 0 where it does not. Who is silent has no record.
type told struct {
	area   int
	silent [impl.MaxNodes + 1]bool
	cost   [impl.MaxNodes + 1][impl.MaxNodes + 1]int
}

// store has the records that tell this, with Seqs that go up and down.
func (x told) store() []impl.Record {
	var s []impl.Record
	for owner := 1; owner <= impl.MaxNodes; owner++ {
		if x.silent[owner] {
			continue
		}
		r := impl.Record{Area: x.area, Kind: impl.KindNode, Owner: owner, Seq: 1 + (owner*5)%7}
		for to, cost := range x.cost[owner] {
			if cost > 0 {
				r.Near = append(r.Near, impl.Near{To: to, Cost: cost})
			}
		}
		s = append(s, r)
	}
	return s
}

// link is what a says that a link costs of which both tell.
func (x told) link(a, b int) int {
	if x.silent[a] || x.silent[b] || x.cost[b][a] == 0 {
		return 0
	}
	return x.cost[a][b]
}

// ways goes every way from a node that comes to no node twice, one after another.
func (x told) ways(from int) []impl.Way {
	if x.silent[from] {
		return nil
	}
	best := map[int]impl.Way{}
	var walk func(gone []int, cost int)
	walk = func(gone []int, cost int) {
		at := gone[len(gone)-1]
		known, ok := best[at]
		if !ok || cost < known.Cost {
			known = impl.Way{To: at, Cost: cost}
		}
		if cost == known.Cost && len(gone) > 1 && !slices.Contains(known.Hops, gone[1]) {
			known.Hops = append(known.Hops, gone[1])
		}
		best[at] = known
		for to := 1; to <= impl.MaxNodes; to++ {
			if more := x.link(at, to); more > 0 && !slices.Contains(gone, to) {
				walk(append(slices.Clone(gone), to), cost+more)
			}
		}
	}
	walk([]int{from}, 0)
	var list []impl.Way
	for to := 1; to <= impl.MaxNodes; to++ {
		if w, ok := best[to]; ok {
			slices.Sort(w.Hops)
			list = append(list, w)
		}
	}
	return list
}

// tellBoth has rows of two nodes and the Cost that each tells of the other.
func tellBoth(area int, rows ...[3]int) told {
	x := told{area: area}
	for _, row := range rows {
		x.cost[row[0]][row[1]], x.cost[row[1]][row[0]] = row[2], row[2]
	}
	return x
}

// silentBut is silent but for these nodes.
func (x told) silentBut(nodes ...int) told {
	for node := range x.silent {
		x.silent[node] = !slices.Contains(nodes, node)
	}
	return x
}

func sameWay(a, b impl.Way) bool {
	return a.To == b.To && a.Cost == b.Cost && slices.Equal(a.Hops, b.Hops)
}

func sameWays(a, b []impl.Way) bool {
	return slices.EqualFunc(a, b, sameWay)
}

// mustTell holds all that is asked of a store against what was told.
func mustTell(t *testing.T, x told) {
	t.Helper()
	s := x.store()
	for from := 1; from <= impl.MaxNodes; from++ {
		for to := 1; to <= impl.MaxNodes; to++ {
			if got, want := impl.Linked(s, x.area, from, to), x.link(from, to); got != want {
				t.Fatalf("%+v: Linked(%d, %d) = %d; want %d", s, from, to, got, want)
			}
		}
		if got, want := impl.WaysIn(s, x.area, from), x.ways(from); !sameWays(got, want) {
			t.Fatalf("%+v: WaysIn from %d = %v; want %v", s, from, got, want)
		}
	}
}

// mustBeShortest holds promise 6 against Linked and WaysIn alone.
func mustBeShortest(t *testing.T, s []impl.Record, area int) {
	t.Helper()
	var all [impl.MaxNodes + 1][]impl.Way
	for node := range all {
		all[node] = impl.WaysIn(s, area, node)
	}
	for from, list := range all {
		for _, w := range list {
			mustBeLeastBy(t, s, area, list, w)
			mustGoByAllHops(t, s, area, all, from, w)
		}
	}
}

// mustBeLeastBy holds that no link makes a way shorter: none that goes on from w
// comes to where list leads to at a greater Cost.
func mustBeLeastBy(t *testing.T, s []impl.Record, area int, list []impl.Way, w impl.Way) {
	t.Helper()
	for to := 1; to <= impl.MaxNodes; to++ {
		cost := impl.Linked(s, area, w.To, to)
		if cost == 0 {
			continue
		}
		if there, ok := impl.WayTo(list, to); !ok || there.Cost > w.Cost+cost {
			t.Fatalf("%+v: the way %v goes on to %d at %d, but that one is %v, %v", s, w, to, cost, there, ok)
		}
	}
}

// mustGoByAllHops holds that each hop begins a way that has the least cost, and
// that every node that does is a hop.
func mustGoByAllHops(t *testing.T, s []impl.Record, area int, all [impl.MaxNodes + 1][]impl.Way, from int, w impl.Way) {
	t.Helper()
	var hops []int
	for hop := 1; hop <= impl.MaxNodes; hop++ {
		cost := impl.Linked(s, area, from, hop)
		rest, ok := impl.WayTo(all[hop], w.To)
		if cost > 0 && ok && cost+rest.Cost == w.Cost {
			hops = append(hops, hop)
		}
	}
	if !slices.Equal(w.Hops, hops) {
		t.Fatalf("%+v: from %d the way %v; its hops would be %v", s, from, w, hops)
	}
	if (w.To == from) != (w.Cost == 0) || (w.To == from) != (len(w.Hops) == 0) {
		t.Fatalf("%+v: from %d the way %v", s, from, w)
	}
}

// recordsOf are the KindNode records that a net would have.
func recordsOf(x impl.Net) []impl.Record {
	var s []impl.Record
	table := costs(x)
	for area := range impl.MaxArea + 1 {
		for owner := 1; owner <= x.N; owner++ {
			r := impl.Record{Area: area, Kind: impl.KindNode, Owner: owner, Seq: 1}
			for to := 1; to <= x.N; to++ {
				if cost := table[owner][to][area]; cost > 0 {
					r.Near = append(r.Near, impl.Near{To: to, Cost: cost})
				}
			}
			if len(r.Near) > 0 {
				s = append(s, r)
			}
		}
	}
	return s
}

// mustCostTheSame holds both ends of each way against each other.
func mustCostTheSame(t *testing.T, s []impl.Record, area int) {
	t.Helper()
	for a := 1; a <= impl.MaxNodes; a++ {
		for _, w := range impl.WaysIn(s, area, a) {
			back, ok := impl.WayTo(impl.WaysIn(s, area, w.To), a)
			if !ok || back.Cost != w.Cost {
				t.Fatalf("%+v: from %d the way %v, back it is %v, %v", s, a, w, back, ok)
			}
		}
	}
}

// draws is a row of numbers made by a rule.
type draws struct {
	state int
}

func (d *draws) below(n int) int {
	d.state = (d.state*1103515245 + 12345) % (1 << 31)
	return (d.state >> 8) % n
}

// drawnTold has six nodes, with few costs among them, so that many ways are as
// short; some links are told from one end only, or at two costs.
func drawnTold(number int) told {
	d := &draws{state: number}
	x := told{area: number % 3}
	most := []int{1, 2, 3, 6, impl.MaxCost}[d.below(5)]
	thin := 1 + d.below(4)
	for a := 1; a <= impl.MaxNodes; a++ {
		x.silent[a] = d.below(12) == 0
		for b := a + 1; b <= impl.MaxNodes; b++ {
			if d.below(4) >= thin {
				continue
			}
			x.cost[a][b] = 1 + d.below(most)
			x.cost[b][a] = x.cost[a][b]
			switch d.below(6) {
			case 0:
				x.cost[b][a] = 1 + d.below(most)
			case 1:
				x.cost[b][a] = 0
			}
		}
	}
	return x
}

// drawnNet is a right net of 1 .. MaxNodes nodes in all areas.
func drawnNet(number int) impl.Net {
	d := &draws{state: number}
	x := impl.Net{N: 1 + number%impl.MaxNodes}
	most := []int{1, 2, 4, impl.MaxCost}[d.below(4)]
	areas := 1 + d.below(3)
	for a := 1; a <= x.N; a++ {
		for b := a + 1; b <= x.N; b++ {
			for area := range areas {
				if len(x.Links) < impl.MaxLinks && d.below(10) < 6 {
					x.Links = append(x.Links, impl.Link{A: a, B: b, Cost: 1 + d.below(most), Area: area})
				}
			}
		}
	}
	return x
}

// Promise 6, by whatever three nodes tell of each other, silent ones among them.
func TestWaysOfThreeNodes(t *testing.T) {
	ends := [][2]int{{1, 2}, {2, 1}, {1, 3}, {3, 1}, {2, 3}, {3, 2}}
	for choice := range 1 << (2 * len(ends)) {
		x := told{area: choice % 3}.silentBut([][]int{{1, 2, 3}, {1, 2, 3}, {1, 3}, {2}, {1, 2, 3}}[choice%5]...)
		for at, end := range ends {
			x.cost[end[0]][end[1]] = choice >> (2 * at) & 3
		}
		mustTell(t, x)
		mustBeShortest(t, x.store(), x.area)
	}
}

// Promise 6, by whatever links four nodes have that cost 1, 2 or 3.
func TestWaysOfFourNodes(t *testing.T) {
	ends := [][2]int{{1, 2}, {1, 5}, {1, 6}, {2, 5}, {2, 6}, {5, 6}}
	for choice := range 1 << (2 * len(ends)) {
		x := told{area: choice % 3}.silentBut(1, 2, 5, 6)
		for at, end := range ends {
			cost := choice >> (2 * at) & 3
			x.cost[end[0]][end[1]], x.cost[end[1]][end[0]] = cost, cost
		}
		mustTell(t, x)
		mustBeShortest(t, x.store(), x.area)
		mustCostTheSame(t, x.store(), x.area)
	}
}

// Promise 6, by what MaxNodes nodes tell.
func TestWaysOfSixNodes(t *testing.T) {
	severalHops, twoCosts := 0, 0
	for number := range 4000 {
		x := drawnTold(number)
		mustTell(t, x)
		mustBeShortest(t, x.store(), x.area)
		for from := 1; from <= impl.MaxNodes; from++ {
			for _, w := range x.ways(from) {
				back, _ := impl.WayTo(x.ways(w.To), from)
				if len(w.Hops) > 2 {
					severalHops++
				}
				if back.Cost != w.Cost {
					twoCosts++
				}
			}
		}
	}
	if severalHops < 1000 || twoCosts < 1000 {
		t.Errorf("too few of what is to be watched: %d ways by more than two hops, %d that cost something else back", severalHops, twoCosts)
	}
}

// Promise 6: by the records that a net would have both ends cost the same.
func TestBothEndsCostTheSame(t *testing.T) {
	check := func(x impl.Net) {
		t.Helper()
		if !impl.NetOk(x) {
			t.Fatalf("%v is no right net", x)
		}
		s := recordsOf(x)
		table := costs(x)
		for area := range impl.MaxArea + 1 {
			mustCostTheSame(t, s, area)
			mustBeShortest(t, s, area)
			for a := range table {
				for b := range table {
					if got := impl.Linked(s, area, a, b); got != table[a][b][area] {
						t.Fatalf("%v: Linked(%d, %d, %d) = %d", x, area, a, b, got)
					}
				}
			}
		}
	}
	eachSmallNet(check)
	for _, x := range rightNets {
		check(x)
	}
	for number := range 3000 {
		check(drawnNet(number))
	}
}

func TestWaysWrittenOut(t *testing.T) {
	square := tellBoth(0, [3]int{1, 2, 1}, [3]int{1, 3, 1}, [3]int{2, 4, 1}, [3]int{3, 4, 1})
	fan := tellBoth(2, [3]int{1, 2, 5}, [3]int{1, 3, 4}, [3]int{1, 4, 3}, [3]int{1, 5, 2}, [3]int{1, 6, 6},
		[3]int{2, 6, 1}, [3]int{3, 6, 2}, [3]int{4, 6, 3}, [3]int{5, 6, 4})
	oneEnd := tellBoth(0, [3]int{1, 2, 1}, [3]int{2, 3, 1})
	oneEnd.cost[3][1], oneEnd.cost[4][1] = 1, 1
	twoCosts := tellBoth(0, [3]int{1, 2, 3}, [3]int{2, 3, 3})
	twoCosts.cost[1][3], twoCosts.cost[3][1] = 1, 9
	far := tellBoth(1, [3]int{1, 2, 1000}, [3]int{2, 3, 1000}, [3]int{3, 4, 1000}, [3]int{4, 5, 1000}, [3]int{5, 6, 1000})
	// Both lead to 6 by the one hop 2, and part behind it.
	behind := tellBoth(0, [3]int{1, 2, 1}, [3]int{2, 3, 1}, [3]int{2, 4, 1}, [3]int{3, 6, 1}, [3]int{4, 6, 1})
	for name, c := range map[string]struct {
		x    told
		from int
		want []impl.Way
	}{
		"one node alone":        {told{}.silentBut(4), 4, []impl.Way{{To: 4}}},
		"one alone among many":  {told{}, 4, []impl.Way{{To: 4}}},
		"one that is silent":    {tellBoth(0, [3]int{1, 2, 1}).silentBut(1), 2, nil},
		"next to a silent one":  {tellBoth(0, [3]int{1, 2, 1}).silentBut(1), 1, []impl.Way{{To: 1}}},
		"two nodes":             {tellBoth(0, [3]int{1, 2, 1}).silentBut(1, 2), 1, []impl.Way{{To: 1}, {To: 2, Cost: 1, Hops: []int{2}}}},
		"two nodes, the last":   {tellBoth(2, [3]int{5, 6, 1000}).silentBut(5, 6), 6, []impl.Way{{To: 5, Cost: 1000, Hops: []int{5}}, {To: 6}}},
		"two that are parted":   {tellBoth(0, [3]int{1, 2, 1}, [3]int{3, 4, 1}), 3, []impl.Way{{To: 3}, {To: 4, Cost: 1, Hops: []int{4}}}},
		"two that are as short": {square, 1, []impl.Way{{To: 1}, {To: 2, Cost: 1, Hops: []int{2}}, {To: 3, Cost: 1, Hops: []int{3}}, {To: 4, Cost: 2, Hops: []int{2, 3}}}},
		"five that are as short": {fan, 1, []impl.Way{{To: 1}, {To: 2, Cost: 5, Hops: []int{2}}, {To: 3, Cost: 4, Hops: []int{3}},
			{To: 4, Cost: 3, Hops: []int{4}}, {To: 5, Cost: 2, Hops: []int{5}}, {To: 6, Cost: 6, Hops: []int{2, 3, 4, 5, 6}}}},
		"as short by one hop": {behind, 1, []impl.Way{{To: 1}, {To: 2, Cost: 1, Hops: []int{2}}, {To: 3, Cost: 2, Hops: []int{2}},
			{To: 4, Cost: 2, Hops: []int{2}}, {To: 6, Cost: 3, Hops: []int{2}}}},
		"one long, one dear": {tellBoth(0, [3]int{1, 2, 3}, [3]int{1, 3, 1}, [3]int{2, 3, 1}), 1,
			[]impl.Way{{To: 1}, {To: 2, Cost: 2, Hops: []int{3}}, {To: 3, Cost: 1, Hops: []int{3}}}},
		"one long, one as dear": {tellBoth(0, [3]int{1, 2, 2}, [3]int{1, 3, 1}, [3]int{2, 3, 1}), 1,
			[]impl.Way{{To: 1}, {To: 2, Cost: 2, Hops: []int{2, 3}}, {To: 3, Cost: 1, Hops: []int{3}}}},
		"told from one end only": {oneEnd, 1, []impl.Way{{To: 1}, {To: 2, Cost: 1, Hops: []int{2}}, {To: 3, Cost: 2, Hops: []int{2}}}},
		"told so, from it":       {oneEnd, 3, []impl.Way{{To: 1, Cost: 2, Hops: []int{2}}, {To: 2, Cost: 1, Hops: []int{2}}, {To: 3}}},
		"who alone tells":        {oneEnd, 4, []impl.Way{{To: 4}}},
		"two costs, the less":    {twoCosts, 1, []impl.Way{{To: 1}, {To: 2, Cost: 3, Hops: []int{2}}, {To: 3, Cost: 1, Hops: []int{3}}}},
		"two costs, the greater": {twoCosts, 3, []impl.Way{{To: 1, Cost: 6, Hops: []int{2}}, {To: 2, Cost: 3, Hops: []int{2}}, {To: 3}}},
		"as far as may be": {far, 6, []impl.Way{{To: 1, Cost: 5000, Hops: []int{5}}, {To: 2, Cost: 4000, Hops: []int{5}},
			{To: 3, Cost: 3000, Hops: []int{5}}, {To: 4, Cost: 2000, Hops: []int{5}}, {To: 5, Cost: 1000, Hops: []int{5}}, {To: 6}}},
	} {
		if got := impl.WaysIn(c.x.store(), c.x.area, c.from); !sameWays(got, c.want) {
			t.Errorf("%s: WaysIn = %v; want %v", name, got, c.want)
		}
		mustTell(t, c.x)
		mustBeShortest(t, c.x.store(), c.x.area)
	}
}

// A way that was found first, and is not the shortest, leaves nothing behind,
// however often a shorter one comes.
func TestWaysThatGetShorterAgainAndAgain(t *testing.T) {
	x := told{}
	for a := 1; a <= impl.MaxNodes; a++ {
		for b := a + 1; b <= impl.MaxNodes; b++ {
			x.cost[a][b] = (b - a) * (b - a)
			x.cost[b][a] = x.cost[a][b]
		}
	}
	for from := 1; from <= impl.MaxNodes; from++ {
		for _, w := range impl.WaysIn(x.store(), 0, from) {
			want := impl.Way{To: w.To, Cost: max(w.To-from, from-w.To)}
			if w.To < from {
				want.Hops = []int{from - 1}
			} else if w.To > from {
				want.Hops = []int{from + 1}
			}
			if !sameWay(w, want) {
				t.Errorf("from %d: %v; want %v", from, w, want)
			}
		}
	}
	mustTell(t, x)
}

func TestLinkedAsksBothEnds(t *testing.T) {
	x := told{area: 1}.silentBut(1, 2, 3, 6)
	x.cost[1][2], x.cost[2][1] = 3, 8
	x.cost[1][3] = 4
	x.cost[6][1], x.cost[1][6] = 1000, 1
	x.cost[2][5], x.cost[5][2] = 7, 7
	want := map[[2]int]int{{1, 2}: 3, {2, 1}: 8, {6, 1}: 1000, {1, 6}: 1}
	some := []int{math.MinInt, -1, 0, 1, 2, 3, 4, 5, 6, 7, math.MaxInt}
	for _, a := range some {
		for _, b := range some {
			for _, area := range []int{math.MinInt, -1, 0, 1, 2, 3, impl.Outside, math.MaxInt} {
				cost := want[[2]int{a, b}]
				if area != 1 {
					cost = 0
				}
				if got := impl.Linked(x.store(), area, a, b); got != cost {
					t.Errorf("Linked(.., %d, %d, %d) = %d; want %d", area, a, b, got, cost)
				}
			}
			if got := impl.Linked(nil, 1, a, b); got != 0 {
				t.Errorf("Linked(nil, 1, %d, %d) = %d", a, b, got)
			}
		}
	}
}

// otherKinds has, besides what is told, records of the other kinds of all owners,
// which lead nowhere here.
func otherKinds(t *testing.T, x told) []impl.Record {
	t.Helper()
	s := x.store()
	for _, r := range eachKey(2) {
		if r.Kind == impl.KindNode || r.Key > 5 {
			continue
		}
		s, _ = impl.Install(s, r)
	}
	if !impl.StoreOk(s) || len(s) < 100 {
		t.Fatalf("no such store: %s", brief(s))
	}
	return s
}

func TestWaysAreOfOneKind(t *testing.T) {
	for number := range 60 {
		x := drawnTold(number)
		s := otherKinds(t, x)
		for from := 1; from <= impl.MaxNodes; from++ {
			if got, want := impl.WaysIn(s, x.area, from), x.ways(from); !sameWays(got, want) {
				t.Fatalf("%s: WaysIn from %d = %v; want %v", brief(s), from, got, want)
			}
		}
	}
}

// Each area has links of its own between the same nodes, and one end of a link is
// not told in one area and the other end in another.
func TestWaysAreOfOneArea(t *testing.T) {
	areas := []told{
		tellBoth(0, [3]int{1, 2, 5}, [3]int{2, 3, 5}),
		tellBoth(1, [3]int{1, 3, 2}, [3]int{3, 4, 2}).silentBut(1, 3, 4),
		tellBoth(2, [3]int{1, 2, 1}, [3]int{2, 4, 1}),
	}
	areas[0].cost[5][6] = 1
	areas[2].cost[6][5] = 1
	var s []impl.Record
	for _, x := range areas {
		s = append(s, x.store()...)
	}
	for _, x := range areas {
		for from := 1; from <= impl.MaxNodes; from++ {
			if got, want := impl.WaysIn(s, x.area, from), x.ways(from); !sameWays(got, want) {
				t.Errorf("area %d, from %d: %v; want %v", x.area, from, got, want)
			}
			for to := 1; to <= impl.MaxNodes; to++ {
				if got := impl.Linked(s, x.area, from, to); got != x.link(from, to) {
					t.Errorf("Linked(.., %d, %d, %d) = %d", x.area, from, to, got)
				}
			}
		}
	}
	for _, area := range []int{math.MinInt, -1, 3, 8, impl.Outside, 10, math.MaxInt} {
		for from := -1; from <= impl.MaxNodes+1; from++ {
			if got := impl.WaysIn(s, area, from); len(got) > 0 {
				t.Errorf("area %d, from %d: %v", area, from, got)
			}
		}
	}
}

func TestWaysFromTheEdges(t *testing.T) {
	x := told{}
	for a := 1; a <= impl.MaxNodes; a++ {
		for b := 1; b <= impl.MaxNodes; b++ {
			if a != b {
				x.cost[a][b] = 1
			}
		}
	}
	for from, want := range map[int]int{math.MinInt: 0, -1: 0, 0: 0, 1: 6, 2: 6, impl.MaxNodes: 6, impl.MaxNodes + 1: 0, math.MaxInt: 0} {
		if got := impl.WaysIn(x.store(), 0, from); len(got) != want {
			t.Errorf("from %d: %v", from, got)
		}
		for _, s := range [][]impl.Record{nil, {}} {
			if got := impl.WaysIn(s, 0, from); len(got) > 0 {
				t.Errorf("in an empty store from %d: %v", from, got)
			}
		}
	}
}

// A full store is one still; one more is none.
func TestWaysInAFullStore(t *testing.T) {
	x := tellBoth(0, [3]int{1, 2, 4}, [3]int{2, 6, 4})
	s := slices.Concat(x.store(), eachKey(1)[impl.MaxNodes:])
	if got := impl.WaysIn(s[:impl.MaxStore], 0, 1); !sameWays(got, x.ways(1)) {
		t.Errorf("a full store: %v; want %v", got, x.ways(1))
	}
	if got := impl.WaysIn(s[:impl.MaxStore+1], 0, 1); len(got) > 0 {
		t.Errorf("one record too many: %v", got)
	}
	// Linked is not said to ask whether the store is right.
	if got := impl.Linked(s[:impl.MaxStore+1], 0, 2, 6); got != 4 {
		t.Errorf("one record too many: Linked = %d", got)
	}
}

// misled are lists that are no right stores by one thing each, all with records
// from which ways would lead.
func misled() map[string][]impl.Record {
	s := tellBoth(0, [3]int{1, 2, 1}, [3]int{2, 3, 1}, [3]int{3, 4, 1}).store()
	stores := map[string][]impl.Record{
		"two alike":             slices.Insert(slices.Clone(s), 1, s[1]),
		"two of one key":        slices.Insert(slices.Clone(s), 1, withSeq(s[1], 9)),
		"two that tell other":   slices.Insert(slices.Clone(s), 1, with(s[1], func(r *impl.Record) { r.Near = nearOf([2]int{1, 8}, [2]int{4, 8}) })),
		"out of order":          {s[1], s[0], s[2], s[3]},
		"the last one first":    {s[3], s[0], s[1], s[2]},
		"seq 0":                 {s[0], s[1], s[2], withSeq(s[3], 0)},
		"a far node":            {s[0], s[1], with(s[2], func(r *impl.Record) { r.Far = true })},
		"a node with a cost":    {s[0], s[1], with(s[2], func(r *impl.Record) { r.Cost = 1 })},
		"a node with a key":     {s[0], s[1], with(s[2], func(r *impl.Record) { r.Key = 1 })},
		"a node of no kind":     {s[0], s[1], with(s[2], func(r *impl.Record) { r.Kind = 9 })},
		"a node without number": {s[0], s[1], with(s[2], func(r *impl.Record) { r.Owner = 7 })},
		"a link at no cost":     {s[0], with(s[1], func(r *impl.Record) { r.Near[0].Cost = 0 }), s[2]},
		"a link that pays":      {s[0], with(s[1], func(r *impl.Record) { r.Near[0].Cost = -5 }), s[2]},
		"a link too dear":       {s[0], with(s[1], func(r *impl.Record) { r.Near[1].Cost = impl.MaxCost + 1 }), s[2]},
		"a link to itself":      {with(s[0], func(r *impl.Record) { r.Near = nearOf([2]int{1, 1}, [2]int{2, 1}) }), s[1]},
		"a link to none":        {with(s[0], func(r *impl.Record) { r.Near = nearOf([2]int{2, 1}, [2]int{7, 1}) }), s[1]},
		"links out of order":    {s[0], with(s[1], func(r *impl.Record) { slices.Reverse(r.Near) }), s[2]},
		"a link twice":          {with(s[0], func(r *impl.Record) { r.Near = nearOf([2]int{2, 1}, [2]int{2, 5}) }), s[1]},
	}
	for name, wrong := range wrongRecords() {
		stores["behind it: "+name] = append(slices.Clone(s), wrong)
		stores["ahead of it: "+name] = append([]impl.Record{wrong}, s...)
	}
	for name, wrong := range wrongStores() {
		stores["of others: "+name] = wrong
	}
	return stores
}

func TestNoWaysInWhatIsNotRight(t *testing.T) {
	some := []int{math.MinInt, -1, 0, 1, 2, 3, 4, 5, 6, 7, 9, math.MaxInt}
	for name, s := range misled() {
		if impl.StoreOk(s) {
			t.Fatalf("%s: a right store", name)
		}
		for _, area := range some {
			for _, from := range some {
				if got := impl.WaysIn(s, area, from); len(got) > 0 {
					t.Fatalf("%s: WaysIn(.., %d, %d) = %v", name, area, from, got)
				}
			}
		}
	}
}

// toldIn is the Cost that the first KindNode record of one says of another.
func toldIn(s []impl.Record, area, owner, to int) (int, bool) {
	at := slices.IndexFunc(s, func(r impl.Record) bool {
		return r.Area == area && r.Kind == impl.KindNode && r.Owner == owner
	})
	if at < 0 {
		return 0, false
	}
	near := slices.IndexFunc(s[at].Near, func(n impl.Near) bool { return n.To == to })
	if near < 0 {
		return 0, false
	}
	return s[at].Near[near].Cost, true
}

// Nothing is said of Linked in lists that are not right: they are taken as they
// stand, and of two records of a node the first one.
func TestLinkedInWhatIsNotRight(t *testing.T) {
	some := []int{math.MinInt, -1, 0, 1, 2, 3, 4, 5, 6, 7, 9, math.MaxInt}
	for name, s := range misled() {
		for _, area := range some {
			for _, a := range some {
				for _, b := range some {
					want, ok := toldIn(s, area, a, b)
					if _, back := toldIn(s, area, b, a); !ok || !back {
						want = 0
					}
					if got := impl.Linked(s, area, a, b); got != want {
						t.Fatalf("%s: Linked(.., %d, %d, %d) = %d; want %d", name, area, a, b, got, want)
					}
				}
			}
		}
	}
}

func TestWayToANode(t *testing.T) {
	x := tellBoth(0, [3]int{1, 2, 1}, [3]int{1, 3, 1}, [3]int{2, 5, 1}, [3]int{3, 5, 1})
	list := impl.WaysIn(x.store(), 0, 1)
	want := map[int]impl.Way{1: {To: 1}, 2: {To: 2, Cost: 1, Hops: []int{2}}, 3: {To: 3, Cost: 1, Hops: []int{3}}, 5: {To: 5, Cost: 2, Hops: []int{2, 3}}}
	for _, to := range []int{math.MinInt, -1, 0, 1, 2, 3, 4, 5, 6, 7, math.MaxInt} {
		w, there := want[to]
		if got, ok := impl.WayTo(list, to); ok != there || !sameWay(got, w) {
			t.Errorf("WayTo(.., %d) = %v, %v", to, got, ok)
		}
		for _, none := range [][]impl.Way{nil, {}} {
			if got, ok := impl.WayTo(none, to); ok || !sameWay(got, impl.Way{}) {
				t.Errorf("WayTo of nothing, %d = %v, %v", to, got, ok)
			}
		}
	}
}

// A list that WaysIn never makes is taken as it stands: in any order, of two
// ways to one node the first one, whatever they cost and go by.
func TestWayToInAnyList(t *testing.T) {
	list := []impl.Way{{To: 5, Cost: -7, Hops: []int{9, 9, 1}}, {To: 2, Cost: 8, Hops: []int{3, 2}}, {To: 2, Cost: 1, Hops: []int{4}}, {To: 1, Cost: 3}, {To: 5}}
	for to, at := range map[int]int{5: 0, 2: 1, 1: 3} {
		if got, ok := impl.WayTo(list, to); !ok || !sameWay(got, list[at]) {
			t.Errorf("WayTo(.., %d) = %v, %v; want %v", to, got, ok, list[at])
		}
	}
	for _, to := range []int{-7, 0, 3, 4, 8, 9} {
		if got, ok := impl.WayTo(list, to); ok || !sameWay(got, impl.Way{}) {
			t.Errorf("WayTo(.., %d) = %v, %v", to, got, ok)
		}
	}
}

func TestBetterIsCheaper(t *testing.T) {
	upward := []int{math.MinInt, -1, 0, 1, 2, 1000, 1001, 5000, impl.Infinite, math.MaxInt}
	for i, one := range upward {
		for j, other := range upward {
			for _, a := range []impl.Way{{}, {To: 1}, {To: 6, Hops: []int{1, 2, 3}}} {
				for _, b := range []impl.Way{{}, {To: 6}, {To: 1, Hops: []int{4}}} {
					a.Cost, b.Cost = one, other
					if got := impl.Better(a, b); got != (i < j) {
						t.Errorf("Better(%v, %v) = %v", a, b, got)
					}
				}
			}
		}
	}
}

func TestTogether(t *testing.T) {
	for name, c := range map[string]struct {
		a, b, want impl.Way
	}{
		"the first cheaper":     {impl.Way{To: 2, Cost: 3, Hops: []int{1}}, impl.Way{To: 2, Cost: 4, Hops: []int{3}}, impl.Way{To: 2, Cost: 3, Hops: []int{1}}},
		"the second cheaper":    {impl.Way{To: 2, Cost: 4, Hops: []int{1}}, impl.Way{To: 2, Cost: 3, Hops: []int{3}}, impl.Way{To: 2, Cost: 3, Hops: []int{3}}},
		"as cheap":              {impl.Way{To: 2, Cost: 3, Hops: []int{1}}, impl.Way{To: 2, Cost: 3, Hops: []int{3}}, impl.Way{To: 2, Cost: 3, Hops: []int{1, 3}}},
		"the later ones first":  {impl.Way{To: 2, Cost: 3, Hops: []int{5, 6}}, impl.Way{To: 2, Cost: 3, Hops: []int{1, 3}}, impl.Way{To: 2, Cost: 3, Hops: []int{1, 3, 5, 6}}},
		"some of both":          {impl.Way{To: 2, Cost: 3, Hops: []int{1, 3, 5}}, impl.Way{To: 2, Cost: 3, Hops: []int{2, 3, 5, 6}}, impl.Way{To: 2, Cost: 3, Hops: []int{1, 2, 3, 5, 6}}},
		"the same of both":      {impl.Way{To: 2, Cost: 3, Hops: []int{4, 6}}, impl.Way{To: 2, Cost: 3, Hops: []int{4, 6}}, impl.Way{To: 2, Cost: 3, Hops: []int{4, 6}}},
		"none of the first":     {impl.Way{To: 2, Cost: 3}, impl.Way{To: 2, Cost: 3, Hops: []int{4, 6}}, impl.Way{To: 2, Cost: 3, Hops: []int{4, 6}}},
		"none of the second":    {impl.Way{To: 2, Cost: 3, Hops: []int{4, 6}}, impl.Way{To: 2, Cost: 3}, impl.Way{To: 2, Cost: 3, Hops: []int{4, 6}}},
		"none of either":        {impl.Way{To: 2, Cost: 3}, impl.Way{To: 2, Cost: 3}, impl.Way{To: 2, Cost: 3}},
		"to two nodes":          {impl.Way{To: 2, Cost: 3, Hops: []int{1}}, impl.Way{To: 5, Cost: 3, Hops: []int{3}}, impl.Way{To: 2, Cost: 3, Hops: []int{1, 3}}},
		"to two, the 2nd":       {impl.Way{To: 2, Cost: 3, Hops: []int{1}}, impl.Way{To: 5, Cost: 2, Hops: []int{3}}, impl.Way{To: 5, Cost: 2, Hops: []int{3}}},
		"cheapest of all":       {impl.Way{To: 2, Cost: math.MinInt, Hops: []int{1}}, impl.Way{To: 2, Cost: math.MaxInt, Hops: []int{3}}, impl.Way{To: 2, Cost: math.MinInt, Hops: []int{1}}},
		"cheapest of all, 2nd":  {impl.Way{To: 2, Cost: math.MaxInt, Hops: []int{1}}, impl.Way{To: 2, Cost: math.MinInt, Hops: []int{3}}, impl.Way{To: 2, Cost: math.MinInt, Hops: []int{3}}},
		"nothing":               {impl.Way{}, impl.Way{}, impl.Way{}},
		"out of order, cheaper": {impl.Way{To: 2, Cost: 3, Hops: []int{6, 1, 1}}, impl.Way{To: 2, Cost: 4, Hops: []int{3}}, impl.Way{To: 2, Cost: 3, Hops: []int{6, 1, 1}}},
		"out of order, 2nd":     {impl.Way{To: 2, Cost: 5, Hops: []int{3}}, impl.Way{To: 2, Cost: 4, Hops: []int{6, 1, 1}}, impl.Way{To: 2, Cost: 4, Hops: []int{6, 1, 1}}},
		// Hops ascend, and ascending lists have no two alike.
		"out of order, as cheap": {impl.Way{To: 2, Cost: 3, Hops: []int{6, 1, 1}}, impl.Way{To: 2, Cost: 3, Hops: []int{7, 3, -1}}, impl.Way{To: 2, Cost: 3, Hops: []int{-1, 1, 3, 6, 7}}},
		"alike in one":           {impl.Way{To: 2, Cost: 3, Hops: []int{4, 4}}, impl.Way{To: 2, Cost: 3}, impl.Way{To: 2, Cost: 3, Hops: []int{4}}},
	} {
		if got := impl.Together(c.a, c.b); !sameWay(got, c.want) {
			t.Errorf("%s: Together(%v, %v) = %v; want %v", name, c.a, c.b, got, c.want)
		}
	}
}

// Every two sets of hops, as cheap: the hops of both, once each, in order.
func TestTogetherHasTheHopsOfBoth(t *testing.T) {
	hopsIn := func(choice int) (hops []int) {
		for node := 1; node <= impl.MaxNodes; node++ {
			if choice>>(node-1)&1 == 1 {
				hops = append(hops, node)
			}
		}
		return hops
	}
	for one := range 1 << impl.MaxNodes {
		for other := range 1 << impl.MaxNodes {
			a, b := impl.Way{To: 3, Cost: 9, Hops: hopsIn(one)}, impl.Way{To: 3, Cost: 9, Hops: hopsIn(other)}
			want := impl.Way{To: 3, Cost: 9, Hops: hopsIn(one | other)}
			if got := impl.Together(a, b); !sameWay(got, want) {
				t.Fatalf("Together(%v, %v) = %v", a, b, got)
			}
		}
	}
}

// overwriteWays writes over all that an answer has, its spare room too.
func overwriteWays(list []impl.Way) {
	for _, w := range list {
		hops := w.Hops[:cap(w.Hops)]
		for at := range hops {
			hops[at] = -99
		}
	}
	list = list[:cap(list)]
	for at := range list {
		list[at] = impl.Way{To: -99}
	}
}

func copyWays(list []impl.Way) []impl.Way {
	var own []impl.Way
	for _, w := range list {
		own = append(own, impl.Way{To: w.To, Cost: w.Cost, Hops: slices.Clone(w.Hops)})
	}
	return own
}

// mustBeHopsApart holds that no two Hops of one answer share memory.
func mustBeHopsApart(t *testing.T, list []impl.Way) {
	t.Helper()
	seen := map[*int]bool{}
	for _, w := range list {
		hops := w.Hops[:cap(w.Hops)]
		for at := range hops {
			if seen[&hops[at]] {
				t.Fatalf("two Hops share memory: %v", list)
			}
			seen[&hops[at]] = true
		}
	}
}

// mustStayWays writes over one answer, and looks whether another one to the same
// question stays as it is.
func mustStayWays(t *testing.T, name string, ask func() []impl.Way) {
	t.Helper()
	first, second := ask(), ask()
	mustBeHopsApart(t, second)
	kept := copyWays(second)
	overwriteWays(first)
	if !sameWays(second, kept) {
		t.Fatalf("%s: two answers share memory: %v; want %v", name, second, kept)
	}
	overwriteWays(second)
	if third := ask(); !sameWays(third, kept) {
		t.Fatalf("%s: asked again, it is %v; want %v", name, third, kept)
	}
}

func TestWaysLeaveStoresAlone(t *testing.T) {
	lists := [][]impl.Record{nil, fewKeys(3), eachKey(1)[:impl.MaxStore], eachKey(1)[:impl.MaxStore+1]}
	for number := range 100 {
		lists = append(lists, drawnTold(number).store())
	}
	for _, list := range misled() {
		lists = append(lists, list)
	}
	for _, list := range lists {
		s, room := roomy(list)
		kept := deepCopy(room)
		for area := -1; area <= impl.MaxArea+1; area++ {
			for from := -1; from <= impl.MaxNodes+1; from++ {
				mustStayWays(t, "WaysIn", func() []impl.Way { return impl.WaysIn(s, area, from) })
				for to := -1; to <= impl.MaxNodes+1; to++ {
					impl.Linked(s, area, from, to)
				}
			}
		}
		mustBeAsItWas(t, "WaysIn and Linked", s, room, kept)
	}
}

// roomyWay has spare room behind its Hops.
func roomyWay(w impl.Way) impl.Way {
	hops := append(slices.Clone(w.Hops), 77, 78, 79, 80, 81, 82, 83, 84)
	w.Hops = hops[:len(w.Hops)]
	return w
}

// inFull has the Hops with all the room behind them.
func inFull(list []impl.Way) []impl.Way {
	full := copyWays(list[:cap(list)])
	for at, w := range list[:cap(list)] {
		full[at].Hops = slices.Clone(w.Hops[:cap(w.Hops)])
	}
	return full
}

func TestWaysLeaveWaysAlone(t *testing.T) {
	some := []impl.Way{{}, {To: 1}, {To: 2, Cost: 3, Hops: []int{1}}, {To: 2, Cost: 3, Hops: []int{2, 5, 6}}, {To: 2, Cost: 3, Hops: []int{6, 6, 2}},
		{To: 2, Cost: 4, Hops: []int{1, 2, 3}}, {To: 4, Cost: 3, Hops: []int{4}}}
	for _, one := range some {
		for _, other := range some {
			list := slices.Grow([]impl.Way(nil), 5)
			list = append(list, roomyWay(one), roomyWay(other))
			kept := inFull(list)
			mustStayWays(t, "Together", func() []impl.Way { return []impl.Way{impl.Together(list[0], list[1])} })
			mustStayWays(t, "Together with itself", func() []impl.Way { return []impl.Way{impl.Together(list[0], list[0])} })
			for to := range 5 {
				mustStayWays(t, "WayTo", func() []impl.Way {
					w, _ := impl.WayTo(list, to)
					return []impl.Way{w}
				})
			}
			impl.Better(list[0], list[1])
			if now := inFull(list); !sameWays(now, kept) {
				t.Fatalf("an argument was written into: %v; want %v", now, kept)
			}
		}
	}
}

// An empty list with room behind it is handed in: the answer has none of it.
func TestTogetherOfEmptyHopsHasNoneOfTheirRoom(t *testing.T) {
	room := []int{77, 78, 79}
	empty := impl.Way{To: 2, Cost: 3, Hops: room[:0]}
	for _, got := range []impl.Way{
		impl.Together(empty, impl.Way{Cost: 4}), impl.Together(impl.Way{Cost: 4}, empty),
		impl.Together(empty, empty), impl.Together(empty, impl.Way{To: 2, Cost: 3, Hops: []int{1}}),
	} {
		overwriteWays([]impl.Way{got})
	}
	got, _ := impl.WayTo([]impl.Way{empty}, 2)
	overwriteWays([]impl.Way{got})
	if !slices.Equal(room, []int{77, 78, 79}) {
		t.Errorf("the room is now %v", room)
	}
}
