package tests

import (
	"fmt"
	"math"
	"slices"
	"testing"

	"loop.example/g00177/impl"
)

// standing is a net, and what of it is up.
type standing struct {
	net   impl.Net
	links []bool
	up    []bool
}

func allStanding(x impl.Net) standing {
	return standing{net: x, links: slices.Repeat([]bool{true}, len(x.Links)), up: slices.Repeat([]bool{true}, x.N)}
}

func standingOf(w impl.World) standing {
	return standing{net: w.Net, links: w.Links, up: w.Up}
}

// cut has the links at these places down.
func (s standing) cut(places ...int) standing {
	s.links = slices.Clone(s.links)
	for _, at := range places {
		s.links[at] = false
	}
	return s
}

// without has these nodes down.
func (s standing) without(nodes ...int) standing {
	s.up = slices.Clone(s.up)
	for _, node := range nodes {
		s.up[node-1] = false
	}
	return s
}

// drawnStanding has most of a net up.
func drawnStanding(x impl.Net, d *draws) standing {
	s := allStanding(x)
	thin := 2 + d.below(8)
	for at := range s.links {
		s.links[at] = d.below(thin) > 0
	}
	for at := range s.up {
		s.up[at] = d.below(2*thin) > 0
	}
	return s
}

func (s standing) ask() ([]impl.Record, bool) {
	return impl.Ideal(s.net, s.links, s.up)
}

func (s standing) routes(node int) []impl.Route {
	return impl.TrueRoutes(s.net, s.links, s.up, node)
}

func (s standing) right() bool {
	return impl.NetOk(s.net) && len(s.links) == len(s.net.Links) && len(s.up) == s.net.N
}

func (s standing) isUp(node int) bool {
	return node >= 1 && node <= s.net.N && node <= len(s.up) && s.up[node-1]
}

// alive is the net of what is up alone; it has the same nodes.
func (s standing) alive() impl.Net {
	x := impl.Net{N: s.net.N}
	for at, l := range s.net.Links {
		if s.links[at] && s.isUp(l.A) && s.isUp(l.B) {
			x.Links = append(x.Links, l)
		}
	}
	for _, thing := range s.net.Things {
		if s.isUp(thing.Owner) {
			x.Things = append(x.Things, thing)
		}
	}
	return x
}

// areasBy goes link by link.
func areasBy(x impl.Net, node int) (areas []int, border bool) {
	for area := range impl.MaxArea + 1 {
		if slices.ContainsFunc(x.Links, func(l impl.Link) bool { return l.Area == area && (l.A == node || l.B == node) }) {
			areas = append(areas, area)
		}
	}
	return areas, len(areas) > 1 && areas[0] == 0
}

// ideal is what the document's words make of what is up: of tables, and with every way
// gone through.
func (s standing) ideal(t *testing.T) []impl.Record {
	t.Helper()
	var list []impl.Record
	alive := s.alive()
	table := costs(alive)
	for node := 1; node <= s.net.N; node++ {
		areas, _ := areasBy(s.net, node)
		for _, area := range areas {
			r := impl.Record{Area: area, Kind: impl.KindNode, Owner: node, Seq: 1}
			for to, row := range table[node] {
				if row[area] > 0 {
					r.Near = append(r.Near, impl.Near{To: to, Cost: row[area]})
				}
			}
			if s.isUp(node) {
				list = append(list, r)
			}
		}
	}
	for _, thing := range alive.Things {
		list = append(list, impl.Record{Area: impl.Outside, Kind: impl.KindThing, Owner: thing.Owner, Key: thing.Key, Seq: 1, Cost: thing.Cost, Far: thing.Far})
	}
	for range 3 {
		for node := 1; node <= s.net.N; node++ {
			list = s.toldAnew(t, list, node)
		}
	}
	return storeOf(t, list)
}

func (s standing) toldAnew(t *testing.T, list []impl.Record, node int) []impl.Record {
	t.Helper()
	areas, border := areasBy(s.net, node)
	if !border || !s.isUp(node) {
		return list
	}
	k := knownOf(storeOf(t, list))
	list = slices.DeleteFunc(slices.Clone(list), func(r impl.Record) bool { return r.Kind == impl.KindBeyond && r.Owner == node })
	for _, area := range areas {
		for _, r := range k.told(areas, node, area) {
			list = append(list, withSeq(r, 1))
		}
	}
	return list
}

// routesBy is what TrueRoutes answers, by the document's words.
func (s standing) routesBy(t *testing.T, node int) []impl.Route {
	t.Helper()
	if !s.right() || !s.isUp(node) {
		return nil
	}
	areas, border := areasBy(s.net, node)
	return knownOf(s.ideal(t)).routes(areas, border, node)
}

// mustBeIdeal holds Ideal and TrueRoutes against the document's words.
func mustBeIdeal(t *testing.T, name string, s standing) []impl.Record {
	t.Helper()
	got, ok := s.ask()
	want := s.ideal(t)
	if !ok || !sameRecords(got, want) {
		t.Fatalf("%s: Ideal(%+v) = %s, %v; want %s", name, s, brief(got), ok, brief(want))
	}
	if !impl.StoreOk(got) {
		t.Fatalf("%s: Ideal(%+v) = %s is no right store", name, s, brief(got))
	}
	for _, r := range got {
		gone := func(n impl.Near) bool { return !s.isUp(n.To) }
		if r.Seq != 1 || !s.isUp(r.Owner) || slices.ContainsFunc(r.Near, gone) || r.Kind == impl.KindBeyond && !s.isUp(r.Key) {
			t.Fatalf("%s: Ideal(%+v) has %+v", name, s, r)
		}
	}
	k := knownOf(want)
	for node := -1; node <= s.net.N+2; node++ {
		var routes []impl.Route
		if s.isUp(node) {
			areas, border := areasBy(s.net, node)
			routes = k.routes(areas, border, node)
		}
		if got := s.routes(node); !sameRoutes(got, routes) {
			t.Fatalf("%s: TrueRoutes(%+v, %d) = %+v; want %+v", name, s, node, got, routes)
		}
	}
	return got
}

// mustHaveIdeal asks for just these records, whatever Seqs they have here.
func mustHaveIdeal(t *testing.T, name string, s standing, want ...impl.Record) {
	t.Helper()
	got := mustBeIdeal(t, name, s)
	once := deepCopy(want)
	for at := range once {
		once[at].Seq = 1
	}
	if !sameRecords(got, once) {
		t.Fatalf("%s: Ideal(%+v) = %s; want %s", name, s, brief(got), brief(once))
	}
}

func mustLeadTo(t *testing.T, name string, s standing, node int, want ...impl.Route) {
	t.Helper()
	mustBeIdeal(t, name, s)
	if got := s.routes(node); !sameRoutes(got, want) {
		t.Fatalf("%s: TrueRoutes(%+v, %d) = %+v; want %+v", name, s, node, got, want)
	}
}

func mustNotBeIdeal(t *testing.T, name string, s standing) {
	t.Helper()
	if got, ok := s.ask(); ok || len(got) > 0 {
		t.Fatalf("%s: Ideal(%+v) = %s, %v", name, s, brief(got), ok)
	}
	for _, node := range []int{math.MinInt, -1, 0, 1, 2, 3, 5, 6, 7, math.MaxInt} {
		if got := s.routes(node); len(got) > 0 {
			t.Fatalf("%s: TrueRoutes(%+v, %d) = %+v", name, s, node, got)
		}
	}
}

// oneBorder has node 2 between the areas 0 and 1.
func oneBorder() impl.Net {
	return impl.Net{N: 3, Links: linksOf([][4]int{{1, 2, 2, 0}, {2, 3, 3, 1}})}
}

// twoBorders has the nodes 1 and 2 between the areas 0 and 1.
func twoBorders() impl.Net {
	return impl.Net{N: 4, Links: linksOf([][4]int{{1, 2, 1, 0}, {1, 3, 5, 1}, {2, 4, 2, 1}, {3, 4, 1, 1}})}
}

// twoMiddles is held together by the link of 1 and 4: without it there is area 0 on
// both sides of area 1.
func twoMiddles() impl.Net {
	return impl.Net{N: 4, Links: linksOf([][4]int{{1, 2, 2, 0}, {1, 4, 9, 0}, {2, 3, 3, 1}, {3, 4, 5, 0}})}
}

// threeBorders has area 0 between 1, 2 and 3, area 1 between 1, 2 and 4, area 2 between
// 3, 5 and 6.
func threeBorders() impl.Net {
	return impl.Net{N: 6,
		Links:  linksOf([][4]int{{1, 2, 4, 0}, {1, 3, 2, 0}, {1, 4, 1, 1}, {2, 3, 1, 0}, {2, 4, 2, 1}, {3, 5, 3, 2}, {5, 6, 7, 2}}),
		Things: thingsOf([][4]int{{4, 1, 6, 0}, {6, 1, 1, 0}, {5, 2, 3, 1}, {1, 8, 2, 0}})}
}

func TestIdealOfNetsWithoutLinks(t *testing.T) {
	mustHaveIdeal(t, "one node", allStanding(impl.Net{N: 1}))
	mustHaveIdeal(t, "one node that is down", allStanding(impl.Net{N: 1}).without(1))
	mustHaveIdeal(t, "most nodes", allStanding(impl.Net{N: impl.MaxNodes}))
	mustHaveIdeal(t, "most nodes, all down", allStanding(impl.Net{N: impl.MaxNodes}).without(1, 2, 3, 4, 5, 6))
	x := impl.Net{N: 3, Things: thingsOf([][4]int{{3, 1, 2, 0}, {1, 5, 4, 1}, {3, 5, 6, 0}})}
	all := allStanding(x)
	mustHaveIdeal(t, "things", all, farTold(1, 5, 4), thingTold(3, 1, 2), thingTold(3, 5, 6))
	mustHaveIdeal(t, "things of one that is up", all.without(3), farTold(1, 5, 4))
	mustHaveIdeal(t, "things of the other", all.without(1), thingTold(3, 1, 2), thingTold(3, 5, 6))
	mustHaveIdeal(t, "one without things is down", all.without(2), farTold(1, 5, 4), thingTold(3, 1, 2), thingTold(3, 5, 6))
	mustHaveIdeal(t, "things of nobody", all.without(1, 2, 3))
	mustLeadTo(t, "things of its own", all, 1, toFar(5, 0, 4))
	mustLeadTo(t, "things of its own", all, 3, toNear(1, 2), toNear(5, 6))
	mustLeadTo(t, "no things", all, 2)
	mustLeadTo(t, "it is down", all.without(3), 3)
}

func TestIdealOfOneArea(t *testing.T) {
	for area := range impl.MaxArea + 1 {
		all := allStanding(inOneArea(twoNodes(), area))
		near, back := nodeTold(area, 1, 1, [2]int{2, 7}), nodeTold(area, 2, 1, [2]int{1, 7})
		mustHaveIdeal(t, "two nodes", all, near, back)
		mustHaveIdeal(t, "the link is down", all.cut(0), nodeTold(area, 1, 1), nodeTold(area, 2, 1))
		mustHaveIdeal(t, "2 is down", all.without(2), nodeTold(area, 1, 1))
		mustHaveIdeal(t, "1 is down", all.without(1), nodeTold(area, 2, 1))
		mustHaveIdeal(t, "1 and the link are down", all.cut(0).without(1), nodeTold(area, 2, 1))
		mustHaveIdeal(t, "both are down", all.without(1, 2))
		mustLeadTo(t, "two nodes", all, 1, toNode(impl.WithinArea, 2, 7, 2))
		mustLeadTo(t, "two nodes", all, 2, toNode(impl.WithinArea, 1, 7, 1))
		mustLeadTo(t, "the link is down", all.cut(0), 1)
		mustLeadTo(t, "2 is down", all.without(2), 1)
		mustLeadTo(t, "2 is down", all.without(2), 2)
	}
	// The ring goes on the other way round.
	ring := allStanding(rightNets["a ring"])
	mustLeadTo(t, "a ring", ring, 1, toNode(1, 2, 5, 2), toNode(1, 3, 7, 5), toNode(1, 4, 5, 5), toNode(1, 5, 4, 5))
	mustLeadTo(t, "a ring that is cut", ring.cut(1), 1, toNode(1, 2, 5, 2), toNode(1, 3, 8, 2), toNode(1, 4, 10, 2), toNode(1, 5, 11, 2))
	mustLeadTo(t, "a ring without 4", ring.without(4), 1, toNode(1, 2, 5, 2), toNode(1, 3, 8, 2), toNode(1, 5, 4, 5))
	mustLeadTo(t, "a ring in two", ring.cut(0, 3), 1, toNode(1, 4, 5, 5), toNode(1, 5, 4, 5))
	// All that are as short.
	square := allStanding(impl.Net{N: 4, Links: linksOf([][4]int{{1, 2, 1, 0}, {1, 3, 2, 0}, {2, 4, 2, 0}, {3, 4, 1, 0}})})
	mustLeadTo(t, "two ways as short", square, 1, toNode(1, 2, 1, 2), toNode(1, 3, 2, 3), toNode(1, 4, 3, 2, 3))
	mustLeadTo(t, "one of them is cut", square.cut(3), 1, toNode(1, 2, 1, 2), toNode(1, 3, 2, 3), toNode(1, 4, 3, 2))
}

func TestIdealWithOneBorder(t *testing.T) {
	all := allStanding(oneBorder())
	mustHaveIdeal(t, "one border", all,
		nodeTold(0, 1, 1, [2]int{2, 2}), nodeTold(0, 2, 1, [2]int{1, 2}), beyondTold(0, 2, 3, 3),
		nodeTold(1, 2, 1, [2]int{3, 3}), nodeTold(1, 3, 1, [2]int{2, 3}), beyondTold(1, 2, 1, 2))
	mustHaveIdeal(t, "the link of area 1 is down", all.cut(1),
		nodeTold(0, 1, 1, [2]int{2, 2}), nodeTold(0, 2, 1, [2]int{1, 2}), nodeTold(1, 2, 1), nodeTold(1, 3, 1), beyondTold(1, 2, 1, 2))
	mustHaveIdeal(t, "the link of area 0 is down", all.cut(0),
		nodeTold(0, 1, 1), nodeTold(0, 2, 1), beyondTold(0, 2, 3, 3), nodeTold(1, 2, 1, [2]int{3, 3}), nodeTold(1, 3, 1, [2]int{2, 3}))
	mustHaveIdeal(t, "both links are down", all.cut(0, 1), nodeTold(0, 1, 1), nodeTold(0, 2, 1), nodeTold(1, 2, 1), nodeTold(1, 3, 1))
	mustHaveIdeal(t, "the border is down", all.without(2), nodeTold(0, 1, 1), nodeTold(1, 3, 1))
	// Nobody tells of who is gone.
	mustHaveIdeal(t, "1 is down", all.without(1),
		nodeTold(0, 2, 1), beyondTold(0, 2, 3, 3), nodeTold(1, 2, 1, [2]int{3, 3}), nodeTold(1, 3, 1, [2]int{2, 3}))
	mustHaveIdeal(t, "3 is down", all.without(3),
		nodeTold(0, 1, 1, [2]int{2, 2}), nodeTold(0, 2, 1, [2]int{1, 2}), nodeTold(1, 2, 1), beyondTold(1, 2, 1, 2))
	mustLeadTo(t, "one border", all, 1, toNode(1, 2, 2, 2), toNode(2, 3, 5, 2))
	mustLeadTo(t, "at the border", all, 2, toNode(1, 1, 2, 1), toNode(1, 3, 3, 3))
	mustLeadTo(t, "one border", all, 3, toNode(1, 2, 3, 2), toNode(2, 1, 5, 2))
	mustLeadTo(t, "3 is down", all.without(3), 1, toNode(1, 2, 2, 2))
	mustLeadTo(t, "the border is down", all.without(2), 1)
	// A border of three areas, and one between two areas of which none is the middle.
	mid := allStanding(impl.Net{N: 4, Links: linksOf([][4]int{{1, 2, 2, 0}, {2, 3, 3, 1}, {2, 4, 4, 2}})})
	mustLeadTo(t, "of three areas", mid, 3, toNode(1, 2, 3, 2), toNode(2, 1, 5, 2), toNode(2, 4, 7, 2))
	none := allStanding(impl.Net{N: 3, Links: linksOf([][4]int{{1, 2, 2, 2}, {2, 3, 3, 1}})})
	mustHaveIdeal(t, "no border", none,
		nodeTold(1, 2, 1, [2]int{3, 3}), nodeTold(1, 3, 1, [2]int{2, 3}), nodeTold(2, 1, 1, [2]int{2, 2}), nodeTold(2, 2, 1, [2]int{1, 2}))
	mustLeadTo(t, "no border", none, 1, toNode(1, 2, 2, 2))
	mustLeadTo(t, "no border", none, 2, toNode(1, 1, 2, 1), toNode(1, 3, 3, 3))
}

func TestIdealWithTwoBorders(t *testing.T) {
	all := allStanding(twoBorders())
	middle := []impl.Record{nodeTold(0, 1, 1, [2]int{2, 1}), nodeTold(0, 2, 1, [2]int{1, 1})}
	mustHaveIdeal(t, "two borders", all, middle[0], middle[1],
		beyondTold(0, 1, 3, 5), beyondTold(0, 1, 4, 6), beyondTold(0, 2, 3, 3), beyondTold(0, 2, 4, 2),
		nodeTold(1, 1, 1, [2]int{3, 5}), nodeTold(1, 2, 1, [2]int{4, 2}), nodeTold(1, 3, 1, [2]int{1, 5}, [2]int{4, 1}), nodeTold(1, 4, 1, [2]int{2, 2}, [2]int{3, 1}))
	// Where area 1 falls apart the ways go by both borders.
	mustHaveIdeal(t, "area 1 falls apart", all.cut(3), middle[0], middle[1], beyondTold(0, 1, 3, 5), beyondTold(0, 2, 4, 2),
		nodeTold(1, 1, 1, [2]int{3, 5}), nodeTold(1, 2, 1, [2]int{4, 2}), nodeTold(1, 3, 1, [2]int{1, 5}), nodeTold(1, 4, 1, [2]int{2, 2}),
		beyondTold(1, 1, 2, 1), beyondTold(1, 1, 4, 3), beyondTold(1, 2, 1, 1), beyondTold(1, 2, 3, 6))
	mustLeadTo(t, "two borders", all, 3, toNode(1, 1, 5, 1), toNode(1, 2, 3, 4), toNode(1, 4, 1, 4))
	mustLeadTo(t, "area 1 falls apart", all.cut(3), 3, toNode(1, 1, 5, 1), toNode(2, 2, 6, 1), toNode(2, 4, 8, 1))
	mustLeadTo(t, "area 1 falls apart", all.cut(3), 1, toNode(1, 2, 1, 2), toNode(1, 3, 5, 3), toNode(2, 4, 3, 2))
	// A border that is left tells alone.
	mustHaveIdeal(t, "one border is down", all.without(2), nodeTold(0, 1, 1), beyondTold(0, 1, 3, 5), beyondTold(0, 1, 4, 6),
		nodeTold(1, 1, 1, [2]int{3, 5}), nodeTold(1, 3, 1, [2]int{1, 5}, [2]int{4, 1}), nodeTold(1, 4, 1, [2]int{3, 1}))
	// Two borders at which it costs the same lead there both.
	same := impl.Net{N: 4, Links: linksOf([][4]int{{1, 2, 1, 0}, {1, 3, 1, 0}, {2, 4, 1, 1}, {3, 4, 1, 1}})}
	mustLeadTo(t, "two borders as near", allStanding(same), 1, toNode(1, 2, 1, 2), toNode(1, 3, 1, 3), toNode(2, 4, 2, 2, 3))
	mustLeadTo(t, "two borders as near, one link cut", allStanding(same).cut(2), 1, toNode(1, 2, 1, 2), toNode(1, 3, 1, 3), toNode(2, 4, 2, 3))
}

func TestIdealWhereAWayGoesByTwoBorders(t *testing.T) {
	all := allStanding(rightNets["a chain through all areas"])
	mustHaveIdeal(t, "a chain", all,
		nodeTold(0, 2, 1, [2]int{3, 20}), nodeTold(0, 3, 1, [2]int{2, 20}), beyondTold(0, 2, 1, 1), beyondTold(0, 3, 4, 1000),
		nodeTold(1, 1, 1, [2]int{2, 1}), nodeTold(1, 2, 1, [2]int{1, 1}), beyondTold(1, 2, 3, 20), beyondTold(1, 2, 4, 1020),
		nodeTold(2, 3, 1, [2]int{4, 1000}), nodeTold(2, 4, 1, [2]int{3, 1000}), beyondTold(2, 3, 1, 21), beyondTold(2, 3, 2, 20))
	mustLeadTo(t, "a chain", all, 1, toNode(1, 2, 1, 2), toNode(2, 3, 21, 2), toNode(2, 4, 1021, 2))
	mustLeadTo(t, "a chain", all, 4, toNode(1, 3, 1000, 3), toNode(2, 1, 1021, 3), toNode(2, 2, 1020, 3))
	mustHaveIdeal(t, "the middle falls apart", all.cut(1),
		nodeTold(0, 2, 1), nodeTold(0, 3, 1), beyondTold(0, 2, 1, 1), beyondTold(0, 3, 4, 1000),
		nodeTold(1, 1, 1, [2]int{2, 1}), nodeTold(1, 2, 1, [2]int{1, 1}), nodeTold(2, 3, 1, [2]int{4, 1000}), nodeTold(2, 4, 1, [2]int{3, 1000}))
	mustLeadTo(t, "the middle falls apart", all.cut(1), 1, toNode(1, 2, 1, 2))
	mustLeadTo(t, "the middle falls apart", all.cut(1), 3, toNode(1, 4, 1000, 4))
	mustLeadTo(t, "a border is down", all.without(3), 1, toNode(1, 2, 1, 2))
	mustLeadTo(t, "its end is down", all.without(4), 1, toNode(1, 2, 1, 2), toNode(2, 3, 21, 2))
	// The greater numbers tell ahead as well: what the first border tells hangs on what
	// the last one told into the middle.
	back := allStanding(impl.Net{N: 4, Links: linksOf([][4]int{{1, 2, 20, 0}, {1, 4, 1, 1}, {2, 3, 7, 2}})})
	mustLeadTo(t, "the borders are first", back, 4, toNode(1, 1, 1, 1), toNode(2, 2, 21, 1), toNode(2, 3, 28, 1))
	mustLeadTo(t, "the borders are first", back, 3, toNode(1, 2, 7, 2), toNode(2, 1, 27, 2), toNode(2, 4, 28, 2))
}

// By area 1 the two sides of the middle are in touch, but what is beyond is looked for
// in the middle alone.
func TestIdealWhereTheMiddleFallsApart(t *testing.T) {
	all := allStanding(twoMiddles())
	mustLeadTo(t, "in one piece", all, 1, toNode(1, 2, 2, 2), toNode(1, 3, 14, 4), toNode(1, 4, 9, 4))
	mustLeadTo(t, "in one piece", all, 2, toNode(1, 1, 2, 1), toNode(1, 3, 3, 3), toNode(1, 4, 11, 1))
	apart := all.cut(1)
	mustHaveIdeal(t, "in two", apart,
		nodeTold(0, 1, 1, [2]int{2, 2}), nodeTold(0, 2, 1, [2]int{1, 2}), nodeTold(0, 3, 1, [2]int{4, 5}), nodeTold(0, 4, 1, [2]int{3, 5}),
		beyondTold(0, 2, 3, 3), beyondTold(0, 3, 2, 3),
		nodeTold(1, 2, 1, [2]int{3, 3}), nodeTold(1, 3, 1, [2]int{2, 3}), beyondTold(1, 2, 1, 2), beyondTold(1, 3, 4, 5))
	mustLeadTo(t, "in two", apart, 1, toNode(1, 2, 2, 2), toNode(2, 3, 5, 2))
	mustLeadTo(t, "in two", apart, 2, toNode(1, 1, 2, 1), toNode(1, 3, 3, 3))
	mustLeadTo(t, "in two", apart, 3, toNode(1, 2, 3, 2), toNode(1, 4, 5, 4))
	mustLeadTo(t, "in two", apart, 4, toNode(1, 3, 5, 3), toNode(2, 2, 8, 3))
}

func TestIdealOfThreeAreasWithThings(t *testing.T) {
	all := allStanding(threeBorders())
	mustHaveIdeal(t, "all up", all,
		nodeTold(0, 1, 1, [2]int{2, 4}, [2]int{3, 2}), nodeTold(0, 2, 1, [2]int{1, 4}, [2]int{3, 1}), nodeTold(0, 3, 1, [2]int{1, 2}, [2]int{2, 1}),
		beyondTold(0, 1, 4, 1), beyondTold(0, 2, 4, 2), beyondTold(0, 3, 5, 3), beyondTold(0, 3, 6, 10),
		nodeTold(1, 1, 1, [2]int{4, 1}), nodeTold(1, 2, 1, [2]int{4, 2}), nodeTold(1, 4, 1, [2]int{1, 1}, [2]int{2, 2}),
		beyondTold(1, 1, 3, 2), beyondTold(1, 1, 5, 5), beyondTold(1, 1, 6, 12), beyondTold(1, 2, 3, 1), beyondTold(1, 2, 5, 4), beyondTold(1, 2, 6, 11),
		nodeTold(2, 3, 1, [2]int{5, 3}), nodeTold(2, 5, 1, [2]int{3, 3}, [2]int{6, 7}), nodeTold(2, 6, 1, [2]int{5, 7}),
		beyondTold(2, 3, 1, 2), beyondTold(2, 3, 2, 1), beyondTold(2, 3, 4, 3),
		thingTold(1, 8, 2), thingTold(4, 1, 6), farTold(5, 2, 3), thingTold(6, 1, 1))
	mustLeadTo(t, "all up", all, 4, toNode(1, 1, 1, 1), toNode(1, 2, 2, 2), toNode(2, 3, 3, 1, 2), toNode(2, 5, 6, 1, 2), toNode(2, 6, 13, 1, 2),
		toNear(1, 6), toFar(2, 6, 3, 1, 2), toNear(8, 3, 1))
	mustLeadTo(t, "the owner of a thing is down", all.without(4), 6, toNode(1, 3, 10, 5), toNode(1, 5, 7, 5), toNode(2, 1, 12, 5), toNode(2, 2, 11, 5),
		toNear(1, 1), toFar(2, 7, 3, 5), toNear(8, 14, 5))
	mustLeadTo(t, "no way to the owner of a thing", all.cut(6), 4, toNode(1, 1, 1, 1), toNode(1, 2, 2, 2), toNode(2, 3, 3, 1, 2), toNode(2, 5, 6, 1, 2),
		toNear(1, 6), toFar(2, 6, 3, 1, 2), toNear(8, 3, 1))
	mustLeadTo(t, "one border is left", all.without(1), 4, toNode(1, 2, 2, 2), toNode(2, 3, 3, 2), toNode(2, 5, 6, 2), toNode(2, 6, 13, 2), toNear(1, 6), toFar(2, 6, 3, 2))
	mustLeadTo(t, "it is down", all.without(4), 4)
	for _, node := range []int{math.MinInt, -1, 0, 7, 8, math.MaxInt} {
		mustLeadTo(t, "no node", all, node)
	}
}

// mustBeFair holds what an ideal has of a net against that net's links alone.
func mustBeFair(t *testing.T, name string, s standing, oneArea bool) {
	t.Helper()
	alive := s.alive()
	least := shortest(alive)
	for node := 1; node <= s.net.N; node++ {
		led := map[int]int{}
		for _, r := range s.routes(node) {
			if r.Thing {
				continue
			}
			led[r.To] = r.Cost
			for _, hop := range r.Hops {
				if !slices.ContainsFunc(alive.Links, func(l impl.Link) bool { return min(hop, node) == l.A && max(hop, node) == l.B }) {
					t.Fatalf("%s: %+v: node %d goes by %d: %+v", name, s, node, hop, r)
				}
			}
			if r.Cost < least[node][r.To] || len(r.Hops) == 0 || !s.isUp(r.To) {
				t.Fatalf("%s: %+v: node %d has %+v; the shortest way of all costs %d", name, s, node, r, least[node][r.To])
			}
		}
		for to := 1; to <= s.net.N; to++ {
			if oneArea && to != node && least[node][to] < impl.Infinite && led[to] != least[node][to] {
				t.Fatalf("%s: %+v: node %d to %d costs %d; it is %d", name, s, node, to, led[to], least[node][to])
			}
		}
	}
}

func TestIdealOfDrawnNets(t *testing.T) {
	seen := watched{}
	for number := range 300 {
		d := &draws{state: 5*number + 2}
		for name, x := range map[string]impl.Net{"net": drawnNet(number), "borders": drawnBorders(number), "one area": inOneArea(drawnNet(number), number%3)} {
			x = withThings(x, number)
			mustBeIdeal(t, name, allStanding(x))
			s := drawnStanding(x, d)
			list := mustBeIdeal(t, name, s)
			mustBeFair(t, name, s, name == "one area")
			seen.count("with nodes that are down", slices.Contains(s.up, false))
			seen.count("with links that are down", slices.Contains(s.links, false))
			seen.count("with things of nobody", len(s.alive().Things) < len(x.Things))
			seen.count("with much beyond", len(slices.DeleteFunc(slices.Clone(list), func(r impl.Record) bool { return r.Kind != impl.KindBeyond })) > 5)
		}
	}
	for _, what := range []string{"with nodes that are down", "with links that are down", "with things of nobody", "with much beyond"} {
		if seen[what] < 100 {
			t.Errorf("too few %s: %d", what, seen[what])
		}
	}
	for _, x := range rightNets {
		mustBeIdeal(t, "right", allStanding(x))
	}
}

// All that can be up of every net of three nodes.
func TestIdealOfSmallNets(t *testing.T) {
	count := 0
	eachSmallNet(func(x impl.Net) {
		count++
		for choice := range 1 << x.N {
			s := allStanding(x)
			for at := range s.up {
				s.up[at] = choice>>at&1 == 1
			}
			for at := range s.links {
				s.links[at] = (count+choice)>>(at%5)&1 == 1
			}
			if count%3 == choice%3 || choice == 1<<x.N-1 {
				mustBeIdeal(t, "small", s)
			}
		}
		mustBeIdeal(t, "small, all up", allStanding(x))
	})
}

func TestIdealOfWhatIsNotRight(t *testing.T) {
	for name, x := range wrongNets() {
		s := standing{net: x, links: slices.Repeat([]bool{true}, len(x.Links)), up: []bool{true, true, true, true, true}}
		mustNotBeIdeal(t, name, s)
		s.up = s.up[:max(0, min(x.N, 5))]
		mustNotBeIdeal(t, name, s)
		s.links, s.up = nil, nil
		mustNotBeIdeal(t, name, s)
	}
	for name, x := range rightNets {
		all := allStanding(x)
		mustBeIdeal(t, name, all)
		for change, s := range map[string]standing{
			"one link too many":  {x, append(slices.Clone(all.links), true), all.up},
			"one down too many":  {x, append(slices.Clone(all.links), false), all.up},
			"many links":         {x, make([]bool, 1000), all.up},
			"one up too many":    {x, all.links, append(slices.Clone(all.up), true)},
			"one too many, down": {x, all.links, append(slices.Clone(all.up), false)},
			"one up too few":     {x, all.links, all.up[1:]},
			"no up":              {x, all.links, nil},
			"many up":            {x, all.links, slices.Repeat(all.up, 1000)},
			"one of each":        {x, append(slices.Clone(all.links), true), all.up[1:]},
		} {
			mustNotBeIdeal(t, name+", "+change, s)
		}
		if len(x.Links) > 0 {
			mustNotBeIdeal(t, name+", one link too few", standing{x, all.links[1:], all.up})
			mustNotBeIdeal(t, name+", no links", standing{x, nil, all.up})
		}
	}
	mustNotBeIdeal(t, "nothing", standing{})
}

func mustBeTrueTold(t *testing.T, name string, list, s []impl.Record, want bool) {
	t.Helper()
	if impl.TrueTold(list, s) != want || trueToldBy(list, s) != want {
		t.Fatalf("%s: TrueTold(%+v, %+v) = %v, by the words %v; want %v", name, list, s, impl.TrueTold(list, s), trueToldBy(list, s), want)
	}
}

// trueToldBy takes away what was told, field by field.
func trueToldBy(list, s []impl.Record) bool {
	left := slices.DeleteFunc(slices.Clone(s), func(r impl.Record) bool {
		for _, told := range list {
			if sameRecord(told, r) {
				return true
			}
		}
		return false
	})
	return len(left) == 0
}

func TestTrueToldWrittenOut(t *testing.T) {
	list := []impl.Record{nodeTold(0, 1, 1), nodeTold(0, 1, 2, [2]int{2, 7}), withSeq(beyondTold(0, 1, 3, 5), 4), thingTold(2, 5, 6), farTold(2, 6, 6)}
	mustBeTrueTold(t, "nothing of nothing", nil, nil, true)
	mustBeTrueTold(t, "nothing", list, nil, true)
	mustBeTrueTold(t, "no records", list, []impl.Record{}, true)
	mustBeTrueTold(t, "nothing was told", nil, list[:1], false)
	mustBeTrueTold(t, "all of it", list, list, true)
	mustBeTrueTold(t, "the other way round", list, []impl.Record{list[4], list[3], list[2], list[1], list[0]}, true)
	mustBeTrueTold(t, "one twice", list, []impl.Record{list[3], list[3]}, true)
	mustBeTrueTold(t, "more of the list", slices.Concat(list, list), list, true)
	for at, r := range list {
		mustBeTrueTold(t, "one of it", list, []impl.Record{r}, true)
		mustBeTrueTold(t, "it alone", []impl.Record{r}, []impl.Record{r}, true)
		mustBeTrueTold(t, "all but it", slices.Delete(slices.Clone(list), at, at+1), list, false)
		mustBeTrueTold(t, "all but it", slices.Delete(slices.Clone(list), at, at+1), []impl.Record{r}, false)
		for name, change := range map[string]func(r *impl.Record){
			"another Seq":    func(r *impl.Record) { r.Seq += 10 },
			"a lesser Seq":   func(r *impl.Record) { r.Seq -= 10 },
			"a Seq beside":   func(r *impl.Record) { r.Seq = 3 - r.Seq },
			"another Cost":   func(r *impl.Record) { r.Cost++ },
			"another Far":    func(r *impl.Record) { r.Far = !r.Far },
			"one more Near":  func(r *impl.Record) { r.Near = append(slices.Clone(r.Near), impl.Near{To: 6, Cost: 1}) },
			"another area":   func(r *impl.Record) { r.Area = 1 },
			"another Kind":   func(r *impl.Record) { r.Kind = 1 + r.Kind%3 },
			"another Owner":  func(r *impl.Record) { r.Owner = 5 },
			"another Key":    func(r *impl.Record) { r.Key = 8 },
			"no area at all": func(r *impl.Record) { r.Area = -1 },
		} {
			other := with(deepCopy(list)[at], change)
			mustBeTrueTold(t, name, list, []impl.Record{other}, false)
			mustBeTrueTold(t, name+", of one alone", []impl.Record{r}, []impl.Record{other}, false)
			mustBeTrueTold(t, name+", the last", list, append(slices.Clone(list), other), false)
			mustBeTrueTold(t, name+", the first", list, append([]impl.Record{other}, list...), false)
			mustBeTrueTold(t, name+", in the list", append(slices.Clone(list), other), append([]impl.Record{other}, list...), true)
		}
	}
	near := nodeTold(0, 1, 2, [2]int{2, 7})
	for _, rows := range [][][2]int{nil, {{2, 8}}, {{3, 7}}, {{2, 7}, {3, 7}}, {{1, 7}, {2, 7}}, {{2, 7}, {2, 7}}} {
		mustBeTrueTold(t, "other Near", list, []impl.Record{nodeTold(0, 1, 2, rows...)}, false)
	}
	// A body and a Seq that were told, but not together.
	mustBeTrueTold(t, "of two records", list, []impl.Record{withSeq(near, 1)}, false)
	mustBeTrueTold(t, "of two records", list, []impl.Record{nodeTold(0, 1, 2)}, false)
	// One key and Seq may have been told with two bodies.
	mustBeTrueTold(t, "the second body", append([]impl.Record{nodeTold(0, 1, 2)}, list...), []impl.Record{near}, true)
	// Nil and an empty list are the same.
	empty := nodeTold(0, 1, 1)
	empty.Near = []impl.Near{}
	mustBeTrueTold(t, "an empty Near", list, []impl.Record{empty}, true)
	mustBeTrueTold(t, "no Near", []impl.Record{empty}, list[:1], true)
}

// Stores and lists that are not right are taken as they stand.
func TestTrueToldOfStoresThatAreNotRight(t *testing.T) {
	for name, s := range wrongStores() {
		mustBeTrueTold(t, name, s, s, true)
		mustBeTrueTold(t, name, nil, s, false)
		mustBeTrueTold(t, name, s[1:], []impl.Record{s[0]}, slices.ContainsFunc(s[1:], func(r impl.Record) bool { return sameRecord(r, s[0]) }))
		mustBeTrueTold(t, name, append(slices.Clone(s), impl.Record{}), []impl.Record{{}}, true)
	}
	seen := watched{}
	for number := range 400 {
		d := &draws{state: number}
		list, s := mixed(fewKeys(1+d.below(2)), d), mixed(fewKeys(1), d)
		list, s = list[:len(list)-d.below(3)], s[:d.below(5)]
		want := trueToldBy(list, s)
		mustBeTrueTold(t, "drawn", list, s, want)
		seen.count(fmt.Sprint(want), len(s) > 0)
	}
	if seen["true"] < 50 || seen["false"] < 50 {
		t.Errorf("too few of one answer: %v", seen)
	}
}

// The truths of a world by the document's words: nodes are 1 .. N, what Up does not
// reach is down, and one that Nodes do not reach knows and hears nothing.

func (s standing) eachUp(f func(node int)) {
	for node := 1; node <= len(s.up); node++ {
		if s.isUp(node) {
			f(node)
		}
	}
}

func nodeOf(w impl.World, node int) impl.Node {
	if node > len(w.Nodes) {
		return impl.Node{}
	}
	return w.Nodes[node-1]
}

func allTrueBy(w impl.World) bool {
	all := true
	standingOf(w).eachUp(func(node int) { all = all && trueToldBy(w.Told, nodeOf(w, node).Self.Store) })
	return all
}

func settledBy(t *testing.T, w impl.World) bool {
	t.Helper()
	all := true
	standingOf(w).eachUp(func(node int) {
		var found []impl.Route
		if n := nodeOf(w, node); nodeRightBy(n) {
			areas, border := areasBy(n.Self.Net, n.Self.Id)
			found = knownOf(n.Self.Store).routes(areas, border, n.Self.Id)
		}
		all = all && sameRoutes(found, standingOf(w).routesBy(t, node))
	})
	return all
}

// hasPair leaves out a last number that stands alone.
func hasPair(heard []int, node, area int) bool {
	return slices.ContainsFunc(slices.Collect(slices.Chunk(heard, 2)), func(pair []int) bool { return slices.Equal(pair, []int{node, area}) })
}

func alikeBy(w impl.World, area int) bool {
	all := true
	standingOf(w).eachUp(func(a int) {
		standingOf(w).eachUp(func(b int) {
			one, other := nodeOf(w, a).Self, nodeOf(w, b).Self
			if a < b && hasPair(one.Heard, b, area) && hasPair(other.Heard, a, area) {
				all = all && sameRecords(ofArea(one.Store, area), ofArea(other.Store, area))
			}
		})
	})
	return all
}

// mustBeTruths holds all three against the document's words.
func mustBeTruths(t *testing.T, name string, w impl.World) {
	t.Helper()
	if got, want := impl.AllTrue(w), allTrueBy(w); got != want {
		t.Fatalf("%s: AllTrue(%+v) = %v", name, w, got)
	}
	if got, want := impl.Settled(w), settledBy(t, w); got != want {
		t.Fatalf("%s: Settled(%+v) = %v", name, w, got)
	}
	for _, area := range []int{math.MinInt, -1, 0, 1, 2, 3, impl.Outside, math.MaxInt} {
		if got, want := impl.AlikeIn(w, area), alikeBy(w, area); got != want {
			t.Fatalf("%s: AlikeIn(%+v, %d) = %v", name, w, area, got)
		}
	}
}

func mustBeAllTrue(t *testing.T, name string, w impl.World, want bool) {
	t.Helper()
	mustBeTruths(t, name, w)
	if impl.AllTrue(w) != want {
		t.Fatalf("%s: AllTrue is %v", name, !want)
	}
}

func mustBeSettled(t *testing.T, name string, w impl.World, want bool) {
	t.Helper()
	mustBeTruths(t, name, w)
	if impl.Settled(w) != want {
		t.Fatalf("%s: Settled is %v", name, !want)
	}
}

func mustBeAlike(t *testing.T, name string, w impl.World, area int, want bool) {
	t.Helper()
	mustBeTruths(t, name, w)
	if impl.AlikeIn(w, area) != want {
		t.Fatalf("%s: AlikeIn area %d is %v", name, area, !want)
	}
}

// changedWorld has a world's lists to itself.
func changedWorld(w impl.World, change func(w *impl.World)) impl.World {
	w = copyWorld(w)
	change(&w)
	return w
}

// restedWorld has been left alone for some rounds.
func restedWorld(x impl.Net) impl.World {
	w, _ := impl.WorldNew(x)
	return impl.Rest(w, 8)
}

// putInto has a node know these, too, or in the place of what it knew.
func putInto(n *impl.Node, list ...impl.Record) {
	for _, r := range list {
		n.Self.Store = slices.DeleteFunc(n.Self.Store, func(known impl.Record) bool { return keyOf(known) == keyOf(r) })
		n.Self.Store = append(n.Self.Store, r)
	}
	n.Self.Store = inOrderOf(n.Self.Store)
}

func TestAllTrueWrittenOut(t *testing.T) {
	fresh, _ := impl.WorldNew(midway())
	mustBeAllTrue(t, "nothing", impl.World{}, true)
	mustBeAllTrue(t, "a new world", fresh, true)
	mustBeAllTrue(t, "nothing told", changedWorld(fresh, func(w *impl.World) { w.Told = nil }), false)
	rested := restedWorld(midway())
	mustBeAllTrue(t, "at rest", rested, true)
	for node := 1; node <= rested.Net.N; node++ {
		for name, r := range map[string]impl.Record{
			"what was never told":  beyondTold(1, 6, 6, 3),
			"a Seq never told":     withSeq(thingTold(1, 3, 8), 2),
			"a body never told":    withSeq(thingTold(1, 3, 9), 1),
			"of itself, not told":  withSeq(nodeTold(0, node, 99), 99),
			"of one that is none":  withSeq(farTold(6, 1, 1), 1),
			"told, but as no far":  withSeq(thingTold(3, 9, 7), 1),
			"a Near at other cost": with(rested.Told[0], func(r *impl.Record) { r.Near = nearOf([2]int{2, 4}) }),
		} {
			knows := changedWorld(rested, func(w *impl.World) { putInto(&w.Nodes[node-1], r) })
			mustBeAllTrue(t, fmt.Sprint(name, ", known to ", node), knows, false)
			knows.Up[node-1] = false
			mustBeAllTrue(t, fmt.Sprint(name, ", known to ", node, ", which is down"), knows, true)
			knows.Up[node-1], knows.Up[node%5] = true, false
			mustBeAllTrue(t, fmt.Sprint(name, ", known to ", node, ", another is down"), knows, false)
			knows.Up[node%5], knows.Told = true, append(knows.Told, r)
			mustBeAllTrue(t, fmt.Sprint(name, ", known to ", node, ", and told"), knows, true)
		}
		old := changedWorld(rested, func(w *impl.World) { putInto(&w.Nodes[node-1], fresh.Told[0]) })
		mustBeAllTrue(t, "what was told long ago", old, true)
		none := changedWorld(rested, func(w *impl.World) { w.Nodes[node-1].Self.Store = nil })
		mustBeAllTrue(t, "one that knows nothing", none, true)
	}
	mustBeAllTrue(t, "all down, nothing told", changedWorld(rested, func(w *impl.World) { w.Told, w.Up = nil, make([]bool, 5) }), true)
	// It is about what is known, not about who is right, what flies or which links are up.
	mustBeAllTrue(t, "nodes that are not right", changedWorld(rested, func(w *impl.World) { w.Nodes[1].Ears, w.Nodes[2].Self.Boot = nil, -1 }), true)
	mustBeAllTrue(t, "what flies", changedWorld(rested, func(w *impl.World) { w.Flying = []impl.Packet{saysNews(1, 2, 0, beyondTold(0, 1, 6, 1))} }), true)
	mustBeAllTrue(t, "no links", changedWorld(rested, func(w *impl.World) { w.Links = nil }), true)
	mustBeAllTrue(t, "no net", changedWorld(rested, func(w *impl.World) { w.Net, w.Told = impl.Net{}, nil }), true)
}

// What nobody told makes a life untrue when it comes as news in bytes.
func TestAllTrueOfWhatNobodyTold(t *testing.T) {
	x := twoNodes()
	hello := evSays(t, saysHello(1, 2, 0, 2))
	w := mustRun(t, "a hello", x, eventsOf(hello), 0)
	mustBeAllTrue(t, "a hello", w, true)
	for name, r := range map[string]impl.Record{"a record": nodeTold(0, 1, 7, [2]int{2, 9}), "of no node": thingTold(5, 5, 5)} {
		w = mustRun(t, name, x, eventsOf(hello, evSays(t, saysNews(1, 2, 0, r))), 0, 0)
		mustBeAllTrue(t, name, w, false)
		w = mustRun(t, name+", to one that falls", x, eventsOf(hello, evSays(t, saysNews(1, 2, 0, r)), evDown(2)), 0, 0, 0)
		mustBeAllTrue(t, name+", to one that falls", w, true)
		w = mustRun(t, name+", to one that has not heard", x, eventsOf(evSays(t, saysNews(1, 2, 0, r))), 0)
		mustBeAllTrue(t, name+", to one that has not heard", w, true)
	}
	// Its own record that comes to a node is told by it from then on.
	w = mustRun(t, "its own", x, eventsOf(hello, evSays(t, saysNews(1, 2, 0, nodeTold(0, 2, 7, [2]int{1, 9})))), 0, 0)
	mustBeAllTrue(t, "its own", w, true)
	// What was told may come as often and as late as it likes.
	w = mustRun(t, "what was told", x, eventsOf(hello, evSays(t, saysNews(1, 2, 0, nodeTold(0, 1, 1)))), 0, 0)
	mustBeAllTrue(t, "what was told", w, true)
}

func TestSettledWrittenOut(t *testing.T) {
	mustBeSettled(t, "nothing", impl.World{}, true)
	for name, x := range map[string]impl.Net{"one node": {N: 1}, "no links": {N: 6},
		"things without links": {N: 3, Things: thingsOf([][4]int{{3, 1, 2, 0}, {1, 5, 4, 1}, {3, 5, 6, 0}})}} {
		w, _ := impl.WorldNew(x)
		mustBeSettled(t, name, w, true)
		mustBeSettled(t, name+", at rest", impl.Rest(w, 3), true)
	}
	for name, x := range rightNets {
		w, _ := impl.WorldNew(x)
		mustBeSettled(t, name, w, len(x.Links) == 0)
		mustBeSettled(t, name+", all cut", changedWorld(w, func(w *impl.World) { clear(w.Links) }), true)
		mustBeSettled(t, name+", all down", changedWorld(w, func(w *impl.World) { clear(w.Up) }), true)
		mustBeSettled(t, name+", at rest", impl.Rest(w, 8), true)
	}
	rested := restedWorld(midway())
	mustBeSettled(t, "at rest", rested, true)
	for at := range rested.Links {
		cut := changedWorld(rested, func(w *impl.World) { w.Links[at] = false })
		mustBeSettled(t, fmt.Sprint("nothing was said since ", at, " was cut"), cut, false)
		cut = impl.Rest(cut, 8)
		mustBeSettled(t, fmt.Sprint("it was found out that ", at, " is cut"), cut, true)
		cut.Links[at] = true
		mustBeSettled(t, fmt.Sprint("nothing was said since ", at, " was raised"), cut, false)
		mustBeSettled(t, fmt.Sprint("it was found out that ", at, " is raised"), impl.Rest(cut, 8), true)
	}
	for node := 1; node <= 5; node++ {
		down := changedWorld(rested, func(w *impl.World) { w.Up[node-1] = false })
		mustBeSettled(t, fmt.Sprint("nothing was said since ", node, " fell"), down, false)
		down = impl.Rest(down, 8)
		mustBeSettled(t, fmt.Sprint("it was found out that ", node, " is down"), down, true)
		// Who is down may know what it likes.
		mustBeSettled(t, fmt.Sprint(node, " is none"), changedWorld(down, func(w *impl.World) { w.Nodes[node-1] = impl.Node{} }), true)
	}
	// Of a link by which no way goes nobody needs to know.
	dear := restedWorld(impl.Net{N: 3, Links: linksOf([][4]int{{1, 2, 1, 0}, {1, 3, 9, 0}, {2, 3, 1, 0}})})
	dear.Links[1] = false
	mustBeSettled(t, "a link that is not used is cut", dear, true)
	mustBeSettled(t, "it was found out", impl.Rest(dear, 8), true)
}

// Just TrueRoutes: nothing about a route may be another.
func TestSettledAsksForJustTheTrueRoutes(t *testing.T) {
	rested := restedWorld(threeBorders())
	mustBeSettled(t, "at rest", rested, true)
	four := func(list ...impl.Record) impl.World {
		return changedWorld(rested, func(w *impl.World) {
			for _, r := range list {
				if r.Seq = 50; !impl.RecordOk(r) {
					t.Fatalf("%+v is not right", r)
				}
				putInto(&w.Nodes[3], r)
			}
		})
	}
	for name, c := range map[string]struct {
		list    []impl.Record
		settled bool
	}{
		"the same":                 {nil, true},
		"another Seq":              {[]impl.Record{thingTold(1, 8, 2)}, true},
		"another Cost":             {[]impl.Record{thingTold(1, 8, 3)}, false},
		"another Kind":             {[]impl.Record{farTold(1, 8, 2)}, false},
		"another Far":              {[]impl.Record{farTold(5, 2, 4)}, false},
		"no far one":               {[]impl.Record{thingTold(5, 2, 3)}, false},
		"one thing less":           {[]impl.Record{thingTold(1, 8, impl.Infinite)}, false},
		"one thing more":           {[]impl.Record{thingTold(5, 7, 3)}, false},
		"one thing that is dearer": {[]impl.Record{thingTold(1, 1, 30)}, true},
		"fewer hops":               {[]impl.Record{beyondTold(1, 1, 3, 9)}, false},
		"one node less":            {[]impl.Record{beyondTold(1, 1, 6, impl.Infinite), beyondTold(1, 2, 6, impl.Infinite)}, false},
		"one link less":            {[]impl.Record{nodeTold(1, 4, 1, [2]int{1, 1})}, false},
		"another To":               {[]impl.Record{thingTold(1, 8, impl.Infinite), thingTold(1, 7, 2)}, false},
		"within, not beyond":       {[]impl.Record{nodeTold(1, 1, 1, [2]int{3, 2}, [2]int{4, 1}), nodeTold(1, 2, 1, [2]int{3, 1}, [2]int{4, 2}), nodeTold(1, 3, 1, [2]int{1, 2}, [2]int{2, 1})}, false},
		"a dearer one beyond":      {[]impl.Record{beyondTold(0, 1, 5, 9)}, true},
	} {
		mustBeSettled(t, name, four(c.list...), c.settled)
	}
	mustBeSettled(t, "not right", changedWorld(rested, func(w *impl.World) { w.Nodes[3].Ears = nil }), false)
	mustBeSettled(t, "knows nothing", changedWorld(rested, func(w *impl.World) { w.Nodes[3].Self.Store = nil }), false)
	// That others know nothing does not make up for it, nor does one that is down.
	for node := 1; node <= 6; node++ {
		w := changedWorld(rested, func(w *impl.World) { w.Nodes[node-1].Self.Store = nil })
		mustBeSettled(t, fmt.Sprint(node, " knows nothing"), w, false)
	}
}

// What is known of those that are gone stays, and leads nowhere.
func TestSettledWithRecordsOfThoseThatAreGone(t *testing.T) {
	w := restedWorld(threeBorders())
	for _, gone := range [][]int{{3}, {1, 2}, {5}, {4, 6}, {1, 3, 5}} {
		left := impl.Rest(changedWorld(w, func(w *impl.World) {
			for _, node := range gone {
				w.Up[node-1] = false
			}
		}), 8)
		mustBeSettled(t, fmt.Sprint(gone, " are gone"), left, true)
		mustBeAllTrue(t, fmt.Sprint(gone, " are gone"), left, true)
		isOfThem := func(r impl.Record) bool { return slices.Contains(gone, r.Owner) }
		if ideal, _ := standingOf(left).ask(); slices.ContainsFunc(ideal, isOfThem) {
			t.Fatalf("of %v there would be records: %s", gone, brief(ideal))
		}
		known := 0
		standingOf(left).eachUp(func(node int) {
			if slices.ContainsFunc(left.Nodes[node-1].Self.Store, isOfThem) {
				known++
			}
		})
		if known < 2 {
			t.Fatalf("%d know of %v", known, gone)
		}
		// They come up knowing nothing, and what they told before is told anew.
		l := livedFrom(t, left)
		for _, node := range gone {
			l.meet(evUp(node))
		}
		back := impl.Rest(l.world(), 8)
		mustBeSettled(t, fmt.Sprint(gone, " are back"), back, true)
		mustBeAllTrue(t, fmt.Sprint(gone, " are back"), back, true)
		for area := range impl.MaxArea + 1 {
			mustBeAlike(t, fmt.Sprint(gone, " are back"), back, area, true)
		}
	}
}

// hearingWorld is of two nodes with links in the areas 0 and 1, of which each hears what
// it is given: pairs of node and area.
func hearingWorld(one, two []int) impl.World {
	w, _ := impl.WorldNew(impl.Net{N: 2, Links: linksOf([][4]int{{1, 2, 1, 0}, {1, 2, 2, 1}})})
	w.Nodes[0].Self.Heard, w.Nodes[1].Self.Heard = one, two
	for at := range w.Nodes {
		w.Nodes[at].Self.Store = nil
	}
	return w
}

func TestAlikeInWrittenOut(t *testing.T) {
	here, there, thing := nodeTold(0, 1, 1, [2]int{2, 1}), nodeTold(1, 1, 1, [2]int{2, 2}), thingTold(1, 5, 5)
	both := hearingWorld([]int{2, 0, 2, 1}, []int{1, 0, 1, 1})
	knowing := func(w impl.World, one, two []impl.Record) impl.World {
		w = copyWorld(w)
		w.Nodes[0].Self.Store, w.Nodes[1].Self.Store = deepCopy(one), deepCopy(two)
		return w
	}
	mustBeAlike(t, "nothing", impl.World{}, 0, true)
	mustBeAlike(t, "both know nothing", both, 0, true)
	all := []impl.Record{here, there, thing}
	for area := range 2 {
		mustBeAlike(t, "both know the same", knowing(both, all, all), area, true)
		mustBeAlike(t, "one knows nothing", knowing(both, all, nil), area, false)
		mustBeAlike(t, "the other knows nothing", knowing(both, nil, all), area, false)
		mustBeAlike(t, "one knows of no thing", knowing(both, all, all[:2]), area, false)
		mustBeAlike(t, "a thing that costs more", knowing(both, all, []impl.Record{here, there, thingTold(1, 5, 6)}), area, false)
	}
	for name, other := range map[string][]impl.Record{
		"no record there":      {here, thing},
		"another Seq there":    {here, withSeq(there, 2), thing},
		"another Near there":   {here, nodeTold(1, 1, 1, [2]int{2, 3}), thing},
		"no Near there":        {here, nodeTold(1, 1, 1), thing},
		"one more there":       {here, there, nodeTold(1, 2, 1), thing},
		"of another one there": {here, nodeTold(1, 2, 1, [2]int{1, 2}), thing},
	} {
		mustBeAlike(t, name, knowing(both, all, other), 0, true)
		mustBeAlike(t, name, knowing(both, all, other), 1, false)
		mustBeAlike(t, name+", the other way round", knowing(both, other, all), 0, true)
		mustBeAlike(t, name+", the other way round", knowing(both, other, all), 1, false)
	}
	for name, w := range map[string]impl.World{
		"nobody hears":           hearingWorld(nil, nil),
		"only 1 hears":           hearingWorld([]int{2, 0, 2, 1}, nil),
		"only 2 hears":           hearingWorld(nil, []int{1, 0, 1, 1}),
		"each in another area":   hearingWorld([]int{2, 0}, []int{1, 1}),
		"1 hears another number": hearingWorld([]int{3, 0, 3, 1}, []int{1, 0, 1, 1}),
		"1 hears itself":         hearingWorld([]int{1, 0, 1, 1}, []int{1, 0, 1, 1}),
		"half a pair":            hearingWorld([]int{2}, []int{1, 0, 1}),
	} {
		mustBeAlike(t, name, knowing(w, all, nil), 0, true)
		mustBeAlike(t, name, knowing(w, all, nil), 1, true)
	}
	w := knowing(hearingWorld([]int{2, 1}, []int{1, 0, 1, 1}), all, nil)
	mustBeAlike(t, "in area 1 alone", w, 0, true)
	mustBeAlike(t, "in area 1 alone", w, 1, false)
	for node := range 2 {
		w := knowing(both, all, nil)
		w.Up[node] = false
		mustBeAlike(t, "one of the two is down", w, 0, true)
		mustBeAlike(t, "one of the two is down", w, 1, true)
	}
	// They hear each other in no other areas, whatever they know.
	for _, area := range []int{math.MinInt, -1, 2, 3, impl.Outside, math.MaxInt} {
		mustBeAlike(t, "an area that is none", knowing(both, all, nil), area, true)
	}
	// It is not asked whether a link is up, or whether the nodes are right.
	w = knowing(both, all, nil)
	w.Links = []bool{false, false}
	mustBeAlike(t, "the links are down", w, 0, false)
	w.Links, w.Net.Links = nil, nil
	mustBeAlike(t, "there are no links", w, 0, false)
}

// Any two: also such as stand apart in a net, and the last ones.
func TestAlikeInOfManyNodes(t *testing.T) {
	rested := restedWorld(rightNets["as many links as there may be"])
	for _, l := range rested.Net.Links {
		for _, node := range []int{l.A, l.B} {
			w := changedWorld(rested, func(w *impl.World) { putInto(&w.Nodes[node-1], nodeTold(l.Area, 6, 500)) })
			for area := range impl.MaxArea + 1 {
				mustBeAlike(t, "one knows another thing", w, area, area != l.Area)
			}
			w = changedWorld(rested, func(w *impl.World) { putInto(&w.Nodes[node-1], thingTold(1, 1, 1)) })
			for area := range impl.MaxArea + 1 {
				areas, _ := areasBy(rested.Net, node)
				mustBeAlike(t, "one knows of another thing outside", w, area, !slices.Contains(areas, area))
			}
		}
	}
}

func TestTruthsOfOddWorlds(t *testing.T) {
	worlds := oddWorlds(t)
	for name, w := range oddWorlds(t) {
		worlds[name+", rested"] = impl.Rest(w, 4)
	}
	rested := restedWorld(midway())
	for name, change := range map[string]func(w *impl.World){
		"one link less":     func(w *impl.World) { w.Links = w.Links[:4] },
		"one link more":     func(w *impl.World) { w.Links = append(w.Links, true) },
		"no links":          func(w *impl.World) { w.Links = nil },
		"one up less":       func(w *impl.World) { w.Up = w.Up[:4] },
		"one up more":       func(w *impl.World) { w.Up = append(w.Up, true) },
		"one node less":     func(w *impl.World) { w.Nodes = w.Nodes[:4] },
		"no nodes":          func(w *impl.World) { w.Nodes = nil },
		"nodes behind N":    func(w *impl.World) { w.Nodes = append(w.Nodes, w.Nodes[0]) },
		"N less":            func(w *impl.World) { w.Net.N = 4 },
		"N is 0":            func(w *impl.World) { w.Net.N = 0 },
		"N is very great":   func(w *impl.World) { w.Net.N = math.MaxInt },
		"nodes turned":      func(w *impl.World) { slices.Reverse(w.Nodes) },
		"all nodes are 1":   func(w *impl.World) { w.Nodes = slices.Repeat(w.Nodes[:1], 5) },
		"of another net":    func(w *impl.World) { w.Nodes[0].Self.Net = twoNodes() },
		"links in no order": func(w *impl.World) { slices.Reverse(w.Net.Links) },
	} {
		worlds["at rest, "+name] = changedWorld(rested, change)
	}
	for name, w := range worlds {
		mustBeTruths(t, name, w)
	}
	// Where there are no true routes, who is up is to have none.
	mustBeSettled(t, "a link too few", worlds["at rest, one link less"], false)
	mustBeSettled(t, "a net that is not right", worlds["at rest, links in no order"], false)
	mustBeSettled(t, "no nodes at all", worlds["at rest, no nodes"], false)
	bare := changedWorld(worlds["at rest, one link less"], func(w *impl.World) {
		for at := range w.Nodes {
			w.Nodes[at].Self.Store = nil
		}
	})
	mustBeSettled(t, "a link too few, and nobody knows anything", bare, true)
	mustBeSettled(t, "a node that is not there and has no ways", impl.World{Net: impl.Net{N: 2}, Up: []bool{true, true}}, true)
	// What is no node of the net is not asked.
	long := changedWorld(rested, func(w *impl.World) {
		w.Nodes, w.Up = append(w.Nodes, w.Nodes[1]), append(w.Up, true)
		putInto(&w.Nodes[5], beyondTold(0, 6, 6, 6))
		w.Nodes[0].Self.Heard, w.Nodes[5].Self.Heard = append(w.Nodes[0].Self.Heard, 6, 0), []int{1, 0}
	})
	mustBeAllTrue(t, "behind N", long, true)
	mustBeAlike(t, "behind N", long, 0, true)
}

// Very long lists take no very long time.
func TestTruthsOfVeryLongLists(t *testing.T) {
	many := slices.Repeat([]bool{true}, 50000)
	w := impl.World{Net: impl.Net{N: math.MaxInt}, Up: many, Links: many, Nodes: make([]impl.Node, 50000)}
	if !impl.AllTrue(w) || !impl.Settled(w) || !impl.AlikeIn(w, 0) {
		t.Error("nodes that know nothing")
	}
	mustNotBeIdeal(t, "very many", standing{impl.Net{N: math.MaxInt}, many, many})
}

// someTold are up to four records that were told, of an area or Outside, no key twice.
func (l *lived) someTold(area int, d *draws) []impl.Record {
	var list []impl.Record
	for range 1 + d.below(4) {
		r := l.told[d.below(len(l.told))]
		same := func(one impl.Record) bool { return keyOf(one) == keyOf(r) }
		if (r.Area == area || r.Area == impl.Outside) && !slices.ContainsFunc(list, same) {
			list = append(list, r)
		}
	}
	return inOrderOf(list)
}

// truePacket is one that a node may say over one of the links, or may have said long
// ago: what it has of records was told, and in which order it comes is drawn.
func (l *lived) truePacket(d *draws) impl.Packet {
	link := l.net.Links[d.below(len(l.net.Links))]
	from, to := link.A, link.B
	if d.below(2) == 0 {
		from, to = to, from
	}
	switch d.below(4) {
	case 0:
		return saysSum(from, to, link.Area, l.someTold(link.Area, d)...)
	case 1:
		return saysNews(from, to, link.Area, l.someTold(link.Area, d)...)
	case 2:
		if len(l.flying) > 0 {
			return l.flying[d.below(len(l.flying))]
		}
	}
	if d.below(3) == 0 {
		return saysHello(from, to, link.Area)
	}
	return saysHello(from, to, link.Area, to)
}

// trueEvent is drawn from all nine kinds; news come in bytes only as they were told.
func (l *lived) trueEvent(t *testing.T, d *draws) impl.Event {
	t.Helper()
	e := l.drawnEvent(t, d)
	if e.Kind != impl.EvBytes {
		return e
	}
	if len(l.net.Links) == 0 || len(l.told) == 0 || d.below(4) == 0 {
		e.Text = l.noPacket(t, d)
		return e
	}
	p := l.truePacket(d)
	text, ok := impl.PacketText(p)
	if !ok || len(text) > 200 {
		text, _ = impl.PacketText(saysHello(p.From, p.To, p.Area, p.To))
	}
	e.Node, e.Text = p.To, text
	return e
}

// busyEvent is one more of those that have all said come along soon, more often than
// not, so that much is known ahead of what falls.
func (l *lived) busyEvent(t *testing.T, d *draws) impl.Event {
	t.Helper()
	switch {
	case d.below(4) == 0:
		return l.trueEvent(t, d)
	case len(l.flying) > d.below(4):
		return evDeliver(0)
	}
	return evTick(1 + d.below(l.net.N))
}

// busyNet is small, more often than not, so that a life is long enough for it.
func busyNet(number int) impl.Net {
	nets := []impl.Net{oneBorder(), twoBorders(), twoMiddles(), rightNets["two nodes in two areas"], rightNets["a chain through all areas"], drawnNet(number)}
	return withThings(nets[number%len(nets)], number)
}

// The rounds in which a world comes to rest, in all that is drawn here.
const restRounds = 8

// mustComeToRest holds promise 13's second half of a world.
func mustComeToRest(t *testing.T, name string, w impl.World) impl.World {
	t.Helper()
	rested := impl.Rest(w, restRounds)
	if !impl.AllTrue(rested) || !allTrueBy(rested) {
		t.Fatalf("%s: at rest not all is true: %+v", name, rested)
	}
	if !impl.Settled(rested) || !settledBy(t, rested) {
		t.Fatalf("%s: not settled: %+v", name, rested)
	}
	for area := range impl.MaxArea + 1 {
		if !impl.AlikeIn(rested, area) || !alikeBy(rested, area) {
			t.Fatalf("%s: not alike in area %d: %+v", name, area, rested)
		}
	}
	mustHearWhomItCan(t, name, rested)
	more := impl.Rest(rested, 2)
	if !sameRecords(more.Told, rested.Told) {
		t.Fatalf("%s: at rest something new is told: %s; was %s", name, brief(more.Told), brief(rested.Told))
	}
	mustBeWorld(t, name+": at rest", more, rested)
	return rested
}

// mustHearWhomItCan keeps AlikeIn from being true of nodes that do not hear each other.
func mustHearWhomItCan(t *testing.T, name string, w impl.World) {
	t.Helper()
	table := costs(standingOf(w).alive())
	standingOf(w).eachUp(func(node int) {
		for to, row := range table[node] {
			for area, cost := range row {
				if got := hears(w.Nodes[node-1].Self, to, area); got != (cost > 0) {
					t.Fatalf("%s: %d hears %d in area %d: %v", name, node, to, area, got)
				}
			}
		}
	})
}

func (n watched) lookRest(was, is impl.World) {
	n.count("with nodes that are down", slices.Contains(was.Up, false))
	n.count("with links that are cut", slices.Contains(was.Links, false))
	n.count("with nodes that came up again", slices.Max(was.Boots) > 0)
	n.count("with packets that fly", len(was.Flying) > 0)
	n.count("that were not settled", !impl.Settled(was))
	n.count("that were not alike", !impl.AlikeIn(was, 0) || !impl.AlikeIn(was, 1) || !impl.AlikeIn(was, 2))
	n.count("in which something is told", len(is.Told) > len(was.Told))
	for at, node := range is.Nodes {
		routes := impl.Routes(node)
		n.count("routes within", is.Up[at] && slices.ContainsFunc(routes, func(r impl.Route) bool { return r.Kind == impl.WithinArea }))
		n.count("routes beyond", is.Up[at] && slices.ContainsFunc(routes, func(r impl.Route) bool { return r.Kind == impl.BeyondArea }))
		n.count("routes to things", is.Up[at] && slices.ContainsFunc(routes, func(r impl.Route) bool { return r.Thing && len(r.Hops) > 0 }))
		gone := func(r impl.Record) bool { return r.Owner <= len(is.Up) && !is.Up[r.Owner-1] }
		n.count("records of those that are gone", is.Up[at] && slices.ContainsFunc(node.Self.Store, gone))
	}
}

// Promise 13: behind every event of a drawn life what is known was told by who it is of;
// left alone all find the ways that there are, and neighbours know the same.
func TestInADrawnLifeAllIsTrue(t *testing.T) {
	seen := watched{}
	for number := range 240 {
		d := &draws{state: 29*number + 9}
		x, draw := drawnLifeNet(number), (*lived).trueEvent
		if number%2 == 0 {
			x, draw = busyNet(number/2), (*lived).busyEvent
		}
		l := livedOf(t, x)
		name := fmt.Sprint("life ", number)
		var events []impl.Event
		w, _ := impl.WorldNew(x)
		for len(events) < impl.MaxLife-number%4 {
			e := draw(l, t, d)
			events = append(events, e)
			number := l.meet(e)
			var ok bool
			was := w
			if w, _, ok = impl.RunNet(x, events); !ok {
				t.Fatalf("%s: RunNet(%+v, %s) is false", name, x, shown(events...))
			}
			if !impl.AllTrue(w) || !allTrueBy(w) {
				t.Fatalf("%s: behind %s not all is true: %+v", name, shown(events...), w)
			}
			seen.count(fmt.Sprint("kind ", e.Kind, " number ", number), true)
			seen.count("taught by bytes", e.Kind == impl.EvBytes && number == 0 && !sameRecords(was.Nodes[e.Node-1].Self.Store, w.Nodes[e.Node-1].Self.Store))
		}
		mustBeTruths(t, name, w)
		seen.lookRest(w, mustComeToRest(t, name, w))
	}
	for kind := impl.EvTick; kind <= impl.EvBytes; kind++ {
		for _, number := range []int{0, 1} {
			if what := fmt.Sprint("kind ", kind, " number ", number); seen[what] < 20 {
				t.Errorf("too few of %s: %d", what, seen[what])
			}
		}
	}
	for _, what := range []string{"taught by bytes", "with nodes that are down", "with links that are cut", "with nodes that came up again", "with packets that fly",
		"that were not settled", "that were not alike", "in which something is told", "routes within", "routes beyond", "routes to things", "records of those that are gone"} {
		if seen[what] < 20 {
			t.Errorf("too few %s: %d", what, seen[what])
		}
	}
}

// turnOf has a link or a node that is up fall, and one that is down rise.
func (l *lived) turnOf(d *draws) impl.Event {
	if node := 1 + d.below(l.net.N); len(l.net.Links) == 0 || d.below(2) == 0 {
		if l.down[node] {
			return evUp(node)
		}
		return evDown(node)
	}
	at := d.below(len(l.net.Links))
	if l.cut[l.net.Links[at]] {
		return evRaise(at)
	}
	return evCut(at)
}

// The same of worlds that come to rest again and again, and are hurt each time, so that
// they know much of what is gone.
func TestHurtWorldsComeToRest(t *testing.T) {
	seen := watched{}
	for number := range 48 {
		d := &draws{state: 37*number + 4}
		x := drawnLifeNet(number)
		if number%2 == 0 {
			x = busyNet(number / 2)
		}
		name := fmt.Sprint("world ", number)
		w := mustComeToRest(t, name, restedWorld(x))
		for hurt := range 6 {
			l := livedFrom(t, w)
			for range 1 + d.below(25) {
				e := l.busyEvent(t, d)
				if d.below(8) == 0 {
					e = l.turnOf(d)
				}
				l.meet(e)
				on := l.world()
				mustBeAllTrue(t, fmt.Sprint(name, " behind ", shown(e)), on, true)
				seen.count("on their way that were not alike", !impl.AlikeIn(on, 0) || !impl.AlikeIn(on, 1) || !impl.AlikeIn(on, 2))
			}
			was := l.world()
			w = mustComeToRest(t, fmt.Sprint(name, ", hurt ", hurt), was)
			seen.lookRest(was, w)
		}
	}
	for _, what := range []string{"with nodes that are down", "with links that are cut", "with nodes that came up again", "that were not settled", "on their way that were not alike",
		"in which something is told", "routes beyond", "routes to things", "records of those that are gone"} {
		if seen[what] < 20 {
			t.Errorf("too few %s: %d", what, seen[what])
		}
	}
}

// A net that was never hurt is at rest after a few rounds.
func TestNetsThatWereNeverHurtComeToRest(t *testing.T) {
	check := func(name string, x impl.Net, rounds int) {
		t.Helper()
		w, ok := impl.WorldNew(x)
		if !ok {
			t.Fatalf("%s: no world of %+v", name, x)
		}
		w = impl.Rest(w, rounds)
		rested := mustComeToRest(t, name, w)
		mustBeWorld(t, name+": after a few rounds", rested, w)
		for node, n := range rested.Nodes {
			if got, want := impl.Routes(n), allStanding(x).routesBy(t, node+1); !sameRoutes(got, want) {
				t.Fatalf("%s: %+v: node %d finds %+v; want %+v", name, x, node+1, got, want)
			}
		}
	}
	for name, x := range rightNets {
		check(name, x, 6)
	}
	for number := range 60 {
		check(fmt.Sprint("net ", number), drawnLifeNet(number), 6)
	}
	for name, x := range map[string]impl.Net{"midway": midway(), "one border": oneBorder(), "two borders": twoBorders(), "two middles": twoMiddles(), "three borders": threeBorders()} {
		check(name, x, 6)
	}
	count := 0
	eachSmallNet(func(x impl.Net) {
		if count++; count%5 == 0 {
			check("small", x, 6)
		}
	})
}

// Who lacks one packet of all that are said is told all the same.
func TestRestMakesUpForWhatIsLost(t *testing.T) {
	x := oneBorder()
	x.Things = thingsOf([][4]int{{3, 4, 5, 0}})
	var events []impl.Event
	for range 3 {
		events = eventsOf(events, evTick(1), evTick(2), evTick(3), times(6, evDeliver(0)))
	}
	for at, e := range events {
		if e.Kind != impl.EvDeliver {
			continue
		}
		for _, other := range []impl.Event{evDrop(0), evCopy(0), evDeliver(1), evDeliver(2)} {
			life := slices.Clone(events)
			life[at] = other
			w := mustRun(t, "one is lost", x, life)
			mustBeAllTrue(t, "one is lost", w, true)
			mustComeToRest(t, "one is lost", w)
		}
	}
}

// mustBeIdealApart asks twice, writes over one answer, and looks at the other one.
func mustBeIdealApart(t *testing.T, s standing) {
	t.Helper()
	given := slices.Concat(placesOf(s.net.Links), placesOf(s.net.Things), placesOf(s.links), placesOf(s.up))
	mustStayRecords(t, func() []impl.Record { list, _ := s.ask(); return list })
	list, _ := s.ask()
	seen := map[any]bool{}
	for _, place := range slices.Concat(given, placesOfRecords(list)) {
		if seen[place] {
			t.Fatalf("memory is shared, at %T: %s", place, brief(list))
		}
		seen[place] = true
	}
	for node := -1; node <= impl.MaxNodes+1; node++ {
		mustStayRoutes(t, func() []impl.Route { return s.routes(node) })
	}
}

func TestIdealLeavesItsArgumentsAlone(t *testing.T) {
	for number := range 40 {
		d := &draws{state: number}
		s := drawnStanding(roomyNet(drawnLifeNet(number)), d)
		s.links, s.up = withRoom(s.links, true, false, true), withRoom(s.up, true, false, true)
		kept := standing{netInFull(s.net), inFullOf(s.links), inFullOf(s.up)}
		mustBeIdealApart(t, s)
		// What is refused leaves nothing behind, either.
		for _, wrong := range []standing{{s.net, s.links[:len(s.links)+1], s.up}, {s.net, s.links, s.up[:len(s.up)+1]}, {s.net, s.links, s.up[:len(s.up)-1]}} {
			mustBeIdealApart(t, wrong)
		}
		if !sameNet(netInFull(s.net), kept.net) || !slices.Equal(inFullOf(s.links), kept.links) || !slices.Equal(inFullOf(s.up), kept.up) {
			t.Fatalf("number %d: an argument was written into", number)
		}
	}
}

func TestTruthsLeaveTheirArgumentsAlone(t *testing.T) {
	worlds := oddWorlds(t)
	for number := range 12 {
		d := &draws{state: 43*number + 1}
		l := livedOf(t, drawnLifeNet(number))
		for range 50 {
			l.meet(l.trueEvent(t, d))
		}
		worlds[fmt.Sprint("life ", number)] = l.world()
		worlds[fmt.Sprint("rested ", number)] = impl.Rest(l.world(), restRounds)
	}
	for name, w := range worlds {
		if len(w.Net.Links)+len(w.Net.Things) > 100 || len(w.Nodes) > 1 && len(w.Nodes[1].Ears)+len(w.Nodes[1].Self.Heard)+len(w.Nodes[1].Self.Net.Links)+len(w.Nodes[1].Self.Net.Things) > 100 {
			continue
		}
		w = roomyWorld(w)
		kept := worldInFull(w)
		impl.AllTrue(w)
		impl.Settled(w)
		for area := -1; area <= impl.MaxArea+1; area++ {
			impl.AlikeIn(w, area)
		}
		impl.Ideal(w.Net, w.Links, w.Up)
		for node := -1; node <= impl.MaxNodes+1; node++ {
			impl.TrueRoutes(w.Net, w.Links, w.Up, node)
		}
		for _, n := range w.Nodes {
			impl.TrueTold(w.Told, n.Self.Store)
		}
		mustBeWorld(t, name+": an argument was written into", worldInFull(w), kept)
	}
}

// Asked from several sides at once each truth is answered for itself.
func TestTruthsKeepNothing(t *testing.T) {
	rested := restedWorld(threeBorders())
	hurt := changedWorld(rested, func(w *impl.World) { w.Up[2] = false })
	list, _ := standingOf(rested).ask()
	less, _ := standingOf(hurt).ask()
	done := make(chan string)
	for range 8 {
		go func() {
			differ := ""
			for range 20 {
				one, ok := standingOf(rested).ask()
				other, also := standingOf(hurt).ask()
				if !ok || !also || !sameRecords(one, list) || !sameRecords(other, less) {
					differ += brief(one) + brief(other)
				}
				if !impl.Settled(rested) || impl.Settled(hurt) || !impl.AllTrue(rested) || !impl.AllTrue(hurt) || !impl.AlikeIn(rested, 0) {
					differ += "another truth"
				}
			}
			done <- differ
		}()
	}
	for range 8 {
		if differ := <-done; differ != "" {
			t.Errorf("another answer to the same question: %s", differ)
		}
	}
}
