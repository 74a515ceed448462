package tests

import (
	"fmt"
	"math"
	"slices"
	"testing"

	"loop.example/g00177/impl"
)

func sameNode(a, b impl.Node) bool {
	return sameSelf(a.Self, b.Self) && slices.Equal(a.Ears, b.Ears)
}

func samePackets(a, b []impl.Packet) bool {
	return slices.EqualFunc(a, b, samePacket)
}

func copyNode(n impl.Node) impl.Node {
	return impl.Node{Self: copySelf(n.Self), Ears: slices.Clone(n.Ears)}
}

// earsBy goes link by link, and puts what it finds in order.
func earsBy(x impl.Net, id int) []impl.Ear {
	var ears []impl.Ear
	for _, l := range x.Links {
		if l.A == id {
			ears = append(ears, impl.Ear{Node: l.B, Area: l.Area})
		}
		if l.B == id {
			ears = append(ears, impl.Ear{Node: l.A, Area: l.Area})
		}
	}
	slices.SortFunc(ears, func(a, b impl.Ear) int { return 10*(a.Node-b.Node) + a.Area - b.Area })
	return ears
}

// nodeRightBy is the document's rule, Ear by Ear.
func nodeRightBy(n impl.Node) bool {
	if !impl.SelfOk(n.Self) {
		return false
	}
	ears := earsBy(n.Self.Net, n.Self.Id)
	if len(ears) != len(n.Ears) {
		return false
	}
	both := 0
	for at, e := range n.Ears {
		if e.Node != ears[at].Node || e.Area != ears[at].Area || !slices.Contains([]int{0, 1, 2, 3}, e.Left) {
			return false
		}
		if e.Both != hears(n.Self, e.Node, e.Area) || e.Both && e.Left == 0 {
			return false
		}
		if e.Both {
			both++
		}
	}
	return len(n.Self.Heard) == 2*both
}

// renewBy goes by the Ears that the node has by now, and answers what is new.
func renewBy(n *impl.Node) []impl.Record {
	n.Self.Heard = nil
	for _, e := range n.Ears {
		if e.Both {
			n.Self.Heard = append(n.Self.Heard, e.Node, e.Area)
		}
	}
	store, news := renewedBy(n.Self)
	n.Self.Store = store
	return news
}

// tickedBy is what the document's words make of a tick.
func tickedBy(n impl.Node) (impl.Node, []impl.Packet) {
	if !nodeRightBy(n) {
		return n, nil
	}
	n = copyNode(n)
	for at, e := range n.Ears {
		left := []int{0, 0, 1, 2}[e.Left]
		n.Ears[at].Left, n.Ears[at].Both = left, e.Both && left != 0
	}
	renewBy(&n)
	var said []impl.Packet
	for _, to := range n.Ears {
		p := impl.Packet{Kind: impl.SayHello, From: n.Self.Id, To: to.Node, Area: to.Area}
		for node := 1; node <= impl.MaxNodes; node++ {
			if slices.ContainsFunc(n.Ears, func(e impl.Ear) bool { return e.Node == node && e.Area == to.Area && e.Left != 0 }) {
				p.Heard = append(p.Heard, node)
			}
		}
		said = append(said, p)
		if to.Both {
			said = append(said, impl.Packet{Kind: impl.SaySum, From: n.Self.Id, To: to.Node, Area: to.Area, List: headersBy(n.Self.Store, to.Area)})
		}
	}
	return n, said
}

// ofArea are those of a list that are of an area, or Outside.
func ofArea(list []impl.Record, area int) []impl.Record {
	return slices.DeleteFunc(slices.Clone(list), func(r impl.Record) bool { return r.Area != area && r.Area != impl.Outside })
}

// heardBy is what the document's words make of a packet.
func heardBy(n impl.Node, p impl.Packet) (impl.Node, []impl.Packet) {
	at := slices.IndexFunc(n.Ears, func(e impl.Ear) bool { return e.Node == p.From && e.Area == p.Area })
	if !nodeRightBy(n) || !rightBy(p) || p.To != n.Self.Id || at < 0 || p.Kind != impl.SayHello && !n.Ears[at].Both {
		return n, nil
	}
	n = copyNode(n)
	if p.Kind == impl.SaySum {
		return n, sumAnsweredBy(n, p)
	}
	var learned []impl.Record
	if p.Kind == impl.SayHello {
		n.Ears[at].Left, n.Ears[at].Both = impl.Hold, slices.Contains(p.Heard, n.Self.Id)
	} else {
		n.Self.Store, learned = learnedBy(n.Self, p.List)
	}
	renewed := renewBy(&n)
	var said []impl.Packet
	for place, e := range n.Ears {
		list := slices.Clone(renewed)
		if place != at {
			list = append(list, learned...)
		}
		if list = newestOf(ofArea(list, e.Area)); e.Both && len(list) > 0 {
			said = append(said, impl.Packet{Kind: impl.SayNews, From: n.Self.Id, To: e.Node, Area: e.Area, List: list})
		}
	}
	return n, said
}

func sumAnsweredBy(n impl.Node, p impl.Packet) []impl.Packet {
	seqs := func(list []impl.Record) map[[4]int]int {
		table := map[[4]int]int{}
		for _, r := range list {
			table[keyOf(r)] = r.Seq
		}
		return table
	}
	scope := ofArea(n.Self.Store, p.Area)
	mine, theirs := seqs(scope), seqs(p.List)
	newer := slices.DeleteFunc(slices.Clone(scope), func(r impl.Record) bool { return theirs[keyOf(r)] >= r.Seq })
	lacks := slices.ContainsFunc(p.List, func(r impl.Record) bool { return mine[keyOf(r)] < r.Seq })
	var said []impl.Packet
	if len(newer) > 0 {
		said = append(said, impl.Packet{Kind: impl.SayNews, From: n.Self.Id, To: p.From, Area: p.Area, List: newer})
	}
	if lacks {
		said = append(said, impl.Packet{Kind: impl.SaySum, From: n.Self.Id, To: p.From, Area: p.Area, List: headersBy(scope, p.Area)})
	}
	return said
}

func mustTick(t *testing.T, name string, n impl.Node) (impl.Node, []impl.Packet) {
	t.Helper()
	got, said := impl.TickNode(n)
	if want, words := tickedBy(n); !sameNode(got, want) || !samePackets(said, words) {
		t.Fatalf("%s: TickNode(%+v) = %+v, %+v; want %+v, %+v", name, n, got, said, want, words)
	}
	mustStayRight(t, name, n, got, said)
	return got, said
}

func mustHear(t *testing.T, name string, n impl.Node, p impl.Packet) (impl.Node, []impl.Packet) {
	t.Helper()
	got, said := impl.HearNode(n, p)
	if want, words := heardBy(n, p); !sameNode(got, want) || !samePackets(said, words) {
		t.Fatalf("%s: HearNode(%+v, %+v) = %+v, %+v; want %+v, %+v", name, n, p, got, said, want, words)
	}
	mustStayRight(t, name, n, got, said)
	return got, said
}

// mustStayRight holds promise 10's first half, of what came of a node: it is right
// if it was, what it says is right, from it and to an Ear that it has, and it knows
// nothing that is older.
func mustStayRight(t *testing.T, name string, was, is impl.Node, said []impl.Packet) {
	t.Helper()
	if impl.NodeOk(was) != nodeRightBy(was) || impl.NodeOk(is) != nodeRightBy(is) || impl.NodeOk(was) != impl.NodeOk(is) {
		t.Fatalf("%s: NodeOk = %v and %v of %+v and %+v", name, impl.NodeOk(was), impl.NodeOk(is), was, is)
	}
	for _, p := range said {
		to := func(e impl.Ear) bool { return e.Node == p.To && e.Area == p.Area }
		if !impl.PacketOk(p) || p.From != is.Self.Id || !slices.ContainsFunc(is.Ears, to) {
			t.Fatalf("%s: %+v says %+v", name, is, p)
		}
	}
	if !impl.NodeOk(is) {
		return
	}
	if older := impl.Newer(was.Self.Store, is.Self.Store); len(older) > 0 {
		t.Fatalf("%s: %+v knew %+v", name, is, older)
	}
}

// mustStayAsItIs asks for just the same node, and nothing said.
func mustStayAsItIs(t *testing.T, name string, n impl.Node, p impl.Packet) {
	t.Helper()
	if got, said := impl.HearNode(n, p); !sameNode(got, n) || len(said) > 0 {
		t.Errorf("%s: HearNode(%+v, %+v) = %+v, %+v", name, n, p, got, said)
	}
	mustHear(t, name, n, p)
}

// drawnNode is a right one, whose Ears have heard something; what it knows need not
// be true, and it need not have told all that it wants.
func drawnNode(t *testing.T, number int) impl.Node {
	t.Helper()
	d := &draws{state: 5 * number}
	n := impl.Node{Self: drawnSelf(t, number)}
	n.Ears = earsBy(n.Self.Net, n.Self.Id)
	for at, e := range n.Ears {
		n.Ears[at].Left = d.below(impl.Hold + 1)
		if hears(n.Self, e.Node, e.Area) {
			n.Ears[at].Left, n.Ears[at].Both = 1+d.below(impl.Hold), true
		}
	}
	return n
}

// newsFor are records of an area and of Outside, some of which the node has, older,
// as they are, or newer; some it lacks, and some are its own.
func newsFor(t *testing.T, n impl.Node, area int, d *draws) []impl.Record {
	t.Helper()
	thin := d.below(4)
	known := ofArea(n.Self.Store, area)
	var list []impl.Record
	for _, r := range known {
		if d.below(4) < thin {
			r.Seq = min(impl.MaxSeq-20, max(1, r.Seq-1+d.below(3)))
			list = append(list, r)
		}
	}
	few := 1 + d.below(12)
	for _, r := range ofArea(drawnStore(t, d.below(500)), area) {
		has := slices.ContainsFunc(list, func(known impl.Record) bool { return keyOf(known) == keyOf(r) })
		if !has && d.below(few) == 0 {
			list = append(list, withSeq(r, drawnSeq(d, n.Self.Boot)))
		}
	}
	return newestOf(list)
}

// packetFor is a right one from an Ear of the node, if it has any.
func packetFor(t *testing.T, n impl.Node, d *draws) impl.Packet {
	t.Helper()
	p := impl.Packet{Kind: 1 + d.below(3), From: 1 + n.Self.Id%impl.MaxNodes, To: n.Self.Id}
	if len(n.Ears) > 0 {
		e := n.Ears[d.below(len(n.Ears))]
		p.From, p.Area = e.Node, e.Area
	}
	switch p.Kind {
	case impl.SayHello:
		for node := 1; node <= impl.MaxNodes; node++ {
			if d.below(3) > 0 || node == p.To && d.below(2) > 0 {
				p.Heard = append(p.Heard, node)
			}
		}
	case impl.SaySum:
		p.List = headersBy(newsFor(t, n, p.Area, d), p.Area)
		if d.below(6) == 0 {
			p.List = headersBy(n.Self.Store, p.Area)
		}
	case impl.SayNews:
		p.List = newsFor(t, n, p.Area, d)
		if d.below(6) == 0 {
			p.List = ofArea(n.Self.Store, p.Area)
		}
	}
	return p
}

// misplaced is a packet that is to another, from nobody that the node hears, or of
// another area; or it is not right.
func misplaced(p impl.Packet, d *draws) impl.Packet {
	other := 1 + d.below(impl.MaxNodes)
	switch d.below(4) {
	case 0:
		p.To = other
	case 1:
		p.From = other
	case 2:
		area := (p.Area + 1) % 3
		for at, r := range p.List {
			if r.Area == p.Area {
				p.List[at].Area = area
			}
		}
		p.Area = area
	default:
		p = spoiled(p, d)
	}
	return p
}

func (n watched) lookHeard(was, is impl.Node, p impl.Packet, said []impl.Packet) {
	at := slices.IndexFunc(was.Ears, func(e impl.Ear) bool { return e.Node == p.From && e.Area == p.Area })
	right := impl.PacketOk(p)
	n.count("packets that are not right", !right)
	n.count("packets to another", right && p.To != was.Self.Id)
	n.count("packets from nobody", right && p.To == was.Self.Id && at < 0)
	if !right || p.To != was.Self.Id || at < 0 {
		return
	}
	both, kind := was.Ears[at].Both, fmt.Sprint(" of kind ", p.Kind)
	n.count("packets of an Ear with Both"+kind, both)
	n.count("packets of an Ear without Both"+kind, !both)
	n.count("packets with answers"+kind, len(said) > 0)
	n.count("packets without answers"+kind, both && len(said) == 0)
	n.count("packets with several answers"+kind, len(said) > 1)
	n.count("hellos that hear one way, from one heard both ways", p.Kind == impl.SayHello && both && !is.Ears[at].Both)
	n.count("hellos that hear both ways now", p.Kind == impl.SayHello && !both && is.Ears[at].Both)
	_, learned := impl.Learn(was.Self, p.List)
	n.count("news of which some are new", p.Kind == impl.SayNews && both && len(learned) > 0 && len(learned) < len(p.List))
	n.count("news of which all are new", p.Kind == impl.SayNews && both && len(learned) > 0 && len(learned) == len(p.List))
	n.count("news of which nothing is new", p.Kind == impl.SayNews && both && len(p.List) > 0 && len(learned) == 0)
	n.count("news of its own", slices.ContainsFunc(learned, func(r impl.Record) bool { return r.Owner == was.Self.Id }))
	for _, q := range said {
		n.count("answers to who said it"+kind, q.To == p.From && q.Area == p.Area)
		n.count("answers to others"+kind, q.To != p.From || q.Area != p.Area)
	}
}

// live is a node's life of some steps, by a draw.
func live(t *testing.T, name string, n impl.Node, steps int, d *draws, seen watched) {
	t.Helper()
	for range steps {
		was := n
		if d.below(5) == 0 {
			n, _ = mustTick(t, name, n)
			seen.count("ticks", true)
			seen.count("ticks with which Both falls away", len(n.Self.Heard) < len(was.Self.Heard))
			continue
		}
		p := packetFor(t, n, d)
		if d.below(5) == 0 {
			p = misplaced(p, d)
		}
		var said []impl.Packet
		n, said = mustHear(t, name, n, p)
		seen.lookHeard(was, n, p, said)
	}
}

// Promise 10's first half.
func TestARightNodeStaysRightWhateverComes(t *testing.T) {
	seen := watched{}
	for number := range 300 {
		d := &draws{state: 11 * number}
		net := withThings(drawnBorders(number), number)
		if number%3 == 0 {
			net = withThings(drawnNet(number), number)
		}
		fresh, ok := impl.NodeNew(net, 1+d.below(net.N), []int{0, 1, 7, impl.MaxBoot}[d.below(4)])
		if !ok {
			t.Fatalf("number %d: no node of %+v", number, net)
		}
		live(t, fmt.Sprint("a new one, ", number), fresh, 40, d, seen)
		live(t, fmt.Sprint("a drawn one, ", number), drawnNode(t, number), 10, d, seen)
	}
	for _, what := range []string{"ticks", "ticks with which Both falls away", "packets that are not right", "packets to another", "packets from nobody",
		"packets of an Ear with Both of kind 1", "packets of an Ear with Both of kind 2", "packets of an Ear with Both of kind 3",
		"packets of an Ear without Both of kind 1", "packets of an Ear without Both of kind 2", "packets of an Ear without Both of kind 3",
		"packets with answers of kind 1", "packets with answers of kind 2", "packets with answers of kind 3",
		"packets without answers of kind 1", "packets without answers of kind 2", "packets without answers of kind 3",
		"packets with several answers of kind 1", "packets with several answers of kind 2", "packets with several answers of kind 3",
		"hellos that hear one way, from one heard both ways", "hellos that hear both ways now",
		"news of which some are new", "news of which all are new", "news of which nothing is new", "news of its own",
		"answers to who said it of kind 1", "answers to who said it of kind 3", "answers to others of kind 1", "answers to others of kind 3"} {
		if seen[what] < 20 {
			t.Errorf("too few %s: %d", what, seen[what])
		}
	}
}

// talk is what two nodes of a net say to each other.
type talk struct {
	nodes  map[int]impl.Node
	flying []impl.Packet
}

// say leaves out what goes to nodes that are not there.
func (k *talk) say(list []impl.Packet) {
	for _, p := range list {
		if _, there := k.nodes[p.To]; there {
			k.flying = append(k.flying, p)
		}
	}
}

func (k *talk) tick(t *testing.T, name string) {
	t.Helper()
	for id := 1; id <= impl.MaxNodes; id++ {
		if n, there := k.nodes[id]; there {
			n, said := mustTick(t, name, n)
			k.nodes[id] = n
			k.say(said)
		}
	}
}

// deliver hands over all that flies, by the order that next picks.
func (k *talk) deliver(t *testing.T, name string, next order) {
	t.Helper()
	for steps := 0; len(k.flying) > 0; steps++ {
		if steps == 2000 {
			t.Fatalf("%s: they are never silent: %+v", name, k.flying)
		}
		at := next(k.flying)
		p := k.flying[at]
		k.flying = slices.Delete(k.flying, at, at+1)
		n, said := mustHear(t, name, k.nodes[p.To], p)
		k.nodes[p.To] = n
		k.say(said)
	}
}

// order picks the packet that comes next.
type order func(flying []impl.Packet) int

func firstAhead([]impl.Packet) int { return 0 }

// orders leave none out for ever: two nodes may answer sum with sum as long as the
// news that would end it do not come.
func orders(number int) map[string]order {
	d := &draws{state: number}
	return map[string]order{
		"the first one ahead": firstAhead,
		"any one ahead":       func(flying []impl.Packet) int { return d.below(len(flying)) },
		"to the last node ahead": func(flying []impl.Packet) int {
			at := slices.IndexFunc(flying, func(p impl.Packet) bool { return p.To > p.From })
			return max(at, 0)
		},
	}
}

// mustKnowTheSame holds promise 10's second half of two nodes: once they have ticked
// and heard each other till they are silent they know the same of each area in which
// they have a link, and find the cheapest of their links.
func mustKnowTheSame(t *testing.T, name string, net impl.Net, a, b int, boots [2]int, next order) {
	t.Helper()
	first, ok := impl.NodeNew(net, a, boots[0])
	second, also := impl.NodeNew(net, b, boots[1])
	if !ok || !also {
		t.Fatalf("%s: no nodes %d, %d of %+v", name, a, b, net)
	}
	k := &talk{nodes: map[int]impl.Node{a: first, b: second}}
	for range 6 {
		k.tick(t, name)
		k.deliver(t, name, next)
	}
	// Silent: they tick, and nothing comes of it.
	first, second = k.nodes[a], k.nodes[b]
	k.tick(t, name)
	for _, p := range k.flying {
		if n, said := mustHear(t, name, k.nodes[p.To], p); len(said) > 0 || !sameRecords(n.Self.Store, k.nodes[p.To].Self.Store) {
			t.Fatalf("%s: %d and %d of %+v: not silent at %+v: %+v", name, a, b, net, p, said)
		}
	}
	least := 0
	for area := range impl.MaxArea + 1 {
		cost := impl.CostTo(net, a, b, area)
		if cost == 0 {
			continue
		}
		if least == 0 || cost < least {
			least = cost
		}
		mine, theirs := impl.Scope(first.Self.Store, area), impl.Scope(second.Self.Store, area)
		if !sameRecords(mine, theirs) || !hears(first.Self, b, area) || !hears(second.Self, a, area) {
			t.Fatalf("%s: %d and %d of %+v know %+v and %+v of area %d", name, a, b, net, mine, theirs, area)
		}
	}
	mustLead(t, name, first, b, least)
	mustLead(t, name, second, a, least)
}

// mustLead asks for a route to a neighbour, at just this cost, by itself.
func mustLead(t *testing.T, name string, n impl.Node, to, cost int) {
	t.Helper()
	routes := impl.Routes(n)
	at := slices.IndexFunc(routes, func(r impl.Route) bool { return !r.Thing && r.To == to })
	if cost > 0 && (at < 0 || !sameRoute(routes[at], toNode(impl.WithinArea, to, cost, to))) {
		t.Fatalf("%s: routes of %+v are %+v", name, n, routes)
	}
	if cost == 0 && at >= 0 {
		t.Fatalf("%s: a route to who is no neighbour: %+v", name, routes[at])
	}
}

// Promise 10's second half, of nets of two nodes with links in some areas.
func TestTwoNewNodesThatTalkKnowTheSame(t *testing.T) {
	things := [][]impl.Thing{nil, thingsOf([][4]int{{1, 3, 4, 0}}), thingsOf([][4]int{{1, 3, 4, 0}, {2, 3, 5, 1}, {2, 7, 1, 0}})}
	for choice := range 8 {
		net := impl.Net{N: 2}
		for area := range 3 {
			if choice>>area&1 == 1 {
				net.Links = append(net.Links, impl.Link{A: 1, B: 2, Cost: 7 - 2*area, Area: area})
			}
		}
		for _, net.Things = range things {
			for _, boots := range [][2]int{{0, 0}, {3, 0}, {0, impl.MaxBoot}, {impl.MaxBoot, impl.MaxBoot}} {
				for name, next := range orders(choice) {
					mustKnowTheSame(t, name, net, 1, 2, boots, next)
				}
			}
		}
	}
}

// The same of any two nodes of greater nets, in which all others are silent.
func TestTwoNewNodesOfGreaterNetsKnowTheSame(t *testing.T) {
	nets := []impl.Net{midway()}
	for number := range 12 {
		nets = append(nets, withThings(drawnBorders(number), number), withThings(drawnNet(number), number))
	}
	for _, net := range rightNets {
		nets = append(nets, net)
	}
	for number, net := range nets {
		for a := 1; a <= net.N; a++ {
			for b := a + 1; b <= net.N; b++ {
				name := []string{"the first one ahead", "to the last node ahead", "any one ahead"}[(number+a+b)%3]
				mustKnowTheSame(t, name, net, a, b, [2]int{a % 2, b % 3}, orders(number)[name])
			}
		}
	}
}

// All nodes of a net that talk come to what the net would have at rest.
func TestAllNodesThatTalkComeToRest(t *testing.T) {
	for number := range 12 {
		net := withThings(drawnBorders(number), number)
		k := &talk{nodes: map[int]impl.Node{}}
		for id := 1; id <= net.N; id++ {
			n, _ := impl.NodeNew(net, id, 0)
			k.nodes[id] = n
		}
		for range 8 {
			k.tick(t, "rest")
			k.deliver(t, "rest", firstAhead)
		}
		rest := knownOf(atRest(t, net))
		for id := 1; id <= net.N; id++ {
			got, want := impl.Routes(k.nodes[id]), rest.routes(impl.AreasOf(net, id), impl.Border(net, id), id)
			if !sameRoutes(got, want) {
				t.Fatalf("number %d: %+v: node %d finds %+v; want %+v", number, net, id, got, want)
			}
		}
	}
}

func saysHello(from, to, area int, heard ...int) impl.Packet {
	return impl.Packet{Kind: impl.SayHello, From: from, To: to, Area: area, Heard: heard}
}

// saysSum has headers of what it is given, whatever area that is of.
func saysSum(from, to, area int, list ...impl.Record) impl.Packet {
	p := impl.Packet{Kind: impl.SaySum, From: from, To: to, Area: area}
	for _, r := range list {
		p.List = append(p.List, headerBy(r))
	}
	return p
}

func saysNews(from, to, area int, list ...impl.Record) impl.Packet {
	return impl.Packet{Kind: impl.SayNews, From: from, To: to, Area: area, List: list}
}

// mustSay asks for just these packets.
func mustSay(t *testing.T, name string, said []impl.Packet, want ...impl.Packet) {
	t.Helper()
	if !samePackets(said, want) {
		t.Errorf("%s: said are %+v; want %+v", name, said, want)
	}
}

// mustHave asks a node for just these Ears, with rows of Node, Area, Left and 1 for
// Both, and for Heard that has those with Both.
func mustHave(t *testing.T, name string, n impl.Node, rows ...[4]int) {
	t.Helper()
	var ears []impl.Ear
	var heard []int
	for _, row := range rows {
		ears = append(ears, impl.Ear{Node: row[0], Area: row[1], Left: row[2], Both: row[3] == 1})
		if row[3] == 1 {
			heard = append(heard, row[0], row[1])
		}
	}
	if !slices.Equal(n.Ears, ears) || !slices.Equal(n.Self.Heard, heard) || !impl.NodeOk(n) {
		t.Errorf("%s: %+v, %+v; want %+v, %+v", name, n.Ears, n.Self.Heard, ears, heard)
	}
}

func mustKnow(t *testing.T, name string, n impl.Node, want ...impl.Record) {
	t.Helper()
	if !sameRecords(n.Self.Store, want) {
		t.Errorf("%s: it knows %+v; want %+v", name, n.Self.Store, want)
	}
}

// mustBeNewNode asks for a node, by the document's words.
func mustBeNewNode(t *testing.T, name string, x impl.Net, id, boot int) impl.Node {
	t.Helper()
	n, ok := impl.NodeNew(x, id, boot)
	want := impl.Node{Self: impl.Self{Id: id, Boot: boot, Net: x}, Ears: earsBy(x, id)}
	renewBy(&want)
	if !ok || !sameNode(n, want) || !impl.NodeOk(n) || !nodeRightBy(n) {
		t.Fatalf("%s: NodeNew(%+v, %d, %d) = %+v, %v; want %+v", name, x, id, boot, n, ok, want)
	}
	return n
}

func mustBeNoNode(t *testing.T, name string, x impl.Net, id, boot int) {
	t.Helper()
	if n, ok := impl.NodeNew(x, id, boot); ok || !sameNode(n, impl.Node{}) {
		t.Errorf("%s: NodeNew(%+v, %d, %d) = %+v, %v", name, x, id, boot, n, ok)
	}
}

// heardNode is a new node of a net that has heard each of the ends, of node and area,
// both ways.
func heardNode(t *testing.T, x impl.Net, id int, ends ...[2]int) impl.Node {
	t.Helper()
	n := mustBeNewNode(t, "new", x, id, 0)
	for _, end := range ends {
		n, _ = mustHear(t, "both ways", n, saysHello(end[0], id, end[1], id))
	}
	return n
}

func TestNewNodesWrittenOut(t *testing.T) {
	n := mustBeNewNode(t, "a border", midway(), 2, 0)
	mustHave(t, "a border", n, [4]int{1, 0}, [4]int{3, 1}, [4]int{5, 2})
	mustKnow(t, "a border", n, nodeTold(0, 2, 1), nodeTold(1, 2, 1), nodeTold(2, 2, 1), withSeq(thingTold(2, 3, 5), 1), withSeq(farTold(2, 4, 6), 1))
	n = mustBeNewNode(t, "of one area", midway(), 1, 1)
	mustHave(t, "of one area", n, [4]int{2, 0}, [4]int{4, 0})
	mustKnow(t, "of one area", n, nodeTold(0, 1, 1001), withSeq(thingTold(1, 3, 8), 1001))
	n = mustBeNewNode(t, "the last boot", midway(), 5, impl.MaxBoot)
	mustHave(t, "the last boot", n, [4]int{2, 2}, [4]int{4, 2})
	mustKnow(t, "the last boot", n, nodeTold(2, 5, 90001))
	n = mustBeNewNode(t, "two areas", rightNets["two nodes in two areas"], 2, 0)
	mustHave(t, "two areas", n, [4]int{1, 0}, [4]int{1, 2})
	mustKnow(t, "two areas", n, nodeTold(0, 2, 1), nodeTold(2, 2, 1))
	// The links of node 3 stand in the net as 1-3, 2-3 and 3-4, with areas that go down.
	net := impl.Net{N: 4, Links: linksOf([][4]int{{1, 3, 1, 2}, {2, 3, 1, 0}, {2, 3, 1, 1}, {3, 4, 1, 0}})}
	mustHave(t, "amid them", mustBeNewNode(t, "amid them", net, 3, 0), [4]int{1, 2}, [4]int{2, 0}, [4]int{2, 1}, [4]int{4, 0})
	n = mustBeNewNode(t, "without links", impl.Net{N: 3, Things: thingsOf([][4]int{{3, 1, 2, 1}})}, 3, 2)
	mustHave(t, "without links", n)
	mustKnow(t, "without links", n, withSeq(farTold(3, 1, 2), 2001))
	n = mustBeNewNode(t, "alone", impl.Net{N: 1}, 1, 0)
	mustHave(t, "alone", n)
	mustKnow(t, "alone", n)
	if impl.Hold != 3 {
		t.Errorf("Hold is %d", impl.Hold)
	}
}

func TestNewNodesAtTheEdges(t *testing.T) {
	edges := []int{math.MinInt, -1, 0, 1, 2, 3, 4, 5, 6, 7, impl.MaxBoot - 1, impl.MaxBoot, impl.MaxBoot + 1, math.MaxInt}
	nets := map[string]impl.Net{"midway": midway()}
	for name, net := range rightNets {
		nets[name] = net
	}
	for name, net := range nets {
		for _, id := range edges {
			for _, boot := range edges {
				if id >= 1 && id <= net.N && boot >= 0 && boot <= impl.MaxBoot {
					mustBeNewNode(t, name, net, id, boot)
				} else {
					mustBeNoNode(t, name, net, id, boot)
				}
			}
		}
	}
	for name, x := range wrongSelves() {
		if !impl.NetOk(x.Net) {
			for _, id := range edges {
				mustBeNoNode(t, name, x.Net, id, 0)
			}
		}
	}
	eachSmallNet(func(x impl.Net) {
		for id := 1; id <= x.N; id++ {
			mustBeNewNode(t, "small", x, id, id%3)
		}
	})
}

// changedNode is a right node with something about it changed: it hears 1 both ways,
// 3 one way, and 5 not at all.
func changedNode(change func(n *impl.Node)) impl.Node {
	n := impl.Node{Self: impl.Self{Id: 2, Boot: 1, Net: midway(), Heard: []int{1, 0}, Store: fewKeys(5)},
		Ears: []impl.Ear{{Node: 1, Area: 0, Left: 2, Both: true}, {Node: 3, Area: 1, Left: 1}, {Node: 5, Area: 2}}}
	change(&n)
	return n
}

func TestNodeOkAccepts(t *testing.T) {
	for name, n := range map[string]impl.Node{
		"as it is":           changedNode(func(n *impl.Node) {}),
		"Left at Hold":       changedNode(func(n *impl.Node) { n.Ears[1].Left = impl.Hold }),
		"Left at 0":          changedNode(func(n *impl.Node) { n.Ears[1].Left = 0 }),
		"Both at Hold":       changedNode(func(n *impl.Node) { n.Ears[0].Left = impl.Hold }),
		"Both at 1":          changedNode(func(n *impl.Node) { n.Ears[0].Left = 1 }),
		"all with Both":      changedNode(func(n *impl.Node) { hearAll(n, 1, true) }),
		"all one way":        changedNode(func(n *impl.Node) { hearAll(n, impl.Hold, false) }),
		"nothing heard":      changedNode(func(n *impl.Node) { hearAll(n, 0, false) }),
		"an empty Heard":     changedNode(func(n *impl.Node) { hearAll(n, 0, false); n.Self.Heard = []int{} }),
		"knowing nothing":    changedNode(func(n *impl.Node) { n.Self.Store = nil }),
		"a full store":       changedNode(func(n *impl.Node) { n.Self.Store = eachKey(1)[:impl.MaxStore] }),
		"the last boot":      changedNode(func(n *impl.Node) { n.Self.Boot = impl.MaxBoot }),
		"without links":      {Self: impl.Self{Id: 4, Net: rightNets["nodes without links"]}},
		"empty Ears":         {Self: impl.Self{Id: 1, Net: impl.Net{N: 1}}, Ears: []impl.Ear{}},
		"two areas, the one": {Self: impl.Self{Id: 1, Net: rightNets["two nodes in two areas"], Heard: []int{2, 0}}, Ears: []impl.Ear{{Node: 2, Left: 3, Both: true}, {Node: 2, Area: 2, Left: 3}}},
		"the other":          {Self: impl.Self{Id: 1, Net: rightNets["two nodes in two areas"], Heard: []int{2, 2}}, Ears: []impl.Ear{{Node: 2}, {Node: 2, Area: 2, Left: 1, Both: true}}},
	} {
		if !impl.NodeOk(n) || !nodeRightBy(n) {
			t.Errorf("%s: NodeOk(%+v) = false", name, n)
		}
	}
}

// hearAll sets all Ears alike, and Heard with them.
func hearAll(n *impl.Node, left int, both bool) {
	n.Self.Heard = nil
	for at, e := range n.Ears {
		n.Ears[at].Left, n.Ears[at].Both = left, both
		if both {
			n.Self.Heard = append(n.Self.Heard, e.Node, e.Area)
		}
	}
}

// wrongNodes are not right in one part each.
func wrongNodes() map[string]impl.Node {
	wrong := map[string]impl.Node{"nothing": {}}
	for name, change := range map[string]func(n *impl.Node){
		"no Ears":                func(n *impl.Node) { n.Ears = nil },
		"the first missing":      func(n *impl.Node) { n.Ears, n.Self.Heard = n.Ears[1:], nil },
		"one missing amid":       func(n *impl.Node) { n.Ears = slices.Delete(n.Ears, 1, 2) },
		"the last missing":       func(n *impl.Node) { n.Ears = n.Ears[:2] },
		"one twice":              func(n *impl.Node) { n.Ears = slices.Insert(n.Ears, 1, n.Ears[1]) },
		"one in another's place": func(n *impl.Node) { n.Ears[2] = n.Ears[1] },
		"one too many":           func(n *impl.Node) { n.Ears = append(n.Ears, impl.Ear{Node: 6, Area: 2}) },
		"one of no link":         func(n *impl.Node) { n.Ears = slices.Insert(n.Ears, 2, impl.Ear{Node: 4}) },
		"one of itself":          func(n *impl.Node) { n.Ears = slices.Insert(n.Ears, 1, impl.Ear{Node: 2}) },
		"one that is nothing":    func(n *impl.Node) { n.Ears = append([]impl.Ear{{}}, n.Ears...) },
		"turned":                 func(n *impl.Node) { slices.Reverse(n.Ears) },
		"two changed about":      func(n *impl.Node) { n.Ears[1], n.Ears[2] = n.Ears[2], n.Ears[1] },
		"another area":           func(n *impl.Node) { n.Ears[1].Area = 0 },
		"another node":           func(n *impl.Node) { n.Ears[2].Node = 4 },
		"an area that is none":   func(n *impl.Node) { n.Ears[2].Area = math.MaxInt },
		"very many":              func(n *impl.Node) { n.Ears = slices.Repeat(n.Ears, 2000) },
		"Both with Left 0":       func(n *impl.Node) { n.Ears[0].Left = 0 },
		"Both with Left below 0": func(n *impl.Node) { n.Ears[0].Left = -1 },
		"Both above Hold":        func(n *impl.Node) { n.Ears[0].Left = impl.Hold + 1 },
		"Both with Left 0, last": func(n *impl.Node) { n.Ears[2].Both, n.Self.Heard = true, []int{1, 0, 5, 2} },
		"Both and not Heard":     func(n *impl.Node) { n.Ears[1].Both = true },
		"Heard and not Both":     func(n *impl.Node) { n.Ears[0].Both = false },
		"one more Heard":         func(n *impl.Node) { n.Self.Heard = []int{1, 0, 3, 1} },
		"one less Heard":         func(n *impl.Node) { n.Self.Heard = nil },
		"another one Heard":      func(n *impl.Node) { n.Self.Heard = []int{3, 1} },
		"one Heard twice":        func(n *impl.Node) { n.Self.Heard = []int{1, 0, 1, 0} },
		"half of one Heard":      func(n *impl.Node) { n.Self.Heard = []int{1} },
		"two of three Heard":     func(n *impl.Node) { hearAll(n, 2, true); n.Self.Heard = n.Self.Heard[2:] },
		"the last one not Heard": func(n *impl.Node) { hearAll(n, 2, true); n.Self.Heard = n.Self.Heard[:4] },
		"Heard in another order": func(n *impl.Node) { hearAll(n, 2, true); n.Self.Heard = []int{3, 1, 1, 0, 5, 2} },
		"Ears of another node":   func(n *impl.Node) { n.Self.Id, n.Self.Heard, n.Ears = 1, nil, earsBy(midway(), 2) },
	} {
		wrong[name] = changedNode(change)
	}
	for _, left := range []int{math.MinInt, -1, impl.Hold + 1, math.MaxInt} {
		for at := range 3 {
			wrong[fmt.Sprint("Left ", left, " at ", at)] = changedNode(func(n *impl.Node) { hearAll(n, 2, false); n.Ears[at].Left = left })
		}
	}
	two := impl.Self{Id: 1, Net: rightNets["two nodes in two areas"]}
	wrong["two areas turned"] = impl.Node{Self: two, Ears: []impl.Ear{{Node: 2, Area: 2}, {Node: 2}}}
	wrong["one of two areas"] = impl.Node{Self: two, Ears: []impl.Ear{{Node: 2}}}
	wrong["an area too many"] = impl.Node{Self: two, Ears: []impl.Ear{{Node: 2}, {Node: 2, Area: 1}, {Node: 2, Area: 2}}}
	two.Heard = []int{2, 0}
	wrong["the other area"] = impl.Node{Self: two, Ears: []impl.Ear{{Node: 2}, {Node: 2, Area: 2, Left: 1, Both: true}}}
	for name, x := range wrongSelves() {
		n := impl.Node{Self: x}
		for at := 0; at+1 < len(x.Heard); at += 2 {
			n.Ears = append(n.Ears, impl.Ear{Node: x.Heard[at], Area: x.Heard[at+1], Left: 2, Both: true})
		}
		wrong["self: "+name] = n
	}
	return wrong
}

func TestNodesThatAreNotRight(t *testing.T) {
	for name, n := range wrongNodes() {
		if impl.NodeOk(n) || nodeRightBy(n) {
			t.Errorf("%s: NodeOk(%+v) = true", name, n)
		}
		if routes := impl.Routes(n); len(routes) > 0 {
			t.Errorf("%s: Routes = %+v", name, routes)
		}
		if got, said := impl.TickNode(n); !sameNode(got, n) || len(said) > 0 {
			t.Errorf("%s: TickNode = %+v, %+v; want %+v as it is", name, got, said, n)
		}
		for _, p := range []impl.Packet{saysHello(1, n.Self.Id, 0, n.Self.Id), saysHello(3, 2, 1), saysSum(1, 2, 0), saysNews(1, 2, 0, nodeTold(0, 1, 9, [2]int{2, 3})), {}} {
			mustStayAsItIs(t, name, n, p)
		}
	}
}

func TestRoutesOfNodes(t *testing.T) {
	n := heardNode(t, midway(), 2, [2]int{1, 0}, [2]int{3, 1})
	if got := impl.Routes(n); !sameRoutes(got, []impl.Route{toNear(3, 5), toFar(4, 0, 6)}) {
		t.Errorf("that knows its own things: %+v", got)
	}
	n, _ = mustHear(t, "of area 0", n, saysNews(1, 2, 0, nodeTold(0, 1, 4, [2]int{2, 3}, [2]int{4, 1}), nodeTold(0, 4, 4, [2]int{1, 1}), beyondTold(0, 1, 6, 9), thingTold(4, 3, 1)))
	n, _ = mustHear(t, "of area 1", n, saysNews(3, 2, 1, nodeTold(1, 3, 4, [2]int{2, 4}), beyondTold(1, 3, 5, 9), farTold(3, 9, 7)))
	// A border goes beyond by area 0 alone.
	want := []impl.Route{toNode(impl.WithinArea, 1, 3, 1), toNode(impl.WithinArea, 3, 4, 3), toNode(impl.WithinArea, 4, 4, 1), toNode(impl.BeyondArea, 6, 12, 1),
		toNear(3, 5), toFar(4, 0, 6), toFar(9, 4, 7, 3)}
	// What it is told of by 4 is as dear as what it has itself.
	want[4].Hops = []int{1}
	if got := impl.Routes(n); !sameRoutes(got, want) {
		t.Errorf("of a border: %+v; want %+v", got, want)
	}
	for number := range 300 {
		n := drawnNode(t, number)
		x := n.Self
		if got, want := impl.Routes(n), knownOf(x.Store).routes(impl.AreasOf(x.Net, x.Id), impl.Border(x.Net, x.Id), x.Id); !sameRoutes(got, want) {
			t.Fatalf("number %d: Routes(%+v) = %+v; want %+v", number, n, got, want)
		}
	}
}

func TestTicksOfANewNode(t *testing.T) {
	n := mustBeNewNode(t, "new", midway(), 2, 0)
	for _, name := range []string{"once", "twice"} {
		next, said := mustTick(t, name, n)
		mustSay(t, name, said, saysHello(2, 1, 0), saysHello(2, 3, 1), saysHello(2, 5, 2))
		if !sameNode(next, n) {
			t.Errorf("%s: %+v; want %+v", name, next, n)
		}
	}
	alone := mustBeNewNode(t, "alone", impl.Net{N: 1}, 1, 0)
	if next, said := mustTick(t, "alone", alone); len(said) > 0 || !sameNode(next, alone) {
		t.Errorf("alone: %+v, %+v", next, said)
	}
}

// Left and Both as they go, Ear by Ear.
func TestTicksTakeLeftAway(t *testing.T) {
	for left := range impl.Hold + 1 {
		for _, both := range []bool{false, true} {
			if both && left == 0 {
				continue
			}
			n := changedNode(func(n *impl.Node) { hearAll(n, left, both); n.Self.Store = nil })
			flag := map[bool]int{true: 1}[both && left > 1]
			rest := max(left-1, 0)
			next, said := mustTick(t, "all alike", n)
			mustHave(t, fmt.Sprint("Left ", left, ", Both ", both), next, [4]int{1, 0, rest, flag}, [4]int{3, 1, rest, flag}, [4]int{5, 2, rest, flag})
			many := 3 + 3*flag
			if len(said) != many {
				t.Errorf("Left %d, Both %v: said are %+v", left, both, said)
			}
		}
	}
	n := changedNode(func(n *impl.Node) {
		n.Ears[1].Left, n.Ears[1].Both, n.Ears[2].Left, n.Self.Heard = 1, true, 3, []int{1, 0, 3, 1}
		n.Self.Store = nil
	})
	n, said := mustTick(t, "each another", n)
	mustHave(t, "each another", n, [4]int{1, 0, 1, 1}, [4]int{3, 1}, [4]int{5, 2, 2, 0})
	own := []impl.Record{nodeTold(0, 2, 1001, [2]int{1, 3}), withSeq(thingTold(2, 3, 5), 1001), withSeq(farTold(2, 4, 6), 1001)}
	mustSay(t, "each another", said, saysHello(2, 1, 0, 1), saysSum(2, 1, 0, own...), saysHello(2, 3, 1), saysHello(2, 5, 2, 5))
	n, said = mustTick(t, "each another, again", n)
	mustHave(t, "each another, again", n, [4]int{1, 0}, [4]int{3, 1}, [4]int{5, 2, 1, 0})
	mustSay(t, "each another, again", said, saysHello(2, 1, 0), saysHello(2, 3, 1), saysHello(2, 5, 2, 5))
	if r, _ := impl.Find(n.Self.Store, own[0]); !sameRecord(r, nodeTold(0, 2, 1002)) {
		t.Errorf("what is heard no more is told of as %+v", r)
	}
}

// Both falls away with the last Left, and what is told of by it; that is not said as
// news, but is in the sums of the others.
func TestTicksRenewWhatFallsAway(t *testing.T) {
	n := heardNode(t, midway(), 2, [2]int{1, 0}, [2]int{3, 1})
	n, _ = mustHear(t, "of area 0", n, saysNews(1, 2, 0, nodeTold(0, 1, 4, [2]int{2, 3})))
	n, _ = mustHear(t, "of area 1", n, saysNews(3, 2, 1, nodeTold(1, 3, 4, [2]int{2, 4})))
	beyond := withSeq(beyondTold(1, 2, 1, 3), 1)
	if r, _ := impl.Find(n.Self.Store, beyond); !sameRecord(r, beyond) {
		t.Fatalf("beyond is %+v", r)
	}
	for left := impl.Hold - 1; left > 0; left-- {
		n, _ = mustHear(t, "3 goes on", n, saysHello(3, 2, 1, 2))
		n, _ = mustTick(t, "1 is silent", n)
		mustHave(t, "1 is silent", n, [4]int{1, 0, left, 1}, [4]int{3, 1, 2, 1}, [4]int{5, 2})
		if r, _ := impl.Find(n.Self.Store, beyond); !sameRecord(r, beyond) {
			t.Fatalf("with Left %d beyond is %+v", left, r)
		}
	}
	n, said := mustTick(t, "the last Left", n)
	mustHave(t, "the last Left", n, [4]int{1, 0}, [4]int{3, 1, 1, 1}, [4]int{5, 2})
	gone := []impl.Record{nodeTold(1, 2, 2, [2]int{3, 4}), withSeq(beyondTold(1, 2, 1, impl.Infinite), 2), nodeTold(1, 3, 4, [2]int{2, 4}), withSeq(thingTold(2, 3, 5), 1), withSeq(farTold(2, 4, 6), 1)}
	if got := impl.Scope(n.Self.Store, 1); !sameRecords(got, inOrderOf(gone)) {
		t.Errorf("of area 1 it knows %+v; want %+v", got, inOrderOf(gone))
	}
	mustSay(t, "the last Left", said, saysHello(2, 1, 0), saysHello(2, 3, 1, 3), saysSum(2, 3, 1, inOrderOf(gone)...), saysHello(2, 5, 2))
}

// A hello names those of its area alone, whether they hear the node or not.
func TestHellosNameThoseOfTheirArea(t *testing.T) {
	net := impl.Net{N: 4, Links: linksOf([][4]int{{1, 2, 1, 0}, {1, 2, 1, 1}, {1, 3, 1, 0}, {1, 4, 1, 0}, {1, 4, 1, 1}})}
	n := mustBeNewNode(t, "new", net, 1, 0)
	n.Ears[0].Left, n.Ears[2].Left, n.Ears[4].Left = 2, 1, 3
	n.Ears[3].Left, n.Ears[3].Both, n.Self.Heard = 3, true, []int{4, 0}
	n, said := mustTick(t, "some", n)
	mustHave(t, "some", n, [4]int{2, 0, 1, 0}, [4]int{2, 1}, [4]int{3, 0}, [4]int{4, 0, 2, 1}, [4]int{4, 1, 2, 0})
	mustSay(t, "some", said, saysHello(1, 2, 0, 2, 4), saysHello(1, 2, 1, 4), saysHello(1, 3, 0, 2, 4),
		saysHello(1, 4, 0, 2, 4), saysSum(1, 4, 0, nodeTold(0, 1, 2)), saysHello(1, 4, 1, 4))
}

// A sum has headers of its area and of Outside, in the order of the Ears.
func TestTicksSaySumsWhereBothHear(t *testing.T) {
	n := heardNode(t, midway(), 2, [2]int{1, 0}, [2]int{5, 2})
	n, _ = mustHear(t, "of another", n, saysNews(5, 2, 2, nodeTold(2, 4, 7, [2]int{5, 9}), farTold(3, 9, 7)))
	_, said := mustTick(t, "some", n)
	things := []impl.Record{withSeq(thingTold(2, 3, 5), 1), withSeq(farTold(2, 4, 6), 1), farTold(3, 9, 7)}
	mustSay(t, "some", said, saysHello(2, 1, 0, 1), saysSum(2, 1, 0, append([]impl.Record{nodeTold(0, 2, 2)}, things...)...),
		saysHello(2, 3, 1), saysHello(2, 5, 2, 5), saysSum(2, 5, 2, append([]impl.Record{nodeTold(2, 2, 2), nodeTold(2, 4, 7)}, things...)...))
	for _, p := range said {
		for _, r := range p.List {
			if !sameRecord(r, headerBy(r)) {
				t.Errorf("a sum tells %+v", r)
			}
		}
	}
}

// A node that can't renew, as a Seq would be too great, goes on otherwise.
func TestNodesThatCanNotRenew(t *testing.T) {
	full := nodeTold(0, 2, impl.MaxSeq, [2]int{1, 3})
	n := changedNode(func(n *impl.Node) { n.Self.Store = []impl.Record{full}; n.Ears[0].Left = 1 })
	next, said := mustTick(t, "a tick", n)
	mustHave(t, "a tick", next, [4]int{1, 0}, [4]int{3, 1}, [4]int{5, 2})
	mustKnow(t, "a tick", next, full)
	mustSay(t, "a tick", said, saysHello(2, 1, 0), saysHello(2, 3, 1), saysHello(2, 5, 2))
	next, said = mustHear(t, "a hello", n, saysHello(1, 2, 0))
	mustHave(t, "a hello", next, [4]int{1, 0, 3, 0}, [4]int{3, 1, 1, 0}, [4]int{5, 2})
	mustKnow(t, "a hello", next, full)
	mustSay(t, "a hello", said)
	n.Self.Heard, n.Ears[1].Both = []int{1, 0, 3, 1}, true
	other, thing := nodeTold(0, 1, 3, [2]int{2, 3}), thingTold(2, 9, 4)
	n.Self.Store = []impl.Record{withSeq(thingTold(2, 9, 3), 1), withSeq(thingTold(2, 3, 4), impl.MaxSeq)}
	n.Self.Store = inOrderOf(n.Self.Store)
	next, said = mustHear(t, "news", n, saysNews(1, 2, 0, other, thing))
	mustKnow(t, "news", next, other, n.Self.Store[0], thing)
	mustSay(t, "news", said, saysNews(2, 3, 1, thing))
	// No record goes into a Store that is full.
	n = changedNode(func(n *impl.Node) { n.Self.Store = othersOf(t, 2) })
	next, said = mustHear(t, "a full store", n, saysHello(3, 2, 1, 2))
	mustHave(t, "a full store", next, [4]int{1, 0, 2, 1}, [4]int{3, 1, 3, 1}, [4]int{5, 2})
	mustKnow(t, "a full store", next, othersOf(t, 2)...)
	mustSay(t, "a full store", said)
}

func TestHellosThatHearBothWaysAndOneWay(t *testing.T) {
	n := mustBeNewNode(t, "new", midway(), 2, 0)
	n, said := mustHear(t, "one way", n, saysHello(1, 2, 0))
	mustHave(t, "one way", n, [4]int{1, 0, 3, 0}, [4]int{3, 1}, [4]int{5, 2})
	mustSay(t, "one way", said)
	n, said = mustHear(t, "one way, others named", n, saysHello(1, 2, 0, 1, 3, 4, 5, 6))
	mustHave(t, "one way, others named", n, [4]int{1, 0, 3, 0}, [4]int{3, 1}, [4]int{5, 2})
	mustSay(t, "one way, others named", said)
	n, said = mustHear(t, "both ways", n, saysHello(1, 2, 0, 2))
	mustHave(t, "both ways", n, [4]int{1, 0, 3, 1}, [4]int{3, 1}, [4]int{5, 2})
	// It goes to who said it: what is new is of the node itself.
	mustSay(t, "both ways", said, saysNews(2, 1, 0, nodeTold(0, 2, 2, [2]int{1, 3})))
	n, said = mustHear(t, "both ways still", n, saysHello(1, 2, 0, 1, 2, 6))
	mustHave(t, "both ways still", n, [4]int{1, 0, 3, 1}, [4]int{3, 1}, [4]int{5, 2})
	mustSay(t, "both ways still", said)
	n, _ = mustTick(t, "a tick", n)
	n, said = mustHear(t, "both ways behind a tick", n, saysHello(1, 2, 0, 2))
	mustHave(t, "both ways behind a tick", n, [4]int{1, 0, 3, 1}, [4]int{3, 1}, [4]int{5, 2})
	mustSay(t, "both ways behind a tick", said)
	n, said = mustHear(t, "another, both ways", n, saysHello(3, 2, 1, 2, 5))
	mustHave(t, "another, both ways", n, [4]int{1, 0, 3, 1}, [4]int{3, 1, 3, 1}, [4]int{5, 2})
	mustSay(t, "another, both ways", said, saysNews(2, 3, 1, nodeTold(1, 2, 2, [2]int{3, 4})))
	// It goes on hearing who hears it no more: what was told of is withdrawn, and who
	// said it is told nothing.
	n, said = mustHear(t, "one way again", n, saysHello(1, 2, 0, 4))
	mustHave(t, "one way again", n, [4]int{1, 0, 3, 0}, [4]int{3, 1, 3, 1}, [4]int{5, 2})
	mustSay(t, "one way again", said)
	if r, _ := impl.Find(n.Self.Store, nodeTold(0, 2, 0)); !sameRecord(r, nodeTold(0, 2, 3)) {
		t.Errorf("one way again: told is %+v", r)
	}
	n, said = mustHear(t, "the last one, one way", n, saysHello(3, 2, 1))
	mustHave(t, "the last one, one way", n, [4]int{1, 0, 3, 0}, [4]int{3, 1, 3, 0}, [4]int{5, 2})
	mustSay(t, "the last one, one way", said)
}

// What a hello makes new goes to each Ear with Both, as far as it is of its area or
// Outside.
func TestHellosTellEachEarWhatIsNewOfItsArea(t *testing.T) {
	n := changedNode(func(n *impl.Node) {
		hearAll(n, 2, true)
		n.Self.Boot = 0
		n.Self.Store = storeOf(t, inArea(0, [3]int{1, 2, 3}, [3]int{1, 4, 1}), inArea(1, [3]int{2, 3, 4}), inArea(2, [3]int{2, 5, 6}))
	})
	things := []impl.Record{withSeq(thingTold(2, 3, 5), 1), withSeq(farTold(2, 4, 6), 1)}
	first := func(area, key, cost int) impl.Record { return withSeq(beyondTold(area, 2, key, cost), 1) }
	_, said := mustHear(t, "all are there", n, saysHello(3, 2, 1, 2))
	mustSay(t, "all are there", said,
		saysNews(2, 1, 0, append([]impl.Record{first(0, 3, 4), first(0, 5, 6)}, things...)...),
		saysNews(2, 3, 1, append([]impl.Record{first(1, 1, 3), first(1, 4, 4), first(1, 5, 6)}, things...)...),
		saysNews(2, 5, 2, append([]impl.Record{first(2, 1, 3), first(2, 3, 4), first(2, 4, 4)}, things...)...))
	old, _ := impl.Find(n.Self.Store, nodeTold(1, 2, 0))
	_, said = mustHear(t, "one falls away", n, saysHello(3, 2, 1, 1, 3))
	mustSay(t, "one falls away", said,
		saysNews(2, 1, 0, append([]impl.Record{first(0, 5, 6)}, things...)...),
		saysNews(2, 5, 2, append([]impl.Record{first(2, 1, 3), first(2, 4, 4)}, things...)...))
	n, _ = mustHear(t, "one falls away", n, saysHello(3, 2, 1, 1, 3))
	if r, _ := impl.Find(n.Self.Store, old); !sameRecord(r, nodeTold(1, 2, old.Seq+1)) {
		t.Errorf("one falls away: told is %+v", r)
	}
}

// One neighbour in two areas has two Ears, each of which hears by itself.
func TestHellosOfOneNodeInTwoAreas(t *testing.T) {
	net := rightNets["two nodes in two areas"]
	n := mustBeNewNode(t, "new", net, 1, 0)
	n, said := mustHear(t, "area 2", n, saysHello(2, 1, 2, 1))
	mustHave(t, "area 2", n, [4]int{2, 0}, [4]int{2, 2, 3, 1})
	mustSay(t, "area 2", said, saysNews(1, 2, 2, nodeTold(2, 1, 2, [2]int{2, 3})))
	mustStayAsItIs(t, "a sum of area 0", n, saysSum(2, 1, 0, nodeTold(0, 2, 4)))
	mustStayAsItIs(t, "news of area 0", n, saysNews(2, 1, 0, nodeTold(0, 2, 4)))
	mustStayAsItIs(t, "a hello of area 1", n, saysHello(2, 1, 1, 1))
	n, said = mustTick(t, "a tick", n)
	mustHave(t, "a tick", n, [4]int{2, 0}, [4]int{2, 2, 2, 1})
	mustSay(t, "a tick", said, saysHello(1, 2, 0), saysHello(1, 2, 2, 2), saysSum(1, 2, 2, nodeTold(2, 1, 2)))
	n, said = mustHear(t, "area 0", n, saysHello(2, 1, 0, 1))
	mustHave(t, "area 0", n, [4]int{2, 0, 3, 1}, [4]int{2, 2, 2, 1})
	mustSay(t, "area 0", said, saysNews(1, 2, 0, nodeTold(0, 1, 2, [2]int{2, 7})))
	// What is Outside goes to the same node by its other Ear.
	thing := thingTold(2, 4, 5)
	n, said = mustHear(t, "news of a thing", n, saysNews(2, 1, 0, thing))
	mustSay(t, "news of a thing", said, saysNews(1, 2, 2, thing))
	// It is a border: the way in one area is told of in the other, as there is none
	// there yet.
	n, said = mustHear(t, "news of a way", n, saysNews(2, 1, 0, nodeTold(0, 2, 4, [2]int{1, 7})))
	mustSay(t, "news of a way", said, saysNews(1, 2, 2, withSeq(beyondTold(2, 1, 2, 7), 1)))
	n, said = mustHear(t, "area 2, one way", n, saysHello(2, 1, 2, 2))
	mustHave(t, "area 2, one way", n, [4]int{2, 0, 3, 1}, [4]int{2, 2, 3, 0})
	mustSay(t, "area 2, one way", said)
	n, said = mustHear(t, "area 0, one way", n, saysHello(2, 1, 0))
	mustHave(t, "area 0, one way", n, [4]int{2, 0, 3, 0}, [4]int{2, 2, 3, 0})
	mustSay(t, "area 0, one way", said)
}

func TestPacketsThatANodeDoesNotHear(t *testing.T) {
	n := heardNode(t, midway(), 2, [2]int{1, 0})
	n, _ = mustHear(t, "one way", n, saysHello(3, 2, 1))
	r := nodeTold(0, 1, 9, [2]int{2, 3})
	for _, p := range []impl.Packet{saysHello(1, 2, 0), saysSum(1, 2, 0, r), saysNews(1, 2, 0, r)} {
		if next, said := mustHear(t, "heard", n, p); sameNode(next, n) && len(said) == 0 {
			t.Errorf("not heard: %+v", p)
		}
		for name, change := range map[string]func(p *impl.Packet){
			"to another":             func(p *impl.Packet) { p.To = 3 },
			"to who says it":         func(p *impl.Packet) { p.To = 1 },
			"to nobody":              func(p *impl.Packet) { p.To = 0 },
			"to one above":           func(p *impl.Packet) { p.To = 7 },
			"from itself":            func(p *impl.Packet) { p.From = 2 },
			"from nobody":            func(p *impl.Packet) { p.From = 0 },
			"from no neighbour":      func(p *impl.Packet) { p.From = 4 },
			"from no node of it":     func(p *impl.Packet) { p.From = 6 },
			"turned about":           func(p *impl.Packet) { p.From, p.To = p.To, p.From },
			"of another area":        func(p *impl.Packet) { p.Area, p.List = 1, nil },
			"of an area that is not": func(p *impl.Packet) { p.Area, p.List = 3, nil },
			"from another there":     func(p *impl.Packet) { p.From = 5 },
			"of no kind":             func(p *impl.Packet) { p.Kind = 0 },
			"of no kind above":       func(p *impl.Packet) { p.Kind = 4 },
			"Heard out of order":     func(p *impl.Packet) { p.Heard = []int{3, 2} },
			"Heard that is nobody":   func(p *impl.Packet) { p.Heard = []int{2, 7} },
			"one twice":              func(p *impl.Packet) { p.List = []impl.Record{headerBy(r), headerBy(r)} },
			"a record of area 1":     func(p *impl.Packet) { p.List = []impl.Record{nodeTold(1, 3, 9)} },
			"a record without Seq":   func(p *impl.Packet) { p.List = []impl.Record{nodeTold(0, 1, 0)} },
		} {
			mustStayAsItIs(t, name, n, morePacket(p, change))
		}
	}
	mustStayAsItIs(t, "a sum that tells", n, impl.Packet{Kind: impl.SaySum, From: 1, To: 2, List: []impl.Record{r}})
	mustStayAsItIs(t, "a hello with news", n, impl.Packet{Kind: impl.SayHello, From: 1, To: 2, Heard: []int{2}, List: []impl.Record{r}})
	mustStayAsItIs(t, "news with a hello", n, impl.Packet{Kind: impl.SayNews, From: 1, To: 2, Heard: []int{2}, List: []impl.Record{r}})
	mustStayAsItIs(t, "nothing", n, impl.Packet{})
	// An Ear that hears one way, and one that does not hear.
	for _, end := range [][2]int{{3, 1}, {5, 2}} {
		node, area := end[0], end[1]
		mustStayAsItIs(t, "an empty sum", n, saysSum(node, 2, area))
		mustStayAsItIs(t, "a sum", n, saysSum(node, 2, area, nodeTold(area, node, 9)))
		mustStayAsItIs(t, "empty news", n, saysNews(node, 2, area))
		mustStayAsItIs(t, "news", n, saysNews(node, 2, area, nodeTold(area, node, 9, [2]int{2, 4}), thingTold(node, 1, 5)))
		mustStayAsItIs(t, "news of its own", n, saysNews(node, 2, area, nodeTold(area, 2, 9)))
	}
}

func TestSumsAreAnswered(t *testing.T) {
	n := heardNode(t, midway(), 2, [2]int{1, 0}, [2]int{3, 1})
	own := impl.Scope(n.Self.Store, 0)
	if !sameRecords(own, []impl.Record{nodeTold(0, 2, 2, [2]int{1, 3}), withSeq(thingTold(2, 3, 5), 1), withSeq(farTold(2, 4, 6), 1)}) {
		t.Fatalf("of area 0 it knows %+v", own)
	}
	other, thing := nodeTold(0, 1, 4), thingTold(3, 9, 7)
	sum, news := saysSum(2, 1, 0, own...), func(list ...impl.Record) impl.Packet { return saysNews(2, 1, 0, list...) }
	for name, c := range map[string]struct {
		list []impl.Record
		want []impl.Packet
	}{
		"just the same":                  {own, nil},
		"nothing":                        {nil, []impl.Packet{news(own...)}},
		"one is lacking":                 {own[1:], []impl.Packet{news(own[0])}},
		"one is older":                   {[]impl.Record{withSeq(own[0], 1), own[1], own[2]}, []impl.Packet{news(own[0])}},
		"all but one are lacking":        {own[1:2], []impl.Packet{news(own[0], own[2])}},
		"one newer":                      {[]impl.Record{withSeq(own[0], 3), own[1], own[2]}, []impl.Packet{sum}},
		"one that it lacks":              {append([]impl.Record{other}, own...), []impl.Packet{sum}},
		"a thing that it lacks":          {append(slices.Clone(own), thing), []impl.Packet{sum}},
		"another, and nothing else":      {[]impl.Record{other}, []impl.Packet{news(own...), sum}},
		"one newer, one older":           {[]impl.Record{withSeq(own[0], 1), withSeq(own[1], 2), own[2]}, []impl.Packet{news(own[0]), sum}},
		"one newer, one lacking":         {[]impl.Record{withSeq(own[0], 3), own[1]}, []impl.Packet{news(own[2]), sum}},
		"the newest that there can be":   {[]impl.Record{withSeq(own[0], impl.MaxSeq), own[1], own[2]}, []impl.Packet{sum}},
		"all of it newer, and some more": {[]impl.Record{other, withSeq(own[0], 3), withSeq(own[1], 2), withSeq(own[2], 2), thing}, []impl.Packet{sum}},
	} {
		next, said := mustHear(t, name, n, saysSum(1, 2, 0, c.list...))
		mustSay(t, name, said, c.want...)
		if !sameNode(next, n) {
			t.Errorf("%s: it is %+v; want %+v as it is", name, next, n)
		}
	}
	// A sum is answered by what is known, and nothing is renewed with it.
	n.Self.Store = []impl.Record{other}
	next, said := mustHear(t, "what is not told yet", n, saysSum(1, 2, 0))
	mustSay(t, "what is not told yet", said, news(other))
	if !sameNode(next, n) {
		t.Errorf("what is not told yet: it is %+v; want %+v as it is", next, n)
	}
	n.Self.Store = nil
	_, said = mustHear(t, "who knows nothing", n, saysSum(1, 2, 0))
	mustSay(t, "who knows nothing", said)
	_, said = mustHear(t, "who knows nothing, of something", n, saysSum(1, 2, 0, other))
	mustSay(t, "who knows nothing, of something", said, saysSum(2, 1, 0))
}

func TestNewsGoOn(t *testing.T) {
	net := impl.Net{N: 5, Links: linksOf([][4]int{{1, 2, 1, 1}, {2, 3, 1, 1}, {2, 4, 1, 1}, {2, 5, 1, 2}})}
	n := heardNode(t, net, 2, [2]int{1, 1}, [2]int{3, 1}, [2]int{5, 2})
	n, _ = mustHear(t, "one way", n, saysHello(4, 2, 1))
	a, b, thing := nodeTold(1, 1, 4, [2]int{2, 1}), nodeTold(1, 6, 5), thingTold(6, 8, 3)
	next, said := mustHear(t, "all are new", n, saysNews(1, 2, 1, a, b, thing))
	mustSay(t, "all are new", said, saysNews(2, 3, 1, a, b, thing), saysNews(2, 5, 2, thing))
	mustKnow(t, "all are new", next, inOrderOf(append(slices.Clone(n.Self.Store), a, b, thing))...)
	again, said := mustHear(t, "again", next, saysNews(1, 2, 1, a, b, thing))
	mustSay(t, "again", said)
	if !sameNode(again, next) {
		t.Errorf("again: %+v; want %+v", again, next)
	}
	newer := withSeq(b, 6)
	_, said = mustHear(t, "some are new", next, saysNews(3, 2, 1, withSeq(a, 3), newer, thing))
	mustSay(t, "some are new", said, saysNews(2, 1, 1, newer))
	_, said = mustHear(t, "the last is new", next, saysNews(5, 2, 2, withSeq(thing, 4)))
	mustSay(t, "the last is new", said, saysNews(2, 1, 1, withSeq(thing, 4)), saysNews(2, 3, 1, withSeq(thing, 4)))
	other := nodeTold(2, 6, 7)
	next, said = mustHear(t, "of an area that none else has", next, saysNews(5, 2, 2, other))
	mustSay(t, "of an area that none else has", said)
	if _, has := impl.Find(next.Self.Store, other); !has {
		t.Errorf("not learnt: %+v", other)
	}
	_, said = mustHear(t, "nothing at all", next, saysNews(5, 2, 2))
	mustSay(t, "nothing at all", said)
}

// What comes with news of a node's own is renewed, and that goes back, too.
func TestNewsOfANodesOwn(t *testing.T) {
	net := impl.Net{N: 4, Links: linksOf([][4]int{{1, 2, 1, 1}, {2, 3, 1, 1}}), Things: thingsOf([][4]int{{2, 5, 6, 0}})}
	n := heardNode(t, net, 2, [2]int{1, 1}, [2]int{3, 1})
	own, thing := nodeTold(1, 2, 3, [2]int{1, 1}, [2]int{3, 1}), withSeq(thingTold(2, 5, 6), 1)
	mustKnow(t, "at first", n, own, thing)
	_, said := mustHear(t, "older, another body", n, saysNews(1, 2, 1, nodeTold(1, 2, 2, [2]int{4, 9})))
	mustSay(t, "older, another body", said)
	_, said = mustHear(t, "as new, another body", n, saysNews(1, 2, 1, nodeTold(1, 2, 3, [2]int{4, 9})))
	mustSay(t, "as new, another body", said)
	// What is wanted still goes on to the others alone.
	next, said := mustHear(t, "newer, the same body", n, saysNews(1, 2, 1, withSeq(own, 8)))
	mustSay(t, "newer, the same body", said, saysNews(2, 3, 1, withSeq(own, 8)))
	mustKnow(t, "newer, the same body", next, withSeq(own, 8), thing)
	next, said = mustHear(t, "newer, another body", n, saysNews(1, 2, 1, nodeTold(1, 2, 8, [2]int{4, 9})))
	mustSay(t, "newer, another body", said, saysNews(2, 1, 1, withSeq(own, 9)), saysNews(2, 3, 1, withSeq(own, 9)))
	mustKnow(t, "newer, another body", next, withSeq(own, 9), thing)
	gone, other := withSeq(thingTold(2, 7, 2), 4), nodeTold(1, 4, 5)
	next, said = mustHear(t, "wanted no more", n, saysNews(3, 2, 1, other, gone))
	withdrawn := withSeq(thingTold(2, 7, impl.Infinite), 5)
	mustSay(t, "wanted no more", said, saysNews(2, 1, 1, other, withdrawn), saysNews(2, 3, 1, withdrawn))
	mustKnow(t, "wanted no more", next, own, other, thing, withdrawn)
	_, said = mustHear(t, "withdrawn already", n, saysNews(3, 2, 1, withSeq(withdrawn, 8)))
	mustSay(t, "withdrawn already", said, saysNews(2, 1, 1, withSeq(withdrawn, 8)))
	_, said = mustHear(t, "at MaxSeq", n, saysNews(3, 2, 1, other, withSeq(gone, impl.MaxSeq)))
	mustSay(t, "at MaxSeq", said, saysNews(2, 1, 1, other, withSeq(gone, impl.MaxSeq)))
	_, said = mustHear(t, "one below MaxSeq", n, saysNews(3, 2, 1, withSeq(gone, impl.MaxSeq-1)))
	mustSay(t, "one below MaxSeq", said, saysNews(2, 1, 1, withSeq(withdrawn, impl.MaxSeq)), saysNews(2, 3, 1, withSeq(withdrawn, impl.MaxSeq)))
}

// At a border news of one area make what is told into the others.
func TestNewsThatMakeABorderRenew(t *testing.T) {
	n := heardNode(t, midway(), 2, [2]int{1, 0}, [2]int{3, 1}, [2]int{5, 2})
	first := nodeTold(0, 1, 4, [2]int{2, 3})
	told := func(area, cost, seq int) impl.Record { return withSeq(beyondTold(area, 2, 1, cost), seq) }
	n, said := mustHear(t, "it hears back", n, saysNews(1, 2, 0, first))
	mustSay(t, "it hears back", said, saysNews(2, 3, 1, told(1, 3, 1)), saysNews(2, 5, 2, told(2, 3, 1)))
	n, said = mustHear(t, "it hears no more", n, saysNews(1, 2, 0, nodeTold(0, 1, 5)))
	mustSay(t, "it hears no more", said, saysNews(2, 3, 1, told(1, impl.Infinite, 2)), saysNews(2, 5, 2, told(2, impl.Infinite, 2)))
	// Of area 1 comes a record with the key that is renewed, and one beside it: the
	// renewed one counts, and what was learnt stands in its place.
	thing := thingTold(1, 9, 4)
	n, said = mustHear(t, "of what it tells itself", n, saysNews(3, 2, 1, beyondTold(1, 1, 6, 7), withSeq(told(1, 3, 1), 7), beyondTold(1, 3, 6, 7), thing))
	mustSay(t, "of what it tells itself", said, saysNews(2, 1, 0, thing), saysNews(2, 3, 1, told(1, impl.Infinite, 8)), saysNews(2, 5, 2, thing))
	n, said = mustHear(t, "it hears back again", n, saysNews(1, 2, 0, withSeq(first, 6), nodeTold(0, 4, 1)))
	mustSay(t, "it hears back again", said, saysNews(2, 3, 1, told(1, 3, 9)), saysNews(2, 5, 2, told(2, 3, 3)))
	if !impl.NodeOk(n) {
		t.Errorf("not right: %+v", n)
	}
}

// A node that has told nothing yet does so with news of which nothing is new.
func TestNewsToANodeThatHasToldNothing(t *testing.T) {
	net := impl.Net{N: 3, Links: linksOf([][4]int{{1, 2, 1, 1}, {2, 3, 1, 1}})}
	n := heardNode(t, net, 2, [2]int{1, 1}, [2]int{3, 1})
	n.Self.Store = nil
	own := nodeTold(1, 2, 1, [2]int{1, 1}, [2]int{3, 1})
	next, said := mustHear(t, "empty news", n, saysNews(1, 2, 1))
	mustSay(t, "empty news", said, saysNews(2, 1, 1, own), saysNews(2, 3, 1, own))
	mustKnow(t, "empty news", next, own)
	other, behind := nodeTold(1, 1, 4, [2]int{2, 1}), nodeTold(1, 3, 4)
	_, said = mustHear(t, "news about it", n, saysNews(1, 2, 1, other, behind))
	mustSay(t, "news about it", said, saysNews(2, 1, 1, own), saysNews(2, 3, 1, other, own, behind))
}

// What a full Store does not take does not go on.
func TestNewsAtMaxStore(t *testing.T) {
	net := impl.Net{N: 3, Links: linksOf([][4]int{{1, 2, 1, 1}, {2, 3, 1, 1}})}
	base := heardNode(t, net, 2, [2]int{1, 1}, [2]int{3, 1})
	spare := slices.DeleteFunc(othersOf(t, 2), func(r impl.Record) bool { return r.Area != 1 || r.Kind != impl.KindBeyond })[:4]
	rest := slices.DeleteFunc(othersOf(t, 2), func(r impl.Record) bool {
		return slices.ContainsFunc(spare, func(s impl.Record) bool { return impl.SameKey(r, s) })
	})
	for room := range 4 {
		n := copyNode(base)
		more := slices.DeleteFunc(eachKey(2), func(r impl.Record) bool { return r.Owner != 2 || r.Kind == impl.KindNode })
		for at := range more {
			more[at].Cost = impl.Infinite
		}
		n.Self.Store = storeOf(t, base.Self.Store, rest, more[:impl.MaxStore-room-len(base.Self.Store)-len(rest)])
		_, said := mustHear(t, "room", n, saysNews(1, 2, 1, spare...))
		if room == 0 {
			mustSay(t, "no room", said)
		} else {
			mustSay(t, fmt.Sprint("room for ", room), said, saysNews(2, 3, 1, spare[:room]...))
		}
	}
}

// roomyNode is a node with spare room behind each of its lists, and all that lies
// there.
type roomyNode struct {
	self roomySelf
	ears []impl.Ear
	node impl.Node
}

func roomyNodeOf(n impl.Node) roomyNode {
	r := roomyNode{self: roomyOf(n.Self), ears: append(slices.Clone(n.Ears), impl.Ear{Node: 85}, impl.Ear{Node: 86, Both: true})}
	r.node = impl.Node{Self: r.self.self, Ears: r.ears[:len(n.Ears)]}
	return r
}

func (r roomyNode) mustBeLike(t *testing.T, name string, n impl.Node) {
	t.Helper()
	if fresh := roomyNodeOf(n); !slices.Equal(r.ears, fresh.ears) {
		t.Fatalf("%s: an argument was written into: %+v; want %+v", name, r.ears, fresh.ears)
	}
	r.self.mustBeLike(t, name, n.Self)
}

func overwriteNode(n impl.Node) {
	overwriteSelf(n.Self)
	ears := n.Ears[:cap(n.Ears)]
	for at := range ears {
		ears[at] = impl.Ear{Node: -99}
	}
}

func overwritePackets(list []impl.Packet) {
	for _, p := range list {
		overwritePacket(p)
	}
	list = list[:cap(list)]
	for at := range list {
		list[at] = impl.Packet{Kind: -99}
	}
}

// placesOf are where a list's elements lie, those in its spare room too.
func placesOf[T any](list []T) []any {
	var places []any
	for at := range list[:cap(list)] {
		places = append(places, &list[:cap(list)][at])
	}
	return places
}

func placesOfRecords(list []impl.Record) []any {
	places := placesOf(list)
	for _, r := range list {
		places = append(places, placesOf(r.Near)...)
	}
	return places
}

// mustBeAllApart holds that no two lists of one answer share memory.
func mustBeAllApart(t *testing.T, name string, n impl.Node, said []impl.Packet) {
	t.Helper()
	places := slices.Concat(placesOf(n.Self.Net.Links), placesOf(n.Self.Net.Things), placesOf(n.Self.Heard),
		placesOfRecords(n.Self.Store), placesOf(n.Ears), placesOf(said))
	for _, p := range said {
		places = append(places, placesOf(p.Heard)...)
		places = append(places, placesOfRecords(p.List)...)
	}
	seen := map[any]bool{}
	for _, place := range places {
		if seen[place] {
			t.Fatalf("%s: two lists of one answer share memory: %+v, %+v", name, n, said)
		}
		seen[place] = true
	}
}

// nodeCalls are all that answer of a node.
func nodeCalls(p impl.Packet) map[string]func(n impl.Node) (impl.Node, []impl.Packet) {
	return map[string]func(n impl.Node) (impl.Node, []impl.Packet){
		"NodeOk":   func(n impl.Node) (impl.Node, []impl.Packet) { impl.NodeOk(n); return impl.Node{}, nil },
		"TickNode": impl.TickNode,
		"HearNode": func(n impl.Node) (impl.Node, []impl.Packet) { return impl.HearNode(n, p) },
		"NodeNew": func(n impl.Node) (impl.Node, []impl.Packet) {
			fresh, _ := impl.NodeNew(n.Self.Net, n.Self.Id, n.Self.Boot)
			return fresh, nil
		},
	}
}

// mustStayNode writes over one answer, and looks whether another one to the same
// question stays as it is.
func mustStayNode(t *testing.T, name string, ask func() (impl.Node, []impl.Packet)) {
	t.Helper()
	first, firstSaid := ask()
	n, said := ask()
	mustBeAllApart(t, name, n, said)
	kept := copyNode(n)
	var keptSaid []impl.Packet
	for _, p := range said {
		keptSaid = append(keptSaid, copyPacket(p))
	}
	overwriteNode(first)
	overwritePackets(firstSaid)
	if !sameNode(n, kept) || !samePackets(said, keptSaid) {
		t.Fatalf("%s: two answers share memory: %+v, %+v; want %+v, %+v", name, n, said, kept, keptSaid)
	}
	overwriteNode(n)
	overwritePackets(said)
	if third, more := ask(); !sameNode(third, kept) || !samePackets(more, keptSaid) {
		t.Fatalf("%s: asked again, it is %+v, %+v; want %+v, %+v", name, third, more, kept, keptSaid)
	}
}

func mustLeaveAlone(t *testing.T, n impl.Node, p impl.Packet) {
	t.Helper()
	node, packet := roomyNodeOf(n), roomyPacketOf(p)
	for name, call := range nodeCalls(packet.packet) {
		mustStayNode(t, name, func() (impl.Node, []impl.Packet) { return call(node.node) })
		node.mustBeLike(t, name, n)
		packet.mustBeLike(t, name, p)
	}
	mustStayRoutes(t, func() []impl.Route { return impl.Routes(node.node) })
	node.mustBeLike(t, "Routes", n)
}

func TestNodesLeaveTheirArgumentsAlone(t *testing.T) {
	for number := range 250 {
		d := &draws{state: number}
		n := drawnNode(t, number)
		mustLeaveAlone(t, n, packetFor(t, n, d))
		mustLeaveAlone(t, n, misplaced(packetFor(t, n, d), d))
	}
	hello := saysHello(1, 2, 0, 2)
	news := saysNews(1, 2, 0, nodeTold(0, 1, 9, [2]int{2, 3}), nodeTold(0, 2, 9), thingTold(1, 4, 5))
	for _, n := range wrongNodes() {
		if len(n.Ears)+len(n.Self.Heard)+len(n.Self.Net.Links)+len(n.Self.Net.Things) < 100 {
			mustLeaveAlone(t, n, hello)
			mustLeaveAlone(t, n, news)
		}
	}
	two := heardNode(t, midway(), 2, [2]int{1, 0}, [2]int{3, 1}, [2]int{5, 2})
	for _, p := range []impl.Packet{hello, news, saysSum(1, 2, 0, nodeTold(0, 1, 9)), saysNews(1, 2, 0), saysHello(3, 2, 1), {}} {
		mustLeaveAlone(t, two, p)
		mustLeaveAlone(t, mustBeNewNode(t, "new", midway(), 2, 0), p)
	}
}

// Records that are handed in with one Near among them come back each with one of its
// own, also where the node is answered as it is.
func TestNodesPartWhatRecordsShare(t *testing.T) {
	near := nearOf([2]int{5, 1}, [2]int{6, 2})
	shared := func(owner, seq int) impl.Record {
		return impl.Record{Kind: impl.KindNode, Owner: owner, Seq: seq, Near: near}
	}
	n := heardNode(t, midway(), 2, [2]int{1, 0}, [2]int{3, 1})
	n.Self.Store = []impl.Record{shared(1, 3), shared(2, 3), shared(3, 3), {Kind: impl.KindBeyond, Owner: 4, Key: 1, Seq: 3, Cost: 5, Near: near[:0]}}
	p := impl.Packet{Kind: impl.SayNews, From: 1, To: 2, List: []impl.Record{shared(1, 4), shared(2, 4), shared(4, 4), {Kind: impl.KindBeyond, Owner: 4, Key: 1, Seq: 4, Cost: 5, Near: near[:0]}}}
	wrong := n
	wrong.Ears = n.Ears[1:]
	to := p
	to.To = 3
	for name, ask := range map[string]func() (impl.Node, []impl.Packet){
		"news":              func() (impl.Node, []impl.Packet) { return impl.HearNode(n, p) },
		"a sum":             func() (impl.Node, []impl.Packet) { return impl.HearNode(n, saysSum(1, 2, 0)) },
		"a hello":           func() (impl.Node, []impl.Packet) { return impl.HearNode(n, saysHello(1, 2, 0)) },
		"a tick":            func() (impl.Node, []impl.Packet) { return impl.TickNode(n) },
		"as it is":          func() (impl.Node, []impl.Packet) { return impl.HearNode(n, to) },
		"not right":         func() (impl.Node, []impl.Packet) { return impl.HearNode(wrong, p) },
		"not right, a tick": func() (impl.Node, []impl.Packet) { return impl.TickNode(wrong) },
	} {
		mustStayNode(t, name, ask)
		if !slices.Equal(near, nearOf([2]int{5, 1}, [2]int{6, 2})) {
			t.Fatalf("%s: the Near that was handed in is now %v", name, near)
		}
	}
}

// A node that is handed in is not kept: asked in turns, two nodes stay apart, and
// from several sides at once each answers for itself.
func TestNodesKeepNothing(t *testing.T) {
	a, b := drawnNode(t, 4), drawnNode(t, 5)
	p, q := packetFor(t, a, &draws{state: 1}), packetFor(t, b, &draws{state: 2})
	first, firstSaid := impl.HearNode(a, p)
	done := make(chan bool)
	for range 8 {
		go func() {
			same := true
			for range 50 {
				n, said := impl.HearNode(a, p)
				same = same && sameNode(n, first) && samePackets(said, firstSaid)
				impl.HearNode(b, q)
				impl.TickNode(b)
			}
			done <- same
		}()
	}
	for range 8 {
		if !<-done {
			t.Error("another answer to the same question")
		}
	}
}

func TestNodesAnswerWhateverComes(t *testing.T) {
	odd := []int{math.MinInt, -1, 0, 1, 2, 3, 4, math.MaxInt}
	for _, a := range odd {
		for _, b := range odd {
			for _, both := range []bool{false, true} {
				n := changedNode(func(n *impl.Node) {
					n.Ears = append(n.Ears[:1], impl.Ear{Node: a, Area: b, Left: 1, Both: both}, n.Ears[2])
				})
				mustTick(t, "an odd Ear", n)
				m := changedNode(func(n *impl.Node) { n.Ears[1].Left, n.Ears[1].Both, n.Self.Heard = a, both, []int{1, 0, 3, b} })
				mustTick(t, "odd numbers", m)
				for _, p := range []impl.Packet{saysHello(a, b, 0), saysHello(1, 2, a, b), {Kind: a, From: 1, To: 2, Area: b}, saysHello(3, 2, 1, 2), saysNews(3, 2, 1)} {
					mustHear(t, "an odd Ear", n, p)
					mustHear(t, "odd numbers", m, p)
					mustHear(t, "an odd packet", changedNode(func(n *impl.Node) {}), p)
				}
			}
		}
	}
}
