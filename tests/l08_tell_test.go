package tests

import (
	"fmt"
	"math"
	"slices"
	"testing"

	"loop.example/g00177/impl"
)

func keyOf(r impl.Record) [4]int {
	return [4]int{r.Area, r.Kind, r.Owner, r.Key}
}

// inOrderOf are these, ahead of one another; of right keys alone, each once.
func inOrderOf(list []impl.Record) []impl.Record {
	return newestOf(list)
}

func sameSelf(a, b impl.Self) bool {
	return a.Id == b.Id && a.Boot == b.Boot && a.Net.N == b.Net.N && slices.Equal(a.Net.Links, b.Net.Links) &&
		slices.Equal(a.Net.Things, b.Net.Things) && slices.Equal(a.Heard, b.Heard) && sameRecords(a.Store, b.Store)
}

// withStore is a node that knows something else.
func withStore(x impl.Self, s []impl.Record) impl.Self {
	x.Store = s
	return x
}

// hears asks whether a node is among those that x hears in an area.
func hears(x impl.Self, node, area int) bool {
	for at := 0; at < len(x.Heard); at += 2 {
		if x.Heard[at] == node && x.Heard[at+1] == area {
			return true
		}
	}
	return false
}

// wantedBy is what the document's words make of a right node, found in another
// manner: by tables of costs, and ways that are all gone through.
func wantedBy(x impl.Self) []impl.Record {
	var areas []int
	var list []impl.Record
	table := costs(x.Net)
	for area := range impl.MaxArea + 1 {
		r := impl.Record{Area: area, Kind: impl.KindNode, Owner: x.Id}
		links := 0
		for to := 1; to <= x.Net.N; to++ {
			links += table[x.Id][to][area]
			if hears(x, to, area) {
				r.Near = append(r.Near, impl.Near{To: to, Cost: table[x.Id][to][area]})
			}
		}
		if links > 0 {
			areas = append(areas, area)
			list = append(list, r)
		}
	}
	toBe := deepCopy(list)
	for _, r := range x.Store {
		if r.Owner != x.Id || r.Kind != impl.KindNode {
			toBe = append(toBe, r)
		}
	}
	if len(areas) > 1 && areas[0] == 0 && len(toBe) <= impl.MaxStore {
		k := knownOf(toBe)
		for _, area := range areas {
			list = append(list, k.told(areas, x.Id, area)...)
		}
	}
	for _, thing := range x.Net.Things {
		if thing.Owner == x.Id {
			list = append(list, impl.Record{Area: impl.Outside, Kind: impl.KindThing, Owner: x.Id, Key: thing.Key, Cost: thing.Cost, Far: thing.Far})
		}
	}
	return inOrderOf(list)
}

func sameBody(a, b impl.Record) bool {
	return sameRecord(withSeq(a, 0), withSeq(b, 0))
}

// isWithdrawn is a record that tells of nothing.
func isWithdrawn(r impl.Record) bool {
	if r.Kind == impl.KindNode {
		return len(r.Near) == 0
	}
	return r.Cost == impl.Infinite
}

// renewedBy goes key by key, by the document's words, in a right node: its Store
// behind that, and what is new in it.
func renewedBy(x impl.Self) (store, news []impl.Record) {
	wanted, has := map[[4]int]impl.Record{}, map[[4]int]impl.Record{}
	for _, r := range wantedBy(x) {
		wanted[keyOf(r)] = r
	}
	for _, r := range x.Store {
		has[keyOf(r)] = r
	}
	for _, one := range eachKey(1) {
		key := keyOf(one)
		r, isWanted := wanted[key]
		old, isThere := has[key]
		switch {
		case !isWanted && (!isThere || old.Owner != x.Id || isWithdrawn(old)):
			r = old
		case isWanted && isThere && sameBody(old, r):
			r = old
		default:
			if !isWanted {
				r = with(old, func(r *impl.Record) { r.Near = nil })
			}
			if !isWanted && old.Kind != impl.KindNode {
				r.Cost = impl.Infinite
			}
			r.Seq = max(old.Seq+1, 1000*x.Boot+1)
			news = append(news, r)
		}
		if r.Seq > impl.MaxSeq {
			return x.Store, nil
		}
		if r.Seq > 0 {
			store = append(store, r)
		}
	}
	if len(store) > impl.MaxStore {
		return x.Store, nil
	}
	return store, news
}

// mustTellAll holds Wanted and Renew of a right node against the document's words.
func mustTellAll(t *testing.T, name string, x impl.Self) (impl.Self, []impl.Record) {
	t.Helper()
	if !impl.SelfOk(x) {
		t.Fatalf("%s: not right: %+v", name, x)
	}
	if got, want := impl.Wanted(x), wantedBy(x); !sameRecords(got, want) {
		t.Fatalf("%s: Wanted(%+v) = %+v; want %+v", name, x, got, want)
	}
	y, news := impl.Renew(x)
	store, want := renewedBy(x)
	if !sameSelf(y, withStore(x, store)) || !sameRecords(news, want) {
		t.Fatalf("%s: Renew(%+v) = %+v, %+v; want the Store %+v and %+v", name, x, y, news, store, want)
	}
	return y, news
}

// mustBeRenewed holds promise 8 against Wanted alone: it is for a node of whose
// Seqs none would be too great, and whose Store takes all.
func mustBeRenewed(t *testing.T, x impl.Self) {
	t.Helper()
	y, news := impl.Renew(x)
	wanted := impl.Wanted(x)
	if !impl.SelfOk(y) || !sameRecords(impl.Wanted(y), wanted) {
		t.Fatalf("%+v: renewed it is %+v, and wants %+v instead of %+v", x, y, impl.Wanted(y), wanted)
	}
	for at, r := range news {
		w, isWanted := impl.Find(wanted, r)
		old, isThere := impl.Find(x.Store, r)
		if r.Owner != x.Id || isWanted && !impl.SameBody(r, w) || !isWanted && !(isThere && isWithdrawn(r)) {
			t.Fatalf("%+v: new is %+v; wanted is %+v", x, r, w)
		}
		if isThere && (impl.SameBody(r, old) || r.Seq <= old.Seq) || at > 0 && !impl.Before(news[at-1], r) {
			t.Fatalf("%+v: new is %+v behind %+v", x, r, old)
		}
	}
	for _, w := range wanted {
		if r, ok := impl.Find(y.Store, w); !ok || !impl.SameBody(r, w) || w.Seq != 0 {
			t.Fatalf("%+v: wanted is %+v, its Store has %+v", x, w, r)
		}
	}
	for _, r := range y.Store {
		if _, isWanted := impl.Find(wanted, r); r.Owner == x.Id && !isWanted && !isWithdrawn(r) {
			t.Fatalf("%+v: wanted no more, but told of is %+v", x, r)
		}
	}
	if got := impl.Newer(y.Store, x.Store); !sameRecords(got, news) {
		t.Fatalf("%+v: new in its Store are %+v, and said to be %+v", x, got, news)
	}
	again, more := impl.Renew(y)
	if len(more) > 0 || !sameSelf(again, y) {
		t.Fatalf("%+v: renewed again it is %+v with %+v", x, again, more)
	}
}

// allHeard are all that are next to a node.
func allHeard(x impl.Net, id int) []int {
	var heard []int
	for node := 1; node <= x.N; node++ {
		for area := range impl.MaxArea + 1 {
			if impl.CostTo(x, id, node, area) > 0 {
				heard = append(heard, node, area)
			}
		}
	}
	return heard
}

// heardOf are those next to a node whom it hears, by a rule: some, none or all.
func heardOf(x impl.Net, id int, d *draws) []int {
	var heard []int
	most := []int{1, 4, 4, 100}[d.below(4)]
	all := allHeard(x, id)
	for at := 0; at < len(all); at += 2 {
		if d.below(most) > 0 {
			heard = append(heard, all[at:at+2]...)
		}
	}
	return heard
}

// drawnSeq is about where a Boot begins, or anywhere; never so great that no more
// can come behind it.
func drawnSeq(d *draws, boot int) int {
	if d.below(3) == 0 {
		return 1 + d.below(impl.MaxSeq-1)
	}
	return max(1, 1000*boot-3+d.below(6))
}

// drawnSelf is a right node of a net of up to MaxNodes nodes; what it knows need
// not be true.
func drawnSelf(t *testing.T, number int) impl.Self {
	t.Helper()
	d := &draws{state: number}
	net := withThings(drawnBorders(number), number)
	if number%3 == 0 {
		net = withThings(drawnNet(number), number)
	}
	x := impl.Self{Id: 1 + d.below(net.N), Net: net, Boot: []int{0, 0, 1, 7, impl.MaxBoot}[d.below(5)]}
	x.Heard = heardOf(net, x.Id, d)
	var known []impl.Record
	switch d.below(4) {
	case 1:
		known = drawnStore(t, number)
	case 2:
		known = atRest(t, net)
	case 3:
		known = slices.Concat(atRest(t, net), drawnStore(t, number))
	}
	for _, r := range newestOf(known) {
		if d.below(8) > 0 && len(x.Store) < impl.MaxStore-20 {
			r.Seq = drawnSeq(d, x.Boot)
			x.Store = append(x.Store, r)
		}
	}
	return x
}

// lookSelf counts what is to be seen often enough in what is drawn.
func (n watched) lookSelf(x impl.Self, news []impl.Record) {
	n.count("borders", impl.Border(x.Net, x.Id))
	n.count("nodes that are no borders", !impl.Border(x.Net, x.Id))
	n.count("nodes that hear nobody", len(x.Heard) == 0)
	n.count("nodes with nothing new", len(news) == 0)
	n.count("nets below MaxNodes", x.Net.N < impl.MaxNodes)
	wanted := impl.Wanted(x)
	for _, r := range news {
		old, isThere := impl.Find(x.Store, r)
		_, isWanted := impl.Find(wanted, r)
		kind := fmt.Sprint(" of kind ", r.Kind)
		n.count("first ones"+kind, !isThere)
		n.count("changed ones"+kind, isThere && isWanted)
		n.count("withdrawn ones"+kind, !isWanted)
		n.count("ones wanted again"+kind, isThere && isWanted && isWithdrawn(old))
		n.count("ones of an earlier boot", isThere && old.Seq < 1000*x.Boot)
		n.count("ones of this boot", isThere && x.Boot > 0 && old.Seq > 1000*x.Boot)
	}
	for _, r := range x.Store {
		_, isWanted := impl.Find(wanted, r)
		if r.Owner != x.Id {
			continue
		}
		_, isNew := impl.Find(news, r)
		n.count("withdrawn ones that stay", !isWanted && isWithdrawn(r))
		n.count("wanted ones that stay", isWanted && !isNew)
	}
}

// Promise 8, of nodes that know whatever there may be.
func TestWhatIsRenewedIsWhatIsWanted(t *testing.T) {
	n := watched{}
	for number := range 3000 {
		x := drawnSelf(t, number)
		_, news := mustTellAll(t, fmt.Sprint("number ", number), x)
		mustBeRenewed(t, x)
		n.lookSelf(x, news)
	}
	for _, what := range []string{"borders", "nodes that are no borders", "nodes that hear nobody", "nodes with nothing new", "nets below MaxNodes",
		"first ones of kind 1", "first ones of kind 2", "first ones of kind 3", "changed ones of kind 1", "changed ones of kind 2", "changed ones of kind 3",
		"withdrawn ones of kind 1", "withdrawn ones of kind 2", "withdrawn ones of kind 3", "ones wanted again of kind 1", "ones wanted again of kind 3",
		"ones of an earlier boot", "ones of this boot", "withdrawn ones that stay", "wanted ones that stay"} {
		if n[what] < 20 {
			t.Errorf("too few %s: %d", what, n[what])
		}
	}
}

// Nodes of a net that tell each other all that they renew, till nothing is new,
// know what the net would have at rest.
func TestRenewedNodesComeToRest(t *testing.T) {
	for number := range 60 {
		net := withThings(drawnBorders(number), number)
		var nodes []impl.Self
		for id := 1; id <= net.N; id++ {
			nodes = append(nodes, impl.Self{Id: id, Net: net, Heard: allHeard(net, id)})
		}
		var all []impl.Record
		for round := 0; ; round++ {
			told := 0
			for at, x := range nodes {
				x, _ = impl.Learn(x, all)
				y, news := mustTellAll(t, fmt.Sprint("number ", number), x)
				nodes[at], told = y, told+len(news)
				all = impl.Merge(all, news)
			}
			if told == 0 {
				break
			}
			if round == 20 {
				t.Fatalf("number %d: no rest", number)
			}
		}
		// What was told for a time, and withdrawn, stays in the Stores.
		there := slices.DeleteFunc(slices.Clone(all), func(r impl.Record) bool { return r.Kind != impl.KindNode && isWithdrawn(r) })
		if want := atRest(t, net); !slices.EqualFunc(there, want, impl.SameBody) {
			t.Fatalf("number %d: at rest are %+v; want %+v", number, there, want)
		}
	}
}

// mustBeNew asks for just these that are new, each with its Seq.
func mustBeNew(t *testing.T, name string, x impl.Self, want ...impl.Record) impl.Self {
	t.Helper()
	y, news := mustTellAll(t, name, x)
	if !sameRecords(news, want) {
		t.Errorf("%s: new are %+v; want %+v", name, news, want)
	}
	mustBeRenewed(t, x)
	return y
}

// mustWant asks for just these that are wanted.
func mustWant(t *testing.T, name string, x impl.Self, want ...impl.Record) {
	t.Helper()
	for at := range want {
		want[at].Seq = 0
	}
	if got := impl.Wanted(x); !sameRecords(got, want) {
		t.Errorf("%s: Wanted = %+v; want %+v", name, got, want)
	}
	mustTellAll(t, name, x)
	mustBeRenewed(t, x)
}

// nodeTold has rows of To and Cost.
func nodeTold(area, owner, seq int, rows ...[2]int) impl.Record {
	return impl.Record{Area: area, Kind: impl.KindNode, Owner: owner, Seq: seq, Near: nearOf(rows...)}
}

// midway is a net in whose middle stands node 2, at a border of all areas: 1 and 4
// are in area 0, 3 in area 1, 5 in area 2.
func midway() impl.Net {
	return impl.Net{N: 5,
		Links: linksOf([][4]int{{1, 2, 3, 0}, {1, 4, 1, 0}, {2, 3, 4, 1}, {2, 5, 6, 2}, {4, 5, 9, 2}}),
		Things: thingsOf([][4]int{
			{1, 3, 8, 0}, {2, 3, 5, 0}, {2, 4, 6, 1}, {3, 9, 7, 1}})}
}

func TestWantedOfNodesThatHearNobody(t *testing.T) {
	x := impl.Self{Id: 2, Net: midway()}
	things := []impl.Record{thingTold(2, 3, 5), farTold(2, 4, 6)}
	mustWant(t, "at a border", x, nodeTold(0, 2, 0), nodeTold(1, 2, 0), nodeTold(2, 2, 0), things[0], things[1])
	// Others tell of it, and what it told once tells of them: it hears nobody now.
	x.Store = storeOf(t, inArea(0, [3]int{1, 2, 3}, [3]int{1, 4, 1}), inArea(1, [3]int{2, 3, 4}), []impl.Record{beyondTold(0, 1, 6, 2)})
	mustWant(t, "at a border that is told of", x, nodeTold(0, 2, 0), nodeTold(1, 2, 0), nodeTold(2, 2, 0), things[0], things[1])
	mustWant(t, "with one area", impl.Self{Id: 1, Net: midway()}, nodeTold(0, 1, 0), thingTold(1, 3, 8))
	mustWant(t, "without things", impl.Self{Id: 4, Net: midway()}, nodeTold(0, 4, 0), nodeTold(2, 4, 0))
	mustWant(t, "without links", impl.Self{Id: 3, Net: impl.Net{N: 3, Things: thingsOf([][4]int{{3, 1, 2, 1}})}}, farTold(3, 1, 2))
	mustWant(t, "alone", impl.Self{Id: 1, Net: impl.Net{N: 1}})
	mustWant(t, "all that is not its own", impl.Self{Id: 5, Net: midway(), Store: storeOf(t, []impl.Record{thingTold(2, 3, 5)})}, nodeTold(2, 5, 0))
}

func TestWantedOfThoseHeard(t *testing.T) {
	x := impl.Self{Id: 2, Net: midway(), Heard: []int{1, 0, 3, 1, 5, 2}}
	x.Net.Things = nil
	all := []impl.Record{nodeTold(0, 2, 0, [2]int{1, 3}), nodeTold(1, 2, 0, [2]int{3, 4}), nodeTold(2, 2, 0, [2]int{5, 6})}
	mustWant(t, "whose records have not come", x, all...)
	x.Heard = []int{3, 1}
	mustWant(t, "one of three", x, nodeTold(0, 2, 0), all[1], nodeTold(2, 2, 0))
	y := impl.Self{Id: 1, Net: midway(), Heard: []int{2, 0, 4, 0}}
	mustWant(t, "two in one area", y, nodeTold(0, 1, 0, [2]int{2, 3}, [2]int{4, 1}), thingTold(1, 3, 8))
	two := impl.Net{N: 2, Links: linksOf([][4]int{{1, 2, 3, 0}, {1, 2, 7, 1}})}
	for name, c := range map[string]struct {
		heard []int
		want  []impl.Record
	}{
		"one neighbour in two areas": {[]int{1, 0, 1, 1}, []impl.Record{nodeTold(0, 2, 0, [2]int{1, 3}), nodeTold(1, 2, 0, [2]int{1, 7})}},
		"in the first alone":         {[]int{1, 0}, []impl.Record{nodeTold(0, 2, 0, [2]int{1, 3}), nodeTold(1, 2, 0)}},
		"in the second alone":        {[]int{1, 1}, []impl.Record{nodeTold(0, 2, 0), nodeTold(1, 2, 0, [2]int{1, 7})}},
	} {
		mustWant(t, name, impl.Self{Id: 2, Net: two, Heard: c.heard}, c.want...)
	}
}

func TestWantedAtABorder(t *testing.T) {
	x := impl.Self{Id: 2, Net: midway(), Heard: []int{1, 0, 3, 1, 5, 2}}
	x.Net.Things = nil
	nodes := []impl.Record{nodeTold(0, 2, 0, [2]int{1, 3}), nodeTold(1, 2, 0, [2]int{3, 4}), nodeTold(2, 2, 0, [2]int{5, 6})}
	others := []impl.Record{nodeTold(0, 1, 4, [2]int{2, 3}, [2]int{4, 1}), nodeTold(0, 4, 2, [2]int{1, 1}), nodeTold(1, 3, 3, [2]int{2, 4}), nodeTold(2, 5, 1, [2]int{2, 6})}
	// Its own records are not in the Store yet, and count all the same.
	x.Store = storeOf(t, others)
	want := []impl.Record{nodes[0], beyondTold(0, 2, 3, 4), beyondTold(0, 2, 5, 6),
		nodes[1], beyondTold(1, 2, 1, 3), beyondTold(1, 2, 4, 4), beyondTold(1, 2, 5, 6),
		nodes[2], beyondTold(2, 2, 1, 3), beyondTold(2, 2, 3, 4), beyondTold(2, 2, 4, 4)}
	mustWant(t, "all areas", x, want...)
	x.Store = storeOf(t, others, []impl.Record{beyondTold(0, 4, 6, 2), beyondTold(1, 3, 6, 1), beyondTold(0, 1, 2, 1), beyondTold(0, 4, 3, 0)})
	mustWant(t, "what is told in area 0 goes on", x, slices.Insert(slices.Insert(slices.Clone(want), 11, beyondTold(2, 2, 6, 6)), 7, beyondTold(1, 2, 6, 6))...)
	// What it told once, and hears no more, leads nowhere.
	x.Store = storeOf(t, others, []impl.Record{nodeTold(0, 2, 5, [2]int{1, 3}), nodeTold(1, 2, 5, [2]int{3, 4}), nodeTold(2, 2, 5, [2]int{5, 6})})
	x.Heard = []int{3, 1}
	mustWant(t, "that hears one", x, nodeTold(0, 2, 0), beyondTold(0, 2, 3, 4), nodes[1], nodeTold(2, 2, 0), beyondTold(2, 2, 3, 4))
	// Not at a border it tells of nothing beyond, whatever it knows.
	y := impl.Self{Id: 2, Net: impl.Net{N: 5, Links: linksOf([][4]int{{2, 3, 4, 1}, {2, 5, 6, 2}})}, Heard: []int{3, 1, 5, 2}, Store: storeOf(t, others)}
	mustWant(t, "of two areas without area 0", y, nodes[1], nodes[2])
	z := impl.Self{Id: 1, Net: midway(), Heard: []int{2, 0, 4, 0}, Store: storeOf(t, others, nodes[:0], []impl.Record{beyondTold(0, 2, 3, 4)})}
	mustWant(t, "of area 0 alone", z, nodeTold(0, 1, 0, [2]int{2, 3}, [2]int{4, 1}), thingTold(1, 3, 8))
}

func TestRenewTellsWhatIsNewOnce(t *testing.T) {
	x := impl.Self{Id: 2, Net: midway(), Heard: []int{1, 0}}
	y := mustBeNew(t, "at first", x, nodeTold(0, 2, 1, [2]int{1, 3}), nodeTold(1, 2, 1), nodeTold(2, 2, 1), withSeq(thingTold(2, 3, 5), 1), withSeq(farTold(2, 4, 6), 1))
	mustBeNew(t, "again", y)
	y.Heard = []int{1, 0, 3, 1}
	y = mustBeNew(t, "one more is heard", y, nodeTold(1, 2, 2, [2]int{3, 4}))
	y.Heard = []int{3, 1}
	y = mustBeNew(t, "one is heard no more", y, nodeTold(0, 2, 2))
	y.Heard = nil
	y = mustBeNew(t, "nobody is heard", y, nodeTold(1, 2, 3))
	y.Heard = []int{1, 0, 5, 2}
	y = mustBeNew(t, "heard again", y, nodeTold(0, 2, 3, [2]int{1, 3}), nodeTold(2, 2, 2, [2]int{5, 6}))
	y, _ = impl.Learn(y, []impl.Record{nodeTold(0, 1, 9, [2]int{2, 3}), nodeTold(2, 5, 9, [2]int{2, 6})})
	y = mustBeNew(t, "both hear", y, withSeq(beyondTold(0, 2, 5, 6), 1), withSeq(beyondTold(1, 2, 1, 3), 1), withSeq(beyondTold(1, 2, 5, 6), 1), withSeq(beyondTold(2, 2, 1, 3), 1))
	y, _ = impl.Learn(y, []impl.Record{nodeTold(2, 5, 10)})
	y = mustBeNew(t, "the other end hears no more", y, withSeq(beyondTold(0, 2, 5, impl.Infinite), 2), withSeq(beyondTold(1, 2, 5, impl.Infinite), 2))
	mustBeNew(t, "withdrawn it stays so", y)
	y, _ = impl.Learn(y, []impl.Record{nodeTold(2, 5, 11, [2]int{2, 8})})
	y = mustBeNew(t, "wanted again", y, withSeq(beyondTold(0, 2, 5, 6), 3), withSeq(beyondTold(1, 2, 5, 6), 3))
	mustBeNew(t, "and again", y)
}

func TestRenewWithdrawsWhatIsWantedNoMore(t *testing.T) {
	x := impl.Self{Id: 1, Net: impl.Net{N: 2, Links: linksOf([][4]int{{1, 2, 3, 1}})}}
	own := nodeTold(1, 1, 1)
	for name, c := range map[string]struct{ old, want []impl.Record }{
		"a thing":                 {[]impl.Record{thingTold(1, 4, 5)}, []impl.Record{withSeq(thingTold(1, 4, impl.Infinite), 4)}},
		"a far thing stays far":   {[]impl.Record{farTold(1, 4, 5)}, []impl.Record{withSeq(farTold(1, 4, impl.Infinite), 4)}},
		"a thing withdrawn":       {[]impl.Record{thingTold(1, 4, impl.Infinite), farTold(1, 5, impl.Infinite)}, nil},
		"a node beyond":           {[]impl.Record{beyondTold(1, 1, 4, 0), beyondTold(2, 1, 5, 59999)}, []impl.Record{withSeq(beyondTold(1, 1, 4, impl.Infinite), 3), withSeq(beyondTold(2, 1, 5, impl.Infinite), 3)}},
		"itself beyond":           {[]impl.Record{beyondTold(0, 1, 1, 7)}, []impl.Record{withSeq(beyondTold(0, 1, 1, impl.Infinite), 3)}},
		"a node beyond withdrawn": {[]impl.Record{beyondTold(1, 1, 4, impl.Infinite)}, nil},
		"an area":                 {[]impl.Record{nodeTold(0, 1, 5, [2]int{2, 3}), nodeTold(2, 1, 6, [2]int{2, 3}, [2]int{6, 1000})}, []impl.Record{nodeTold(0, 1, 6), nodeTold(2, 1, 7)}},
		"an area withdrawn":       {[]impl.Record{nodeTold(0, 1, 5), nodeTold(2, 1, 6)}, nil},
		"others' stay":            {[]impl.Record{nodeTold(0, 2, 5, [2]int{1, 3}), beyondTold(0, 2, 1, 4), thingTold(2, 4, 5), farTold(6, 4, 5)}, nil},
		"one of each kind": {[]impl.Record{nodeTold(0, 1, 5, [2]int{2, 3}), beyondTold(1, 1, 4, 9), thingTold(1, 4, 5), thingTold(2, 4, 5)},
			[]impl.Record{nodeTold(0, 1, 6), withSeq(beyondTold(1, 1, 4, impl.Infinite), 3), withSeq(thingTold(1, 4, impl.Infinite), 4)}},
	} {
		x.Store = storeOf(t, c.old, []impl.Record{own})
		mustBeNew(t, name, x, c.want...)
		// With the one that it wants among them, each in its place.
		x.Store = storeOf(t, c.old)
		mustBeNew(t, name+", and one first", x, inOrderOf(append(slices.Clone(c.want), own))...)
	}
}

// What its net says of a thing of its own, or of a link, goes ahead of what it told.
func TestRenewTellsWhatChanged(t *testing.T) {
	x := impl.Self{Id: 1, Net: impl.Net{N: 2, Links: linksOf([][4]int{{1, 2, 3, 1}}), Things: thingsOf([][4]int{{1, 4, 5, 0}, {2, 4, 5, 1}})}, Heard: []int{2, 1}}
	node, thing := nodeTold(1, 1, 7, [2]int{2, 3}), thingTold(1, 4, 5)
	x.Store = storeOf(t, []impl.Record{node, thing})
	mustBeNew(t, "as it is", x)
	for name, c := range map[string]struct{ old, want impl.Record }{
		"another cost":          {nodeTold(1, 1, 7, [2]int{2, 4}), withSeq(node, 8)},
		"another node":          {nodeTold(1, 1, 7, [2]int{3, 3}), withSeq(node, 8)},
		"one more":              {nodeTold(1, 1, 7, [2]int{2, 3}, [2]int{3, 3}), withSeq(node, 8)},
		"none":                  {nodeTold(1, 1, 7), withSeq(node, 8)},
		"another cost of it":    {thingTold(1, 4, 6), withSeq(thing, 4)},
		"far once":              {farTold(1, 4, 5), withSeq(thing, 4)},
		"wanted again":          {thingTold(1, 4, impl.Infinite), withSeq(thing, 4)},
		"wanted again, not far": {farTold(1, 4, impl.Infinite), withSeq(thing, 4)},
	} {
		rest := slices.DeleteFunc([]impl.Record{node, thing}, func(r impl.Record) bool { return impl.SameKey(r, c.old) })
		x.Store = storeOf(t, rest, []impl.Record{c.old})
		mustBeNew(t, name, x, c.want)
	}
}

// bootCases are, of a Boot and an old Seq (0 without any), the next one; 0 when it
// would be above MaxSeq.
var bootCases = [][3]int{
	{0, 0, 1}, {0, 1, 2}, {0, 999, 1000}, {0, 1000, 1001}, {0, 1001, 1002}, {0, impl.MaxSeq - 2, impl.MaxSeq - 1}, {0, impl.MaxSeq - 1, impl.MaxSeq}, {0, impl.MaxSeq, 0},
	{1, 0, 1001}, {1, 1, 1001}, {1, 998, 1001}, {1, 999, 1001}, {1, 1000, 1001}, {1, 1001, 1002}, {1, 1002, 1003}, {1, 2000, 2001}, {1, impl.MaxSeq - 1, impl.MaxSeq}, {1, impl.MaxSeq, 0},
	{2, 1500, 2001}, {2, 2000, 2001}, {2, 2001, 2002},
	{impl.MaxBoot, 0, 90001}, {impl.MaxBoot, 1, 90001}, {impl.MaxBoot, 89999, 90001}, {impl.MaxBoot, 90000, 90001}, {impl.MaxBoot, 90001, 90002},
	{impl.MaxBoot, 99998, 99999}, {impl.MaxBoot, 99999, impl.MaxSeq}, {impl.MaxBoot, impl.MaxSeq, 0},
}

// bootRecords are, in a net of two nodes, what node 1 told once and what it tells
// instead, of all kinds, changed and withdrawn.
func bootRecords() map[string][2]impl.Record {
	return map[string][2]impl.Record{
		"a node changed":           {nodeTold(1, 1, 0), nodeTold(1, 1, 0, [2]int{2, 3})},
		"a node withdrawn":         {nodeTold(2, 1, 0, [2]int{2, 3}), nodeTold(2, 1, 0)},
		"a thing changed":          {thingTold(1, 4, 6), thingTold(1, 4, 5)},
		"a thing withdrawn":        {thingTold(1, 5, 6), thingTold(1, 5, impl.Infinite)},
		"a thing wanted again":     {thingTold(1, 4, impl.Infinite), thingTold(1, 4, 5)},
		"a node beyond withdrawn":  {beyondTold(1, 1, 3, 6), beyondTold(1, 1, 3, impl.Infinite)},
		"a node beyond at no cost": {beyondTold(0, 1, 3, 0), beyondTold(0, 1, 3, impl.Infinite)},
	}
}

func TestSeqsGoBehindWhatWasTold(t *testing.T) {
	net := impl.Net{N: 2, Links: linksOf([][4]int{{1, 2, 3, 1}}), Things: thingsOf([][4]int{{1, 4, 5, 0}})}
	for name, pair := range bootRecords() {
		for _, c := range bootCases {
			name := fmt.Sprint(name, ", Boot ", c[0], ", old Seq ", c[1])
			x := impl.Self{Id: 1, Boot: c[0], Net: net, Heard: []int{2, 1}}
			stay := []impl.Record{nodeTold(1, 1, 1, [2]int{2, 3}), withSeq(thingTold(1, 4, 5), 1)}
			stay = slices.DeleteFunc(stay, func(r impl.Record) bool { return impl.SameKey(r, pair[0]) })
			if c[1] == 0 {
				x.Store = stay
			} else {
				x.Store = storeOf(t, stay, []impl.Record{withSeq(pair[0], c[1])})
			}
			switch {
			case c[1] == 0 && len(stay) == 2:
				mustBeNew(t, name, x)
			case c[2] == 0:
				if y, news := mustTellAll(t, name, x); !sameSelf(x, y) || len(news) > 0 {
					t.Errorf("%s: a Seq above MaxSeq: %+v, %+v", name, y, news)
				}
			default:
				mustBeNew(t, name, x, withSeq(pair[1], c[2]))
			}
		}
	}
}

// One Seq that would be too great leaves all as it is; one that need not go on does
// not.
func TestRenewAtMaxSeq(t *testing.T) {
	net := impl.Net{N: 2, Links: linksOf([][4]int{{1, 2, 3, 1}}), Things: thingsOf([][4]int{{1, 4, 5, 0}, {1, 5, 5, 0}})}
	x := impl.Self{Id: 1, Net: net, Heard: []int{2, 1}}
	wanted := []impl.Record{nodeTold(1, 1, 1, [2]int{2, 3}), withSeq(thingTold(1, 4, 5), 1), withSeq(thingTold(1, 5, 5), 1)}
	x.Store = []impl.Record{withSeq(wanted[0], impl.MaxSeq)}
	mustBeNew(t, "the greatest stays", x, wanted[1], wanted[2])
	x.Store = []impl.Record{withSeq(beyondTold(2, 1, 3, impl.Infinite), impl.MaxSeq)}
	mustBeNew(t, "the greatest stays withdrawn", x, wanted...)
	x.Store = []impl.Record{withSeq(thingTold(2, 4, 5), impl.MaxSeq)}
	mustBeNew(t, "another's", x, wanted...)
	for name, old := range map[string]impl.Record{
		"the first":            nodeTold(1, 1, impl.MaxSeq),
		"one within":           withSeq(thingTold(1, 4, 6), impl.MaxSeq),
		"the last":             withSeq(thingTold(1, 5, 6), impl.MaxSeq),
		"one wanted no more":   withSeq(thingTold(1, 6, 6), impl.MaxSeq),
		"an area wanted no":    nodeTold(0, 1, impl.MaxSeq, [2]int{2, 3}),
		"a node beyond no":     withSeq(beyondTold(2, 1, 3, 8), impl.MaxSeq),
		"one withdrawn, again": withSeq(thingTold(1, 4, impl.Infinite), impl.MaxSeq),
	} {
		x.Store = []impl.Record{old}
		if y, news := mustTellAll(t, name, x); !sameSelf(x, y) || len(news) > 0 {
			t.Errorf("%s: Renew = %+v, %+v", name, y, news)
		}
		if got := impl.Wanted(x); !slices.EqualFunc(got, wanted, impl.SameBody) {
			t.Errorf("%s: Wanted = %+v", name, got)
		}
	}
}

// othersOf are all keys of all nodes but one: as many as a store takes.
func othersOf(t *testing.T, id int) []impl.Record {
	t.Helper()
	others := slices.DeleteFunc(eachKey(3), func(r impl.Record) bool { return r.Owner == id })
	if len(others) != impl.MaxStore {
		t.Fatalf("%d others", len(others))
	}
	return others
}

func TestRenewAtMaxStore(t *testing.T) {
	net := impl.Net{N: 6, Links: linksOf([][4]int{{1, 2, 3, 1}, {1, 2, 4, 2}}), Things: thingsOf([][4]int{{1, 4, 5, 0}})}
	x := impl.Self{Id: 1, Net: net, Heard: []int{2, 1}}
	wanted := []impl.Record{nodeTold(1, 1, 1, [2]int{2, 3}), nodeTold(2, 1, 1), withSeq(thingTold(1, 4, 5), 1)}
	others := othersOf(t, 1)
	for room := range 6 {
		for has := range 4 {
			for _, changed := range []bool{false, true} {
				name := fmt.Sprint("room for ", room, ", has ", has, ", changed ", changed)
				var own []impl.Record
				for _, r := range wanted[:has] {
					if changed {
						r = turned(r)
					}
					own = append(own, r)
				}
				if room < has {
					continue
				}
				x.Store = storeOf(t, others[room:], own)
				y, news := mustTellAll(t, name, x)
				full := room < len(wanted)
				if full && (len(news) > 0 || !sameSelf(x, y)) || !full && (len(news) == 0) == (changed && has > 0 || has < 3) {
					t.Errorf("%s: new are %s", name, brief(news))
				}
				if !full {
					mustBeRenewed(t, x)
				}
				if room == 3 && len(y.Store) != impl.MaxStore {
					t.Errorf("%s: %d records", name, len(y.Store))
				}
			}
		}
	}
}

// At a border what it tells beyond counts, too; what it wants to tell of itself may
// be more than its Store takes, and then no ways are in it.
func TestRenewOfABorderAtMaxStore(t *testing.T) {
	net := impl.Net{N: 6, Links: linksOf([][4]int{{1, 2, 3, 0}, {1, 3, 4, 1}})}
	x := impl.Self{Id: 1, Net: net, Heard: []int{2, 0, 3, 1}}
	ends := []impl.Record{nodeTold(0, 2, 3, [2]int{1, 3}), nodeTold(1, 3, 3, [2]int{1, 4})}
	wanted := []impl.Record{nodeTold(0, 1, 0, [2]int{2, 3}), withSeq(beyondTold(0, 1, 3, 4), 0), nodeTold(1, 1, 0, [2]int{3, 4}), withSeq(beyondTold(1, 1, 2, 3), 0)}
	var rest []impl.Record
	for key := 1; key <= 9; key++ {
		rest = append(rest, thingTold(1, key, impl.Infinite))
	}
	for _, r := range othersOf(t, 1) {
		isEnd := impl.SameKey(r, ends[0]) || impl.SameKey(r, ends[1])
		if !isEnd && (r.Kind != impl.KindBeyond || r.Area != 0 || r.Owner != 2) {
			rest = append(rest, r)
		}
	}
	for number := range 14 {
		room := number / 2
		name := fmt.Sprint("room for ", room)
		x.Store = storeOf(t, ends, rest[:impl.MaxStore-len(ends)-room])
		least := 2
		if number%2 == 1 {
			// What it told of itself in an area that it is in no more makes room for
			// one of those that it wants.
			name += ", with one of an area that is none of its own"
			x.Store = storeOf(t, ends, rest[:impl.MaxStore-len(ends)-room-1], []impl.Record{nodeTold(2, 1, 4)})
			least = 1
		}
		y, news := mustTellAll(t, name, x)
		if got := impl.Wanted(x); room >= least && !sameRecords(got, wanted) || room < least && len(got) != 2 {
			t.Errorf("%s: wanted are %+v", name, got)
		}
		if room < 4 && (len(news) > 0 || !sameSelf(x, y)) || room >= 4 && !slices.EqualFunc(news, wanted, impl.SameBody) {
			t.Errorf("%s: new are %+v", name, news)
		}
		if len(y.Store) != impl.MaxStore-room+len(news) {
			t.Errorf("%s: %d records", name, len(y.Store))
		}
	}
}

// A node that has come up again knows nothing; what it told earlier comes back to it.
func TestRecordsOfAnEarlierBoot(t *testing.T) {
	net := impl.Net{N: 2, Links: linksOf([][4]int{{1, 2, 3, 0}}), Things: thingsOf([][4]int{{1, 4, 5, 0}})}
	x := impl.Self{Id: 1, Boot: 2, Net: net}
	x = mustBeNew(t, "up again", x, nodeTold(0, 1, 2001), withSeq(thingTold(1, 4, 5), 2001))
	earlier := []impl.Record{nodeTold(0, 1, 7, [2]int{2, 3}), withSeq(thingTold(1, 4, 6), 2000), withSeq(thingTold(1, 5, 6), 1004), withSeq(thingTold(1, 6, impl.Infinite), 1005)}
	y, news := impl.Learn(x, earlier)
	if !sameRecords(news, earlier[2:]) || !sameRecords(y.Store, append(slices.Clone(x.Store), earlier[2:]...)) {
		t.Errorf("Learn = %+v, %+v", y, news)
	}
	y = mustBeNew(t, "what it knew no more of is withdrawn", y, withSeq(thingTold(1, 5, impl.Infinite), 2001))
	y, news = impl.Learn(y, []impl.Record{nodeTold(0, 1, 2500, [2]int{2, 3}), withSeq(thingTold(1, 4, 5), 2501)})
	if len(news) != 2 {
		t.Errorf("Learn = %+v, %+v", y, news)
	}
	mustBeNew(t, "it goes on behind them", y, nodeTold(0, 1, 2501))
	// One of an earlier boot that tells what is wanted stays, whatever its Seq.
	z := impl.Self{Id: 1, Boot: 2, Net: net, Store: []impl.Record{nodeTold(0, 1, 7), withSeq(thingTold(1, 4, 5), 8)}}
	mustBeNew(t, "wanted since an earlier boot", z)
}

// learnedBy goes through a list one by one, in a right node.
func learnedBy(x impl.Self, list []impl.Record) (store, news []impl.Record) {
	store = slices.Clone(x.Store)
	for _, r := range list {
		at := slices.IndexFunc(store, func(known impl.Record) bool { return keyOf(known) == keyOf(r) })
		switch {
		case !impl.RecordOk(r) || at >= 0 && store[at].Seq >= r.Seq || at < 0 && len(store) == impl.MaxStore:
			continue
		case at >= 0:
			store[at] = r
		default:
			store = append(store, r)
		}
		news = append(news, r)
	}
	return newestOf(store), news
}

func mustLearn(t *testing.T, name string, x impl.Self, list []impl.Record) impl.Self {
	t.Helper()
	y, news := impl.Learn(x, list)
	store, want := learnedBy(x, list)
	if !sameSelf(y, withStore(x, store)) || !sameRecords(news, want) || !sameRecords(y.Store, impl.Merge(x.Store, list)) {
		t.Fatalf("%s: Learn(%+v, %+v) = %+v, %+v; want the Store %+v and %+v", name, x, list, y, news, store, want)
	}
	if again, more := impl.Learn(y, list); len(more) > 0 || !sameSelf(again, y) {
		t.Fatalf("%s: learnt again: %+v, %+v", name, again, more)
	}
	return y
}

func TestLearnIsMerge(t *testing.T) {
	taken, left := 0, 0
	for number := range 400 {
		x := drawnSelf(t, number)
		d := &draws{state: number}
		list := shuffled(drawnSelf(t, number+1).Store, number)
		for at := range list {
			if d.below(3) == 0 {
				list[at] = withSeq(list[d.below(len(list))], drawnSeq(d, x.Boot))
			}
			if d.below(9) == 0 {
				list[at].Seq = []int{0, -1, impl.MaxSeq + 1, impl.MaxSeq}[d.below(4)]
			}
		}
		y := mustLearn(t, fmt.Sprint("number ", number), x, list)
		mustTellAll(t, fmt.Sprint("number ", number, ", having learnt"), y)
		_, news := impl.Learn(x, list)
		taken, left = taken+len(news), left+len(list)-len(news)
	}
	if taken < 1000 || left < 1000 {
		t.Errorf("too few are taken or left: %d, %d", taken, left)
	}
}

func TestLearnWrittenOut(t *testing.T) {
	base := fewKeys(5)
	x := impl.Self{Id: 2, Boot: 1, Net: midway(), Heard: []int{1, 0, 5, 2}, Store: base}
	absent := slices.DeleteFunc(eachKey(5), func(r impl.Record) bool { _, ok := impl.Find(base, r); return ok })
	a, b, c := base[2], absent[3], absent[20]
	own := absent[slices.IndexFunc(absent, func(r impl.Record) bool { return r.Owner == x.Id })]
	for name, k := range map[string]struct{ list, want []impl.Record }{
		"nothing":                     {nil, nil},
		"an empty list":               {[]impl.Record{}, nil},
		"newer":                       {[]impl.Record{withSeq(turned(a), 6)}, []impl.Record{withSeq(turned(a), 6)}},
		"newer with the same body":    {[]impl.Record{withSeq(a, 6)}, []impl.Record{withSeq(a, 6)}},
		"the same Seq":                {[]impl.Record{a}, nil},
		"the same Seq, another body":  {[]impl.Record{turned(a)}, nil},
		"older":                       {[]impl.Record{withSeq(turned(a), 4)}, nil},
		"unknown":                     {[]impl.Record{withSeq(b, 1)}, []impl.Record{withSeq(b, 1)}},
		"in the list's order":         {[]impl.Record{c, b, withSeq(a, 6)}, []impl.Record{c, b, withSeq(a, 6)}},
		"twice":                       {[]impl.Record{b, b}, []impl.Record{b}},
		"twice, other bodies":         {[]impl.Record{b, turned(b)}, []impl.Record{b}},
		"twice, the newer one first":  {[]impl.Record{withSeq(b, 7), b}, []impl.Record{withSeq(b, 7)}},
		"twice, the newer one second": {[]impl.Record{b, withSeq(b, 7)}, []impl.Record{b, withSeq(b, 7)}},
		"twice, others between":       {[]impl.Record{withSeq(a, 6), c, withSeq(a, 7), b, withSeq(a, 6)}, []impl.Record{withSeq(a, 6), c, withSeq(a, 7), b}},
		"its own":                     {[]impl.Record{own}, []impl.Record{own}},
		"its own again":               {[]impl.Record{own, withSeq(turned(own), 1001)}, []impl.Record{own, withSeq(turned(own), 1001)}},
		"at MaxSeq":                   {[]impl.Record{withSeq(b, impl.MaxSeq), withSeq(c, impl.MaxSeq+1)}, []impl.Record{withSeq(b, impl.MaxSeq)}},
		"not right, then right":       {[]impl.Record{withSeq(b, 0), {}, b}, []impl.Record{b}},
	} {
		if _, news := impl.Learn(x, k.list); !sameRecords(news, k.want) {
			t.Errorf("%s: new are %+v; want %+v", name, news, k.want)
		}
		mustLearn(t, name, x, k.list)
	}
	for name, wrong := range wrongRecords() {
		if y, news := impl.Learn(x, []impl.Record{wrong}); len(news) > 0 || !sameSelf(x, y) {
			t.Errorf("%s: new is %+v", name, news)
		}
		if _, news := impl.Learn(x, []impl.Record{c, wrong, b}); !sameRecords(news, []impl.Record{c, b}) {
			t.Errorf("%s: new are %+v", name, news)
		}
	}
	for name, list := range wrongStores() {
		mustLearn(t, name, x, list)
	}
}

func TestLearnAtMaxStore(t *testing.T) {
	all := eachKey(5)
	x := impl.Self{Id: 1, Net: impl.Net{N: 1}}
	y := mustLearn(t, "all keys", x, all)
	if !sameRecords(y.Store, all[:impl.MaxStore]) {
		t.Errorf("of all keys it has %s", brief(y.Store))
	}
	for room := range 3 {
		x.Store = all[:impl.MaxStore-room]
		more := []impl.Record{all[160], all[151], withSeq(all[0], 6), all[170], withSeq(all[160], 6), all[152], withSeq(all[1], 6)}
		y := mustLearn(t, fmt.Sprint("room for ", room), x, more)
		if len(y.Store) != impl.MaxStore {
			t.Errorf("room for %d: %d records", room, len(y.Store))
		}
	}
	long := slices.Repeat(eachKey(6), 200)
	mustLearn(t, "a long list", x, long)
}

// changedSelf is a right node with something about it changed.
func changedSelf(change func(x *impl.Self)) impl.Self {
	x := impl.Self{Id: 2, Boot: 1, Net: midway(), Heard: []int{1, 0, 3, 1, 5, 2}, Store: fewKeys(5)}
	change(&x)
	return x
}

func TestSelfOkAccepts(t *testing.T) {
	for name, x := range map[string]impl.Self{
		"as it is":        changedSelf(func(x *impl.Self) {}),
		"boot 0":          changedSelf(func(x *impl.Self) { x.Boot = 0 }),
		"MaxBoot":         changedSelf(func(x *impl.Self) { x.Boot = impl.MaxBoot }),
		"the first node":  changedSelf(func(x *impl.Self) { x.Id, x.Heard = 1, []int{2, 0, 4, 0} }),
		"the last node":   changedSelf(func(x *impl.Self) { x.Id, x.Heard = x.Net.N, []int{2, 2, 4, 2} }),
		"nobody heard":    changedSelf(func(x *impl.Self) { x.Heard = nil }),
		"an empty list":   changedSelf(func(x *impl.Self) { x.Heard = []int{} }),
		"one heard":       changedSelf(func(x *impl.Self) { x.Heard = []int{3, 1} }),
		"the outer ones":  changedSelf(func(x *impl.Self) { x.Heard = []int{1, 0, 5, 2} }),
		"two areas":       {Id: 1, Net: rightNets["two nodes in two areas"], Heard: []int{2, 0, 2, 2}},
		"all areas":       {Id: 2, Net: rightNets["two nodes in all areas"], Heard: []int{1, 0, 1, 1, 1, 2}},
		"alone":           {Id: 1, Net: impl.Net{N: 1}},
		"knowing nothing": changedSelf(func(x *impl.Self) { x.Store = nil }),
		"a full store":    changedSelf(func(x *impl.Self) { x.Store = eachKey(1)[:impl.MaxStore] }),
		"records of no node": changedSelf(func(x *impl.Self) {
			x.Store = []impl.Record{nodeTold(0, 6, 1, [2]int{5, 1}), nodeTold(2, 2, 1, [2]int{6, 1})}
		}),
	} {
		if !impl.SelfOk(x) {
			t.Errorf("%s: SelfOk(%+v) = false", name, x)
		}
	}
	for name, net := range rightNets {
		for id := 1; id <= net.N; id++ {
			if x := (impl.Self{Id: id, Net: net, Heard: allHeard(net, id)}); !impl.SelfOk(x) {
				t.Errorf("%s: SelfOk(%+v) = false", name, x)
			}
		}
	}
}

// wrongSelves are not right in one part each.
func wrongSelves() map[string]impl.Self {
	wrong := map[string]impl.Self{"nothing": {}}
	for _, n := range []int{math.MinInt, -1, 0, 6, 7, math.MaxInt} {
		wrong[fmt.Sprint("id ", n)] = changedSelf(func(x *impl.Self) { x.Id, x.Heard = n, nil })
		wrong[fmt.Sprint("id ", n, " that hears")] = changedSelf(func(x *impl.Self) { x.Id = n })
	}
	for _, n := range []int{math.MinInt, -1, impl.MaxBoot + 1, 1000, math.MaxInt} {
		wrong[fmt.Sprint("boot ", n)] = changedSelf(func(x *impl.Self) { x.Boot = n })
	}
	for _, heard := range [][]int{{1}, {1, 0, 3}, {1, 0, 3, 1, 5}, {0}, {1, 0, 3, 1, 5, 2, 6},
		{1, 0, 1, 0}, {3, 1, 1, 0}, {1, 0, 5, 2, 3, 1}, {1, 0, 3, 1, 3, 1}, {5, 2, 3, 1, 1, 0},
		{1, 1}, {1, 2}, {3, 0}, {3, 2}, {4, 0}, {2, 0}, {2, 1}, {0, 0}, {6, 0}, {7, 1}, {-1, 0}, {1, -1}, {1, 3}, {1, 9}, {0, 1}, {1, 0, 4, 0}, {1, 0, 1, 1},
		{math.MaxInt, math.MaxInt}, {math.MinInt, math.MinInt}, {math.MinInt, 0, math.MaxInt, 1}} {
		wrong[fmt.Sprint("heard ", heard)] = changedSelf(func(x *impl.Self) { x.Heard = heard })
	}
	wrong["two areas turned"] = impl.Self{Id: 1, Net: rightNets["two nodes in two areas"], Heard: []int{2, 2, 2, 0}}
	wrong["one area twice"] = impl.Self{Id: 1, Net: rightNets["two nodes in two areas"], Heard: []int{2, 0, 2, 0}}
	wrong["very many heard"] = changedSelf(func(x *impl.Self) { x.Heard = slices.Repeat([]int{1, 0}, 5000) })
	for name, s := range wrongStores() {
		wrong["store: "+name] = changedSelf(func(x *impl.Self) { x.Store = s })
	}
	for name, change := range map[string]func(net *impl.Net){
		"no nodes":                    func(net *impl.Net) { net.N = 0 },
		"too many nodes":              func(net *impl.Net) { net.N = impl.MaxNodes + 1 },
		"very many nodes":             func(net *impl.Net) { net.N = math.MaxInt },
		"fewer than its links have":   func(net *impl.Net) { net.N = 4 },
		"links turned":                func(net *impl.Net) { slices.Reverse(net.Links) },
		"a link twice":                func(net *impl.Net) { net.Links = append(net.Links, net.Links[len(net.Links)-1]) },
		"a link at no cost":           func(net *impl.Net) { net.Links[0].Cost = 0 },
		"a link too dear":             func(net *impl.Net) { net.Links[1].Cost = impl.MaxCost + 1 },
		"a link at less than nothing": func(net *impl.Net) { net.Links[2].Cost = math.MinInt },
		"a link in no area":           func(net *impl.Net) { net.Links[4].Area = 3 },
		"a link in no area below":     func(net *impl.Net) { net.Links[0].Area = -1 },
		"a link with itself":          func(net *impl.Net) { net.Links[0].A = 2 },
		"a link with no node":         func(net *impl.Net) { net.Links[4].B = 6 },
		"a link from the other end":   func(net *impl.Net) { net.Links[0] = impl.Link{A: 2, B: 1, Cost: 3} },
		"too many links":              func(net *impl.Net) { net.Links = slices.Repeat(net.Links, 3) },
		"a thing at no cost":          func(net *impl.Net) { net.Things[1].Cost = 0 },
		"a thing too dear":            func(net *impl.Net) { net.Things[1].Cost = impl.MaxCost + 1 },
		"a thing of no key":           func(net *impl.Net) { net.Things[3].Key = 10 },
		"a thing of key 0":            func(net *impl.Net) { net.Things[0].Key = 0 },
		"a thing of no node":          func(net *impl.Net) { net.Things[3].Owner = 6 },
		"a thing twice":               func(net *impl.Net) { net.Things[2] = net.Things[1] },
		"things turned":               func(net *impl.Net) { slices.Reverse(net.Things) },
		"too many things":             func(net *impl.Net) { net.Things = append(net.Things, impl.Thing{Owner: 4, Key: 9, Cost: 1}) },
		"very many things of its own": func(net *impl.Net) { net.Things = slices.Repeat([]impl.Thing{{Owner: 2, Key: 9, Cost: 1}}, 5000) },
		"things out of all there are": func(net *impl.Net) {
			net.Things = thingsOf([][4]int{{2, math.MaxInt, math.MinInt, 1}, {2, math.MinInt, 0, 0}})
		},
		"links out of all there are": func(net *impl.Net) {
			net.Links = linksOf([][4]int{{2, math.MaxInt, math.MinInt, 0}, {math.MinInt, 2, math.MaxInt, 1}})
		},
		"very many links of its own":   func(net *impl.Net) { net.Links = slices.Repeat(linksOf([][4]int{{1, 2, 3, 0}, {2, 3, 4, 1}}), 2000) },
		"links of no node with itself": func(net *impl.Net) { net.N, net.Links = 1, linksOf([][4]int{{0, 0, 0, 0}}) },
	} {
		wrong["net: "+name] = changedSelf(func(x *impl.Self) { change(&x.Net) })
	}
	return wrong
}

func TestSelvesThatAreNotRight(t *testing.T) {
	for name, x := range wrongSelves() {
		if impl.SelfOk(x) {
			t.Errorf("%s: SelfOk(%+v) = true", name, x)
		}
		if y, news := impl.Renew(x); !sameSelf(x, y) || len(news) > 0 {
			t.Errorf("%s: Renew = %+v, %+v; want %+v as it is", name, y, news, x)
		}
		for _, list := range [][]impl.Record{nil, fewKeys(6), eachKey(1), {{}}} {
			if y, news := impl.Learn(x, list); !sameSelf(x, y) || len(news) > 0 {
				t.Errorf("%s: Learn = %+v, %+v; want %+v as it is", name, y, news, x)
			}
		}
		mustBeAhead(t, name, x, impl.Wanted(x))
	}
}

// mustBeAhead holds what Wanted answers of any node at all.
func mustBeAhead(t *testing.T, name string, x impl.Self, list []impl.Record) {
	t.Helper()
	for at, r := range list {
		if r.Owner != x.Id || r.Seq != 0 || at > 0 && !impl.Before(list[at-1], r) {
			t.Fatalf("%s: Wanted has %+v in %s", name, r, brief(list))
		}
	}
}

// No sentence refuses what Wanted is asked: a node that is not right is taken as it
// stands.
func TestWantedOfWhatIsNotRight(t *testing.T) {
	node := func(area int, rows ...[2]int) impl.Record { return nodeTold(area, 2, 0, rows...) }
	near, far := withSeq(thingTold(2, 3, 5), 0), withSeq(farTold(2, 4, 6), 0)
	all := []impl.Record{node(0, [2]int{1, 3}), node(1, [2]int{3, 4}), node(2, [2]int{5, 6}), near, far}
	for name, c := range map[string]struct {
		change func(x *impl.Self)
		want   []impl.Record
	}{
		"no boot":                  {func(x *impl.Self) { x.Boot = -1 }, all},
		"a number that is alone":   {func(x *impl.Self) { x.Heard = append(x.Heard, 5) }, all},
		"a number, and no more":    {func(x *impl.Self) { x.Heard = []int{1} }, []impl.Record{node(0), node(1), node(2), near, far}},
		"one without a link":       {func(x *impl.Self) { x.Heard = []int{1, 0, 4, 0} }, []impl.Record{node(0, [2]int{1, 3}, [2]int{4, 0}), node(1), node(2), near, far}},
		"one in none of its areas": {func(x *impl.Self) { x.Heard = []int{1, 0, 1, 3, 1, -1} }, []impl.Record{node(0, [2]int{1, 3}), node(1), node(2), near, far}},
		"pairs turned":             {func(x *impl.Self) { x.Heard = []int{5, 2, 3, 1, 1, 0} }, all},
		"no such node":             {func(x *impl.Self) { x.Id = 6 }, nil},
		"a store that is not right": {func(x *impl.Self) {
			x.Store = append(storeOf(t, inArea(0, [3]int{1, 2, 3}), inArea(1, [3]int{2, 3, 4})), impl.Record{})
		}, all},
		// What it told of itself is not looked at, right or not.
		"a record of itself that is not right": {func(x *impl.Self) {
			x.Heard = []int{1, 0, 3, 1}
			x.Store = []impl.Record{nodeTold(0, 1, 1, [2]int{2, 3}), nodeTold(0, 2, 0, [2]int{2, 0}), nodeTold(1, 3, 1, [2]int{2, 4})}
		}, []impl.Record{all[0], withSeq(beyondTold(0, 2, 3, 4), 0), all[1], withSeq(beyondTold(1, 2, 1, 3), 0),
			node(2), withSeq(beyondTold(2, 2, 1, 3), 0), withSeq(beyondTold(2, 2, 3, 4), 0), near, far}},
		"a thing twice": {func(x *impl.Self) {
			x.Net.Things = thingsOf([][4]int{{2, 4, 6, 1}, {2, 3, 5, 0}, {2, 4, 7, 0}, {2, 3, 8, 1}})
		}, all},
	} {
		x := impl.Self{Id: 2, Net: midway(), Heard: []int{1, 0, 3, 1, 5, 2}}
		c.change(&x)
		if got := impl.Wanted(x); impl.SelfOk(x) || !sameRecords(got, c.want) {
			t.Errorf("%s: Wanted = %+v; want %+v", name, got, c.want)
		}
	}
}

// roomySelf is a node with spare room behind each of its lists, and all that lies
// there.
type roomySelf struct {
	self   impl.Self
	links  []impl.Link
	things []impl.Thing
	heard  []int
	room   []impl.Record
}

func roomyOf(x impl.Self) roomySelf {
	r := roomySelf{self: x}
	r.links = append(slices.Clone(x.Net.Links), impl.Link{A: 77}, impl.Link{A: 78})
	r.things = append(slices.Clone(x.Net.Things), impl.Thing{Owner: 79}, impl.Thing{Owner: 80})
	r.heard = append(slices.Clone(x.Heard), 81, 82, 83, 84)
	r.self.Net.Links = r.links[:len(x.Net.Links)]
	r.self.Net.Things = r.things[:len(x.Net.Things)]
	r.self.Heard = r.heard[:len(x.Heard)]
	r.self.Store, r.room = roomy(x.Store)
	return r
}

func (r roomySelf) mustBeLike(t *testing.T, name string, x impl.Self) {
	t.Helper()
	fresh := roomyOf(x)
	if !slices.Equal(r.links, fresh.links) || !slices.Equal(r.things, fresh.things) || !slices.Equal(r.heard, fresh.heard) {
		t.Fatalf("%s: an argument was written into: %+v; want %+v", name, r, fresh)
	}
	mustBeAsItWas(t, name, r.self.Store, r.room, deepCopy(fresh.room))
}

func copySelf(x impl.Self) impl.Self {
	x.Net.Links, x.Net.Things, x.Heard = slices.Clone(x.Net.Links), slices.Clone(x.Net.Things), slices.Clone(x.Heard)
	x.Store = deepCopy(x.Store)
	return x
}

// overwriteSelf writes over all that an answer has, its spare room too.
func overwriteSelf(x impl.Self) {
	for at := range x.Net.Links[:cap(x.Net.Links)] {
		x.Net.Links[:cap(x.Net.Links)][at] = impl.Link{A: -99}
	}
	for at := range x.Net.Things[:cap(x.Net.Things)] {
		x.Net.Things[:cap(x.Net.Things)][at] = impl.Thing{Owner: -99}
	}
	for at := range x.Heard[:cap(x.Heard)] {
		x.Heard[:cap(x.Heard)][at] = -99
	}
	overwrite(x.Store)
}

// selfCalls are all that answer of a node, those that answer records alone with no
// node beside them.
func selfCalls(list []impl.Record) map[string]func(x impl.Self) (impl.Self, []impl.Record) {
	return map[string]func(x impl.Self) (impl.Self, []impl.Record){
		"SelfOk": func(x impl.Self) (impl.Self, []impl.Record) { impl.SelfOk(x); return impl.Self{}, nil },
		"Wanted": func(x impl.Self) (impl.Self, []impl.Record) { return impl.Self{}, impl.Wanted(x) },
		"Renew":  impl.Renew,
		"Learn":  func(x impl.Self) (impl.Self, []impl.Record) { return impl.Learn(x, list) },
	}
}

// mustStaySelf writes over one answer, and looks whether another one to the same
// question stays as it is; no two lists of it share memory.
func mustStaySelf(t *testing.T, name string, ask func() (impl.Self, []impl.Record)) {
	t.Helper()
	first, firstNews := ask()
	y, news := ask()
	mustBeListsApart(t, name, slices.Concat(y.Store, news))
	kept, keptNews := copySelf(y), deepCopy(news)
	overwriteSelf(first)
	overwrite(firstNews)
	if !sameSelf(y, kept) || !sameRecords(news, keptNews) {
		t.Fatalf("%s: two answers share memory: %+v, %+v; want %+v, %+v", name, y, news, kept, keptNews)
	}
	overwrite(news)
	if !sameSelf(y, kept) {
		t.Fatalf("%s: what is new shares memory with %+v; want %+v", name, y, kept)
	}
	overwriteSelf(y)
	if third, more := ask(); !sameSelf(third, kept) || !sameRecords(more, keptNews) {
		t.Fatalf("%s: asked again, it is %+v, %+v; want %+v, %+v", name, third, more, kept, keptNews)
	}
}

func TestSelvesLeaveTheirArgumentsAlone(t *testing.T) {
	selves := []impl.Self{{}, {Id: 1, Net: impl.Net{N: 1}}, changedSelf(func(x *impl.Self) {})}
	for number := range 60 {
		selves = append(selves, drawnSelf(t, number))
	}
	for _, x := range wrongSelves() {
		if len(x.Heard)+len(x.Net.Links)+len(x.Net.Things) < 100 {
			selves = append(selves, x)
		}
	}
	lists := [][]impl.Record{nil, fewKeys(6), eachKey(7), {{}, eachKey(8)[0], eachKey(8)[0]}}
	for _, x := range selves {
		for _, whole := range lists {
			r := roomyOf(x)
			list, room := roomy(whole)
			kept := deepCopy(room)
			for name, call := range selfCalls(list) {
				mustStaySelf(t, name, func() (impl.Self, []impl.Record) { return call(r.self) })
				r.mustBeLike(t, name, x)
				mustBeAsItWas(t, name, list, room, kept)
			}
		}
	}
}

// Records that are handed in with one Near among them come back each with one of
// its own.
func TestSelvesPartWhatRecordsShare(t *testing.T) {
	near := nearOf([2]int{5, 1}, [2]int{6, 2})
	list := []impl.Record{{Kind: impl.KindNode, Owner: 1, Seq: 3, Near: near}, {Kind: impl.KindNode, Owner: 3, Seq: 3, Near: near},
		{Kind: impl.KindBeyond, Owner: 2, Key: 1, Seq: 3, Cost: 5, Near: near[:0]}, {Area: impl.Outside, Kind: impl.KindThing, Owner: 2, Key: 1, Seq: 3, Cost: 5, Near: near[:0]}}
	x := changedSelf(func(x *impl.Self) { x.Store = list })
	for name, call := range selfCalls([]impl.Record{withSeq(list[0], 4), {Kind: impl.KindNode, Owner: 4, Seq: 3, Near: near}, {Kind: impl.KindNode, Owner: 5, Seq: 3, Near: near[1:]}}) {
		y, news := call(x)
		mustBeListsApart(t, name, slices.Concat(y.Store, news))
		overwriteSelf(y)
		overwrite(news)
		if !slices.Equal(near, nearOf([2]int{5, 1}, [2]int{6, 2})) {
			t.Fatalf("%s: the Near that was handed in is now %v", name, near)
		}
	}
}
