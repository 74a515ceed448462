package tests

import (
	"fmt"
	"math"
	"slices"
	"strings"
	"testing"

	"loop.example/g00177/impl"
)

func evTick(node int) impl.Event  { return impl.Event{Kind: impl.EvTick, Node: node} }
func evDeliver(at int) impl.Event { return impl.Event{Kind: impl.EvDeliver, Node: 1, At: at} }
func evDrop(at int) impl.Event    { return impl.Event{Kind: impl.EvDrop, Node: 1, At: at} }
func evCopy(at int) impl.Event    { return impl.Event{Kind: impl.EvCopy, Node: 1, At: at} }
func evCut(at int) impl.Event     { return impl.Event{Kind: impl.EvCut, Node: 1, At: at} }
func evRaise(at int) impl.Event   { return impl.Event{Kind: impl.EvRaise, Node: 1, At: at} }
func evDown(node int) impl.Event  { return impl.Event{Kind: impl.EvDown, Node: node} }
func evUp(node int) impl.Event    { return impl.Event{Kind: impl.EvUp, Node: node} }

// eventsOf takes events, and lists of them, in order.
func eventsOf(lists ...any) (all []impl.Event) {
	for _, one := range lists {
		switch e := one.(type) {
		case impl.Event:
			all = append(all, e)
		case []impl.Event:
			all = append(all, e...)
		}
	}
	return all
}

func times(count int, e impl.Event) []impl.Event {
	return slices.Repeat([]impl.Event{e}, count)
}

func evBytes(node int, text string) impl.Event {
	return impl.Event{Kind: impl.EvBytes, Node: node, Text: text}
}

// evSays puts a packet's own text to the node that it is to.
func evSays(t *testing.T, p impl.Packet) impl.Event {
	t.Helper()
	return evBytes(p.To, mustComeBack(t, "said", p))
}

// shown has no byte of a Text that can't be read.
func shown(events ...impl.Event) string {
	out := ""
	for _, e := range events {
		out += fmt.Sprintf("{%d %d %d %q}", e.Kind, e.Node, e.At, e.Text)
	}
	return out
}

func sameNet(a, b impl.Net) bool {
	return a.N == b.N && slices.Equal(a.Links, b.Links) && slices.Equal(a.Things, b.Things)
}

// worldParts names what differs between two worlds, with what each of them has.
func worldParts(a, b impl.World) string {
	var parts []string
	add := func(name string, same bool, one, other any) {
		if !same {
			parts = append(parts, fmt.Sprintf("%s: %+v and %+v", name, one, other))
		}
	}
	add("Net", sameNet(a.Net, b.Net), a.Net, b.Net)
	add("Links", slices.Equal(a.Links, b.Links), a.Links, b.Links)
	add("Up", slices.Equal(a.Up, b.Up), a.Up, b.Up)
	add("Boots", slices.Equal(a.Boots, b.Boots), a.Boots, b.Boots)
	add("how many Nodes", len(a.Nodes) == len(b.Nodes), len(a.Nodes), len(b.Nodes))
	for at := range min(len(a.Nodes), len(b.Nodes)) {
		add(fmt.Sprint("node ", at+1), sameNode(a.Nodes[at], b.Nodes[at]), a.Nodes[at], b.Nodes[at])
	}
	add("Flying", samePackets(a.Flying, b.Flying), a.Flying, b.Flying)
	add("Told", sameRecords(a.Told, b.Told), brief(a.Told), brief(b.Told))
	add("Errors", a.Errors == b.Errors, a.Errors, b.Errors)
	return strings.Join(parts, "\n")
}

func mustBeWorld(t *testing.T, name string, got, want impl.World) {
	t.Helper()
	if differ := worldParts(got, want); differ != "" {
		t.Fatalf("%s: the world is not what it is to be:\n%s", name, differ)
	}
}

func copyWorld(w impl.World) impl.World {
	w.Net.Links, w.Net.Things = slices.Clone(w.Net.Links), slices.Clone(w.Net.Things)
	w.Links, w.Up, w.Boots = slices.Clone(w.Links), slices.Clone(w.Up), slices.Clone(w.Boots)
	w.Nodes, w.Flying, w.Told = slices.Clone(w.Nodes), slices.Clone(w.Flying), deepCopy(w.Told)
	for at := range w.Nodes {
		w.Nodes[at] = copyNode(w.Nodes[at])
	}
	for at := range w.Flying {
		w.Flying[at] = copyPacket(w.Flying[at])
	}
	return w
}

// lived is a net at work as the document's words have it, by tables: what is not in
// cut or down is up.
type lived struct {
	net    impl.Net
	cut    map[impl.Link]bool
	down   map[int]bool
	boots  map[int]int
	nodes  map[int]impl.Node
	flying []impl.Packet
	told   []impl.Record
	errors int
}

func livedOf(t *testing.T, x impl.Net) *lived {
	t.Helper()
	l := &lived{net: x, cut: map[impl.Link]bool{}, down: map[int]bool{}, boots: map[int]int{}, nodes: map[int]impl.Node{}}
	for id := 1; id <= x.N; id++ {
		n, ok := impl.NodeNew(x, id, 0)
		if !ok {
			t.Fatalf("no node %d of %+v", id, x)
		}
		l.nodes[id] = n
		l.told = append(l.told, n.Self.Store...)
	}
	return l
}

// livedFrom goes on from a world whose lists are as long as they are to be.
func livedFrom(t *testing.T, w impl.World) *lived {
	t.Helper()
	l := livedOf(t, w.Net)
	for at, link := range w.Net.Links {
		l.cut[link] = !w.Links[at]
	}
	for id := 1; id <= w.Net.N; id++ {
		l.down[id], l.boots[id], l.nodes[id] = !w.Up[id-1], w.Boots[id-1], w.Nodes[id-1]
	}
	l.flying, l.told, l.errors = slices.Clone(w.Flying), slices.Clone(w.Told), w.Errors
	return l
}

func (l *lived) world() impl.World {
	w := impl.World{Net: l.net, Flying: l.flying, Told: l.told, Errors: l.errors}
	for _, link := range l.net.Links {
		w.Links = append(w.Links, !l.cut[link])
	}
	for id := 1; id <= l.net.N; id++ {
		w.Up, w.Boots, w.Nodes = append(w.Up, !l.down[id]), append(w.Boots, l.boots[id]), append(w.Nodes, l.nodes[id])
	}
	return copyWorld(w)
}

func (l *lived) carries(p impl.Packet) bool {
	up := func(link impl.Link) bool {
		return link.A == min(p.From, p.To) && link.B == max(p.From, p.To) && link.Area == p.Area && !l.cut[link]
	}
	return slices.ContainsFunc(l.net.Links, up) && !l.down[p.From] && !l.down[p.To]
}

// say puts them there one by one, as long as there are less than 400.
func (l *lived) say(list ...impl.Packet) {
	for _, p := range list {
		if len(l.flying) < 400 {
			l.flying = append(l.flying, copyPacket(p))
		}
	}
}

func (l *lived) hear(p impl.Packet) int {
	if !l.carries(p) {
		return 1
	}
	n, said := impl.HearNode(l.nodes[p.To], p)
	l.nodes[p.To] = n
	l.say(said...)
	return 0
}

func (l *lived) tell() {
	for id := 1; id <= l.net.N; id++ {
		for _, r := range l.nodes[id].Self.Store {
			was := func(one impl.Record) bool { return keyOf(one) == keyOf(r) && one.Seq == r.Seq }
			if r.Owner == id && !slices.ContainsFunc(l.told, was) {
				l.told = append(l.told, r)
			}
		}
	}
}

func (l *lived) meet(e impl.Event) int {
	defer l.tell()
	switch e.Kind {
	case impl.EvTick:
		return l.tick(e.Node)
	case impl.EvDeliver, impl.EvDrop, impl.EvCopy:
		return l.touch(e)
	case impl.EvCut, impl.EvRaise:
		if len(l.net.Links) == 0 {
			return 1
		}
		link, was := l.net.Links[e.At%len(l.net.Links)], false
		was, l.cut[link] = l.cut[link], e.Kind == impl.EvCut
		return numberOf(was == l.cut[link])
	case impl.EvDown:
		was := l.down[e.Node]
		l.down[e.Node] = true
		return numberOf(was)
	case impl.EvUp:
		return l.comeUp(e.Node)
	}
	p, ok := impl.ReadPacket(e.Text)
	if !ok || p.To != e.Node {
		l.errors++
		return 1
	}
	return l.hear(p)
}

// numberOf is 1 for what came to nothing.
func numberOf(inVain bool) int {
	if inVain {
		return 1
	}
	return 0
}

func (l *lived) tick(node int) int {
	if l.down[node] {
		return 1
	}
	n, said := impl.TickNode(l.nodes[node])
	l.nodes[node] = n
	l.say(said...)
	return 0
}

// touch is about one of the packets that fly.
func (l *lived) touch(e impl.Event) int {
	if len(l.flying) == 0 {
		return 1
	}
	place := e.At % len(l.flying)
	p := l.flying[place]
	if e.Kind == impl.EvCopy {
		l.say(p)
		return 0
	}
	l.flying = append(slices.Clone(l.flying[:place]), l.flying[place+1:]...)
	if e.Kind == impl.EvDrop {
		return 0
	}
	return l.hear(p)
}

func (l *lived) comeUp(node int) int {
	if !l.down[node] {
		return 1
	}
	n, ok := impl.NodeNew(l.net, node, l.boots[node]+1)
	if !ok {
		return 2
	}
	l.boots[node]++
	l.nodes[node], l.down[node] = n, false
	return 0
}

func (l *lived) rest(rounds int) {
	for round := 0; round < rounds && round < 30; round++ {
		for id := 1; id <= l.net.N; id++ {
			if !l.down[id] {
				l.tick(id)
				l.tell()
			}
		}
		for delivered := 0; delivered < 3000 && len(l.flying) > 0; delivered++ {
			l.meet(evDeliver(0))
		}
	}
}

// mustBeWellTold holds that nothing is Told twice with its Seq, and that all is Told
// that nodes have of their own.
func mustBeWellTold(t *testing.T, name string, w impl.World) {
	t.Helper()
	told := map[[5]int]int{}
	for _, r := range w.Told {
		key := keyOf(r)
		told[[5]int{key[0], key[1], key[2], key[3], r.Seq}]++
	}
	for key, count := range told {
		if count > 1 {
			t.Fatalf("%s: %v is told %d times", name, key, count)
		}
	}
	for at, n := range w.Nodes {
		for _, r := range n.Self.Store {
			if key := keyOf(r); r.Owner == at+1 && told[[5]int{key[0], key[1], key[2], key[3], r.Seq}] == 0 {
				t.Fatalf("%s: node %d has not told %+v", name, at+1, r)
			}
		}
	}
}

// mustBeRightWorld holds promise 12's first half of a world, and what its lists are.
func mustBeRightWorld(t *testing.T, name string, x impl.Net, w impl.World) {
	t.Helper()
	if !sameNet(w.Net, x) || len(w.Links) != len(x.Links) || len(w.Up) != x.N || len(w.Boots) != x.N || len(w.Nodes) != x.N || len(w.Flying) > 400 {
		t.Fatalf("%s: %+v is no world of %+v", name, w, x)
	}
	for at, n := range w.Nodes {
		if !impl.NodeOk(n) || !nodeRightBy(n) || n.Self.Id != at+1 || n.Self.Boot != w.Boots[at] || !sameNet(n.Self.Net, x) {
			t.Fatalf("%s: node %d is not right: %+v", name, at+1, n)
		}
	}
	for _, p := range w.Flying {
		if !impl.PacketOk(p) {
			t.Fatalf("%s: what flies is not right: %+v", name, p)
		}
	}
	mustBeWellTold(t, name, w)
}

// mustRun holds a life against the document's words, and its numbers against these,
// where there are any.
func mustRun(t *testing.T, name string, x impl.Net, events []impl.Event, numbers ...int) impl.World {
	t.Helper()
	l := livedOf(t, x)
	var want []int
	for _, e := range events {
		want = append(want, l.meet(e))
	}
	if len(numbers) > 0 && !slices.Equal(numbers, want) {
		t.Fatalf("%s: by the words the numbers are %v; want %v", name, want, numbers)
	}
	w, got, ok := impl.RunNet(x, events)
	if !ok || !slices.Equal(got, want) {
		t.Fatalf("%s: RunNet(%+v, %s): %v, %v; want %v", name, x, shown(events...), got, ok, want)
	}
	mustBeWorld(t, name, w, l.world())
	mustBeRightWorld(t, name, x, w)
	return w
}

func mustNotRun(t *testing.T, name string, x impl.Net, events []impl.Event) {
	t.Helper()
	w, numbers, ok := impl.RunNet(x, events)
	if ok || len(numbers) > 0 || worldParts(w, impl.World{}) != "" {
		t.Fatalf("%s: RunNet(%+v, %s) = %+v, %v, %v", name, x, shown(events...), w, numbers, ok)
	}
}

// mustFly asks for just these, in this order.
func mustFly(t *testing.T, name string, w impl.World, want ...impl.Packet) {
	t.Helper()
	if !samePackets(w.Flying, want) {
		t.Fatalf("%s: what flies is %+v; want %+v", name, w.Flying, want)
	}
}

func mustBeTold(t *testing.T, name string, w impl.World, want ...impl.Record) {
	t.Helper()
	if !sameRecords(w.Told, want) {
		t.Fatalf("%s: told is %+v; want %+v", name, w.Told, want)
	}
}

// drawnAt is a place, most of them small, some at the end of what an int holds.
func drawnAt(d *draws) int {
	switch d.below(12) {
	case 0:
		return math.MaxInt - d.below(7)
	case 1:
		return d.below(1 << 30)
	case 2, 3, 4:
		return d.below(13)
	}
	return d.below(3)
}

// noPacket is a text that is none; it may be one with a byte turned.
func (l *lived) noPacket(t *testing.T, d *draws) string {
	t.Helper()
	switch d.below(4) {
	case 0:
		return []string{"", "x", "\x00\x00\x00\x00", strings.Repeat("\xff", 200), strings.Repeat("a", 199)}[d.below(5)]
	case 1:
		return sealedRight(string([]byte{byte(d.below(5)), byte(d.below(8)), byte(d.below(8)), byte(d.below(5)), 1}))
	}
	text := []byte(l.drawnText(t, d))
	text[d.below(len(text))] ^= byte(1 + d.below(255))
	return string(text)
}

// drawnText is of a right packet, most of them such as can come along: a hello, what
// flies, or news that need not be true.
func (l *lived) drawnText(t *testing.T, d *draws) string {
	t.Helper()
	node := 1 + d.below(l.net.N)
	p := packetFor(t, l.nodes[node], d)
	if len(l.flying) > 0 && d.below(3) == 0 {
		p = l.flying[d.below(len(l.flying))]
	}
	if d.below(10) == 0 {
		p = drawnPacket(t, d.below(1000))
	}
	text, ok := impl.PacketText(p)
	if !ok {
		t.Fatalf("%+v has no text", p)
	}
	if len(text) > 200 {
		text = mustComeBack(t, "short", saysHello(p.From, p.To, p.Area, p.To))
	}
	return text
}

// drawnEvent is right, and such as has something to do, more often than not.
func (l *lived) drawnEvent(t *testing.T, d *draws) impl.Event {
	t.Helper()
	kinds := []int{1, 1, 1, 1, 1, 1, 1, 1, 2, 2, 2, 2, 2, 2, 2, 2, 2, 2, 3, 4, 4, 5, 6, 7, 8, 8, 9, 9, 9, 9}
	e := impl.Event{Kind: kinds[d.below(len(kinds))], Node: 1 + d.below(l.net.N), At: drawnAt(d)}
	if e.Kind != impl.EvBytes {
		return e
	}
	if d.below(3) == 0 {
		e.Text = l.noPacket(t, d)
		return e
	}
	e.Text = l.drawnText(t, d)
	if p, ok := impl.ReadPacket(e.Text); ok && p.To <= l.net.N && d.below(5) > 0 {
		e.Node = p.To
	}
	return e
}

func drawnLifeNet(number int) impl.Net {
	switch number % 4 {
	case 0:
		return withThings(drawnNet(number), number)
	case 1:
		return inOneArea(withThings(drawnBorders(number), number), number%3)
	}
	return withThings(drawnBorders(number), number)
}

// lookEvent counts what is to be seen often enough in what is drawn.
func (n watched) lookEvent(was, is impl.World, e impl.Event, number int) {
	n.count(fmt.Sprint("kind ", e.Kind, " number ", number), true)
	n.count("delivered with answers", e.Kind == impl.EvDeliver && number == 0 && len(is.Flying) >= len(was.Flying))
	n.count("delivered over what does not carry", e.Kind == impl.EvDeliver && number == 1 && len(was.Flying) > 0)
	n.count("bytes with answers", e.Kind == impl.EvBytes && len(is.Flying) > len(was.Flying))
	n.count("bytes that are no packet", e.Kind == impl.EvBytes && is.Errors > was.Errors)
	n.count("bytes to a node that is down", e.Kind == impl.EvBytes && !was.Up[e.Node-1])
	n.count("bytes that do not carry", e.Kind == impl.EvBytes && number == 1 && is.Errors == was.Errors)
	n.count("told by tick", e.Kind == impl.EvTick && len(is.Told) > len(was.Told))
	n.count("told by deliver", e.Kind == impl.EvDeliver && len(is.Told) > len(was.Told))
	n.count("told by bytes", e.Kind == impl.EvBytes && len(is.Told) > len(was.Told))
	n.count("told by up", e.Kind == impl.EvUp && len(is.Told) > len(was.Told))
}

// Promise 12: behind every event of a drawn life all is right, and as the words have
// it; and a text that is no packet, put there at any time, changes nothing but Errors.
func TestADrawnLifesNodesStayRight(t *testing.T) {
	seen := watched{}
	for number := range 250 {
		d := &draws{state: 7*number + 1}
		x := drawnLifeNet(number)
		l := livedOf(t, x)
		name := fmt.Sprint("life ", number)
		was := mustRun(t, name, x, nil)
		var events []impl.Event
		var numbers []int
		for len(events) < impl.MaxLife-number%3 {
			e := l.drawnEvent(t, d)
			events, numbers = append(events, e), append(numbers, l.meet(e))
			w, got, ok := impl.RunNet(x, events)
			if !ok || !slices.Equal(got, numbers) {
				t.Fatalf("%s: RunNet(%+v, %s): %v, %v; want %v", name, x, shown(events...), got, ok, numbers)
			}
			mustBeWorld(t, fmt.Sprint(name, " behind ", shown(e)), w, l.world())
			mustBeRightWorld(t, name, x, w)
			seen.lookEvent(was, w, e, numbers[len(numbers)-1])
			was = w
			if len(events)%5 == 0 && len(events) < impl.MaxLife {
				mustMakeAnError(t, name, x, events, w, evBytes(1+d.below(x.N), l.noPacket(t, d)))
			}
		}
	}
	for kind := impl.EvTick; kind <= impl.EvBytes; kind++ {
		for _, number := range []int{0, 1} {
			if what := fmt.Sprint("kind ", kind, " number ", number); seen[what] < 20 {
				t.Errorf("too few of %s: %d", what, seen[what])
			}
		}
	}
	for _, what := range []string{"delivered with answers", "delivered over what does not carry", "bytes with answers", "bytes that are no packet",
		"bytes to a node that is down", "bytes that do not carry", "told by tick", "told by deliver", "told by bytes", "told by up"} {
		if seen[what] < 20 {
			t.Errorf("too few %s: %d", what, seen[what])
		}
	}
}

// mustMakeAnError puts a text that is no packet behind a life that came to w.
func mustMakeAnError(t *testing.T, name string, x impl.Net, events []impl.Event, w impl.World, e impl.Event) {
	t.Helper()
	if p, ok := impl.ReadPacket(e.Text); ok {
		t.Fatalf("%s: %q is %+v", name, e.Text, p)
	}
	more, numbers, ok := impl.RunNet(x, append(slices.Clone(events), e))
	if !ok || len(numbers) != len(events)+1 || numbers[len(events)] != 1 || more.Errors != w.Errors+1 {
		t.Fatalf("%s: behind %s: %v, %v, Errors %d; there were %d", name, shown(e), numbers, ok, more.Errors, w.Errors)
	}
	more.Errors--
	mustBeWorld(t, fmt.Sprint(name, ": no packet ", shown(e)), more, w)
}

// The same of lives that are much about one thing.
func TestDrawnLivesOfFewKinds(t *testing.T) {
	for name, kinds := range map[string][]int{
		"ticks and what comes":  {1, 1, 2, 2, 2},
		"all that falls":        {1, 1, 2, 2, 2, 5, 6, 7, 8},
		"lost, twice and late":  {1, 1, 2, 2, 2, 3, 4, 4},
		"bytes and falls":       {1, 2, 7, 8, 9, 9, 9},
		"down and up":           {1, 2, 2, 7, 8},
		"copies":                {1, 4, 4, 4},
		"links":                 {5, 6},
		"each as often as each": {1, 2, 3, 4, 5, 6, 7, 8, 9},
	} {
		for number := range 12 {
			d := &draws{state: 13*number + len(name)}
			x := drawnLifeNet(number)
			l := livedOf(t, x)
			var events []impl.Event
			for len(events) < impl.MaxLife {
				e := l.drawnEvent(t, d)
				if !slices.Contains(kinds, e.Kind) {
					continue
				}
				events = append(events, e)
				l.meet(e)
			}
			mustRun(t, name, x, events)
		}
	}
}

func TestEventOkAtTheEdges(t *testing.T) {
	x := midway()
	mustBe := func(name string, x impl.Net, e impl.Event, want bool) {
		t.Helper()
		if impl.EventOk(x, e) != want {
			t.Errorf("%s: EventOk(N %d, %s) = %v", name, x.N, shown(e), !want)
		}
	}
	for kind := -1; kind <= 11; kind++ {
		mustBe("a Kind", x, impl.Event{Kind: kind, Node: 1}, 1 <= kind && kind <= 9)
	}
	for _, kind := range []int{math.MinInt, math.MaxInt} {
		mustBe("a Kind", x, impl.Event{Kind: kind, Node: 1}, false)
	}
	for kind := impl.EvTick; kind <= impl.EvBytes; kind++ {
		name := fmt.Sprint("kind ", kind)
		for _, at := range []int{0, 1, 400, math.MaxInt} {
			mustBe(name, x, impl.Event{Kind: kind, Node: 1, At: at}, true)
		}
		for _, at := range []int{-1, -2, math.MinInt} {
			mustBe(name, x, impl.Event{Kind: kind, Node: 1, At: at}, false)
		}
		for node := 1; node <= x.N; node++ {
			mustBe(name, x, impl.Event{Kind: kind, Node: node}, true)
		}
		for _, node := range []int{math.MinInt, -1, 0, x.N + 1, x.N + 2, math.MaxInt} {
			mustBe(name, x, impl.Event{Kind: kind, Node: node}, false)
		}
		for size, right := range map[int]bool{0: true, 1: kind == impl.EvBytes, 199: kind == impl.EvBytes, 200: kind == impl.EvBytes, 201: false, 5000: false} {
			mustBe(name, x, impl.Event{Kind: kind, Node: 1, Text: strings.Repeat("\xff", size)}, right)
		}
		// Its length is its number of bytes.
		mustBe(name, x, impl.Event{Kind: kind, Node: 1, Text: strings.Repeat("ä", 100)}, kind == impl.EvBytes)
		mustBe(name, x, impl.Event{Kind: kind, Node: 1, Text: strings.Repeat("ä", 101)}, false)
		mustBe(name, x, impl.Event{Kind: kind, Node: 2, At: -1, Text: "x"}, false)
	}
	if impl.MaxLife != 60 || impl.EvTick != 1 || impl.EvDeliver != 2 || impl.EvDrop != 3 || impl.EvCopy != 4 || impl.EvCut != 5 ||
		impl.EvRaise != 6 || impl.EvDown != 7 || impl.EvUp != 8 || impl.EvBytes != 9 {
		t.Error("the constants are others")
	}
}

// Of a net that is not right N alone is looked at.
func TestEventOkOfNetsThatAreNotRight(t *testing.T) {
	wrong := impl.Net{Links: linksOf([][4]int{{5, 3, -1, 9}, {5, 3, -1, 9}}), Things: thingsOf([][4]int{{9, 9, 9, 9}})}
	for _, n := range []int{math.MinInt, -1, 0, 1, 2, 6, 7, 1000, math.MaxInt} {
		wrong.N = n
		for _, node := range []int{math.MinInt, -1, 0, 1, 2, 6, 7, 8, 1000, 1001, math.MaxInt} {
			if got := impl.EventOk(wrong, evTick(node)); got != (1 <= node && node <= n) {
				t.Errorf("N %d, node %d: %v", n, node, got)
			}
		}
	}
}

// wrongNets are not right in one part each.
func wrongNets() map[string]impl.Net {
	wrong := map[string]impl.Net{}
	for name, x := range wrongSelves() {
		if !impl.NetOk(x.Net) {
			wrong[name] = x.Net
		}
	}
	return wrong
}

func TestNewWorldsWrittenOut(t *testing.T) {
	w, ok := impl.WorldNew(midway())
	if !ok {
		t.Fatal("no world of midway")
	}
	mustBeTold(t, "midway", w, nodeTold(0, 1, 1), withSeq(thingTold(1, 3, 8), 1),
		nodeTold(0, 2, 1), nodeTold(1, 2, 1), nodeTold(2, 2, 1), withSeq(thingTold(2, 3, 5), 1), withSeq(farTold(2, 4, 6), 1),
		nodeTold(1, 3, 1), withSeq(farTold(3, 9, 7), 1), nodeTold(0, 4, 1), nodeTold(2, 4, 1), nodeTold(2, 5, 1))
	if !slices.Equal(w.Links, []bool{true, true, true, true, true}) || !slices.Equal(w.Up, []bool{true, true, true, true, true}) || !slices.Equal(w.Boots, []int{0, 0, 0, 0, 0}) {
		t.Errorf("midway: %v, %v, %v", w.Links, w.Up, w.Boots)
	}
	w, ok = impl.WorldNew(impl.Net{N: 1})
	if !ok || len(w.Links) > 0 || len(w.Nodes) != 1 || len(w.Told) > 0 || !slices.Equal(w.Up, []bool{true}) || !slices.Equal(w.Boots, []int{0}) {
		t.Errorf("one node: %+v, %v", w, ok)
	}
	w, ok = impl.WorldNew(impl.Net{N: 3, Things: thingsOf([][4]int{{3, 1, 2, 0}, {1, 5, 4, 1}, {3, 5, 6, 0}})})
	if !ok {
		t.Fatal("no world without links")
	}
	mustBeTold(t, "things without links", w, withSeq(farTold(1, 5, 4), 1), withSeq(thingTold(3, 1, 2), 1), withSeq(thingTold(3, 5, 6), 1))
}

// A new world is what its nodes make of it, in any right net.
func TestNewWorldsOfRightNets(t *testing.T) {
	mustBeNewWorld := func(x impl.Net) {
		t.Helper()
		w, ok := impl.WorldNew(x)
		if !ok || len(w.Flying) > 0 || w.Errors != 0 {
			t.Fatalf("WorldNew(%+v) = %+v, %v", x, w, ok)
		}
		mustBeWorld(t, "new", w, livedOf(t, x).world())
		mustBeRightWorld(t, "new", x, w)
		for at, n := range w.Nodes {
			if !sameNode(n, mustBeNewNode(t, "new", x, at+1, 0)) {
				t.Fatalf("%+v: node %d is %+v", x, at+1, n)
			}
		}
	}
	for _, x := range rightNets {
		mustBeNewWorld(x)
	}
	for number := range 60 {
		mustBeNewWorld(drawnLifeNet(number))
	}
	eachSmallNet(mustBeNewWorld)
}

func TestNetsThatAreNotRightHaveNoWorld(t *testing.T) {
	for name, x := range wrongNets() {
		if w, ok := impl.WorldNew(x); ok || worldParts(w, impl.World{}) != "" {
			t.Errorf("%s: WorldNew(%+v) = %+v, %v", name, x, w, ok)
		}
		for _, events := range [][]impl.Event{nil, {evTick(1)}, {evTick(1), evDeliver(0), evTick(0)}, times(61, evTick(1))} {
			mustNotRun(t, name, x, events)
		}
	}
}

// threeAreas has two links between 1 and 2, of which each is in an area of its own,
// and one link of 2 with 3.
func threeAreas() impl.Net {
	return impl.Net{N: 4, Links: linksOf([][4]int{{1, 2, 5, 0}, {1, 2, 6, 2}, {2, 3, 7, 1}})}
}

// anyPacket is asked about with nothing in it that Carries looks at but these three.
func anyPacket(from, to, area int) impl.Packet {
	return impl.Packet{From: from, To: to, Area: area}
}

// mustCarry asks both ways round, with packets that are right and that are not.
func mustCarry(t *testing.T, name string, w impl.World, from, to, area int, want bool) {
	t.Helper()
	for _, ends := range [][2]int{{from, to}, {to, from}} {
		for _, p := range []impl.Packet{anyPacket(ends[0], ends[1], area), saysHello(ends[0], ends[1], area, 1, 2), saysNews(ends[0], ends[1], area, nodeTold(0, 1, 1)),
			{Kind: 99, From: ends[0], To: ends[1], Area: area, Heard: []int{9, 1}}} {
			if impl.Carries(w, p) != want {
				t.Fatalf("%s: Carries(Links %v, Up %v, %+v) = %v", name, w.Links, w.Up, p, !want)
			}
		}
	}
}

func TestCarriesWrittenOut(t *testing.T) {
	w, _ := impl.WorldNew(threeAreas())
	mustCarry(t, "up", w, 1, 2, 0, true)
	mustCarry(t, "up, in another area", w, 1, 2, 2, true)
	mustCarry(t, "up, beside it", w, 2, 3, 1, true)
	mustCarry(t, "a link in other areas alone", w, 1, 2, 1, false)
	mustCarry(t, "a link in another area alone", w, 2, 3, 0, false)
	mustCarry(t, "no link", w, 1, 3, 0, false)
	mustCarry(t, "no link at all", w, 1, 4, 0, false)
	mustCarry(t, "with itself", w, 2, 2, 0, false)
	w.Links = []bool{false, true, true}
	mustCarry(t, "down", w, 1, 2, 0, false)
	mustCarry(t, "the other one is up", w, 1, 2, 2, true)
	w.Links = []bool{true, false, true}
	mustCarry(t, "up, the other one is down", w, 1, 2, 0, true)
	mustCarry(t, "the other one is down", w, 1, 2, 2, false)
	w.Links = []bool{true, true, true}
	for down := range 4 {
		w.Up = []bool{true, true, true, true}
		w.Up[down] = false
		mustCarry(t, fmt.Sprint("down is ", down+1), w, 1, 2, 0, down > 1)
		mustCarry(t, fmt.Sprint("down is ", down+1), w, 1, 2, 2, down > 1)
		mustCarry(t, fmt.Sprint("down is ", down+1), w, 2, 3, 1, down == 0 || down == 3)
	}
	w.Up = []bool{false, false, true, true}
	mustCarry(t, "both down", w, 1, 2, 0, false)
}

// Every choice of what is up, of all two nodes in all areas, and of some that are no
// nodes and no areas.
func TestCarriesOfAllThatIsUp(t *testing.T) {
	x := threeAreas()
	odd := []int{math.MinInt, -1, 0, 1, 2, 3, 4, 5, math.MaxInt}
	for choice := range 1 << 7 {
		w, _ := impl.WorldNew(x)
		for at := range 3 {
			w.Links[at] = choice>>at&1 == 1
		}
		for at := range 4 {
			w.Up[at] = choice>>(3+at)&1 == 1
		}
		l := livedFrom(t, w)
		for _, from := range odd {
			for _, to := range odd {
				for _, area := range odd {
					if p := anyPacket(from, to, area); impl.Carries(w, p) != l.carries(p) {
						t.Fatalf("Carries(Links %v, Up %v, %+v) = %v", w.Links, w.Up, p, !l.carries(p))
					}
				}
			}
		}
	}
}

// What the lists of a world do not tell of is not up; what they tell of besides is
// not there.
func TestCarriesOfWorldsWithOtherLists(t *testing.T) {
	base := func(change func(w *impl.World)) impl.World {
		w, _ := impl.WorldNew(threeAreas())
		change(&w)
		return w
	}
	mustCarry(t, "nothing", impl.World{}, 1, 2, 0, false)
	mustCarry(t, "nothing, with no nodes", impl.World{}, 0, 0, 0, false)
	mustCarry(t, "no Links", base(func(w *impl.World) { w.Links = nil }), 1, 2, 0, false)
	mustCarry(t, "no Up", base(func(w *impl.World) { w.Up = nil }), 1, 2, 0, false)
	mustCarry(t, "no net", base(func(w *impl.World) { w.Net = impl.Net{} }), 1, 2, 0, false)
	for count := range 5 {
		short := base(func(w *impl.World) { w.Links = slices.Repeat([]bool{true}, count) })
		mustCarry(t, fmt.Sprint(count, " Links"), short, 1, 2, 0, count > 0)
		mustCarry(t, fmt.Sprint(count, " Links"), short, 1, 2, 2, count > 1)
		mustCarry(t, fmt.Sprint(count, " Links"), short, 2, 3, 1, count > 2)
		short = base(func(w *impl.World) { w.Up = slices.Repeat([]bool{true}, count) })
		mustCarry(t, fmt.Sprint(count, " Up"), short, 1, 2, 0, count > 1)
		mustCarry(t, fmt.Sprint(count, " Up"), short, 2, 3, 1, count > 2)
	}
	many := slices.Repeat([]bool{true}, 30)
	mustCarry(t, "longer lists", base(func(w *impl.World) { w.Links, w.Up = many, many }), 2, 3, 1, true)
	mustCarry(t, "longer lists", base(func(w *impl.World) { w.Links, w.Up = many, many }), 3, 4, 1, false)
	// What else the world has is not looked at.
	mustCarry(t, "nothing else", base(func(w *impl.World) { w.Boots, w.Nodes, w.Told = nil, nil, nil }), 1, 2, 0, true)
	mustCarry(t, "odd nodes", base(func(w *impl.World) { w.Nodes = []impl.Node{{}, {}, {}, {}} }), 1, 2, 0, true)
}

// Nets that are not right: nodes are 1 .. N, links are what there is of them.
func TestCarriesOfNetsThatAreNotRight(t *testing.T) {
	many := slices.Repeat([]bool{true}, 30)
	w := impl.World{Net: impl.Net{N: 3, Links: linksOf([][4]int{{3, 1, 0, 0}, {1, 4, 5, 0}, {0, 1, 5, 0}, {1, 2, -5, 7}, {1, 2, 5, 0}, {1, 2, 5, 0}})}, Links: slices.Clone(many), Up: many}
	mustCarry(t, "from the other end, at no cost", w, 1, 3, 0, true)
	mustCarry(t, "with a number above N", w, 1, 4, 0, false)
	mustCarry(t, "with 0", w, 0, 1, 0, false)
	mustCarry(t, "in an area that is none", w, 1, 2, 7, true)
	for choice := range 4 {
		w.Links[4], w.Links[5] = choice&1 == 1, choice&2 == 2
		mustCarry(t, fmt.Sprint("a link twice, ", choice), w, 1, 2, 0, choice > 0)
	}
	for _, n := range []int{math.MinInt, -1, 0, 1, 2, math.MaxInt} {
		w.Net.N = n
		mustCarry(t, fmt.Sprint("N ", n), w, 1, 3, 0, n > 2)
		mustCarry(t, fmt.Sprint("N ", n), w, math.MinInt, math.MaxInt, 0, false)
	}
	for _, x := range wrongNets() {
		for _, ends := range [][2]int{{1, 2}, {2, 3}, {0, 0}, {-1, 7}, {math.MinInt, math.MaxInt}, {2, math.MaxInt}} {
			impl.Carries(impl.World{Net: x, Links: many, Up: many}, anyPacket(ends[0], ends[1], 0))
			impl.Carries(impl.World{Net: x}, anyPacket(ends[0], ends[1], 0))
		}
	}
}

func TestLivesOfNoEventsAndOfMost(t *testing.T) {
	for name, x := range rightNets {
		fresh, _ := impl.WorldNew(x)
		for _, events := range [][]impl.Event{nil, {}} {
			w, numbers, ok := impl.RunNet(x, events)
			if !ok || len(numbers) > 0 {
				t.Errorf("%s: no events: %v, %v", name, numbers, ok)
			}
			mustBeWorld(t, name, w, fresh)
		}
		mustRun(t, name, x, times(impl.MaxLife-1, evTick(1)))
		mustRun(t, name, x, times(impl.MaxLife, evTick(1)))
		mustNotRun(t, name, x, times(impl.MaxLife+1, evTick(1)))
		mustNotRun(t, name, x, times(5000, evDrop(0)))
	}
	// Whatever the events are.
	if w, numbers, ok := impl.RunNet(midway(), times(impl.MaxLife, evBytes(5, ""))); !ok || len(numbers) != impl.MaxLife || w.Errors != impl.MaxLife {
		t.Errorf("%d events: %v, %v, %+v", impl.MaxLife, numbers, ok, w)
	}
}

func TestLivesWithAnEventThatIsNotRight(t *testing.T) {
	x := midway()
	right := eventsOf(evTick(1), evDeliver(0), evCut(3), evDown(2), evUp(2), evBytes(3, "x"))
	wrong := []impl.Event{{}, {Kind: 10, Node: 1}, {Kind: -1, Node: 1}, evTick(0), evTick(6), evDown(-1), evUp(6), evDeliver(-1), evCut(-1), evRaise(math.MinInt),
		{Kind: impl.EvTick, Node: 1, Text: "x"}, {Kind: impl.EvUp, Node: 1, Text: " "}, evBytes(1, strings.Repeat("x", 201)), evBytes(6, ""), {Kind: impl.EvBytes, Node: 1, At: -1}}
	mustRun(t, "all right", x, right)
	for _, e := range wrong {
		for at := range len(right) + 1 {
			mustNotRun(t, "one that is not right", x, slices.Insert(slices.Clone(right), at, e))
		}
		mustNotRun(t, "the last of most", x, append(times(impl.MaxLife-1, evTick(1)), e))
		mustNotRun(t, "the first of most", x, append([]impl.Event{e}, times(impl.MaxLife-1, evTick(1))...))
	}
}

// twoNodes have one link, in area 0.
func twoNodes() impl.Net {
	return rightNets["two nodes"]
}

func TestALifeOfTwoNodesWrittenOut(t *testing.T) {
	x := twoNodes()
	first, second := nodeTold(0, 1, 1), nodeTold(0, 2, 1)
	near, back := nodeTold(0, 1, 2, [2]int{2, 7}), nodeTold(0, 2, 2, [2]int{1, 7})
	events := eventsOf(evTick(1))
	w := mustRun(t, "1 ticks", x, events, 0)
	mustFly(t, "1 ticks", w, saysHello(1, 2, 0))
	mustBeTold(t, "1 ticks", w, first, second)
	events = eventsOf(events, evDeliver(0), evTick(2))
	w = mustRun(t, "2 has heard it", x, events, 0, 0, 0)
	mustFly(t, "2 has heard it", w, saysHello(2, 1, 0, 1))
	mustHave(t, "2 has heard it", w.Nodes[1], [4]int{1, 0, 2, 0})
	events = eventsOf(events, evDeliver(0))
	w = mustRun(t, "1 hears it back", x, events, 0, 0, 0, 0)
	mustFly(t, "1 hears it back", w, saysNews(1, 2, 0, near))
	mustHave(t, "1 hears it back", w.Nodes[0], [4]int{2, 0, 3, 1})
	mustBeTold(t, "1 hears it back", w, first, second, near)
	// 2 does not know yet that it is heard, so it lets that pass.
	events = eventsOf(events, evDeliver(0), evTick(1), evDeliver(0))
	w = mustRun(t, "both hear each other", x, events, 0, 0, 0, 0, 0, 0, 0)
	mustFly(t, "both hear each other", w, saysSum(1, 2, 0, near), saysNews(2, 1, 0, back))
	mustBeTold(t, "both hear each other", w, first, second, near, back)
	events = eventsOf(events, evDeliver(1), evDeliver(0))
	w = mustRun(t, "1 knows all", x, events)
	mustKnow(t, "1 knows all", w.Nodes[0], near, back)
	mustFly(t, "1 knows all", w, saysNews(2, 1, 0, back), saysSum(2, 1, 0, back))
	w = mustRun(t, "2 asked for it", x, eventsOf(events, evDrop(0), evDeliver(0)))
	mustFly(t, "2 asked for it", w, saysNews(1, 2, 0, near))
	events = eventsOf(events, times(3, evDeliver(0)))
	w = mustRun(t, "both know all", x, events)
	mustFly(t, "both know all", w)
	for at, n := range w.Nodes {
		mustKnow(t, "both know all", n, near, back)
		mustLead(t, "both know all", n, 2-at, 7)
	}
	mustBeTold(t, "both know all", w, first, second, near, back)
	if w.Errors != 0 || !slices.Equal(w.Boots, []int{0, 0}) {
		t.Errorf("Errors %d, Boots %v", w.Errors, w.Boots)
	}
}

// Each Kind at a node that is up, and at one that is down.
func TestEventsAtNodesThatAreDown(t *testing.T) {
	x := twoNodes()
	hello := saysHello(2, 1, 0, 1)
	for name, c := range map[string]struct {
		before     []impl.Event
		e          impl.Event
		up, isDown int
	}{
		"tick":                {nil, evTick(1), 0, 1},
		"deliver nothing":     {nil, evDeliver(0), 1, 1},
		"drop nothing":        {nil, evDrop(0), 1, 1},
		"copy nothing":        {nil, evCopy(0), 1, 1},
		"deliver to it":       {eventsOf(evTick(2)), evDeliver(0), 0, 1},
		"deliver from it":     {eventsOf(evTick(1)), evDeliver(0), 0, 1},
		"drop what is to it":  {eventsOf(evTick(2)), evDrop(0), 0, 0},
		"copy what is to it":  {eventsOf(evTick(2)), evCopy(0), 0, 0},
		"drop what is its":    {eventsOf(evTick(1)), evDrop(0), 0, 0},
		"copy what is its":    {eventsOf(evTick(1)), evCopy(0), 0, 0},
		"cut":                 {nil, evCut(0), 0, 0},
		"cut again":           {eventsOf(evCut(0)), evCut(0), 1, 1},
		"raise what is up":    {nil, evRaise(0), 1, 1},
		"raise":               {eventsOf(evCut(0)), evRaise(0), 0, 0},
		"down":                {nil, evDown(1), 0, 1},
		"up":                  {nil, evUp(1), 1, 0},
		"bytes to it":         {nil, evSays(t, hello), 0, 1},
		"bytes from it":       {nil, evSays(t, saysHello(1, 2, 0)), 0, 1},
		"bytes that are none": {nil, evBytes(1, "x"), 1, 1},
	} {
		w := mustRun(t, name, x, eventsOf(c.before, c.e))
		numbers := mustHaveNumbers(t, x, eventsOf(c.before, c.e))
		if numbers[len(numbers)-1] != c.up {
			t.Errorf("%s: up: %v, %+v", name, numbers, w)
		}
		fallen := eventsOf(c.before, evDown(1))
		was := mustRun(t, name, x, fallen)
		w = mustRun(t, name, x, eventsOf(fallen, c.e))
		numbers = mustHaveNumbers(t, x, eventsOf(fallen, c.e))
		if numbers[len(numbers)-1] != c.isDown {
			t.Errorf("%s: down: %v, %+v", name, numbers, w)
		}
		// Who is down says and hears nothing, and knows what it knew.
		if c.e.Kind != impl.EvUp && (!sameNode(w.Nodes[0], was.Nodes[0]) || !sameRecords(w.Told, was.Told) || !slices.Equal(w.Boots, was.Boots)) {
			t.Errorf("%s: down: %s", name, worldParts(was, w))
		}
	}
}

func mustHaveNumbers(t *testing.T, x impl.Net, events []impl.Event) []int {
	t.Helper()
	_, numbers, ok := impl.RunNet(x, events)
	if !ok || len(numbers) != len(events) {
		t.Fatalf("RunNet(%+v, %s): %v, %v", x, shown(events...), numbers, ok)
	}
	return numbers
}

// star has node 1 next to four others, whose hellos fly in order.
func star() impl.Net {
	return impl.Net{N: 5, Links: linksOf([][4]int{{1, 2, 1, 0}, {1, 3, 1, 0}, {1, 4, 1, 0}, {1, 5, 1, 0}})}
}

// At below, at and above how many there are, modulo.
func TestPlacesOfWhatFlies(t *testing.T) {
	x := star()
	hellos := []impl.Packet{saysHello(1, 2, 0), saysHello(1, 3, 0), saysHello(1, 4, 0), saysHello(1, 5, 0)}
	for at, place := range map[int]int{0: 0, 1: 1, 2: 2, 3: 3, 4: 0, 5: 1, 7: 3, 8: 0, 401: 1, math.MaxInt: 3, math.MaxInt - 1: 2, math.MaxInt - 3: 0} {
		name := fmt.Sprint("at ", at)
		less := slices.Delete(slices.Clone(hellos), place, place+1)
		w := mustRun(t, name, x, eventsOf(evTick(1), evDrop(at)), 0, 0)
		mustFly(t, name, w, less...)
		for id, n := range w.Nodes {
			if !sameNode(n, mustBeNewNode(t, name, x, id+1, 0)) {
				t.Errorf("%s: what is dropped comes to %d: %+v", name, id+1, n)
			}
		}
		w = mustRun(t, name, x, eventsOf(evTick(1), evCopy(at)), 0, 0)
		mustFly(t, name, w, append(slices.Clone(hellos), hellos[place])...)
		w = mustRun(t, name, x, eventsOf(evTick(1), evDeliver(at)), 0, 0)
		mustFly(t, name, w, less...)
		for id := 2; id <= 5; id++ {
			left := 0
			if id == place+2 {
				left = impl.Hold
			}
			mustHave(t, name, w.Nodes[id-1], [4]int{1, 0, left, 0})
		}
	}
	// All of them, and one more.
	for _, e := range []impl.Event{evDeliver(3), evDrop(3)} {
		w := mustRun(t, "all", x, eventsOf(evTick(1), times(5, e)), 0, 0, 0, 0, 0, 1)
		mustFly(t, "all", w)
	}
	// A copy is one more: what is copied comes twice.
	w := mustRun(t, "twice", x, eventsOf(evTick(1), evCopy(2), evDeliver(2), evDeliver(3)), 0, 0, 0, 0)
	mustFly(t, "twice", w, hellos[0], hellos[1], hellos[3])
}

// The Node of what is about packets and links, and the At of what is about nodes, are
// not looked at.
func TestWhatEventsDoNotLookAt(t *testing.T) {
	x := star()
	for _, about := range []impl.Event{evDeliver(1), evDrop(1), evCopy(1), evCut(1), evRaise(1)} {
		want := mustRun(t, "node 1", x, eventsOf(evTick(1), evDown(5), evCut(1), about))
		for node := 2; node <= 5; node++ {
			about.Node = node
			mustBeWorld(t, "another Node", mustRun(t, "another Node", x, eventsOf(evTick(1), evDown(5), evCut(1), about)), want)
		}
	}
	for _, about := range []impl.Event{evTick(2), evDown(2), evUp(3), evSays(t, saysHello(1, 2, 0)), evBytes(2, "x")} {
		want := mustRun(t, "at 0", x, eventsOf(evTick(1), evDown(3), about))
		for _, at := range []int{1, 2, 5, math.MaxInt} {
			about.At = at
			mustBeWorld(t, "another At", mustRun(t, "another At", x, eventsOf(evTick(1), evDown(3), about)), want)
		}
	}
}

func TestLinksAreCutAndRaised(t *testing.T) {
	x := threeAreas()
	for at, place := range map[int]int{0: 0, 1: 1, 2: 2, 3: 0, 4: 1, 60: 0, math.MaxInt: 1, math.MaxInt - 1: 0} {
		name := fmt.Sprint("at ", at)
		links := []bool{true, true, true}
		links[place] = false
		w := mustRun(t, name, x, eventsOf(evCut(at), evCut(at), evCut(place)), 0, 1, 1)
		if !slices.Equal(w.Links, links) {
			t.Errorf("%s: cut: %v", name, w.Links)
		}
		w = mustRun(t, name, x, eventsOf(evRaise(at), evCut(place), evRaise(at), evRaise(place), evRaise(at)), 1, 0, 0, 1, 1)
		if !slices.Equal(w.Links, []bool{true, true, true}) {
			t.Errorf("%s: raised: %v", name, w.Links)
		}
	}
	mustRun(t, "all", x, eventsOf(evCut(0), evCut(1), evCut(2), evCut(3), evRaise(1), evRaise(4), evRaise(2)), 0, 0, 0, 1, 0, 1, 0)
	for name, x := range map[string]impl.Net{"one node": {N: 1}, "without links": {N: 6, Things: thingsOf([][4]int{{2, 1, 2, 0}})}} {
		w := mustRun(t, name, x, eventsOf(evCut(0), evCut(5), evRaise(0), evRaise(math.MaxInt), evTick(1), evDeliver(0)), 1, 1, 1, 1, 0, 1)
		if len(w.Links)+len(w.Flying) > 0 {
			t.Errorf("%s: %+v", name, w)
		}
	}
	// What nodes hear goes on by itself: a cut changes no node, nor what flies.
	was := mustRun(t, "uncut", x, eventsOf(evTick(1), evTick(2), evDeliver(0)))
	w := mustRun(t, "cut", x, eventsOf(evTick(1), evTick(2), evDeliver(0), evCut(0)), 0, 0, 0, 0)
	was.Links[0] = false
	mustBeWorld(t, "cut", w, was)
}

func TestNodesFallAndComeUp(t *testing.T) {
	x := midway()
	own := func(seq int) []impl.Record {
		return []impl.Record{nodeTold(1, 3, seq), withSeq(farTold(3, 9, 7), seq)}
	}
	fresh, _ := impl.WorldNew(x)
	w := mustRun(t, "down", x, eventsOf(evDown(3), evDown(3), evDown(3)), 0, 1, 1)
	want := copyWorld(fresh)
	want.Up[2] = false
	mustBeWorld(t, "down", w, want)
	w = mustRun(t, "up that is up", x, eventsOf(evUp(3), evUp(3)), 1, 1)
	mustBeWorld(t, "up that is up", w, fresh)
	w = mustRun(t, "down and up", x, eventsOf(evDown(3), evUp(3), evUp(3)), 0, 0, 1)
	want = copyWorld(fresh)
	want.Boots[2], want.Nodes[2] = 1, mustBeNewNode(t, "again", x, 3, 1)
	want.Told = append(want.Told, own(1001)...)
	mustBeWorld(t, "down and up", w, want)
	w = mustRun(t, "twice", x, eventsOf(evDown(3), evUp(3), evDown(3), evUp(3), evDown(3)), 0, 0, 0, 0, 0)
	want.Boots[2], want.Nodes[2], want.Up[2] = 2, mustBeNewNode(t, "again", x, 3, 2), false
	want.Told = append(want.Told, own(2001)...)
	mustBeWorld(t, "twice", w, want)
	w = mustRun(t, "two of them", x, eventsOf(evDown(3), evDown(1), evUp(3), evUp(1), evDown(1)))
	if !slices.Equal(w.Up, []bool{false, true, true, true, true}) || !slices.Equal(w.Boots, []int{1, 0, 1, 0, 0}) {
		t.Errorf("two of them: %v, %v", w.Up, w.Boots)
	}
}

// A life has room for 30 Boots, far below MaxBoot: no node is ever refused for them.
func TestNodesComeUpAsOftenAsALifeLasts(t *testing.T) {
	x := midway()
	again := slices.Repeat(eventsOf(evDown(2), evUp(2)), impl.MaxLife/2)
	w := mustRun(t, "as often as it lasts", x, again, make([]int, impl.MaxLife)...)
	if w.Boots[1] != impl.MaxLife/2 || !w.Up[1] || w.Boots[1] >= impl.MaxBoot {
		t.Errorf("%v, %v", w.Boots, w.Up)
	}
	mustKnow(t, "as often as it lasts", w.Nodes[1], nodeTold(0, 2, 30001), nodeTold(1, 2, 30001), nodeTold(2, 2, 30001), withSeq(thingTold(2, 3, 5), 30001), withSeq(farTold(2, 4, 6), 30001))
	if len(w.Told) != 12+5*impl.MaxLife/2 {
		t.Errorf("told are %d", len(w.Told))
	}
}

// Who comes up knows nothing, and goes on behind what it told in its Boot ahead.
func TestWhoComesUpGoesOnBehindWhatItTold(t *testing.T) {
	x := twoNodes()
	talked := eventsOf(evSays(t, saysHello(1, 2, 0, 2)), evSays(t, saysHello(2, 1, 0, 1)), evDeliver(0), evDeliver(0))
	w := mustRun(t, "talked", x, talked, 0, 0, 0, 0)
	near, back := nodeTold(0, 1, 2, [2]int{2, 7}), nodeTold(0, 2, 2, [2]int{1, 7})
	mustKnow(t, "1 knows both", w.Nodes[0], near, back)
	fallen := eventsOf(talked, evDown(2))
	w = mustRun(t, "fallen", x, fallen)
	mustKnow(t, "who is down knows what it knew", w.Nodes[1], near, back)
	risen := eventsOf(fallen, evUp(2))
	w = mustRun(t, "risen", x, risen)
	mustKnow(t, "who came up knows nothing", w.Nodes[1], nodeTold(0, 2, 1001))
	mustHave(t, "who came up has heard nothing", w.Nodes[1], [4]int{1, 0, 0, 0})
	mustBeTold(t, "risen", w, nodeTold(0, 1, 1), nodeTold(0, 2, 1), back, near, nodeTold(0, 2, 1001))
	w = mustRun(t, "talked again", x, eventsOf(risen, evSays(t, saysHello(1, 2, 0, 2)), evDeliver(0)))
	mustKnow(t, "1 knows the new one", w.Nodes[0], near, nodeTold(0, 2, 1002, [2]int{1, 7}))
}

func TestDeliverOfWhatDoesNotCarryAnyMore(t *testing.T) {
	x := rightNets["two nodes in two areas"]
	for name, c := range map[string]struct {
		between []impl.Event
		number  int
	}{
		"nothing":                  {nil, 0},
		"the link is cut":          {eventsOf(evCut(0)), 1},
		"the other link is cut":    {eventsOf(evCut(1)), 0},
		"cut and raised":           {eventsOf(evCut(0), evRaise(0)), 0},
		"who hears it is down":     {eventsOf(evDown(2)), 1},
		"who said it is down":      {eventsOf(evDown(1)), 1},
		"both are down":            {eventsOf(evDown(1), evDown(2)), 1},
		"who hears it came up":     {eventsOf(evDown(2), evUp(2)), 0},
		"who said it came up":      {eventsOf(evDown(1), evUp(1)), 0},
		"came up, the link is cut": {eventsOf(evDown(2), evCut(0), evUp(2)), 1},
	} {
		events := eventsOf(evTick(1), c.between)
		was := mustRun(t, name, x, events)
		events = eventsOf(events, evDeliver(0))
		w := mustRun(t, name, x, events)
		if numbers := mustHaveNumbers(t, x, events); numbers[len(numbers)-1] != c.number {
			t.Errorf("%s: %v", name, numbers)
		}
		// It is taken away all the same, and what does not carry does nothing else.
		mustFly(t, name, w, saysHello(1, 2, 2))
		if c.number == 1 {
			was.Flying = was.Flying[1:]
			mustBeWorld(t, name, w, was)
		} else {
			mustHave(t, name, w.Nodes[1], [4]int{1, 0, 3, 0}, [4]int{1, 2, 0, 0})
		}
	}
}

func TestBytesOfRightPackets(t *testing.T) {
	x := midway()
	hello := saysHello(1, 2, 0, 2, 4)
	text := mustComeBack(t, "hello", hello)
	w := mustRun(t, "to Node", x, eventsOf(evBytes(2, text)), 0)
	mustHave(t, "to Node", w.Nodes[1], [4]int{1, 0, 3, 1}, [4]int{3, 1, 0, 0}, [4]int{5, 2, 0, 0})
	mustFly(t, "to Node", w, saysNews(2, 1, 0, nodeTold(0, 2, 2, [2]int{1, 3})))
	if w.Errors != 0 || !sameRecord(w.Told[len(w.Told)-1], nodeTold(0, 2, 2, [2]int{1, 3})) {
		t.Errorf("to Node: Errors %d, told %s", w.Errors, brief(w.Told))
	}
	fresh, _ := impl.WorldNew(x)
	for _, node := range []int{1, 3, 4, 5} {
		w = mustRun(t, "to another", x, eventsOf(evBytes(node, text), evBytes(node, text)), 1, 1)
		want := copyWorld(fresh)
		want.Errors = 2
		mustBeWorld(t, "to another", w, want)
	}
	for name, c := range map[string]struct {
		before []impl.Event
		p      impl.Packet
		number int
	}{
		"over a link that is cut":          {eventsOf(evCut(0)), hello, 1},
		"over a link that is raised":       {eventsOf(evCut(0), evRaise(0)), hello, 0},
		"another link is cut":              {eventsOf(evCut(1), evCut(2), evCut(3), evCut(4)), hello, 0},
		"from a node that is down":         {eventsOf(evDown(1)), hello, 1},
		"from a node that came up":         {eventsOf(evDown(1), evUp(1)), hello, 0},
		"to a node that is down":           {eventsOf(evDown(2)), hello, 1},
		"of an area where they have none":  {nil, saysHello(1, 2, 1, 2), 1},
		"from who has no link with it":     {nil, saysHello(4, 2, 0, 2), 1},
		"from who is no node":              {nil, saysHello(6, 2, 0, 2), 1},
		"a sum that is let pass":           {nil, saysSum(1, 2, 0), 0},
		"news that are let pass":           {nil, saysNews(1, 2, 0, nodeTold(0, 1, 9)), 0},
		"a sum from who is heard":          {eventsOf(evBytes(2, text)), saysSum(1, 2, 0, nodeTold(0, 1, 9)), 0},
		"news from who is heard":           {eventsOf(evBytes(2, text)), saysNews(1, 2, 0, nodeTold(0, 1, 9)), 0},
		"news from who is heard, and down": {eventsOf(evBytes(2, text), evDown(1)), saysNews(1, 2, 0, nodeTold(0, 1, 9)), 1},
	} {
		was := mustRun(t, name, x, c.before)
		events := eventsOf(c.before, evSays(t, c.p))
		w := mustRun(t, name, x, events)
		if numbers := mustHaveNumbers(t, x, events); numbers[len(numbers)-1] != c.number || w.Errors != 0 {
			t.Errorf("%s: %v, Errors %d", name, numbers, w.Errors)
		}
		if c.number == 1 {
			mustBeWorld(t, name, w, was)
		}
	}
	// A packet to a number that is no node of the net is to no Node.
	mustRun(t, "to no node", x, eventsOf(evBytes(1, mustComeBack(t, "to 6", saysHello(2, 6, 0)))), 1)
}

// Promise 12's second half, of a right packet's text with one byte turned, and of
// texts that are not sealed, or seal something else.
func TestBytesThatAreNoPacket(t *testing.T) {
	x := midway()
	before := eventsOf(evTick(1), evDown(5), evCut(3), evBytes(2, mustComeBack(t, "hello", saysHello(1, 2, 0, 2))), evCopy(0))
	was := mustRun(t, "before", x, before)
	text := mustComeBack(t, "news", saysNews(1, 2, 0, nodeTold(0, 1, 9, [2]int{2, 3}), thingTold(1, 3, 8)))
	texts := []string{"", "x", text[1:], text[:len(text)-1], text + "\x00", text + text, "\x00" + text, text[:len(text)-4], strings.Repeat("\x01", 200)}
	for at := range text {
		for _, flip := range []byte{1, 2, 128, 255} {
			bytes := []byte(text)
			bytes[at] ^= flip
			texts = append(texts, string(bytes))
		}
	}
	for _, p := range []impl.Packet{{Kind: 0, From: 1, To: 2}, {Kind: 4, From: 1, To: 2}, {Kind: 1, From: 2, To: 2}, {Kind: 1, From: 1, To: 2, Area: 3}, {Kind: 1, From: 1, To: 2, Heard: []int{2, 1}}, {Kind: 1, From: 7, To: 2}} {
		body, _ := bodyByRule(p)
		texts = append(texts, sealedRight(body))
	}
	for _, text := range texts {
		// 5 is down: what comes there is an error all the same.
		for _, node := range []int{1, 2, 5} {
			mustMakeAnError(t, "no packet", x, before, was, evBytes(node, text))
		}
	}
}

// crowd has node 1 with as many Ears as a node can have.
func crowd(links int) impl.Net {
	x := impl.Net{N: 6}
	for at := range links {
		x.Links = append(x.Links, impl.Link{A: 1, B: 2 + at/3, Cost: 5, Area: at % 3})
	}
	return x
}

// No more than 400 fly: what would be more is not said, but done.
func TestNoMoreThan400Fly(t *testing.T) {
	flying := func(name string, x impl.Net, events []impl.Event, want int) impl.World {
		t.Helper()
		w := mustRun(t, name, x, events)
		if len(w.Flying) != want {
			t.Fatalf("%s: %d fly; want %d", name, len(w.Flying), want)
		}
		return w
	}
	ten, twelve := crowd(10), crowd(12)
	flying("one less than just", ten, times(39, evTick(1)), 390)
	flying("just", ten, times(40, evTick(1)), 400)
	flying("one more than just", ten, times(41, evTick(1)), 400)
	flying("up to the end", ten, times(60, evTick(1)), 400)
	flying("none is left over", twelve, times(33, evTick(1)), 396)
	w := flying("some of what is said", twelve, times(34, evTick(1)), 400)
	mustFly(t, "the first four of it", impl.World{Flying: w.Flying[396:]}, saysHello(1, 2, 0), saysHello(1, 2, 1), saysHello(1, 2, 2), saysHello(1, 3, 0))
	if w.Flying[395].To != 5 || w.Flying[395].Area != 2 {
		t.Errorf("ahead of it is %+v", w.Flying[395])
	}
	// A tick that can say nothing is one all the same: the Ear fades.
	heard := eventsOf(times(40, evTick(1)), evSays(t, saysHello(2, 1, 0, 1)))
	w = flying("what is told at 400 is not said", ten, heard, 400)
	if r := w.Told[len(w.Told)-1]; !sameRecord(r, nodeTold(0, 1, 2, [2]int{2, 5})) {
		t.Errorf("told last is %+v", r)
	}
	w = flying("ticks at 400", ten, eventsOf(heard, times(3, evTick(1))), 400)
	if w.Nodes[0].Ears[0].Left != 0 || len(w.Told) != len(livedOf(t, ten).told)+2 {
		t.Errorf("%+v, told %s", w.Nodes[0].Ears, brief(w.Told))
	}
	// A copy is one of them: at 399 there is room for it, at 400 none.
	full := eventsOf(times(33, evTick(1)), times(3, evCopy(5)))
	flying("copies", twelve, full, 399)
	flying("copies up to 400", twelve, eventsOf(full, evCopy(7)), 400)
	w = flying("a copy too many", twelve, eventsOf(full, evCopy(7), evCopy(8)), 400)
	if numbers := mustHaveNumbers(t, twelve, eventsOf(full, evCopy(7), evCopy(8))); numbers[len(numbers)-1] != 0 || w.Flying[399].To != saysHello(1, 4, 1).To || w.Flying[399].Area != 1 {
		t.Errorf("a copy too many: %v, %+v", numbers, w.Flying[399])
	}
	flying("room by a drop", twelve, eventsOf(full, evCopy(7), evDrop(0), evCopy(8)), 400)
	// Of two answers the first one is said at 399; what is taken away makes room.
	sum := saysSum(2, 1, 0, nodeTold(0, 2, 9))
	asked := eventsOf(times(33, evTick(1)), evSays(t, saysHello(2, 1, 0, 1)), evCopy(0), evCopy(0))
	flying("ahead of two answers", twelve, asked, 399)
	w = flying("one of two answers", twelve, eventsOf(asked, evSays(t, sum)), 400)
	if w.Flying[399].Kind != impl.SayNews {
		t.Errorf("the first of two answers is %+v", w.Flying[399])
	}
	flying("both answers", twelve, eventsOf(asked, evDrop(0), evSays(t, sum)), 400)
	flying("no answer", twelve, eventsOf(asked, evCopy(0), evSays(t, sum)), 400)
	// What is delivered at 400 leaves room for one answer: the hello of 2, which comes
	// back to 1 at the end of what flies.
	back := eventsOf(times(1, evTick(1)), evDeliver(0), times(32, evTick(1)), evTick(2), times(3, evCopy(0)))
	flying("ahead of what is delivered", twelve, back, 400)
	w = flying("delivered at 400", twelve, eventsOf(back, evDeliver(395)), 400)
	if w.Flying[399].Kind != impl.SayNews {
		t.Errorf("the answer is %+v", w.Flying[399])
	}
}

// Each record of a node's own is Told behind the event, once for its Seq, in order of
// nodes and keys.
func TestToldIsToldOnce(t *testing.T) {
	x := midway()
	hello := evSays(t, saysHello(1, 2, 0, 2))
	near := nodeTold(0, 2, 2, [2]int{1, 3})
	base := livedOf(t, x).told
	w := mustRun(t, "once", x, eventsOf(hello, hello, hello, evTick(2)))
	mustBeTold(t, "once", w, append(deepCopy(base), near)...)
	// It falls away after Hold ticks, and comes back: each time with another Seq.
	w = mustRun(t, "away and back", x, eventsOf(hello, times(4, evTick(2)), hello))
	mustBeTold(t, "away and back", w, append(deepCopy(base), near, nodeTold(0, 2, 3), nodeTold(0, 2, 4, [2]int{1, 3}))...)
	// News of 1 make what the border tells into both other areas, in one event.
	news := evSays(t, saysNews(1, 2, 0, nodeTold(0, 1, 4, [2]int{2, 3})))
	w = mustRun(t, "several at once", x, eventsOf(hello, news, news))
	mustBeTold(t, "several at once", w, append(deepCopy(base), near, withSeq(beyondTold(1, 2, 1, 3), 1), withSeq(beyondTold(2, 2, 1, 3), 1))...)
	// What others have of a node is told by itself alone.
	if slices.ContainsFunc(w.Told, func(r impl.Record) bool { return r.Owner == 1 && r.Seq == 4 }) {
		t.Errorf("told is what only 2 has: %s", brief(w.Told))
	}
	// Its own, which comes with a Seq that it did not tell: if it wants just that, it is
	// told with that Seq; if it wants another, with one that is behind.
	own := evSays(t, saysNews(1, 2, 0, withSeq(near, 7)))
	w = mustRun(t, "its own comes", x, eventsOf(hello, own, own))
	mustBeTold(t, "its own comes", w, append(deepCopy(base), near, withSeq(near, 7))...)
	other := evSays(t, saysNews(1, 2, 0, nodeTold(0, 2, 7, [2]int{4, 1})))
	w = mustRun(t, "another of its own comes", x, eventsOf(hello, other, other))
	mustBeTold(t, "another of its own comes", w, append(deepCopy(base), near, withSeq(near, 8))...)
	// At MaxSeq it can tell no other: what it has of its own is told as it is.
	last := nodeTold(0, 2, impl.MaxSeq, [2]int{4, 1})
	w = mustRun(t, "its last one comes", x, eventsOf(hello, evSays(t, saysNews(1, 2, 0, last))))
	mustBeTold(t, "its last one comes", w, append(deepCopy(base), near, last)...)
}

// mustRest holds a rest against the document's words.
func mustRest(t *testing.T, name string, w impl.World, rounds int) impl.World {
	t.Helper()
	l := livedFrom(t, w)
	l.rest(rounds)
	got := impl.Rest(w, rounds)
	mustBeWorld(t, fmt.Sprint(name, ", rounds ", rounds), got, l.world())
	mustBeRightWorld(t, name, w.Net, got)
	return got
}

func TestRestOfNoRoundsAndOfMost(t *testing.T) {
	x := midway()
	w := mustRun(t, "some", x, eventsOf(evTick(1), evTick(2), evDeliver(0), evCut(4), evBytes(3, "x")))
	for _, rounds := range []int{math.MinInt, -30, -1, 0} {
		mustBeWorld(t, "no rounds", mustRest(t, "no rounds", w, rounds), w)
	}
	one := mustRest(t, "one", w, 1)
	if worldParts(one, w) == "" || len(one.Flying) > 0 || one.Errors != 1 {
		t.Errorf("one round: %s", worldParts(one, w))
	}
	mustBeWorld(t, "one and one are two", mustRest(t, "one more", one, 1), mustRest(t, "two", w, 2))
	most := mustRest(t, "most", w, 30)
	for _, rounds := range []int{31, 32, 60, 1000, math.MaxInt} {
		mustBeWorld(t, "more than most", impl.Rest(w, rounds), most)
	}
}

// Of what does not carry each round takes 3000 away, so what is left tells how many
// rounds there were.
func TestRestDelivers3000InEachOf30Rounds(t *testing.T) {
	flying := func(count int) impl.World {
		w, _ := impl.WorldNew(impl.Net{N: 1})
		for at := range count {
			w.Flying = append(w.Flying, impl.Packet{Kind: at})
		}
		return w
	}
	for _, c := range [][3]int{{2999, 1, 0}, {3000, 1, 0}, {3001, 1, 1}, {3001, 2, 0}, {6010, 2, 10}, {6010, 3, 0}, {90000, 30, 0}, {90007, 29, 3007}, {90007, 30, 7},
		{90007, 31, 7}, {90007, math.MaxInt, 7}, {90007, 0, 90007}, {90007, -1, 90007}} {
		w := impl.Rest(flying(c[0]), c[1])
		if len(w.Flying) != c[2] {
			t.Fatalf("%d fly, %d rounds: %d are left; want %d", c[0], c[1], len(w.Flying), c[2])
		}
		for at, p := range w.Flying {
			if p.Kind != c[0]-c[2]+at {
				t.Fatalf("%d fly, %d rounds: at %d is left %+v", c[0], c[1], at, p)
			}
		}
	}
}

// endlessWorld has two nodes with full Stores, each of which has what the other lacks
// and has no room for: sum answers sum, for ever.
func endlessWorld(t *testing.T) impl.World {
	t.Helper()
	w, _ := impl.WorldNew(twoNodes())
	var other, here []impl.Record
	for _, r := range eachKey(1) {
		switch {
		case r.Area == 1 || r.Area == 2:
			other = append(other, r)
		case r.Kind == impl.KindNode && r.Owner <= 2:
			r.Near = nearOf([2]int{3 - r.Owner, 7})
			other = append(other, r)
		default:
			here = append(here, r)
		}
	}
	for at := range w.Nodes {
		n := &w.Nodes[at]
		n.Ears[0].Left, n.Ears[0].Both, n.Self.Heard = impl.Hold, true, []int{2 - at, 0}
		room := impl.MaxStore - len(other)
		mine := here[:room]
		if at == 1 {
			mine = here[len(here)-room:]
		}
		n.Self.Store = storeOf(t, other, mine)
		// What it tells no more is told so, so that nothing is new any more.
		n.Self, _ = impl.Renew(n.Self)
		if len(n.Self.Store) != impl.MaxStore || !impl.NodeOk(*n) {
			t.Fatalf("node %d is not right: %+v", at+1, *n)
		}
	}
	return w
}

// Nodes that are never silent are left where they are after 3000 in each round.
func TestRestOfNodesThatAreNeverSilent(t *testing.T) {
	w := endlessWorld(t)
	for _, rounds := range []int{1, 2} {
		if got := mustRest(t, "never silent", w, rounds); len(got.Flying) == 0 {
			t.Fatalf("%d rounds: they are silent", rounds)
		}
	}
}

func TestRestWrittenOut(t *testing.T) {
	fresh, _ := impl.WorldNew(twoNodes())
	first, second := nodeTold(0, 1, 1), nodeTold(0, 2, 1)
	near, back := nodeTold(0, 1, 2, [2]int{2, 7}), nodeTold(0, 2, 2, [2]int{1, 7})
	w := mustRest(t, "one round", fresh, 1)
	mustFly(t, "one round", w)
	mustHave(t, "one round", w.Nodes[0], [4]int{2, 0, 3, 0})
	mustHave(t, "one round", w.Nodes[1], [4]int{1, 0, 3, 0})
	mustBeTold(t, "one round", w, first, second)
	w = mustRest(t, "two rounds", fresh, 2)
	mustBeTold(t, "two rounds", w, first, second, back, near)
	w = mustRest(t, "three rounds", fresh, 3)
	for at, n := range w.Nodes {
		mustKnow(t, "three rounds", n, near, back)
		mustLead(t, "three rounds", n, 2-at, 7)
	}
	mustBeWorld(t, "at rest", mustRest(t, "four rounds", fresh, 4), w)
	// Who is down does not tick, and hears nothing.
	fallen := copyWorld(fresh)
	fallen.Up[1] = false
	w = mustRest(t, "2 is down", fallen, 5)
	mustBeWorld(t, "2 is down", w, fallen)
	fallen.Up[0] = false
	mustBeWorld(t, "both are down", mustRest(t, "both are down", fallen, 5), fallen)
	cut := copyWorld(fresh)
	cut.Links[0] = false
	mustBeWorld(t, "the link is cut", mustRest(t, "the link is cut", cut, 5), cut)
	// What flies at first is delivered behind the ticks, ahead of what they say.
	flies := copyWorld(fresh)
	flies.Flying = []impl.Packet{saysHello(1, 2, 0, 2), saysHello(2, 1, 1), saysHello(2, 1, 0, 1)}
	w = mustRest(t, "what flies", flies, 1)
	mustFly(t, "what flies", w)
	mustBeTold(t, "what flies", w, first, second, back, near, nodeTold(0, 2, 3), nodeTold(0, 1, 3))
	mustBeWorld(t, "what flies, no rounds", mustRest(t, "what flies", flies, 0), flies)
}

// Two that hear each other lose each other when one falls, and find each other again.
func TestRestWhileNodesAndLinksFall(t *testing.T) {
	x := midway()
	fresh, _ := impl.WorldNew(x)
	rested := mustRest(t, "at first", fresh, 6)
	routes := routesAtRest(t, x)
	ways := func(name string, w impl.World, want [][]impl.Route) {
		t.Helper()
		for at, n := range w.Nodes {
			if got := impl.Routes(n); w.Up[at] && !sameRoutes(got, want[at]) {
				t.Errorf("%s: node %d finds %+v; want %+v", name, at+1, got, want[at])
			}
		}
	}
	ways("at first", rested, routes)
	cut := copyWorld(rested)
	cut.Links[3] = false
	less := x
	less.Links = slices.Delete(slices.Clone(x.Links), 3, 4)
	cut = mustRest(t, "cut", cut, 10)
	if impl.CostTo(less, 2, 5, 2) != 0 || hears(cut.Nodes[1].Self, 5, 2) {
		t.Errorf("cut: %+v", cut.Nodes[1])
	}
	cut.Links[3] = true
	ways("raised", mustRest(t, "raised", cut, 10), routes)
	fallen := copyWorld(rested)
	fallen.Up[3] = false
	fallen = mustRest(t, "4 is down", fallen, 10)
	if !sameNode(fallen.Nodes[3], rested.Nodes[3]) || hears(fallen.Nodes[0].Self, 4, 0) || hears(fallen.Nodes[4].Self, 4, 2) {
		t.Errorf("4 is down: %+v", fallen.Nodes)
	}
	fallen.Up[3], fallen.Boots[3] = true, 1
	fallen.Nodes[3] = mustBeNewNode(t, "4 came up", x, 4, 1)
	ways("4 came up", mustRest(t, "4 came up", fallen, 10), routes)
}

func TestRestFindsTheWays(t *testing.T) {
	for name, x := range rightNets {
		w, _ := impl.WorldNew(x)
		w = mustRest(t, name, w, 6)
		routes := routesAtRest(t, x)
		for at, n := range w.Nodes {
			if got := impl.Routes(n); !sameRoutes(got, routes[at]) {
				t.Errorf("%s: node %d finds %+v; want %+v", name, at+1, got, routes[at])
			}
		}
	}
}

// Drawn lives come to rest as the words have it, with what is down and cut, and with
// what flies.
func TestRestOfDrawnLives(t *testing.T) {
	seen := watched{}
	for number := range 24 {
		d := &draws{state: 17*number + 3}
		x := drawnLifeNet(number)
		l := livedOf(t, x)
		var events []impl.Event
		for len(events) < 20+number {
			e := l.drawnEvent(t, d)
			events = append(events, e)
			l.meet(e)
		}
		w := mustRun(t, "life", x, events)
		rounds := []int{1, 2, 3, 5}[number%4]
		got := mustRest(t, fmt.Sprint("life ", number), w, rounds)
		seen.count("with nodes that are down", slices.Contains(w.Up, false))
		seen.count("with links that are cut", slices.Contains(w.Links, false))
		seen.count("with packets that fly", len(w.Flying) > 0)
		seen.count("in which something is told", len(got.Told) > len(w.Told))
		if len(got.Flying) > 0 {
			t.Errorf("life %d: %d fly", number, len(got.Flying))
		}
	}
	for _, what := range []string{"with nodes that are down", "with links that are cut", "with packets that fly", "in which something is told"} {
		if seen[what] < 10 {
			t.Errorf("too few %s: %d", what, seen[what])
		}
	}
}

// A world that has more than 400 flying keeps them: nothing is said till there is room.
func TestRestWithMoreThan400Flying(t *testing.T) {
	w, _ := impl.WorldNew(twoNodes())
	for _, count := range []int{397, 398, 399, 400, 401, 500} {
		w.Flying = slices.Repeat([]impl.Packet{saysHello(1, 2, 1)}, count)
		got := mustRest(t, fmt.Sprint(count, " fly"), w, 1)
		heard := []int{0, 0}
		for at, n := range got.Nodes {
			heard[at] = n.Ears[0].Left
		}
		want := []int{0, 0}
		if count < 400 {
			want[1] = impl.Hold
		}
		if count < 399 {
			want[0] = impl.Hold
		}
		if !slices.Equal(heard, want) {
			t.Errorf("%d fly: heard is %v; want %v", count, heard, want)
		}
	}
}

// oddWorlds have lists that are shorter or longer than their net has, or nodes, nets
// and packets that are not right.
func oddWorlds(t *testing.T) map[string]impl.World {
	t.Helper()
	base := mustRun(t, "base", midway(), eventsOf(evTick(1), evTick(2), evDeliver(0), evTick(4), evDeliver(1), evDown(5), evCut(1)))
	odd := map[string]impl.World{"nothing": {}}
	for name, change := range map[string]func(w *impl.World){
		"no Links":      func(w *impl.World) { w.Links = nil },
		"one link less": func(w *impl.World) { w.Links = w.Links[:4] },
		"more Links":    func(w *impl.World) { w.Links = append(w.Links, true, true, false) },
		"no Up":         func(w *impl.World) { w.Up = nil },
		"one Up less":   func(w *impl.World) { w.Up = w.Up[:1] },
		"more Up":       func(w *impl.World) { w.Up = append(w.Up, true, true) },
		"no Boots":      func(w *impl.World) { w.Boots = nil },
		"more Boots":    func(w *impl.World) { w.Boots = append(w.Boots, -1, math.MaxInt) },
		"no Nodes":      func(w *impl.World) { w.Nodes = nil },
		"one node":      func(w *impl.World) { w.Nodes = w.Nodes[:1] },
		"more Nodes":    func(w *impl.World) { w.Nodes = append(w.Nodes, w.Nodes[0], w.Nodes[1]) },
		"more of all": func(w *impl.World) {
			w.Nodes, w.Up = append(w.Nodes, w.Nodes[0], impl.Node{}), append(w.Up, true, true)
		},
		"nodes turned":    func(w *impl.World) { slices.Reverse(w.Nodes) },
		"empty nodes":     func(w *impl.World) { w.Nodes = make([]impl.Node, 5) },
		"no nodes in net": func(w *impl.World) { w.Net.N = 0 },
		"less than none":  func(w *impl.World) { w.Net.N = math.MinInt },
		"very many nodes": func(w *impl.World) { w.Net.N = math.MaxInt },
		"fewer nodes":     func(w *impl.World) { w.Net.N = 2 },
		"no links in net": func(w *impl.World) { w.Net.Links = nil },
		"links turned":    func(w *impl.World) { slices.Reverse(w.Net.Links) },
		"nothing told":    func(w *impl.World) { w.Told = nil },
		"told twice":      func(w *impl.World) { w.Told = append(w.Told, w.Told...) },
		"odd Errors":      func(w *impl.World) { w.Errors = math.MinInt },
		"odd packets": func(w *impl.World) {
			w.Flying = append(w.Flying, impl.Packet{}, saysHello(0, 9, 9), saysHello(math.MinInt, math.MaxInt, 0), saysHello(1, 2, 0, 9, 1), saysNews(1, 1, 0))
		},
		"everything short": func(w *impl.World) { w.Links, w.Up, w.Boots, w.Nodes = w.Links[:1], w.Up[:2], w.Boots[:1], w.Nodes[:1] },
	} {
		w := copyWorld(base)
		change(&w)
		odd[name] = w
	}
	for name, x := range wrongNets() {
		w := copyWorld(base)
		w.Net = x
		for at := range w.Nodes {
			w.Nodes[at].Self.Net = x
		}
		odd["net: "+name] = w
	}
	for name, n := range wrongNodes() {
		w := copyWorld(base)
		w.Nodes[1] = n
		odd["node: "+name] = w
	}
	return odd
}

// Whatever the world is, Rest answers, and what neither ticks nor packets touch stays.
func TestRestOfOddWorlds(t *testing.T) {
	for name, w := range oddWorlds(t) {
		mustBeWorld(t, name, impl.Rest(w, 0), w)
		mustBeWorld(t, name, impl.Rest(w, -1), w)
		for _, rounds := range []int{1, 3} {
			got := impl.Rest(w, rounds)
			if !sameNet(got.Net, w.Net) || !slices.Equal(got.Links, w.Links) || !slices.Equal(got.Up, w.Up) || !slices.Equal(got.Boots, w.Boots) || got.Errors != w.Errors {
				t.Fatalf("%s: %s", name, worldParts(got, w))
			}
			if len(got.Flying) > 0 || len(got.Nodes) != len(w.Nodes) || !sameRecords(got.Told[:len(w.Told)], w.Told) {
				t.Fatalf("%s: %s", name, worldParts(got, w))
			}
			for at, n := range got.Nodes {
				up := at < len(w.Up) && w.Up[at] && at < w.Net.N
				if !up && !sameNode(n, w.Nodes[at]) || impl.NodeOk(n) != impl.NodeOk(w.Nodes[at]) {
					t.Fatalf("%s: node %d is %+v; was %+v", name, at+1, n, w.Nodes[at])
				}
			}
		}
	}
}

// Nodes that are there go on beside those that are not.
func TestRestGoesOnWithThoseThatAreThere(t *testing.T) {
	x := midway()
	fresh, _ := impl.WorldNew(x)
	want := copyWorld(fresh)
	want.Up[4] = false
	want = mustRest(t, "5 is down", want, 5)
	short := copyWorld(fresh)
	short.Up = short.Up[:4]
	got := impl.Rest(short, 5)
	got.Up = want.Up
	mustBeWorld(t, "no Up of 5", got, want)
	short = copyWorld(fresh)
	short.Nodes = short.Nodes[:4]
	got = impl.Rest(short, 5)
	got.Nodes = append(got.Nodes, want.Nodes[4])
	got.Up[4] = false
	mustBeWorld(t, "no node 5", got, want)
	cut := copyWorld(fresh)
	cut.Links[4] = false
	want = mustRest(t, "the last link is cut", cut, 5)
	short = copyWorld(fresh)
	short.Links = short.Links[:4]
	got = impl.Rest(short, 5)
	got.Links = want.Links
	mustBeWorld(t, "no Links of the last", got, want)
	long := copyWorld(fresh)
	long.Up, long.Links, long.Nodes = append(long.Up, true), append(long.Links, true), append(long.Nodes, long.Nodes[0])
	got, want = impl.Rest(long, 5), mustRest(t, "as it is", fresh, 5)
	if !sameNode(got.Nodes[5], long.Nodes[5]) {
		t.Errorf("one that is no node: %+v", got.Nodes[5])
	}
	got.Up, got.Links, got.Nodes = got.Up[:5], got.Links[:5], got.Nodes[:5]
	mustBeWorld(t, "longer lists", got, want)
	// Nor is anything told by one that is no node.
	extra := impl.Net{N: 6, Things: thingsOf([][4]int{{6, 1, 2, 0}})}
	long.Nodes[5] = mustBeNewNode(t, "no node", extra, 6, 0)
	mustBeTold(t, "one that is no node", impl.Rest(long, 5), want.Told...)
	// Where nothing happens nothing is told.
	idle := copyWorld(fresh)
	idle.Told, idle.Up = nil, make([]bool, 5)
	mustBeWorld(t, "all are down", impl.Rest(idle, 3), idle)
	// What was not Told is told with the first that happens.
	silent := copyWorld(fresh)
	silent.Told = nil
	got = impl.Rest(silent, 1)
	got.Told = got.Told[:len(fresh.Told)]
	mustBeTold(t, "nothing told at first", got, fresh.Told...)
}

// placesOfWorld are where all of a world's lists lie, spare room and all.
func placesOfWorld(w impl.World) []any {
	places := slices.Concat(placesOf(w.Net.Links), placesOf(w.Net.Things), placesOf(w.Links), placesOf(w.Up), placesOf(w.Boots),
		placesOf(w.Nodes), placesOf(w.Flying), placesOfRecords(w.Told))
	for _, n := range w.Nodes {
		places = append(places, slices.Concat(placesOf(n.Self.Net.Links), placesOf(n.Self.Net.Things), placesOf(n.Self.Heard), placesOfRecords(n.Self.Store), placesOf(n.Ears))...)
	}
	for _, p := range w.Flying {
		places = append(places, placesOf(p.Heard)...)
		places = append(places, placesOfRecords(p.List)...)
	}
	return places
}

// mustBeWorldApart holds that no two lists of an answer share memory, nor one of them
// with what lies at these places.
func mustBeWorldApart(t *testing.T, name string, w impl.World, numbers []int, given ...any) {
	t.Helper()
	seen := map[any]bool{}
	for _, place := range given {
		seen[place] = true
	}
	for _, place := range append(placesOfWorld(w), placesOf(numbers)...) {
		if seen[place] {
			t.Fatalf("%s: memory is shared, at %T", name, place)
		}
		seen[place] = true
	}
}

func withRoom[T any](list []T, more ...T) []T {
	return append(slices.Clone(list), more...)[:len(list)]
}

func inFullOf[T any](list []T) []T {
	return slices.Clone(list[:cap(list)])
}

func roomyNet(x impl.Net) impl.Net {
	x.Links = withRoom(x.Links, impl.Link{A: 77}, impl.Link{A: 78})
	x.Things = withRoom(x.Things, impl.Thing{Owner: 79}, impl.Thing{Owner: 80})
	return x
}

func netInFull(x impl.Net) impl.Net {
	x.Links, x.Things = inFullOf(x.Links), inFullOf(x.Things)
	return x
}

func roomyRecords(list []impl.Record) []impl.Record {
	list = withRoom(list, nodeTold(81, 82, 83, [2]int{84, 85}), impl.Record{Owner: 86})
	for at := range list {
		list[at].Near = withRoom(list[at].Near, impl.Near{To: 87}, impl.Near{To: 88})
	}
	return list
}

func recordsInFull(list []impl.Record) []impl.Record {
	list = inFullOf(list)
	for at := range list {
		list[at].Near = inFullOf(list[at].Near)
	}
	return list
}

func roomyPacketIn(p impl.Packet) impl.Packet {
	p.Heard, p.List = withRoom(p.Heard, 89, 90), roomyRecords(p.List)
	return p
}

// roomyWorld has spare room behind each of its lists.
func roomyWorld(w impl.World) impl.World {
	w.Net = roomyNet(w.Net)
	w.Links, w.Up, w.Boots = withRoom(w.Links, true, false), withRoom(w.Up, true, false), withRoom(w.Boots, 91, 92)
	w.Nodes = withRoom(w.Nodes, impl.Node{Self: impl.Self{Id: 93}})
	for at, n := range w.Nodes {
		n.Self.Net, n.Self.Heard, n.Self.Store = roomyNet(n.Self.Net), withRoom(n.Self.Heard, 94, 95), roomyRecords(n.Self.Store)
		n.Ears = withRoom(n.Ears, impl.Ear{Node: 96})
		w.Nodes[at] = n
	}
	w.Flying = withRoom(w.Flying, impl.Packet{Kind: 97}, impl.Packet{Kind: 98})
	for at, p := range w.Flying {
		w.Flying[at] = roomyPacketIn(p)
	}
	w.Told = roomyRecords(w.Told)
	return w
}

// worldInFull has the room behind each list, too.
func worldInFull(w impl.World) impl.World {
	w.Net = netInFull(w.Net)
	w.Links, w.Up, w.Boots, w.Nodes, w.Flying = inFullOf(w.Links), inFullOf(w.Up), inFullOf(w.Boots), inFullOf(w.Nodes), inFullOf(w.Flying)
	for at, n := range w.Nodes {
		n.Self.Net, n.Self.Heard, n.Self.Store = netInFull(n.Self.Net), inFullOf(n.Self.Heard), recordsInFull(n.Self.Store)
		n.Ears = inFullOf(n.Ears)
		w.Nodes[at] = n
	}
	for at, p := range w.Flying {
		p.Heard, p.List = inFullOf(p.Heard), recordsInFull(p.List)
		w.Flying[at] = p
	}
	w.Told = recordsInFull(w.Told)
	return w
}

func overwriteAll[T any](list []T, with T) {
	list = list[:cap(list)]
	for at := range list {
		list[at] = with
	}
}

func overwriteWorld(w impl.World) {
	for _, n := range w.Nodes {
		overwriteNode(n)
	}
	overwritePackets(w.Flying)
	overwrite(w.Told)
	overwriteAll(w.Nodes, impl.Node{Self: impl.Self{Id: -99}})
	overwriteAll(w.Net.Links, impl.Link{A: -99})
	overwriteAll(w.Net.Things, impl.Thing{Owner: -99})
	for at := range w.Links {
		w.Links[at] = !w.Links[at]
	}
	for at := range w.Up {
		w.Up[at] = !w.Up[at]
	}
	overwriteAll(w.Boots, -99)
}

// mustStayWorld writes over one answer, and looks whether another one to the same
// question stays as it is, and whether it is answered again.
func mustStayWorld(t *testing.T, name string, ask func() (impl.World, []int), given ...any) {
	t.Helper()
	first, firstNumbers := ask()
	w, numbers := ask()
	mustBeWorldApart(t, name, w, numbers, slices.Concat(given, placesOfWorld(first), placesOf(firstNumbers))...)
	kept, keptNumbers := copyWorld(w), slices.Clone(numbers)
	overwriteWorld(first)
	overwriteAll(firstNumbers, -99)
	mustBeWorld(t, name+": one answer written over", w, kept)
	overwriteWorld(w)
	overwriteAll(numbers, -99)
	third, thirdNumbers := ask()
	mustBeWorld(t, name+": asked again", third, kept)
	if !slices.Equal(thirdNumbers, keptNumbers) {
		t.Fatalf("%s: asked again: %v; want %v", name, thirdNumbers, keptNumbers)
	}
}

func TestLivesLeaveTheirArgumentsAlone(t *testing.T) {
	for number := range 16 {
		d := &draws{state: 19*number + 5}
		x := roomyNet(drawnLifeNet(number))
		l := livedOf(t, x)
		var events []impl.Event
		for len(events) < impl.MaxLife-2 {
			e := l.drawnEvent(t, d)
			events = append(events, e)
			l.meet(e)
		}
		events = withRoom(events, evTick(77), evDown(78))
		keptNet, keptEvents := netInFull(x), inFullOf(events)
		given := slices.Concat(placesOf(x.Links), placesOf(x.Things))
		mustStayWorld(t, "WorldNew", func() (impl.World, []int) { w, _ := impl.WorldNew(x); return w, nil }, given...)
		mustStayWorld(t, "RunNet", func() (impl.World, []int) { w, numbers, _ := impl.RunNet(x, events); return w, numbers }, given...)
		for _, e := range events {
			impl.EventOk(x, e)
		}
		// What is refused leaves nothing behind.
		impl.RunNet(x, events[:len(events)+1])
		impl.RunNet(x, append(slices.Clone(events), evTick(1), evTick(1), evTick(1)))
		if !sameNet(netInFull(x), keptNet) || !slices.Equal(inFullOf(events), keptEvents) {
			t.Fatalf("life %d: an argument was written into", number)
		}
	}
	for _, x := range wrongNets() {
		if len(x.Links)+len(x.Things) < 100 {
			x = roomyNet(x)
			kept := netInFull(x)
			mustStayWorld(t, "not right", func() (impl.World, []int) { w, numbers, _ := impl.RunNet(x, eventsOf(evTick(1))); return w, numbers })
			mustStayWorld(t, "not right", func() (impl.World, []int) { w, _ := impl.WorldNew(x); return w, nil })
			if !sameNet(netInFull(x), kept) {
				t.Fatalf("%+v was written into: %+v", kept, netInFull(x))
			}
		}
	}
}

func TestRestLeavesItsArgumentsAlone(t *testing.T) {
	worlds := oddWorlds(t)
	for number := range 12 {
		d := &draws{state: 23*number + 7}
		x := drawnLifeNet(number)
		l := livedOf(t, x)
		for range 50 {
			l.meet(l.drawnEvent(t, d))
		}
		worlds[fmt.Sprint("life ", number)] = l.world()
	}
	for name, w := range worlds {
		if len(w.Net.Links)+len(w.Net.Things) > 100 || len(w.Nodes) > 1 && len(w.Nodes[1].Ears)+len(w.Nodes[1].Self.Heard)+len(w.Nodes[1].Self.Net.Links)+len(w.Nodes[1].Self.Net.Things) > 100 {
			continue
		}
		w = roomyWorld(w)
		kept := worldInFull(w)
		given := placesOfWorld(w)
		for _, rounds := range []int{0, 1, 2} {
			mustStayWorld(t, fmt.Sprint(name, ": Rest ", rounds), func() (impl.World, []int) { return impl.Rest(w, rounds), nil }, given...)
		}
		p := roomyPacketIn(saysNews(1, 2, 0, nodeTold(0, 1, 3, [2]int{2, 1})))
		keptList := recordsInFull(p.List)
		impl.Carries(w, p)
		mustBeWorld(t, name+": an argument was written into", worldInFull(w), kept)
		if !sameRecords(recordsInFull(p.List), keptList) {
			t.Fatalf("%s: the packet was written into", name)
		}
	}
}

// Worlds that are handed in with one list among several of them come back with each
// list on its own.
func TestRestPartsWhatWorldsShare(t *testing.T) {
	near := nearOf([2]int{2, 1}, [2]int{4, 2})
	shared := []impl.Record{{Kind: impl.KindNode, Owner: 1, Seq: 3, Near: near}, {Kind: impl.KindNode, Owner: 3, Seq: 3, Near: near}, {Kind: impl.KindBeyond, Owner: 3, Key: 5, Seq: 3, Cost: 5, Near: near[:0]}}
	heard := []int{1, 2}
	w, _ := impl.WorldNew(midway())
	for at := range w.Nodes {
		w.Nodes[at].Self.Net, w.Nodes[at].Self.Store = w.Net, shared
	}
	w.Nodes[1] = w.Nodes[0]
	w.Up = w.Links
	p := impl.Packet{Kind: impl.SayHello, From: 1, To: 2, Heard: heard, List: nil}
	w.Flying = []impl.Packet{p, p, saysNews(2, 1, 0, shared...), saysNews(4, 1, 0, shared...), {Kind: impl.SayHello, From: 2, To: 1, Heard: heard}}
	w.Told = shared
	given := placesOfWorld(w)
	for _, rounds := range []int{0, 1, 3} {
		mustStayWorld(t, fmt.Sprint("Rest ", rounds), func() (impl.World, []int) { return impl.Rest(w, rounds), nil }, given...)
	}
	if !slices.Equal(near, nearOf([2]int{2, 1}, [2]int{4, 2})) || !slices.Equal(heard, []int{1, 2}) {
		t.Errorf("what was handed in is now %v, %v", near, heard)
	}
}

// Asked from several sides at once each life answers for itself, and leaves nothing
// behind for the next.
func TestLivesKeepNothing(t *testing.T) {
	x, y := midway(), drawnLifeNet(2)
	events := eventsOf(evTick(1), evTick(2), evCopy(0), evDeliver(0), evTick(2), evDeliver(3), evDeliver(2), evDown(3), evTick(3), evBytes(1, "x"), evUp(3))
	want, numbers, _ := impl.RunNet(x, events)
	rested := impl.Rest(want, 2)
	done := make(chan string)
	for range 8 {
		go func() {
			differ := ""
			for range 10 {
				w, got, ok := impl.RunNet(x, events)
				impl.RunNet(y, events)
				differ += worldParts(w, want) + worldParts(impl.Rest(w, 2), rested)
				if !ok || !slices.Equal(got, numbers) {
					differ += fmt.Sprint(got, ok)
				}
			}
			done <- differ
		}()
	}
	for range 8 {
		if differ := <-done; differ != "" {
			t.Errorf("another answer to the same question: %s", differ)
		}
	}
}
