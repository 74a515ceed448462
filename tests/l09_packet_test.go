package tests

import (
	"fmt"
	"math"
	"slices"
	"strings"
	"testing"

	"loop.example/g00177/impl"
)

// One right packet of each kind, each of which has what its kind may have.
func helloPacket() impl.Packet {
	return impl.Packet{Kind: impl.SayHello, From: 4, To: 2, Area: 1, Heard: []int{1, 2, 6}}
}

func sumPacket() impl.Packet {
	return impl.Packet{Kind: impl.SaySum, From: 1, To: 6, Area: 1, List: []impl.Record{
		{Area: 1, Kind: impl.KindNode, Owner: 2, Seq: 3},
		{Area: 1, Kind: impl.KindBeyond, Owner: 3, Key: 5, Seq: 300},
		{Area: impl.Outside, Kind: impl.KindThing, Owner: 6, Key: 9, Seq: impl.MaxSeq, Cost: 1}}}
}

func newsPacket() impl.Packet {
	return impl.Packet{Kind: impl.SayNews, From: 6, To: 1, Area: 0, List: []impl.Record{
		{Kind: impl.KindNode, Owner: 2, Seq: 3, Near: nearOf([2]int{1, 4}, [2]int{3, 1000})},
		beyondRecord(), thingRecord()}}
}

// morePacket is a packet with something about it changed.
func morePacket(p impl.Packet, change func(p *impl.Packet)) impl.Packet {
	p = copyPacket(p)
	change(&p)
	return p
}

func copyPacket(p impl.Packet) impl.Packet {
	p.Heard, p.List = slices.Clone(p.Heard), deepCopy(p.List)
	return p
}

// samePacket takes an empty list and nil for the same.
func samePacket(a, b impl.Packet) bool {
	return a.Kind == b.Kind && a.From == b.From && a.To == b.To && a.Area == b.Area &&
		slices.Equal(a.Heard, b.Heard) && sameRecords(a.List, b.List)
}

// headerBy is a record with nothing but its key and its Seq, as the document wants
// it of each kind.
func headerBy(r impl.Record) impl.Record {
	costs := map[int]int{impl.KindThing: 1}
	return impl.Record{Area: r.Area, Kind: r.Kind, Owner: r.Owner, Key: r.Key, Seq: r.Seq, Cost: costs[r.Kind]}
}

func headersBy(s []impl.Record, area int) []impl.Record {
	var list []impl.Record
	for _, r := range s {
		if r.Area == area || r.Area == impl.Outside {
			list = append(list, headerBy(r))
		}
	}
	return list
}

// rightBy is the document's rule in another manner: what is right is chosen out of
// all that there is, in its order.
func rightBy(p impl.Packet) bool {
	nodes := []int{1, 2, 3, 4, 5, 6}
	if !slices.Contains(nodes, p.From) || !slices.Contains(nodes, p.To) || p.From == p.To ||
		!slices.Contains([]int{1, 2, 3}, p.Kind) || !slices.Contains([]int{0, 1, 2}, p.Area) {
		return false
	}
	if p.Kind == impl.SayHello {
		heard := slices.DeleteFunc(nodes, func(node int) bool { return !slices.Contains(p.Heard, node) })
		return slices.Equal(p.Heard, heard) && len(p.List) == 0
	}
	if len(p.Heard) > 0 || len(p.List) > impl.MaxStore || !sameRecords(p.List, newestOf(p.List)) {
		return false
	}
	for _, r := range p.List {
		if !impl.RecordOk(r) || r.Area != p.Area && r.Area != impl.Outside {
			return false
		}
		if p.Kind == impl.SaySum && !sameRecord(r, headerBy(r)) {
			return false
		}
	}
	return true
}

// bodyByRule writes any packet as the document says, right or not, and false where
// a number has no such bytes.
func bodyByRule(p impl.Packet) (string, bool) {
	var out []byte
	written := true
	one := func(n int) {
		written = written && n >= 0 && n <= 255
		out = append(out, byte(n))
	}
	number := func(n int) {
		text, ok := impl.VarText(n)
		written = written && ok
		out = append(out, text...)
	}
	one(p.Kind)
	one(p.From)
	one(p.To)
	one(p.Area)
	number(len(p.Heard))
	for _, node := range p.Heard {
		one(node)
	}
	number(len(p.List))
	for _, r := range p.List {
		text, ok := textByRule(r)
		written = written && ok
		number(len(text))
		out = append(out, text...)
	}
	return string(out), written
}

// sealedRight seals anything, by the document's words.
func sealedRight(body string) string {
	return sealedBy(body, sumByBits(math.MaxUint32, body))
}

// mustComeBack asks of a right packet all that says so.
func mustComeBack(t *testing.T, name string, p impl.Packet) string {
	t.Helper()
	if !impl.PacketOk(p) {
		t.Fatalf("%s: PacketOk(%+v) = false", name, p)
	}
	body, _ := bodyByRule(p)
	text, ok := impl.PacketText(p)
	if want := sealedRight(body); !ok || text != want {
		t.Fatalf("%s: PacketText(%+v) = %q, %v; want %q", name, p, text, ok, want)
	}
	if back, ok := impl.ReadPacket(text); !ok || !samePacket(back, p) {
		t.Fatalf("%s: ReadPacket(%q) = %+v, %v; want %+v", name, text, back, ok, p)
	}
	return text
}

// mustBeNoPacket asks for the zero value beside the false.
func mustBeNoPacket(t *testing.T, text string) {
	t.Helper()
	if p, ok := impl.ReadPacket(text); ok || !samePacket(p, impl.Packet{}) {
		t.Fatalf("ReadPacket of %d bytes, %.60q: %+v, %v", len(text), text, p, ok)
	}
}

// mustBeUnsaid asks of a packet that is not right all that says so: also a text
// that tells of it is none, when its numbers can be written at all.
func mustBeUnsaid(t *testing.T, name string, p impl.Packet) {
	t.Helper()
	if impl.PacketOk(p) {
		t.Fatalf("%s: PacketOk(%+v) = true", name, p)
	}
	if text, ok := impl.PacketText(p); ok || text != "" {
		t.Fatalf("%s: PacketText(%+v) = %q, %v", name, p, text, ok)
	}
	if body, ok := bodyByRule(p); ok {
		mustBeNoPacket(t, sealedRight(body))
	}
}

// mustBeAsRuled goes by the rule, and answers what that says.
func mustBeAsRuled(t *testing.T, name string, p impl.Packet) bool {
	t.Helper()
	if rightBy(p) {
		mustComeBack(t, name, p)
		return true
	}
	mustBeUnsaid(t, name, p)
	return false
}

// longestPacket has every record that a packet can have, each as long as it may be.
func longestPacket(area int) impl.Packet {
	p := impl.Packet{Kind: impl.SayNews, From: 5, To: 3, Area: area}
	for _, r := range eachKey(impl.MaxSeq) {
		if r.Area != area && r.Area != impl.Outside {
			continue
		}
		r.Near = nil
		for to := 1; to <= impl.MaxNodes && r.Kind == impl.KindNode; to++ {
			if to != r.Owner {
				r.Near = append(r.Near, impl.Near{To: to, Cost: impl.MaxCost})
			}
		}
		if r.Kind != impl.KindNode {
			r.Cost = impl.Infinite
		}
		p.List = append(p.List, r)
	}
	return p
}

// drawnPacket is a right one; what its records tell need not be true.
func drawnPacket(t *testing.T, number int) impl.Packet {
	t.Helper()
	d := &draws{state: number}
	p := impl.Packet{Kind: 1 + number%3, From: 1 + d.below(6), Area: d.below(3)}
	p.To = 1 + (p.From+d.below(5))%6
	if p.Kind == impl.SayHello {
		choice := d.below(1 << impl.MaxNodes)
		for node := 1; node <= impl.MaxNodes; node++ {
			if choice>>(node-1)&1 == 1 {
				p.Heard = append(p.Heard, node)
			}
		}
		return p
	}
	thin, most := d.below(4), []int{3, 200, 20000, impl.MaxSeq}[d.below(4)]
	for _, r := range drawnStore(t, number) {
		if d.below(4) < thin && (r.Area == p.Area || r.Area == impl.Outside) {
			p.List = append(p.List, withSeq(r, 1+d.below(most)))
		}
	}
	if p.Kind == impl.SaySum {
		p.List = headersBy(p.List, p.Area)
	}
	return p
}

// spoiled is a packet with one thing about it changed, by a number; what comes of
// it need not be wrong.
func spoiled(p impl.Packet, d *draws) impl.Packet {
	p = copyPacket(p)
	odd := []int{-1, 0, 1, 2, 3, 6, 7, 9, 255, 256, 257}[d.below(11)]
	at := d.below(max(1, len(p.List)))
	record := impl.Record{}
	one := &record
	if len(p.List) > 0 {
		one = &p.List[at]
	}
	switch d.below(13) {
	case 0:
		p.Kind = odd
	case 1:
		p.From = odd
	case 2:
		p.To = odd
	case 3:
		p.Area = odd
	case 4:
		p.Heard = append(p.Heard, odd)
	case 5:
		p.Heard = append([]int{odd}, p.Heard...)
	case 6:
		p.List = append(p.List, p.List[:min(len(p.List), 1)]...)
	case 7:
		slices.Reverse(p.List)
	case 8:
		one.Near = append(one.Near, impl.Near{To: odd, Cost: 1})
	case 9:
		one.Cost = odd
	case 10:
		one.Far = !one.Far
	case 11:
		one.Area = odd
	case 12:
		one.Seq = odd
	}
	return p
}

// Promise 9, of all that can be said in a hello, and of what is drawn.
func TestPacketsComeBackFromTheirBytes(t *testing.T) {
	nodes := []int{1, 2, 3, 4, 5, 6}
	for area := range 3 {
		for _, from := range nodes {
			for _, to := range nodes {
				for choice := range 1 << len(nodes) {
					p := impl.Packet{Kind: 1, From: from, To: to, Area: area}
					for at, node := range nodes {
						if choice>>at&1 == 1 {
							p.Heard = append(p.Heard, node)
						}
					}
					if mustBeAsRuled(t, "hello", p) != (from != to) {
						t.Fatalf("the rule takes %+v for something else", p)
					}
				}
			}
		}
	}
	for number := range 3000 {
		if p := drawnPacket(t, number); !mustBeAsRuled(t, "drawn", p) {
			t.Fatalf("number %d is not right: %+v", number, p)
		}
	}
}

func TestEveryRecordComesBackInAPacket(t *testing.T) {
	eachRightRecord(func(r impl.Record) {
		for area := range 3 {
			name := "a record of its area or of Outside"
			must := func(t *testing.T, name string, p impl.Packet) { mustComeBack(t, name, p) }
			if r.Area != area && r.Area != impl.Outside {
				name, must = "a record of another area", mustBeUnsaid
			}
			must(t, name, impl.Packet{Kind: impl.SayNews, From: 1, To: 2, Area: area, List: []impl.Record{r}})
			must(t, name, impl.Packet{Kind: impl.SaySum, From: 2, To: 1, Area: area, List: []impl.Record{headerBy(r)}})
		}
	})
}

// What is changed in one thing is right or not as the rule says.
func TestPacketsSpoiledByADraw(t *testing.T) {
	n := watched{}
	for number := range 6000 {
		d := &draws{state: 7 * number}
		p := spoiled(drawnPacket(t, number), d)
		right := mustBeAsRuled(t, fmt.Sprint("number ", number), p)
		n.count(fmt.Sprint("right ones of kind ", p.Kind), right)
		n.count(fmt.Sprint("wrong ones of kind ", p.Kind), !right)
	}
	for kind := 1; kind <= 3; kind++ {
		if n[fmt.Sprint("right ones of kind ", kind)] < 100 || n[fmt.Sprint("wrong ones of kind ", kind)] < 100 {
			t.Errorf("too few of kind %d: %v", kind, n)
		}
	}
}

func TestPacketTextsOfKnownPackets(t *testing.T) {
	for name, c := range map[string]struct {
		p    impl.Packet
		text string
	}{
		"a hello": {impl.Packet{Kind: 1, From: 1, To: 2, Heard: []int{2, 3}},
			"\x01\x01\x02\x00\x02\x02\x03\x00"},
		"a hello of one who hears nobody": {impl.Packet{Kind: 1, From: 6, To: 5, Area: 2},
			"\x01\x06\x05\x02\x00\x00"},
		"a sum of nothing":  {impl.Packet{Kind: 2, From: 1, To: 6, Area: 1}, "\x02\x01\x06\x01\x00\x00"},
		"news of nothing":   {impl.Packet{Kind: 3, From: 2, To: 3, Area: 0}, "\x03\x02\x03\x00\x00\x00"},
		"a sum of each one": {sumPacket(), "\x02\x01\x06\x01\x00\x03" + "\x08\x01\x01\x02\x00\x03\x00\x00\x00" + "\x09\x01\x02\x03\x05\xac\x02\x00\x00\x00" + "\x0a\x09\x03\x06\x09\xa0\x8d\x06\x00\x01\x00"},
		"news of each one":  {newsPacket(), "\x03\x06\x01\x00\x00\x03" + "\x0d\x00\x01\x02\x00\x03\x02\x01\x04\x03\xe8\x07\x00\x00" + "\x0a\x00\x02\x03\x05\xac\x02\x00\x80\x01\x00" + "\x09\x09\x03\x06\x09\x01\x00\xe8\x07\x01"},
	} {
		want := sealedRight(c.text)
		if text, ok := impl.PacketText(c.p); !ok || text != want {
			t.Errorf("%s: PacketText(%+v) = %q, %v; want %q", name, c.p, text, ok, want)
		}
		if p, ok := impl.ReadPacket(want); !ok || !samePacket(p, c.p) {
			t.Errorf("%s: ReadPacket(%q) = %+v, %v; want %+v", name, want, p, ok, c.p)
		}
	}
	if impl.SayHello != 1 || impl.SaySum != 2 || impl.SayNews != 3 {
		t.Error("kinds of packets have other numbers")
	}
}

// somePackets are short ones, with what each kind may have.
func somePackets() []impl.Packet {
	return []impl.Packet{helloPacket(), sumPacket(), newsPacket(),
		{Kind: impl.SayHello, From: 1, To: 2}, {Kind: impl.SaySum, From: 1, To: 2, Area: 2}, {Kind: impl.SayNews, From: 6, To: 5, Area: 1}}
}

// Promise 9's other half.
func TestAByteOfAPacketTurnedIsRefused(t *testing.T) {
	for _, p := range somePackets() {
		text := mustComeBack(t, "some", p)
		for at := range len(text) {
			for b := range 256 {
				if byte(b) != text[at] {
					mustBeNoPacket(t, text[:at]+string([]byte{byte(b)})+text[at+1:])
				}
			}
		}
	}
	text := mustComeBack(t, "the longest", longestPacket(1))
	for at := range len(text) {
		for bit := range 8 {
			mustBeNoPacket(t, text[:at]+string([]byte{text[at] ^ 1<<bit})+text[at+1:])
		}
	}
}

// mustBeOwnBytes holds that what is read from a body that is sealed right is right,
// and has just this text; it answers whether something is.
func mustBeOwnBytes(t *testing.T, body string) bool {
	t.Helper()
	text := sealedRight(body)
	p, ok := impl.ReadPacket(text)
	if !ok {
		mustBeNoPacket(t, text)
		return false
	}
	if back, written := impl.PacketText(p); !impl.PacketOk(p) || !rightBy(p) || !written || back != text {
		t.Fatalf("ReadPacket(%q) = %+v, whose text is %q, %v", text, p, back, written)
	}
	return true
}

// Whatever is read from bytes has these bytes and no others, so no two texts are of
// one packet.
func TestReadPacketReadsTextsOfRightPacketsAlone(t *testing.T) {
	read := 0
	look := func(body string) {
		if mustBeOwnBytes(t, body) {
			read++
		}
	}
	for _, p := range somePackets() {
		body, _ := bodyByRule(p)
		for at := range len(body) {
			look(body[:at] + body[at+1:])
			for b := range 256 {
				one := string([]byte{byte(b)})
				look(body[:at] + one + body[at+1:])
				look(body[:at] + one + body[at:])
				for _, two := range []string{"\x00", "\x01", "\x7f", "\x80", "\xff"} {
					look(body[:at] + one + two + body[at+1:])
				}
			}
		}
	}
	for _, ahead := range []string{"", "\x01\x01\x02\x00", "\x01\x01\x02\x00\x03", "\x02\x01\x02\x00\x00\x01", "\x03\x06\x01\x02\x00\x01\x08\x02\x01\x01", "\x02\x01\x02\x01\x00\x02\x08\x01\x01\x02\x00\x03\x00\x00\x00"} {
		eachText("\x00\x01\x02\x03\x06\x80\xff", 5, func(text string) { look(ahead + text) })
	}
	if read < 100 {
		t.Errorf("too few of them are packets: %d", read)
	}
}

func TestPacketOkAtTheEdgesOfItsNumbers(t *testing.T) {
	edges := []int{math.MinInt, -1, 0, 1, 2, 3, 4, 5, 6, 7, 8, 9, 255, 256, 257, 258, 259, math.MaxInt}
	for name, p := range map[string]impl.Packet{"hello": helloPacket(), "sum": sumPacket(), "news": newsPacket()} {
		// Records of an area would fit into that one alone.
		p.List = slices.DeleteFunc(p.List, func(r impl.Record) bool { return r.Area != impl.Outside })
		for _, n := range edges {
			for _, m := range edges {
				ends := morePacket(p, func(p *impl.Packet) { p.From, p.To = n, m })
				if mustBeAsRuled(t, name, ends) != (n >= 1 && n <= impl.MaxNodes && m >= 1 && m <= impl.MaxNodes && n != m) {
					t.Errorf("%s from %d to %d", name, n, m)
				}
			}
			area := morePacket(p, func(p *impl.Packet) { p.Area = n })
			if mustBeAsRuled(t, name, area) != (n >= 0 && n <= impl.MaxArea) {
				t.Errorf("%s in area %d", name, n)
			}
			bare := impl.Packet{Kind: n, From: 1, To: 2}
			if mustBeAsRuled(t, "bare", bare) != (n >= 1 && n <= 3) {
				t.Errorf("a packet of kind %d", n)
			}
			kind := morePacket(p, func(p *impl.Packet) { p.Kind = n })
			if n < 1 || n > 3 {
				mustBeUnsaid(t, name+" of another kind", kind)
			}
		}
	}
}

func TestHeardOfAHello(t *testing.T) {
	hello := func(heard ...int) impl.Packet {
		return impl.Packet{Kind: impl.SayHello, From: 1, To: 2, Area: 1, Heard: heard}
	}
	for name, heard := range map[string][]int{"none": nil, "an empty list": {}, "all": {1, 2, 3, 4, 5, 6}, "itself": {1}, "the other": {2}, "the last": {6}, "both ends": {1, 6}} {
		mustComeBack(t, name, hello(heard...))
	}
	long := make([]int, 30000)
	for at := range long {
		long[at] = at + 1
	}
	for name, heard := range map[string][]int{"0": {0}, "0 and 1": {0, 1}, "one above": {7}, "one above behind all": {1, 2, 3, 4, 5, 6, 7}, "0 ahead of all": {0, 1, 2, 3, 4, 5, 6},
		"below 0": {-1}, "below all": {math.MinInt, 1}, "above all": {1, math.MaxInt}, "1, in one byte": {257}, "two turned": {2, 1}, "all turned": {6, 5, 4, 3, 2, 1},
		"one twice": {3, 3}, "the first twice": {1, 1, 2}, "the last twice": {1, 2, 6, 6}, "one twice, apart": {2, 4, 2}, "the last two turned": {1, 2, 3, 4, 6, 5},
		"very many": long, "very many 1": slices.Repeat([]int{1}, 20000), "128 of 1": slices.Repeat([]int{1}, 128)} {
		mustBeUnsaid(t, name, hello(heard...))
	}
	for size := range 4 {
		lists := [][]int{nil}
		for range size {
			var longer [][]int
			for _, list := range lists {
				for node := -1; node <= 8; node++ {
					longer = append(longer, append(slices.Clone(list), node))
				}
			}
			lists = longer
		}
		for _, list := range lists {
			mustBeAsRuled(t, "each list", hello(list...))
		}
	}
}

func TestPacketsHaveNothingOfAnotherKind(t *testing.T) {
	for name, r := range map[string]impl.Record{"node": {Area: 1, Kind: impl.KindNode, Owner: 2, Seq: 1}, "thing": thingRecord(), "nothing": {}} {
		for _, heard := range [][]int{nil, {1}, {1, 2, 6}} {
			mustBeUnsaid(t, "a hello with a List of "+name, impl.Packet{Kind: impl.SayHello, From: 4, To: 2, Area: 1, Heard: heard, List: []impl.Record{r}})
		}
	}
	for _, p := range []impl.Packet{sumPacket(), newsPacket(), {Kind: impl.SaySum, From: 1, To: 2}, {Kind: impl.SayNews, From: 1, To: 2}} {
		for _, heard := range [][]int{{1}, {6}, {1, 2, 3, 4, 5, 6}, {0}, {2, 1}} {
			mustBeUnsaid(t, "a list with Heard", morePacket(p, func(p *impl.Packet) { p.Heard = heard }))
		}
	}
	for _, p := range somePackets() {
		// An empty list and nil are the same.
		empty := copyPacket(p)
		empty.Heard, empty.List = append([]int{}, p.Heard...), append([]impl.Record{}, p.List...)
		mustComeBack(t, "empty lists", empty)
	}
}

// listPackets are the two kinds that have a list, with this one; in the first each
// record is a header.
func listPackets(area int, list []impl.Record) []impl.Packet {
	var headers []impl.Record
	for _, r := range list {
		headers = append(headers, headerBy(r))
	}
	return []impl.Packet{{Kind: impl.SaySum, From: 3, To: 4, Area: area, List: headers}, {Kind: impl.SayNews, From: 3, To: 4, Area: area, List: list}}
}

func TestListsOfAnAreaAndOfOutside(t *testing.T) {
	all := eachKey(5)
	for area := -1; area <= 10; area++ {
		inArea := impl.Scope(all, area)
		outside := impl.Scope(all, -7)
		there := area >= 0 && area <= impl.MaxArea
		for _, list := range [][]impl.Record{nil, inArea, outside, inArea[:1], inArea[len(inArea)-1:]} {
			for _, p := range listPackets(area, list) {
				if mustBeAsRuled(t, "of an area", p) != there {
					t.Fatalf("area %d: the rule takes %+v for something else", area, p)
				}
			}
		}
		for at, r := range all {
			if r.Area == area || r.Area == impl.Outside {
				continue
			}
			// Nothing is wrong but that it is of another area.
			list := inOrderOf(append(deepCopy(inArea), r))
			for _, p := range append(listPackets(area, list), listPackets(area, all[at:at+1])...) {
				mustBeUnsaid(t, "of another area", p)
			}
		}
	}
}

func TestListsThatAreNoRightStores(t *testing.T) {
	for name, s := range wrongStores() {
		for area := range impl.MaxArea + 1 {
			mustBeUnsaid(t, name, impl.Packet{Kind: impl.SayNews, From: 1, To: 2, Area: area, List: s})
			mustBeUnsaid(t, name, impl.Packet{Kind: impl.SaySum, From: 1, To: 2, Area: area, List: s})
		}
	}
	for area := range impl.MaxArea + 1 {
		right := impl.Scope(eachKey(5), area)
		for at := range right {
			again := slices.Insert(deepCopy(right), at, right[at])
			newer := slices.Insert(deepCopy(right), at, withSeq(right[at], 6))
			lists := map[string][]impl.Record{"one twice": again, "one newer ahead of one": newer}
			for what, seq := range map[string]int{"0": 0, "below 0": -1, "above MaxSeq": impl.MaxSeq + 1, "far above": math.MaxInt} {
				lists["a Seq "+what] = morePacket(impl.Packet{List: right}, func(p *impl.Packet) { p.List[at].Seq = seq }).List
			}
			lists["no kind"] = morePacket(impl.Packet{List: right}, func(p *impl.Packet) { p.List[at].Kind = 0 }).List
			lists["no owner"] = morePacket(impl.Packet{List: right}, func(p *impl.Packet) { p.List[at].Owner = 7 }).List
			lists["no such key"] = morePacket(impl.Packet{List: right}, func(p *impl.Packet) { p.List[at].Key = 10 }).List
			if at > 0 {
				lists["two turned"] = morePacket(impl.Packet{List: right}, func(p *impl.Packet) { p.List[at-1], p.List[at] = p.List[at], p.List[at-1] }).List
			}
			for name, list := range lists {
				for _, p := range listPackets(area, list) {
					mustBeUnsaid(t, fmt.Sprint(name, " at ", at), p)
				}
			}
		}
		// Nothing but its length passes a limit, in a list of whatever.
		for _, p := range listPackets(area, slices.Repeat(right[:1], impl.MaxStore+1)) {
			mustBeUnsaid(t, "too many", p)
		}
	}
}

// Of records that are right, news may have all, and a sum those that tell nothing.
func TestASumTellsNothing(t *testing.T) {
	node := func(rows ...[2]int) impl.Record { return nodeTold(1, 2, 3, rows...) }
	for name, c := range map[string]struct {
		r        impl.Record
		inASum   bool
		asItself bool
	}{
		"a node":                {node(), true, true},
		"a node with Near":      {node([2]int{1, 1}), false, true},
		"a node with all":       {node([2]int{1, 1}, [2]int{3, 1}, [2]int{4, 1}, [2]int{5, 1}, [2]int{6, 1}), false, true},
		"a node at 1":           {with(node(), func(r *impl.Record) { r.Cost = 1 }), false, false},
		"a far node":            {with(node(), func(r *impl.Record) { r.Far = true }), false, false},
		"beyond at 0":           {withSeq(beyondTold(1, 3, 5, 0), 9), true, true},
		"beyond at 1":           {withSeq(beyondTold(1, 3, 5, 1), 9), false, true},
		"beyond at 2":           {withSeq(beyondTold(1, 3, 5, 2), 9), false, true},
		"beyond below Infinite": {withSeq(beyondTold(1, 3, 5, impl.Infinite-1), 9), false, true},
		"beyond, withdrawn":     {withSeq(beyondTold(1, 3, 5, impl.Infinite), 9), false, true},
		"beyond, too dear":      {withSeq(beyondTold(1, 3, 5, impl.Infinite+1), 9), false, false},
		"beyond below 0":        {withSeq(beyondTold(1, 3, 5, -1), 9), false, false},
		"beyond with Near":      {with(withSeq(beyondTold(1, 3, 5, 0), 9), func(r *impl.Record) { r.Near = nearOf([2]int{1, 1}) }), false, false},
		"beyond, far":           {with(withSeq(beyondTold(1, 3, 5, 0), 9), func(r *impl.Record) { r.Far = true }), false, false},
		"a thing at 0":          {withSeq(thingTold(6, 9, 0), 9), false, false},
		"a thing at 1":          {withSeq(thingTold(6, 9, 1), 9), true, true},
		"a thing at 2":          {withSeq(thingTold(6, 9, 2), 9), false, true},
		"a thing at MaxCost":    {withSeq(thingTold(6, 9, impl.MaxCost), 9), false, true},
		"a thing above MaxCost": {withSeq(thingTold(6, 9, impl.MaxCost+1), 9), false, false},
		"a thing, withdrawn":    {withSeq(thingTold(6, 9, impl.Infinite), 9), false, true},
		"a far thing at 0":      {withSeq(farTold(6, 9, 0), 9), false, false},
		"a far thing at 1":      {withSeq(farTold(6, 9, 1), 9), false, true},
		"a far thing at 2":      {withSeq(farTold(6, 9, 2), 9), false, true},
		"a thing with Near":     {with(withSeq(thingTold(6, 9, 1), 9), func(r *impl.Record) { r.Near = nearOf([2]int{1, 1}) }), false, false},
	} {
		for kind, want := range map[int]bool{impl.SaySum: c.inASum, impl.SayNews: c.asItself} {
			p := impl.Packet{Kind: kind, From: 1, To: 2, Area: 1, List: []impl.Record{c.r}}
			if mustBeAsRuled(t, name, p) != want {
				t.Errorf("%s, in kind %d: %+v", name, kind, c.r)
			}
		}
	}
}

func TestASumTellsNothingAtAnyPlace(t *testing.T) {
	for area := range impl.MaxArea + 1 {
		for _, told := range [][]impl.Record{impl.Scope(eachKey(5), area), longestPacket(area).List} {
			headers := headersBy(told, area)
			p := impl.Packet{Kind: impl.SaySum, From: 1, To: 2, Area: area, List: headers}
			mustComeBack(t, "headers", p)
			for at, r := range told {
				if sameRecord(r, headers[at]) {
					continue
				}
				one := morePacket(p, func(p *impl.Packet) { p.List[at] = r })
				mustBeUnsaid(t, fmt.Sprint("one that tells, at ", at), one)
				one.Kind = impl.SayNews
				mustComeBack(t, fmt.Sprint("one that tells, at ", at), one)
			}
		}
	}
}

// mustHead holds Headers against the document's words.
func mustHead(t *testing.T, name string, s []impl.Record, area int) []impl.Record {
	t.Helper()
	got, want := impl.Headers(s, area), headersBy(s, area)
	if !sameRecords(got, want) {
		t.Fatalf("%s: Headers(%+v, %d) = %+v; want %+v", name, s, area, got, want)
	}
	return got
}

func TestHeadersOfEachKind(t *testing.T) {
	for name, c := range map[string]struct {
		r    impl.Record
		want impl.Record
	}{
		"a node":               {nodeTold(1, 2, 3, [2]int{1, 4}, [2]int{3, 7}), impl.Record{Area: 1, Kind: 1, Owner: 2, Seq: 3}},
		"a node without Near":  {nodeTold(1, 2, 3), impl.Record{Area: 1, Kind: 1, Owner: 2, Seq: 3}},
		"beyond":               {withSeq(beyondTold(1, 3, 5, 77), 4), impl.Record{Area: 1, Kind: 2, Owner: 3, Key: 5, Seq: 4}},
		"beyond at 0":          {withSeq(beyondTold(1, 3, 5, 0), 4), impl.Record{Area: 1, Kind: 2, Owner: 3, Key: 5, Seq: 4}},
		"beyond, withdrawn":    {withSeq(beyondTold(1, 3, 5, impl.Infinite), 4), impl.Record{Area: 1, Kind: 2, Owner: 3, Key: 5, Seq: 4}},
		"a thing":              {withSeq(thingTold(6, 9, 77), impl.MaxSeq), impl.Record{Area: 9, Kind: 3, Owner: 6, Key: 9, Seq: impl.MaxSeq, Cost: 1}},
		"a thing, withdrawn":   {withSeq(thingTold(6, 9, impl.Infinite), 1), impl.Record{Area: 9, Kind: 3, Owner: 6, Key: 9, Seq: 1, Cost: 1}},
		"a far thing":          {withSeq(farTold(6, 9, 77), 2), impl.Record{Area: 9, Kind: 3, Owner: 6, Key: 9, Seq: 2, Cost: 1}},
		"a far one, withdrawn": {withSeq(farTold(6, 9, impl.Infinite), 2), impl.Record{Area: 9, Kind: 3, Owner: 6, Key: 9, Seq: 2, Cost: 1}},
	} {
		got := impl.Headers([]impl.Record{c.r}, 1)
		if !sameRecords(got, []impl.Record{c.want}) {
			t.Errorf("%s: Headers = %+v; want %+v", name, got, c.want)
		}
		if again := impl.Headers(got, 1); !sameRecords(again, got) {
			t.Errorf("%s: the headers of headers are %+v; want %+v", name, again, got)
		}
		if !impl.PacketOk(impl.Packet{Kind: impl.SaySum, From: 1, To: 2, Area: 1, List: got}) {
			t.Errorf("%s: no right sum has %+v", name, got)
		}
	}
	eachRightRecord(func(r impl.Record) {
		mustHead(t, "right", []impl.Record{r}, r.Area)
		mustHead(t, "right", []impl.Record{r}, 1)
	})
}

// Headers of a right store make a right sum, and tell who compares them with a
// store the same as the records themselves.
func TestHeadersOfStores(t *testing.T) {
	for number := range 500 {
		s := drawnStore(t, number)
		for at := range s {
			s[at].Seq = 1 + at*number%7
		}
		for area := range impl.MaxArea + 1 {
			headers := mustHead(t, "drawn", s, area)
			mustComeBack(t, "drawn", impl.Packet{Kind: impl.SaySum, From: 2, To: 6, Area: area, List: headers})
			other := drawnStore(t, number+1)
			scope := impl.Scope(s, area)
			if got, want := impl.Newer(other, headers), impl.Newer(other, scope); !sameRecords(got, want) {
				t.Fatalf("number %d: newer than headers are %s; want %s", number, brief(got), brief(want))
			}
			if got := impl.Newer(headers, scope); len(got) > 0 {
				t.Fatalf("number %d: headers are newer: %s", number, brief(got))
			}
		}
	}
	for size := range 181 {
		for area := -2; area <= 12; area++ {
			mustHead(t, "each key", eachKey(size)[:size], area)
		}
	}
}

func TestHeadersOfAreasThatAreNone(t *testing.T) {
	s := fewKeys(5)
	var outside []impl.Record
	for _, r := range s {
		if r.Area == impl.Outside {
			outside = append(outside, headerBy(r))
		}
	}
	if len(outside) == 0 || len(outside) == len(s) {
		t.Fatalf("%d of %d are outside", len(outside), len(s))
	}
	for _, area := range []int{math.MinInt, -1, impl.MaxArea + 1, impl.Outside - 1, impl.Outside, impl.Outside + 1, 256, math.MaxInt} {
		if got := mustHead(t, "no area", s, area); !sameRecords(got, outside) {
			t.Errorf("area %d: %+v", area, got)
		}
		if got := impl.Headers(nil, area); len(got) > 0 {
			t.Errorf("area %d: of nothing: %+v", area, got)
		}
	}
}

func TestHeadersOfWhatIsNotRight(t *testing.T) {
	for name, s := range wrongStores() {
		for _, area := range []int{-1, 0, 1, 2, 3, impl.Outside, impl.Outside + 1, math.MaxInt} {
			mustHead(t, name, s, area)
		}
	}
	odd := []int{math.MinInt, -1, 0, 1, 2, 3, 4, 9, math.MaxInt}
	for _, kind := range odd {
		for _, area := range odd {
			r := impl.Record{Area: area, Kind: kind, Owner: -5, Key: kind, Seq: area, Near: nearOf([2]int{0, 0}, [2]int{0, -1}), Cost: kind, Far: true}
			mustHead(t, "odd", []impl.Record{r, r, with(r, func(r *impl.Record) { r.Area = 5 })}, area)
		}
	}
	many := slices.Repeat(fewKeys(5), 3000)
	mustHead(t, "very many", many, 1)
}

// No right packet is as long as MaxText: the longest has the longest record of each
// key that it can have.
func TestTheLongestPackets(t *testing.T) {
	for area := range impl.MaxArea + 1 {
		p := longestPacket(area)
		text := mustComeBack(t, "the longest", p)
		// Of each node, to each node beyond, and to each thing of each node.
		nodes, beyond, things := 6*(1+4+3+1+5*3+1+1), 36*(1+4+3+1+3+1), 54*(1+4+3+1+3+1)
		if want := 4 + 1 + 1 + nodes + beyond + things + 4; len(p.List) != 96 || len(text) != want || len(text) > impl.MaxText {
			t.Fatalf("area %d: %d records in %d bytes; want %d", area, len(p.List), len(text), want)
		}
		mustBeUnsaid(t, "one more", morePacket(p, func(p *impl.Packet) { p.List = append(p.List, p.List[95]) }))
		p.Kind, p.List = impl.SaySum, headersBy(p.List, area)
		mustComeBack(t, "the longest sum", p)
	}
	mustComeBack(t, "the longest hello", impl.Packet{Kind: impl.SayHello, From: 1, To: 2, Heard: []int{1, 2, 3, 4, 5, 6}})
}

// Packets that would have texts about as long as MaxText are none, nor are texts.
func TestPacketsAsLongAsMaxText(t *testing.T) {
	for size := impl.MaxText - 20; size <= impl.MaxText+20; size++ {
		// Beside as many Heard stand 8 bytes, and 4 of the sum.
		heard := slices.Repeat([]int{3}, size-12)
		p := impl.Packet{Kind: impl.SayHello, From: 1, To: 2, Heard: heard}
		if body, _ := bodyByRule(p); len(sealedRight(body)) != size {
			t.Fatalf("%d bytes, not %d", len(sealedRight(body)), size)
		}
		mustBeUnsaid(t, "very many heard", p)
		mustBeNoPacket(t, sealedRight(strings.Repeat("\x00", size)))
		mustBeNoPacket(t, sealedRight(strings.Repeat("\x01", size)))
		mustBeNoPacket(t, strings.Repeat("\x01", size))
		for _, p := range somePackets() {
			body, _ := bodyByRule(p)
			mustBeNoPacket(t, sealedRight(body+strings.Repeat("\x00", size-len(body))))
			mustBeNoPacket(t, sealedRight(body)+strings.Repeat("\x00", size-len(body)-4))
		}
	}
	record, _ := bodyByRule(impl.Packet{Kind: impl.SayNews, From: 1, To: 2, List: []impl.Record{nodeTold(0, 1, 1)}})
	for _, many := range []int{2, 127, 128, impl.MaxStore, impl.MaxStore + 1, 2200, 2222, 3000} {
		count, _ := impl.VarText(many)
		mustBeNoPacket(t, sealedRight(record[:5]+count+strings.Repeat(record[6:], many)))
	}
	mustBeNoPacket(t, strings.Repeat("\xff", 1<<20))
}

func TestReadPacketRefusesTextsCutShortOrTooLong(t *testing.T) {
	mustBeNoPacket(t, "")
	mustBeNoPacket(t, sealedRight(""))
	for _, p := range append(somePackets(), longestPacket(2)) {
		body, _ := bodyByRule(p)
		text := sealedRight(body)
		for size := range len(text) {
			mustBeNoPacket(t, text[:size])
			mustBeNoPacket(t, text[size+1:])
		}
		for size := range len(body) {
			mustBeNoPacket(t, sealedRight(body[:size]))
			mustBeNoPacket(t, sealedRight(body[size+1:]))
			mustBeNoPacket(t, sealedRight(body[:size]+strings.Repeat("\x80", 20)))
		}
		for b := range 256 {
			one := string([]byte{byte(b)})
			mustBeNoPacket(t, text+one)
			mustBeNoPacket(t, one+text)
			mustBeNoPacket(t, sealedRight(body+one))
			mustBeNoPacket(t, sealedRight(one+body))
		}
		// Neither bare, nor sealed twice, nor two of them.
		mustBeNoPacket(t, body)
		mustBeNoPacket(t, sealedRight(text))
		mustBeNoPacket(t, text+text)
		mustBeNoPacket(t, sealedRight(body+body))
		for _, sum := range someSums() {
			if sealedBy(body, sum) != text {
				mustBeNoPacket(t, sealedBy(body, sum))
			}
		}
	}
}

// All of these are sealed right.
func TestReadPacketRefusesWhatIsNoPacket(t *testing.T) {
	hello := "\x01\x01\x02\x00\x02\x02\x03\x00"
	news := "\x03\x01\x02\x01\x00\x01\x0a\x01\x01\x02\x00\x03\x01\x03\x04\x00\x00"
	if !mustBeOwnBytes(t, hello) || !mustBeOwnBytes(t, news) {
		t.Fatal("what is right is refused")
	}
	thousandMillion := "\x80\x94\xeb\xdc\x03"
	for name, body := range map[string]string{
		"how many Heard, longer":        "\x01\x01\x02\x00\x82\x00\x02\x03\x00",
		"how many Heard, longer still":  "\x01\x01\x02\x00\x82\x80\x00\x02\x03\x00",
		"none heard, longer":            "\x01\x01\x02\x00\x80\x00\x00",
		"how many of List, longer":      "\x01\x01\x02\x00\x02\x02\x03\x80\x00",
		"one of List, longer":           "\x03\x01\x02\x01\x00\x81\x00\x0a\x01\x01\x02\x00\x03\x01\x03\x04\x00\x00",
		"a record's length, longer":     "\x03\x01\x02\x01\x00\x01\x8a\x00\x01\x01\x02\x00\x03\x01\x03\x04\x00\x00",
		"a record's Seq, longer":        "\x03\x01\x02\x01\x00\x01\x0b\x01\x01\x02\x00\x83\x00\x01\x03\x04\x00\x00",
		"how many Near, longer":         "\x03\x01\x02\x01\x00\x01\x0b\x01\x01\x02\x00\x03\x81\x00\x03\x04\x00\x00",
		"a record's Cost, longer":       "\x03\x01\x02\x01\x00\x01\x0b\x01\x01\x02\x00\x03\x01\x03\x04\x80\x00\x00",
		"a record's length, too small":  "\x03\x01\x02\x01\x00\x01\x09\x01\x01\x02\x00\x03\x01\x03\x04\x00\x00",
		"a record's length, too great":  "\x03\x01\x02\x01\x00\x01\x0b\x01\x01\x02\x00\x03\x01\x03\x04\x00\x00",
		"a record with a byte behind":   "\x03\x01\x02\x01\x00\x01\x0b\x01\x01\x02\x00\x03\x01\x03\x04\x00\x00\x00",
		"an empty record":               "\x03\x01\x02\x01\x00\x01\x00",
		"a record's length, very great": "\x03\x01\x02\x01\x00\x01" + thousandMillion + "\x01\x01\x02\x00\x03\x01\x03\x04\x00\x00",
		"more heard than there are":     "\x01\x01\x02\x00\x03\x02\x03\x00",
		"fewer heard than there are":    "\x01\x01\x02\x00\x01\x02\x03\x00",
		"very many heard":               "\x01\x01\x02\x00" + thousandMillion + "\x02\x03\x00",
		"too many heard for a number":   "\x01\x01\x02\x00\x81\x94\xeb\xdc\x03\x02\x03\x00",
		"heard round 64 bits":           "\x01\x01\x02\x00\x82\x80\x80\x80\x80\x80\x80\x80\x80\x80\x02\x02\x03\x00",
		"more of List than there are":   "\x03\x01\x02\x01\x00\x02\x0a\x01\x01\x02\x00\x03\x01\x03\x04\x00\x00",
		"none of List, one there":       "\x03\x01\x02\x01\x00\x00\x0a\x01\x01\x02\x00\x03\x01\x03\x04\x00\x00",
		"very many of List":             "\x03\x01\x02\x01\x00" + thousandMillion + "\x0a\x01\x01\x02\x00\x03\x01\x03\x04\x00\x00",
		"very many, none there":         "\x03\x01\x02\x01\x00" + thousandMillion,
		"a record that is not right":    "\x03\x01\x02\x01\x00\x01\x0a\x01\x01\x02\x00\x03\x01\x02\x04\x00\x00",
		"a record of another area":      "\x03\x01\x02\x02\x00\x01\x0a\x01\x01\x02\x00\x03\x01\x03\x04\x00\x00",
		"a sum that tells":              "\x02\x01\x02\x01\x00\x01\x0a\x01\x01\x02\x00\x03\x01\x03\x04\x00\x00",
		"no such kind":                  "\x00\x01\x02\x00\x00\x00",
		"no such kind above":            "\x04\x01\x02\x00\x00\x00",
		"from 0":                        "\x01\x00\x02\x00\x00\x00",
		"to one above":                  "\x01\x01\x07\x00\x00\x00",
		"to itself":                     "\x01\x02\x02\x00\x00\x00",
		"no such area":                  "\x01\x01\x02\x03\x00\x00",
		"the area Outside":              "\x01\x01\x02\x09\x00\x00",
		"heard 0":                       "\x01\x01\x02\x00\x01\x00\x00",
		"heard twice":                   "\x01\x01\x02\x00\x02\x03\x03\x00",
		"numbers in two bytes":          "\x01\x81\x00\x02\x00\x00\x00",
		"Far of 2":                      "\x03\x01\x02\x01\x00\x01\x0a\x01\x01\x02\x00\x03\x01\x03\x04\x00\x02",
		"no List at all":                "\x01\x01\x02\x00\x00",
		"no Heard at all":               "\x01\x01\x02\x00",
	} {
		if p, ok := impl.ReadPacket(sealedRight(body)); ok || !samePacket(p, impl.Packet{}) {
			t.Errorf("%s: ReadPacket(%q) = %+v, %v", name, body, p, ok)
		}
	}
}

func TestPacketsAnswerWhateverComes(t *testing.T) {
	odd := []int{math.MinInt, -1, 0, 1, 2, 9, math.MaxInt}
	lists := [][]impl.Record{nil, {{}}, fewKeys(5), eachKey(5), {{Area: math.MaxInt, Kind: math.MinInt, Near: nearOf([2]int{math.MinInt, math.MaxInt})}}}
	for _, kind := range []int{math.MinInt, 0, 1, 2, 3, 4, 257, math.MaxInt} {
		for _, from := range odd {
			for _, to := range odd {
				for _, area := range odd {
					for _, list := range lists {
						for _, heard := range [][]int{nil, {from}, {from, to}} {
							mustBeAsRuled(t, "odd", impl.Packet{Kind: kind, From: from, To: to, Area: area, Heard: heard, List: list})
						}
					}
				}
			}
		}
	}
	eachText("\x00\x01\x02\x7f\x80\xff", 6, func(text string) {
		mustBeNoPacket(t, text)
	})
}

// roomyPacket is a packet with spare room behind each of its lists, and all that
// lies there.
type roomyPacket struct {
	packet impl.Packet
	heard  []int
	room   []impl.Record
}

func roomyPacketOf(p impl.Packet) roomyPacket {
	r := roomyPacket{packet: p, heard: append(slices.Clone(p.Heard), 81, 82, 83)}
	r.packet.Heard = r.heard[:len(p.Heard)]
	r.packet.List, r.room = roomy(p.List)
	return r
}

func (r roomyPacket) mustBeLike(t *testing.T, name string, p impl.Packet) {
	t.Helper()
	fresh := roomyPacketOf(p)
	if !slices.Equal(r.heard, fresh.heard) || r.packet.Kind != p.Kind {
		t.Fatalf("%s: an argument was written into: %+v; want %+v", name, r, fresh)
	}
	mustBeAsItWas(t, name, r.packet.List, r.room, deepCopy(fresh.room))
}

func overwritePacket(p impl.Packet) {
	heard := p.Heard[:cap(p.Heard)]
	for at := range heard {
		heard[at] = -99
	}
	overwrite(p.List)
}

func TestPacketsLeaveTheirArgumentsAlone(t *testing.T) {
	packets := append(somePackets(), longestPacket(0), impl.Packet{},
		morePacket(helloPacket(), func(p *impl.Packet) { p.Heard = []int{3, 2, 1} }),
		morePacket(newsPacket(), func(p *impl.Packet) { slices.Reverse(p.List) }),
		morePacket(newsPacket(), func(p *impl.Packet) { p.Kind = impl.SaySum }))
	for number := range 300 {
		packets = append(packets, spoiled(drawnPacket(t, number), &draws{state: number}))
	}
	for _, p := range packets {
		r := roomyPacketOf(p)
		first, firstOk := impl.PacketText(r.packet)
		second, secondOk := impl.PacketText(r.packet)
		if first != second || firstOk != secondOk || firstOk != impl.PacketOk(r.packet) {
			t.Fatalf("asked twice: %q, %v and %q, %v", first, firstOk, second, secondOk)
		}
		r.mustBeLike(t, "PacketText", p)
		for area := range impl.MaxArea + 1 {
			mustStayRecords(t, func() []impl.Record { return impl.Headers(r.packet.List, area) })
			headers := impl.Headers(r.packet.List, area)
			mustBeListsApart(t, "Headers", headers)
			overwrite(headers)
			r.mustBeLike(t, "Headers", p)
		}
	}
}

func TestHeadersOfWrongStoresLeaveThemAlone(t *testing.T) {
	for name, s := range wrongStores() {
		for area := range impl.MaxArea + 1 {
			list, room := roomy(s)
			kept := deepCopy(room)
			overwrite(impl.Headers(list, area))
			mustBeAsItWas(t, name, list, room, kept)
		}
	}
	// Records that share one Near have none of it in their headers.
	near := nearOf([2]int{5, 1}, [2]int{6, 2})
	s := []impl.Record{{Area: 1, Kind: impl.KindNode, Owner: 1, Seq: 3, Near: near}, {Area: 1, Kind: impl.KindNode, Owner: 2, Seq: 3, Near: near[:0]}}
	got := impl.Headers(s, 1)
	mustBeListsApart(t, "Headers", got)
	overwrite(got)
	if !slices.Equal(near, nearOf([2]int{5, 1}, [2]int{6, 2})) {
		t.Fatalf("the Near that was handed in is now %v", near)
	}
}

func TestReadPacketAnswersNewMemory(t *testing.T) {
	packets := append(somePackets(), longestPacket(1))
	for number := range 100 {
		packets = append(packets, drawnPacket(t, number))
	}
	for _, p := range packets {
		text := onHeap(mustComeBack(t, "right", p))
		kept := strings.Clone(text)
		first, _ := impl.ReadPacket(text)
		second, _ := impl.ReadPacket(text)
		mustBeListsApart(t, "ReadPacket", second.List)
		overwritePacket(first)
		if !samePacket(second, p) {
			t.Fatalf("two answers share memory: %+v; want %+v", second, p)
		}
		overwritePacket(second)
		if third, ok := impl.ReadPacket(text); !ok || !samePacket(third, p) || text != kept {
			t.Fatalf("asked again, it is %+v, %v; want %+v", third, ok, p)
		}
	}
}
