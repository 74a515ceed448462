package tests

import (
	"math"
	"slices"
	"strings"
	"testing"

	"loop.example/g00177/impl"
)

// nearOf has rows of To and Cost.
func nearOf(rows ...[2]int) []impl.Near {
	var list []impl.Near
	for _, row := range rows {
		list = append(list, impl.Near{To: row[0], Cost: row[1]})
	}
	return list
}

// One right record of each kind, each of which has what its kind may have.
func nodeRecord() impl.Record {
	return impl.Record{Area: 1, Kind: impl.KindNode, Owner: 2, Seq: 3, Near: nearOf([2]int{1, 4}, [2]int{3, 1000})}
}

func beyondRecord() impl.Record {
	return impl.Record{Area: 0, Kind: impl.KindBeyond, Owner: 3, Key: 5, Seq: 300, Cost: 128}
}

func thingRecord() impl.Record {
	return impl.Record{Area: impl.Outside, Kind: impl.KindThing, Owner: 6, Key: 9, Seq: 1, Cost: 1000, Far: true}
}

// with is a record with something about it changed.
func with(r impl.Record, change func(r *impl.Record)) impl.Record {
	r.Near = slices.Clone(r.Near)
	change(&r)
	return r
}

// eachNear hands out every right Near of an owner, at costs that go round.
func eachNear(owner int, f func(list []impl.Near)) {
	some := []int{1, 2, 127, 128, 999, 1000}
	for choice := range 1 << impl.MaxNodes {
		var list []impl.Near
		for to := 1; to <= impl.MaxNodes; to++ {
			if to != owner && choice>>(to-1)&1 == 1 {
				list = append(list, impl.Near{To: to, Cost: some[(choice+to)%len(some)]})
			}
		}
		f(list)
	}
}

// eachRightRecord hands out right records of every kind, area, owner and key, at
// the edges of Seq and Cost and between.
func eachRightRecord(f func(r impl.Record)) {
	for owner := 1; owner <= 6; owner++ {
		for _, seq := range []int{1, 2, 127, 128, 16383, 16384, 99999, 100000} {
			for area := range 3 {
				eachNear(owner, func(list []impl.Near) {
					f(impl.Record{Area: area, Kind: 1, Owner: owner, Seq: seq, Near: list})
				})
				for key := 1; key <= 6; key++ {
					for _, cost := range []int{0, 1, 127, 128, 1000, 1001, 16384, 59999, 60000} {
						f(impl.Record{Area: area, Kind: 2, Owner: owner, Key: key, Seq: seq, Cost: cost})
					}
				}
			}
			for key := 1; key <= 9; key++ {
				for _, cost := range []int{1, 2, 127, 128, 999, 1000, 60000} {
					f(impl.Record{Area: 9, Kind: 3, Owner: owner, Key: key, Seq: seq, Cost: cost})
					f(impl.Record{Area: 9, Kind: 3, Owner: owner, Key: key, Seq: seq, Cost: cost, Far: true})
				}
			}
		}
	}
}

// sameRecord takes an empty list and nil for the same.
func sameRecord(a, b impl.Record) bool {
	return a.Area == b.Area && a.Kind == b.Kind && a.Owner == b.Owner && a.Key == b.Key &&
		a.Seq == b.Seq && slices.Equal(a.Near, b.Near) && a.Cost == b.Cost && a.Far == b.Far
}

func mustWrite(t *testing.T, r impl.Record) string {
	t.Helper()
	text, ok := impl.RecordText(r)
	if !ok {
		t.Fatalf("RecordText(%+v) is refused", r)
	}
	return text
}

// mustBeNoRecord asks for the zero value beside the false.
func mustBeNoRecord(t *testing.T, text string) {
	t.Helper()
	if r, ok := impl.ReadRecord(text); ok || !sameRecord(r, impl.Record{}) {
		t.Fatalf("ReadRecord(%.40q) = %+v, %v", text, r, ok)
	}
}

// mustBeWrong asks of a record that is not right all that says so: also a text
// that tells of it is none, when its numbers can be written at all.
func mustBeWrong(t *testing.T, name string, r impl.Record) {
	t.Helper()
	if impl.RecordOk(r) {
		t.Errorf("%s: RecordOk(%+v) = true", name, r)
	}
	if text, ok := impl.RecordText(r); ok || text != "" {
		t.Errorf("%s: RecordText(%+v) = %q, %v", name, r, text, ok)
	}
	if text, ok := textByRule(r); ok {
		mustBeNoRecord(t, text)
	}
}

// textByRule writes any record as the document says, right or not, and false
// where a number has no such bytes.
func textByRule(r impl.Record) (string, bool) {
	var out []byte
	written := true
	one := func(n int) {
		written = written && n >= 0 && n <= 255
		out = append(out, byte(n))
	}
	number := func(n int) {
		text, ok := impl.VarText(n)
		written = written && ok
		out = append(out, text...)
	}
	one(r.Area)
	one(r.Kind)
	one(r.Owner)
	one(r.Key)
	number(r.Seq)
	number(len(r.Near))
	for _, n := range r.Near {
		one(n.To)
		number(n.Cost)
	}
	number(r.Cost)
	if r.Far {
		one(1)
	} else {
		one(0)
	}
	return string(out), written
}

func TestRecordTextsOfKnownRecords(t *testing.T) {
	for _, c := range []struct {
		r    impl.Record
		want string
	}{
		{nodeRecord(), "\x01\x01\x02\x00\x03\x02\x01\x04\x03\xe8\x07\x00\x00"},
		{beyondRecord(), "\x00\x02\x03\x05\xac\x02\x00\x80\x01\x00"},
		{thingRecord(), "\x09\x03\x06\x09\x01\x00\xe8\x07\x01"},
		{impl.Record{Kind: 1, Owner: 1, Seq: 1}, "\x00\x01\x01\x00\x01\x00\x00\x00"},
		{impl.Record{Area: 2, Kind: 2, Owner: 6, Key: 6, Seq: 100000, Cost: 60000}, "\x02\x02\x06\x06\xa0\x8d\x06\x00\xe0\xd4\x03\x00"},
		{impl.Record{Area: 0, Kind: 2, Owner: 1, Key: 1, Seq: 1}, "\x00\x02\x01\x01\x01\x00\x00\x00"},
		{impl.Record{Area: 9, Kind: 3, Owner: 1, Key: 1, Seq: 127, Cost: 1}, "\x09\x03\x01\x01\x7f\x00\x01\x00"},
		{impl.Record{Area: 9, Kind: 3, Owner: 1, Key: 1, Seq: 128, Cost: 60000, Far: true}, "\x09\x03\x01\x01\x80\x01\x00\xe0\xd4\x03\x01"},
		{impl.Record{Area: 0, Kind: 1, Owner: 4, Seq: 1, Near: nearOf([2]int{1, 1}, [2]int{2, 127}, [2]int{3, 128}, [2]int{5, 999}, [2]int{6, 1000})},
			"\x00\x01\x04\x00\x01\x05\x01\x01\x02\x7f\x03\x80\x01\x05\xe7\x07\x06\xe8\x07\x00\x00"},
	} {
		if text, ok := impl.RecordText(c.r); !ok || text != c.want {
			t.Errorf("RecordText(%+v) = %q, %v; want %q", c.r, text, ok, c.want)
		}
		if r, ok := impl.ReadRecord(c.want); !ok || !sameRecord(r, c.r) {
			t.Errorf("ReadRecord(%q) = %+v, %v; want %+v", c.want, r, ok, c.r)
		}
	}
}

func TestRecordsComeBackFromTheirTexts(t *testing.T) {
	texts := map[string]impl.Record{}
	eachRightRecord(func(r impl.Record) {
		if !impl.RecordOk(r) {
			t.Fatalf("RecordOk(%+v) = false", r)
		}
		text := mustWrite(t, r)
		if want, _ := textByRule(r); text != want {
			t.Fatalf("RecordText(%+v) = %q; want %q", r, text, want)
		}
		back, ok := impl.ReadRecord(text)
		if !ok || !sameRecord(back, r) {
			t.Fatalf("ReadRecord(%q) = %+v, %v; want %+v", text, back, ok, r)
		}
		if other, ok := texts[text]; ok && !sameRecord(other, r) {
			t.Fatalf("%+v and %+v have the one text %q", other, r, text)
		}
		texts[text] = r
	})
}

func TestRecordOkAtTheEdgesOfOwnerAndSeq(t *testing.T) {
	for _, kind := range []impl.Record{{Area: 1, Kind: 1}, {Area: 1, Kind: 2, Key: 1}, {Area: 9, Kind: 3, Key: 1, Cost: 1}} {
		for _, owner := range []int{math.MinInt, -1, 0, 1, 2, 5, 6, 7, 255, 256, 257, math.MaxInt} {
			for _, seq := range []int{math.MinInt, -1, 0, 1, 2, 99999, 100000, 100001, math.MaxInt} {
				r := kind
				r.Owner, r.Seq = owner, seq
				want := owner >= 1 && owner <= 6 && seq >= 1 && seq <= 100000
				if impl.RecordOk(r) != want {
					t.Errorf("RecordOk(%+v) = %v", r, !want)
				}
				if !want {
					mustBeWrong(t, "owner and seq", r)
				}
			}
		}
	}
}

// Every kind that there is, and some that are none, with every area, key, cost,
// far and near or not, at the edges and one off; what may stand is written out.
func TestRecordOkTakesJustWhatEachKindHas(t *testing.T) {
	type mayBe struct {
		areas, keys, costs, near []int
		far                      []bool
	}
	rules := map[int]mayBe{
		1: {areas: []int{0, 1, 2}, keys: []int{0}, costs: []int{0}, near: []int{0, 1}, far: []bool{false}},
		2: {areas: []int{0, 1, 2}, keys: []int{1, 2, 5, 6}, costs: []int{0, 1, 2, 999, 1000, 1001, 59999, 60000}, near: []int{0}, far: []bool{false}},
		3: {areas: []int{9}, keys: []int{1, 2, 5, 6, 7, 8, 9}, costs: []int{1, 2, 999, 1000, 60000}, near: []int{0}, far: []bool{false, true}},
	}
	someAreas := []int{math.MinInt, -1, 0, 1, 2, 3, 8, 9, 10, 256, math.MaxInt}
	someKeys := []int{math.MinInt, -1, 0, 1, 2, 5, 6, 7, 8, 9, 10, 257, math.MaxInt}
	someCosts := []int{math.MinInt, -1, 0, 1, 2, 999, 1000, 1001, 59999, 60000, 60001, math.MaxInt}
	for _, kind := range []int{math.MinInt, -1, 0, 1, 2, 3, 4, 9, 257, 258, 259, math.MaxInt} {
		may := rules[kind]
		for _, area := range someAreas {
			for _, key := range someKeys {
				for _, cost := range someCosts {
					for near := range 2 {
						for _, far := range []bool{false, true} {
							r := impl.Record{Area: area, Kind: kind, Owner: 3, Key: key, Seq: 7, Near: nearOf([2]int{4, 5})[:near], Cost: cost, Far: far}
							want := slices.Contains(may.areas, area) && slices.Contains(may.keys, key) &&
								slices.Contains(may.costs, cost) && slices.Contains(may.near, near) && slices.Contains(may.far, far)
							if impl.RecordOk(r) != want {
								t.Fatalf("RecordOk(%+v) = %v", r, !want)
							}
							if !want {
								mustBeWrong(t, "kind", r)
							}
						}
					}
				}
			}
		}
	}
}

func TestRecordOkTakesNear(t *testing.T) {
	all := nearOf([2]int{1, 1}, [2]int{2, 1000}, [2]int{3, 3}, [2]int{4, 4}, [2]int{5, 5}, [2]int{6, 6})
	for owner := 1; owner <= impl.MaxNodes; owner++ {
		others := slices.Delete(slices.Clone(all), owner-1, owner)
		for name, list := range map[string][]impl.Near{
			"none": nil, "none, not nil": {}, "one": nearOf([2]int{owner%6 + 1, 1000}), "MaxNodes - 1": others,
		} {
			r := impl.Record{Kind: impl.KindNode, Owner: owner, Seq: 1, Near: list}
			if !impl.RecordOk(r) {
				t.Errorf("%s: RecordOk(%+v) = false", name, r)
			}
		}
		mustBeWrong(t, "all nodes, the owner too", impl.Record{Kind: impl.KindNode, Owner: owner, Seq: 1, Near: all})
	}
}

func TestRecordOkRefusesNear(t *testing.T) {
	for name, list := range map[string][]impl.Near{
		"the owner":                   nearOf([2]int{2, 1}),
		"the owner among others":      nearOf([2]int{1, 1}, [2]int{2, 1}, [2]int{3, 1}),
		"the owner behind others":     nearOf([2]int{1, 1}, [2]int{2, 1}),
		"another order":               nearOf([2]int{3, 1}, [2]int{1, 2}),
		"the last two turned":         nearOf([2]int{1, 1}, [2]int{4, 1}, [2]int{3, 2}),
		"one twice":                   nearOf([2]int{3, 1}, [2]int{3, 1}),
		"one twice, the cheaper":      nearOf([2]int{3, 1}, [2]int{3, 2}),
		"one twice, the dearer":       nearOf([2]int{3, 2}, [2]int{3, 1}),
		"one twice, one between":      nearOf([2]int{3, 1}, [2]int{4, 1}, [2]int{3, 1}),
		"one twice, one behind":       nearOf([2]int{3, 1}, [2]int{3, 1}, [2]int{4, 1}),
		"node 0":                      nearOf([2]int{0, 1}),
		"node 0 ahead of one":         nearOf([2]int{0, 1}, [2]int{1, 1}),
		"below 0":                     nearOf([2]int{-1, 1}),
		"far below 0":                 nearOf([2]int{math.MinInt, 1}),
		"one above MaxNodes":          nearOf([2]int{7, 1}),
		"one above, behind others":    nearOf([2]int{1, 1}, [2]int{6, 1}, [2]int{7, 1}),
		"far above":                   nearOf([2]int{math.MaxInt, 1}),
		"256 above one":               nearOf([2]int{257, 1}),
		"cost 0":                      nearOf([2]int{1, 0}),
		"cost below 0":                nearOf([2]int{1, -1}),
		"cost far below 0":            nearOf([2]int{1, math.MinInt}),
		"cost one too much":           nearOf([2]int{1, 1001}),
		"cost Infinite":               nearOf([2]int{1, 60000}),
		"cost far too much":           nearOf([2]int{1, math.MaxInt}),
		"the last cost 0":             nearOf([2]int{1, 1}, [2]int{3, 1}, [2]int{4, 0}),
		"the first cost too much":     nearOf([2]int{1, 1001}, [2]int{3, 1}),
		"MaxNodes, one of them twice": nearOf([2]int{1, 1}, [2]int{3, 1}, [2]int{4, 1}, [2]int{5, 1}, [2]int{6, 1}, [2]int{6, 1}),
		"very many":                   make([]impl.Near, 5000),
	} {
		r := nodeRecord()
		r.Near = list
		mustBeWrong(t, name, r)
	}
}

func TestRecordsThatAreNotRightInOneField(t *testing.T) {
	node, beyond, thing := nodeRecord(), beyondRecord(), thingRecord()
	for name, r := range map[string]impl.Record{
		"nothing":                 {},
		"kind 0":                  with(node, func(r *impl.Record) { r.Kind = 0 }),
		"kind 4":                  with(thing, func(r *impl.Record) { r.Kind = 4 }),
		"node as beyond":          with(node, func(r *impl.Record) { r.Kind = impl.KindBeyond }),
		"node as thing":           with(node, func(r *impl.Record) { r.Kind = impl.KindThing }),
		"beyond as node":          with(beyond, func(r *impl.Record) { r.Kind = impl.KindNode }),
		"beyond as thing":         with(beyond, func(r *impl.Record) { r.Kind = impl.KindThing }),
		"thing as node":           with(thing, func(r *impl.Record) { r.Kind = impl.KindNode }),
		"thing as beyond":         with(thing, func(r *impl.Record) { r.Kind = impl.KindBeyond }),
		"node outside":            with(node, func(r *impl.Record) { r.Area = impl.Outside }),
		"beyond outside":          with(beyond, func(r *impl.Record) { r.Area = impl.Outside }),
		"thing in the middle":     with(thing, func(r *impl.Record) { r.Area = 0 }),
		"thing one off Outside":   with(thing, func(r *impl.Record) { r.Area = impl.Outside - 1 }),
		"thing one past Outside":  with(thing, func(r *impl.Record) { r.Area = impl.Outside + 1 }),
		"node with a key":         with(node, func(r *impl.Record) { r.Key = 1 }),
		"beyond without a key":    with(beyond, func(r *impl.Record) { r.Key = 0 }),
		"beyond, key 7":           with(beyond, func(r *impl.Record) { r.Key = impl.MaxNodes + 1 }),
		"thing without a key":     with(thing, func(r *impl.Record) { r.Key = 0 }),
		"thing, key 10":           with(thing, func(r *impl.Record) { r.Key = 10 }),
		"node with a cost":        with(node, func(r *impl.Record) { r.Cost = 1 }),
		"node, cost Infinite":     with(node, func(r *impl.Record) { r.Cost = impl.Infinite }),
		"beyond, above Infinite":  with(beyond, func(r *impl.Record) { r.Cost = impl.Infinite + 1 }),
		"thing, cost 0":           with(thing, func(r *impl.Record) { r.Cost = 0 }),
		"thing, above MaxCost":    with(thing, func(r *impl.Record) { r.Cost = impl.MaxCost + 1 }),
		"thing, below Infinite":   with(thing, func(r *impl.Record) { r.Cost = impl.Infinite - 1 }),
		"thing, above Infinite":   with(thing, func(r *impl.Record) { r.Cost = impl.Infinite + 1 }),
		"node that is far":        with(node, func(r *impl.Record) { r.Far = true }),
		"beyond that is far":      with(beyond, func(r *impl.Record) { r.Far = true }),
		"beyond with near":        with(beyond, func(r *impl.Record) { r.Near = nearOf([2]int{1, 1}) }),
		"thing with near":         with(thing, func(r *impl.Record) { r.Near = nearOf([2]int{1, 1}) }),
		"beyond with a zero near": with(beyond, func(r *impl.Record) { r.Near = make([]impl.Near, 1) }),
	} {
		mustBeWrong(t, name, r)
	}
}

// A node may be told of as beyond by itself: no sentence keeps Key from Owner.
func TestRecordOkOfEdgesThatHold(t *testing.T) {
	for name, r := range map[string]impl.Record{
		"beyond of itself":      with(beyondRecord(), func(r *impl.Record) { r.Key = r.Owner }),
		"beyond at no cost":     with(beyondRecord(), func(r *impl.Record) { r.Cost = 0 }),
		"beyond, Infinite":      with(beyondRecord(), func(r *impl.Record) { r.Cost = impl.Infinite }),
		"beyond, near not nil":  with(beyondRecord(), func(r *impl.Record) { r.Near = []impl.Near{} }),
		"thing, Infinite":       with(thingRecord(), func(r *impl.Record) { r.Cost = impl.Infinite }),
		"thing that is not far": with(thingRecord(), func(r *impl.Record) { r.Far = false }),
		"thing, near not nil":   with(thingRecord(), func(r *impl.Record) { r.Near = []impl.Near{} }),
		"node without near":     with(nodeRecord(), func(r *impl.Record) { r.Near = nil }),
	} {
		if !impl.RecordOk(r) {
			t.Errorf("%s: RecordOk(%+v) = false", name, r)
		}
		if back, ok := impl.ReadRecord(mustWrite(t, r)); !ok || !sameRecord(back, r) {
			t.Errorf("%s: comes back as %+v, %v", name, back, ok)
		}
	}
}

// keyedRecords have all keys of a few numbers, records that are not right among
// them, with bodies that are not looked at.
func keyedRecords() []impl.Record {
	var list []impl.Record
	numbers := []int{math.MinInt, -1, 0, 1, 2, 9, math.MaxInt}
	for _, area := range numbers {
		for _, kind := range []int{0, 1, 2, math.MaxInt} {
			for _, owner := range []int{math.MinInt, 1, 2, 6} {
				for _, key := range []int{-1, 0, 1, 9} {
					at := len(list)
					list = append(list, impl.Record{Area: area, Kind: kind, Owner: owner, Key: key,
						Seq: -at, Near: nearOf([2]int{at % 3, at})[:at%2], Cost: 7 - at%11, Far: at%5 == 0})
				}
			}
		}
	}
	return list
}

// Of any two one is ahead of the other, or they have the same key; never two of
// these.
func TestOneIsAheadOrKeysAreTheSame(t *testing.T) {
	list := keyedRecords()
	for i, a := range list {
		for j, b := range list {
			ahead, behind, same := impl.Before(a, b), impl.Before(b, a), impl.SameKey(a, b)
			// The list is made in the document's order: Area, Kind, Owner, Key.
			if ahead != (i < j) || behind != (j < i) || same != (i == j) {
				t.Fatalf("%+v and %+v: Before %v, the other way %v, SameKey %v", a, b, ahead, behind, same)
			}
		}
	}
}

// What is not of the key changes nothing about keys, and nothing about order.
func TestKeysLeaveTheRestOut(t *testing.T) {
	for _, a := range keyedRecords() {
		b := impl.Record{Area: a.Area, Kind: a.Kind, Owner: a.Owner, Key: a.Key,
			Seq: a.Seq + 1, Near: nearOf([2]int{4, 4}, [2]int{5, 5}), Cost: a.Cost + 1, Far: !a.Far}
		if !impl.SameKey(a, b) || !impl.SameKey(b, a) || impl.Before(a, b) || impl.Before(b, a) {
			t.Fatalf("%+v and %+v: SameKey %v, Before %v, %v", a, b, impl.SameKey(a, b), impl.Before(a, b), impl.Before(b, a))
		}
	}
}

func TestBeforeGoesFieldByField(t *testing.T) {
	for name, pair := range map[string][2]impl.Record{
		"area":              {{Area: 0, Kind: 3, Owner: 6, Key: 9}, {Area: 1, Kind: 1, Owner: 1, Key: 0}},
		"area Outside last": {{Area: 2, Kind: 2, Owner: 6, Key: 6}, {Area: 9, Kind: 3, Owner: 1, Key: 1}},
		"kind":              {{Area: 1, Kind: 1, Owner: 6, Key: 9}, {Area: 1, Kind: 2, Owner: 1, Key: 1}},
		"owner":             {{Area: 1, Kind: 2, Owner: 3, Key: 6}, {Area: 1, Kind: 2, Owner: 4, Key: 1}},
		"key":               {{Area: 1, Kind: 2, Owner: 3, Key: 1}, {Area: 1, Kind: 2, Owner: 3, Key: 2}},
		"key, a seq behind": {{Area: 1, Kind: 2, Owner: 3, Key: 1, Seq: 9}, {Area: 1, Kind: 2, Owner: 3, Key: 2, Seq: 1}},
		"far numbers":       {{Area: math.MinInt}, {Area: math.MaxInt}},
		"far keys":          {{Key: math.MinInt}, {Key: 1}},
	} {
		if !impl.Before(pair[0], pair[1]) || impl.Before(pair[1], pair[0]) || impl.SameKey(pair[0], pair[1]) {
			t.Errorf("%s: %+v and %+v", name, pair[0], pair[1])
		}
	}
}

func TestSameKeyAndSameBodyAtOneFieldThatDiffers(t *testing.T) {
	for _, a := range []impl.Record{nodeRecord(), beyondRecord(), thingRecord(), {}} {
		for name, c := range map[string]struct {
			change    func(r *impl.Record)
			key, body bool
		}{
			"nothing":        {func(r *impl.Record) {}, true, true},
			"Seq":            {func(r *impl.Record) { r.Seq++ }, true, true},
			"Seq, far off":   {func(r *impl.Record) { r.Seq = math.MinInt }, true, true},
			"Area":           {func(r *impl.Record) { r.Area++ }, false, false},
			"Kind":           {func(r *impl.Record) { r.Kind++ }, false, false},
			"Owner":          {func(r *impl.Record) { r.Owner++ }, false, false},
			"Key":            {func(r *impl.Record) { r.Key++ }, false, false},
			"Cost":           {func(r *impl.Record) { r.Cost++ }, true, false},
			"Cost, turned":   {func(r *impl.Record) { r.Cost = -1 - r.Cost }, true, false},
			"Far":            {func(r *impl.Record) { r.Far = !r.Far }, true, false},
			"one Near more":  {func(r *impl.Record) { r.Near = append(r.Near, impl.Near{To: 6, Cost: 1}) }, true, false},
			"a zero Near":    {func(r *impl.Record) { r.Near = append(r.Near, impl.Near{}) }, true, false},
			"Seq and Far":    {func(r *impl.Record) { r.Seq++; r.Far = !r.Far }, true, false},
			"Area and Owner": {func(r *impl.Record) { r.Area, r.Owner = r.Owner+9, r.Area+9 }, false, false},
		} {
			b := with(a, c.change)
			mustCompare(t, name, a, b, c.key, c.body)
		}
	}
}

func TestSameBodyAtNear(t *testing.T) {
	a := nodeRecord()
	for name, c := range map[string]struct {
		near []impl.Near
		want bool
	}{
		"the same":               {nearOf([2]int{1, 4}, [2]int{3, 1000}), true},
		"no Near":                {nil, false},
		"the first one alone":    {nearOf([2]int{1, 4}), false},
		"the last one alone":     {nearOf([2]int{3, 1000}), false},
		"one To differs":         {nearOf([2]int{1, 4}, [2]int{4, 1000}), false},
		"the first To differs":   {nearOf([2]int{2, 4}, [2]int{3, 1000}), false},
		"one Cost differs":       {nearOf([2]int{1, 4}, [2]int{3, 999}), false},
		"the first Cost differs": {nearOf([2]int{1, 5}, [2]int{3, 1000}), false},
		"another order":          {nearOf([2]int{3, 1000}, [2]int{1, 4}), false},
		"To and Cost turned":     {nearOf([2]int{4, 1}, [2]int{1000, 3}), false},
		"one more":               {nearOf([2]int{1, 4}, [2]int{3, 1000}, [2]int{5, 1}), false},
	} {
		mustCompare(t, name, a, with(a, func(r *impl.Record) { r.Near = c.near }), true, c.want)
	}
	nothing := with(a, func(r *impl.Record) { r.Near = nil })
	empty := with(a, func(r *impl.Record) { r.Near = []impl.Near{} })
	mustCompare(t, "an empty list and nil", nothing, empty, true, true)
}

// mustCompare asks both ways round.
func mustCompare(t *testing.T, name string, a, b impl.Record, key, body bool) {
	t.Helper()
	if impl.SameKey(a, b) != key || impl.SameKey(b, a) != key {
		t.Errorf("%s: SameKey(%+v, %+v) = %v, %v", name, a, b, impl.SameKey(a, b), impl.SameKey(b, a))
	}
	if impl.SameBody(a, b) != body || impl.SameBody(b, a) != body {
		t.Errorf("%s: SameBody(%+v, %+v) = %v, %v", name, a, b, impl.SameBody(a, b), impl.SameBody(b, a))
	}
}

// someTexts are those of right records, of which some have numbers of two and
// three bytes.
func someTexts(t *testing.T) []string {
	t.Helper()
	most := nearOf([2]int{1, 1}, [2]int{2, 127}, [2]int{3, 128}, [2]int{5, 999}, [2]int{6, 1000})
	var texts []string
	for _, r := range []impl.Record{nodeRecord(), beyondRecord(), thingRecord(),
		{Kind: impl.KindNode, Owner: 1, Seq: 1},
		{Area: 2, Kind: impl.KindNode, Owner: 4, Seq: 100000, Near: most},
		{Area: 2, Kind: impl.KindBeyond, Owner: 6, Key: 6, Seq: 16384, Cost: 60000},
		{Area: 9, Kind: impl.KindThing, Owner: 1, Key: 1, Seq: 128, Cost: 60000, Far: true},
	} {
		texts = append(texts, mustWrite(t, r))
	}
	return texts
}

func TestReadRecordRefusesTextsCutShortOrTooLong(t *testing.T) {
	mustBeNoRecord(t, "")
	for _, text := range someTexts(t) {
		for size := range len(text) {
			mustBeNoRecord(t, text[:size])
			mustBeNoRecord(t, text[size+1:])
			mustBeNoRecord(t, text[:size]+strings.Repeat("\x80", 20))
		}
		for b := range 256 {
			mustBeNoRecord(t, text+string([]byte{byte(b)}))
			mustBeNoRecord(t, string([]byte{byte(b)})+text)
		}
		for _, more := range someTexts(t) {
			mustBeNoRecord(t, text+more)
		}
		mustBeNoRecord(t, text+strings.Repeat("\x00", 30000))
	}
}

func TestReadRecordRefusesLongerForms(t *testing.T) {
	right := "\x01\x01\x02\x00\x03\x01\x03\x04\x00\x00"
	if r, ok := impl.ReadRecord(right); !ok || r.Seq != 3 {
		t.Fatalf("ReadRecord(%q) = %+v, %v", right, r, ok)
	}
	for name, text := range map[string]string{
		"Seq":                  "\x01\x01\x02\x00\x83\x00\x01\x03\x04\x00\x00",
		"Seq, longer still":    "\x01\x01\x02\x00\x83\x80\x00\x01\x03\x04\x00\x00",
		"how many Near":        "\x01\x01\x02\x00\x03\x81\x00\x03\x04\x00\x00",
		"the Cost of a Near":   "\x01\x01\x02\x00\x03\x01\x03\x84\x00\x00\x00",
		"Cost":                 "\x01\x01\x02\x00\x03\x01\x03\x04\x80\x00\x00",
		"no Near":              "\x00\x01\x01\x00\x01\x80\x00\x00\x00",
		"Seq above MaxSeq":     "\x01\x01\x02\x00\xa1\x8d\x06\x01\x03\x04\x00\x00",
		"Seq above MaxNumber":  "\x01\x01\x02\x00\x81\x94\xeb\xdc\x03\x01\x03\x04\x00\x00",
		"Seq round 64 bits":    "\x01\x01\x02\x00\x83\x80\x80\x80\x80\x80\x80\x80\x80\x80\x02\x01\x03\x04\x00\x00",
		"very many Near":       "\x01\x01\x02\x00\x03\x80\x94\xeb\xdc\x03\x03\x04\x00\x00",
		"two Near, one there":  "\x01\x01\x02\x00\x03\x02\x03\x04\x00\x00",
		"no Near, one there":   "\x01\x01\x02\x00\x03\x00\x03\x04\x00\x00",
		"many Near, all there": "\x01\x01\x02\x00\x03\x80\x01" + strings.Repeat("\x03\x04", 128) + "\x00\x00",
		"a byte for To less":   "\x01\x01\x02\x00\x03\x01\x04\x00\x00",
	} {
		if r, ok := impl.ReadRecord(text); ok || !sameRecord(r, impl.Record{}) {
			t.Errorf("%s: ReadRecord(%q) = %+v, %v", name, text, r, ok)
		}
	}
}

func TestReadRecordAsksForAFarOfNoughtOrOne(t *testing.T) {
	thing := mustWrite(t, thingRecord())
	ahead := thing[:len(thing)-1]
	for far := range 256 {
		text := ahead + string([]byte{byte(far)})
		if far > 1 {
			mustBeNoRecord(t, text)
			continue
		}
		if r, ok := impl.ReadRecord(text); !ok || r.Far != (far == 1) {
			t.Errorf("far %d: %+v, %v", far, r, ok)
		}
	}
	for _, r := range []impl.Record{nodeRecord(), beyondRecord()} {
		text := mustWrite(t, r)
		for far := 1; far < 256; far++ {
			mustBeNoRecord(t, text[:len(text)-1]+string([]byte{byte(far)}))
		}
	}
}

// mustBeOwnText holds that what is read is right and has just this text.
func mustBeOwnText(t *testing.T, text string) {
	t.Helper()
	r, ok := impl.ReadRecord(text)
	if !ok {
		mustBeNoRecord(t, text)
		return
	}
	if back, written := impl.RecordText(r); !impl.RecordOk(r) || !written || back != text {
		t.Fatalf("ReadRecord(%q) = %+v, whose text is %q, %v", text, r, back, written)
	}
}

func TestReadRecordReadsTextsOfRightRecordsAlone(t *testing.T) {
	for _, text := range someTexts(t) {
		for at := range len(text) {
			for b := range 256 {
				one := string([]byte{byte(b)})
				mustBeOwnText(t, text[:at]+one+text[at+1:])
				mustBeOwnText(t, text[:at]+one+text[at:])
				for _, two := range []string{"\x00", "\x01", "\x7f", "\x80", "\xff"} {
					mustBeOwnText(t, text[:at]+one+two+text[at+1:])
				}
			}
		}
	}
	for _, ahead := range []string{"", "\x00\x01\x01\x00", "\x02\x02\x06\x06\x01", "\x09\x03\x01\x09\x05\x00", "\x01\x01\x02\x00\x01\x01"} {
		eachText("\x00\x01\x02\x03\x09\x80\xff", 5, func(text string) { mustBeOwnText(t, ahead+text) })
	}
}

func TestRecordsAnswerWhateverComes(t *testing.T) {
	odd := []int{math.MinInt, -1, 0, 1, 9, 60000, math.MaxInt}
	for _, area := range odd {
		for _, kind := range []int{math.MinInt, 0, 1, 2, 3, 4, math.MaxInt} {
			for _, owner := range odd {
				for _, key := range odd {
					for _, cost := range odd {
						r := impl.Record{Area: area, Kind: kind, Owner: owner, Key: key, Seq: cost,
							Near: nearOf([2]int{owner, key}, [2]int{area, cost}), Cost: cost, Far: kind == 3}
						// Never right: no kind has its owner in Near.
						mustBeWrong(t, "odd", r)
						other := with(r, func(r *impl.Record) { r.Area, r.Key = r.Key, r.Area })
						if impl.Before(r, other) && impl.Before(other, r) || impl.SameKey(r, other) != (area == key) {
							t.Fatalf("%+v and %+v", r, other)
						}
					}
				}
			}
		}
	}
}

func TestRecordsLeaveTheirArgumentsAlone(t *testing.T) {
	near := nearOf([2]int{1, 4}, [2]int{3, 1000}, [2]int{77, 78}, [2]int{79, 80})
	ahead := slices.Clone(near)
	r := nodeRecord()
	// The rest of the list is spare room behind the argument.
	r.Near = near[:2]
	text := mustWrite(t, r)
	if !impl.RecordOk(r) || !impl.SameKey(r, r) || !impl.SameBody(r, r) || impl.Before(r, r) {
		t.Fatalf("%+v is not as it should be", r)
	}
	wrong := r
	wrong.Near = near
	impl.RecordOk(wrong)
	impl.RecordText(wrong)
	impl.SameBody(r, wrong)
	if !slices.Equal(near, ahead) {
		t.Fatalf("Near was written into: %v", near)
	}
	first, _ := impl.ReadRecord(text)
	second, _ := impl.ReadRecord(text)
	for at := range first.Near {
		first.Near[at] = impl.Near{To: -99, Cost: -99}
	}
	if third, ok := impl.ReadRecord(text); !ok || !sameRecord(second, r) || !sameRecord(third, r) {
		t.Fatalf("two answers share memory: %+v, %+v", second, third)
	}
}
