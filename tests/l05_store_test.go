package tests

import (
	"fmt"
	"math"
	"slices"
	"testing"

	"loop.example/g00177/impl"
)

// eachKey has a right record of every key that there is, ahead of one another:
// more of them than a store takes. Each has a body of its own.
func eachKey(seq int) []impl.Record {
	var list []impl.Record
	for area := range impl.MaxArea + 1 {
		for owner := 1; owner <= impl.MaxNodes; owner++ {
			near := nearOf([2]int{owner%impl.MaxNodes + 1, 1 + len(list)})
			list = append(list, impl.Record{Area: area, Kind: impl.KindNode, Owner: owner, Seq: seq, Near: near})
		}
		for owner := 1; owner <= impl.MaxNodes; owner++ {
			for key := 1; key <= impl.MaxNodes; key++ {
				list = append(list, impl.Record{Area: area, Kind: impl.KindBeyond, Owner: owner, Key: key, Seq: seq, Cost: len(list)})
			}
		}
	}
	for owner := 1; owner <= impl.MaxNodes; owner++ {
		for key := 1; key <= 9; key++ {
			list = append(list, impl.Record{Area: impl.Outside, Kind: impl.KindThing, Owner: owner, Key: key, Seq: seq, Cost: 1 + len(list), Far: key%2 == 0})
		}
	}
	return list
}

// fewKeys are the keys of all kinds and areas, ahead of one another.
func fewKeys(seq int) []impl.Record {
	var list []impl.Record
	for at, r := range eachKey(seq) {
		if at%23 == 0 || at == 6 || at == 179 {
			list = append(list, r)
		}
	}
	return list
}

func sameRecords(a, b []impl.Record) bool {
	return slices.EqualFunc(a, b, sameRecord)
}

// brief has the keys and Seqs of a list, and no more of it than can be read.
func brief(list []impl.Record) string {
	out := fmt.Sprint(len(list), " records:")
	for at, r := range list {
		if at == 20 {
			return out + " .."
		}
		out += fmt.Sprintf(" %d.%d.%d.%d@%d", r.Area, r.Kind, r.Owner, r.Key, r.Seq)
	}
	return out
}

// deepCopy takes along what each record has in Near.
func deepCopy(list []impl.Record) []impl.Record {
	var own []impl.Record
	for _, r := range list {
		own = append(own, with(r, func(*impl.Record) {}))
	}
	return own
}

// turned is a record with another body that is right, too.
func turned(r impl.Record) impl.Record {
	return with(r, func(r *impl.Record) {
		switch r.Kind {
		case impl.KindNode:
			r.Near = nearOf([2]int{(r.Owner+1)%impl.MaxNodes + 1, 999})
		case impl.KindBeyond:
			r.Cost = 59999
		case impl.KindThing:
			r.Cost, r.Far = impl.Infinite, !r.Far
		}
	})
}

func withSeq(r impl.Record, seq int) impl.Record {
	return with(r, func(r *impl.Record) { r.Seq = seq })
}

// newestOf is what a store has when these have come: by each key the one with
// the greatest Seq, the first of those that have it. No limit is looked at.
func newestOf(list []impl.Record) []impl.Record {
	newest := map[[4]int]impl.Record{}
	for _, r := range list {
		key := [4]int{r.Area, r.Kind, r.Owner, r.Key}
		if known, ok := newest[key]; !ok || known.Seq < r.Seq {
			newest[key] = r
		}
	}
	var out []impl.Record
	for _, r := range eachKey(1) {
		if known, ok := newest[[4]int{r.Area, r.Kind, r.Owner, r.Key}]; ok {
			out = append(out, known)
		}
	}
	return out
}

// installed puts them in one after another, and leaves what is refused.
func installed(t *testing.T, s []impl.Record, list []impl.Record) []impl.Record {
	t.Helper()
	for _, r := range list {
		next, ok := impl.Install(s, r)
		if !ok {
			if len(next) > 0 {
				t.Fatalf("beside the false stands %s", brief(next))
			}
			continue
		}
		if !impl.StoreOk(next) {
			t.Fatalf("Install(%s, %+v) is no right store: %s", brief(s), r, brief(next))
		}
		s = next
	}
	return s
}

func mustInstall(t *testing.T, name string, s []impl.Record, r impl.Record, want []impl.Record) {
	t.Helper()
	got, ok := impl.Install(s, r)
	if !ok || !sameRecords(got, want) {
		t.Errorf("%s: Install(.., %+v) = %s, %v; want %s", name, r, brief(got), ok, brief(want))
	}
	if merged := impl.Merge(s, []impl.Record{r}); !sameRecords(merged, want) {
		t.Errorf("%s: Merge(.., %+v) = %s; want %s", name, r, brief(merged), brief(want))
	}
}

// mustNotInstall asks Merge, too, which then leaves what was there.
func mustNotInstall(t *testing.T, name string, s []impl.Record, r impl.Record) {
	t.Helper()
	if got, ok := impl.Install(s, r); ok || len(got) > 0 {
		t.Errorf("%s: Install(.., %+v) = %s, %v", name, r, brief(got), ok)
	}
	if merged := impl.Merge(s, []impl.Record{r}); !sameRecords(merged, s) {
		t.Errorf("%s: Merge(.., %+v) = %s; want %s", name, r, brief(merged), brief(s))
	}
}

// eachOrder hands out every order of a list.
func eachOrder(list []impl.Record, f func(list []impl.Record)) {
	var turn func(ahead, left []impl.Record)
	turn = func(ahead, left []impl.Record) {
		if len(left) == 0 {
			f(ahead)
		}
		for at, r := range left {
			rest := slices.Delete(slices.Clone(left), at, at+1)
			turn(append(slices.Clone(ahead), r), rest)
		}
	}
	turn(nil, list)
}

// shuffled is one order of a list for each number, made by a rule.
func shuffled(list []impl.Record, number int) []impl.Record {
	out := slices.Clone(list)
	for at := len(out) - 1; at > 0; at-- {
		number = (number*1103515245 + 12345) % (1 << 31)
		other := (number >> 8) % (at + 1)
		out[at], out[other] = out[other], out[at]
	}
	return out
}

// wrongRecords are not right by one field each, most of them with a key that a
// store may have.
func wrongRecords() map[string]impl.Record {
	node, beyond, thing := nodeRecord(), beyondRecord(), thingRecord()
	return map[string]impl.Record{
		"nothing":             {},
		"seq 0":               withSeq(node, 0),
		"seq below 0":         withSeq(beyond, -1),
		"seq above MaxSeq":    withSeq(thing, impl.MaxSeq+1),
		"seq far above":       withSeq(node, math.MaxInt),
		"near itself":         with(node, func(r *impl.Record) { r.Near = nearOf([2]int{r.Owner, 1}) }),
		"near out of order":   with(node, func(r *impl.Record) { r.Near = nearOf([2]int{3, 1}, [2]int{1, 1}) }),
		"near at no cost":     with(node, func(r *impl.Record) { r.Near = nearOf([2]int{1, 0}) }),
		"node with a cost":    with(node, func(r *impl.Record) { r.Cost = 1 }),
		"beyond that is far":  with(beyond, func(r *impl.Record) { r.Far = true }),
		"beyond with near":    with(beyond, func(r *impl.Record) { r.Near = nearOf([2]int{1, 1}) }),
		"beyond too dear":     with(beyond, func(r *impl.Record) { r.Cost = impl.Infinite + 1 }),
		"thing at no cost":    with(thing, func(r *impl.Record) { r.Cost = 0 }),
		"thing too dear":      with(thing, func(r *impl.Record) { r.Cost = impl.MaxCost + 1 }),
		"thing in area 0":     with(thing, func(r *impl.Record) { r.Area = 0 }),
		"node outside":        with(node, func(r *impl.Record) { r.Area = impl.Outside }),
		"an area that is not": with(node, func(r *impl.Record) { r.Area = impl.MaxArea + 1 }),
		"area below 0":        with(beyond, func(r *impl.Record) { r.Area = -1 }),
		"area past Outside":   with(thing, func(r *impl.Record) { r.Area = impl.Outside + 1 }),
		"no such owner":       with(beyond, func(r *impl.Record) { r.Owner = impl.MaxNodes + 1 }),
		"no such kind":        with(thing, func(r *impl.Record) { r.Kind = 4 }),
		"no such key":         with(thing, func(r *impl.Record) { r.Key = 10 }),
	}
}

// wrongStores are those that hold a record that is not right, two of one key, or
// records out of order, and one that holds too many.
func wrongStores() map[string][]impl.Record {
	few := fewKeys(5)
	last := len(few) - 1
	stores := map[string][]impl.Record{
		"one too many":                  eachKey(5)[:impl.MaxStore+1],
		"all keys":                      eachKey(5),
		"two alike":                     slices.Insert(slices.Clone(few), 3, few[3]),
		"the first two alike":           slices.Insert(slices.Clone(few), 0, few[0]),
		"the last two alike":            append(slices.Clone(few), few[last]),
		"two of one key, the elder 1st": slices.Insert(slices.Clone(few), 3, withSeq(few[3], 4)),
		"two of one key, the newer 1st": slices.Insert(slices.Clone(few), 3, withSeq(few[3], 6)),
		"two of one key, other bodies":  slices.Insert(slices.Clone(few), 3, turned(few[3])),
		"two of one key, apart":         append(slices.Clone(few), few[2]),
		"the first two turned":          {few[1], few[0], few[2], few[3]},
		"the last two turned":           {few[0], few[1], few[3], few[2]},
		"the last one first":            append([]impl.Record{few[last]}, few[:last]...),
		"the first one last":            append(slices.Clone(few[1:]), few[0]),
		"two turned":                    {few[5], few[4]},
	}
	back := slices.Clone(few)
	slices.Reverse(back)
	stores["all turned"] = back
	for name, wrong := range wrongRecords() {
		stores["alone: "+name] = []impl.Record{wrong}
		// In its place, so that nothing but the record is wrong.
		at := 0
		for at < len(few) && impl.Before(few[at], wrong) {
			at++
		}
		rest := slices.DeleteFunc(slices.Clone(few), func(r impl.Record) bool { return impl.SameKey(r, wrong) })
		stores["among others: "+name] = slices.Insert(rest, min(at, len(rest)), wrong)
	}
	return stores
}

func TestStoreOkAccepts(t *testing.T) {
	all := eachKey(1)
	if len(all) != 180 {
		t.Fatalf("%d keys", len(all))
	}
	for _, size := range []int{0, 1, 2, 3, 75, impl.MaxStore - 1, impl.MaxStore} {
		for from := 0; from+size <= len(all); from++ {
			if !impl.StoreOk(all[from : from+size]) {
				t.Fatalf("%d records from %d on are refused", size, from)
			}
		}
	}
	if !impl.StoreOk(nil) || !impl.StoreOk([]impl.Record{}) {
		t.Error("an empty store is refused")
	}
	mixed := fewKeys(1)
	for at := range mixed {
		// Nothing hangs on which Seq is the greater.
		mixed[at].Seq = []int{impl.MaxSeq, 1, 7}[at%3]
	}
	if !impl.StoreOk(mixed) {
		t.Error("Seqs that go up and down are refused")
	}
}

func TestStoreOkRefuses(t *testing.T) {
	for name, s := range wrongStores() {
		if impl.StoreOk(s) {
			t.Errorf("%s: StoreOk = true", name)
		}
	}
	all := eachKey(1)
	for from := 0; from+impl.MaxStore+1 <= len(all); from++ {
		if impl.StoreOk(all[from : from+impl.MaxStore+1]) {
			t.Fatalf("one too many from %d on are taken", from)
		}
	}
}

// A full store is looked at from end to end.
func TestStoreOkLooksAtEveryPlace(t *testing.T) {
	full := eachKey(1)[20 : 20+impl.MaxStore]
	for at := range full {
		wrong := slices.Clone(full)
		wrong[at] = withSeq(wrong[at], 0)
		if impl.StoreOk(wrong) {
			t.Fatalf("a wrong record at %d is taken", at)
		}
		if at == 0 {
			continue
		}
		twice := slices.Clone(full)
		twice[at] = withSeq(twice[at-1], 2)
		if impl.StoreOk(twice) {
			t.Fatalf("one key twice at %d is taken", at)
		}
		back := slices.Clone(full)
		back[at-1], back[at] = back[at], back[at-1]
		if impl.StoreOk(back) {
			t.Fatalf("two turned at %d are taken", at)
		}
	}
}

func TestFindInAFullStore(t *testing.T) {
	all := eachKey(7)
	s := all[15 : 15+impl.MaxStore]
	for at, r := range all {
		has := at >= 15 && at < 15+impl.MaxStore
		// The key alone is asked for: neither the Seq nor the body is.
		for _, asked := range []impl.Record{r, withSeq(r, 6), withSeq(r, 8), turned(r),
			{Area: r.Area, Kind: r.Kind, Owner: r.Owner, Key: r.Key}} {
			got, ok := impl.Find(s, asked)
			if ok != has || has && !sameRecord(got, r) || !has && !sameRecord(got, impl.Record{}) {
				t.Fatalf("Find(.., %+v) = %+v, %v", asked, got, ok)
			}
		}
	}
}

func TestFindAsksForAllOfTheKey(t *testing.T) {
	r := beyondRecord()
	for name, other := range map[string]impl.Record{
		"area":  with(r, func(r *impl.Record) { r.Area = 1 }),
		"kind":  with(r, func(r *impl.Record) { r.Kind = 3 }),
		"owner": with(r, func(r *impl.Record) { r.Owner = 4 }),
		"key":   with(r, func(r *impl.Record) { r.Key = 6 }),
	} {
		if got, ok := impl.Find([]impl.Record{r}, other); ok || !sameRecord(got, impl.Record{}) {
			t.Errorf("%s: Find = %+v, %v", name, got, ok)
		}
		if got, ok := impl.Find([]impl.Record{r}, r); !ok || !sameRecord(got, r) {
			t.Errorf("%s: Find = %+v, %v", name, got, ok)
		}
	}
}

func TestFindInNothing(t *testing.T) {
	for _, r := range append(fewKeys(1), impl.Record{}) {
		for _, s := range [][]impl.Record{nil, {}} {
			if got, ok := impl.Find(s, r); ok || !sameRecord(got, impl.Record{}) {
				t.Fatalf("Find(%s, %+v) = %+v, %v", brief(s), r, got, ok)
			}
		}
	}
}

// Nothing is said of lists that are not right, nor of records that are not: the
// one with the same key is found in them, and of two the first one.
func TestFindWhereSomethingIsNotRight(t *testing.T) {
	asked := eachKey(5)
	for _, wrong := range wrongRecords() {
		asked = append(asked, wrong)
	}
	stores := wrongStores()
	stores["a right one"] = fewKeys(5)
	for name, s := range stores {
		for _, r := range append(slices.Clone(asked), s...) {
			at := slices.IndexFunc(s, func(one impl.Record) bool { return impl.SameKey(one, r) })
			got, ok := impl.Find(s, r)
			if ok != (at >= 0) || ok && !sameRecord(got, s[at]) || !ok && !sameRecord(got, impl.Record{}) {
				t.Fatalf("%s: Find(.., %+v) = %+v, %v", name, r, got, ok)
			}
		}
	}
}

// Ahead of all, between any two, and behind all.
func TestInstallPutsEachInItsPlace(t *testing.T) {
	few := fewKeys(3)
	for at, r := range few {
		mustInstall(t, "one of few", slices.Delete(slices.Clone(few), at, at+1), r, few)
		mustInstall(t, "the only one", nil, r, []impl.Record{r})
		mustInstall(t, "the only one, not nil", []impl.Record{}, r, []impl.Record{r})
	}
	full := eachKey(3)[:impl.MaxStore]
	for at, r := range full {
		mustInstall(t, "the last that fits", slices.Delete(slices.Clone(full), at, at+1), r, full)
	}
}

func TestInstallGoesBySeq(t *testing.T) {
	few := fewKeys(3)
	full := eachKey(3)[30 : 30+impl.MaxStore]
	for name, s := range map[string][]impl.Record{"few": few, "alone": few[4:5], "a full store": full, "one less": full[1:]} {
		for at, r := range s {
			for _, seq := range []int{1, 2, 3} {
				mustNotInstall(t, name, s, withSeq(r, seq))
				mustNotInstall(t, name, s, withSeq(turned(r), seq))
			}
			for _, seq := range []int{4, 5, impl.MaxSeq} {
				for _, newer := range []impl.Record{withSeq(r, seq), withSeq(turned(r), seq)} {
					want := slices.Clone(s)
					want[at] = newer
					mustInstall(t, name, s, newer, want)
				}
			}
			mustNotInstall(t, name, s, withSeq(r, impl.MaxSeq+1))
		}
	}
}

func TestInstallAtTheEdgesOfSeq(t *testing.T) {
	for _, r := range []impl.Record{nodeRecord(), beyondRecord(), thingRecord()} {
		least, most := []impl.Record{withSeq(r, 1)}, []impl.Record{withSeq(r, impl.MaxSeq)}
		mustInstall(t, "2 behind 1", least, withSeq(r, 2), []impl.Record{withSeq(r, 2)})
		mustNotInstall(t, "1 behind 1", least, withSeq(turned(r), 1))
		mustNotInstall(t, "0 behind 1", least, withSeq(r, 0))
		mustNotInstall(t, "MaxSeq behind MaxSeq", most, withSeq(turned(r), impl.MaxSeq))
		mustNotInstall(t, "one less behind MaxSeq", most, withSeq(r, impl.MaxSeq-1))
		mustNotInstall(t, "one more behind MaxSeq", most, withSeq(r, impl.MaxSeq+1))
		mustInstall(t, "MaxSeq behind one less", []impl.Record{withSeq(r, impl.MaxSeq-1)}, withSeq(r, impl.MaxSeq), most)
		mustInstall(t, "MaxSeq behind nothing", nil, withSeq(r, impl.MaxSeq), most)
	}
}

func TestInstallInAFullStore(t *testing.T) {
	all := eachKey(3)
	for _, from := range []int{0, 1, 15, 29, 30} {
		full := all[from : from+impl.MaxStore]
		for at, r := range all {
			if at >= from && at < from+impl.MaxStore {
				continue
			}
			for _, seq := range []int{1, 3, 4, impl.MaxSeq} {
				mustNotInstall(t, "full", full, withSeq(r, seq))
			}
			want := append(slices.Clone(full[1:]), r)
			if at < from {
				want = append([]impl.Record{r}, full[1:]...)
			}
			mustInstall(t, "one less than full", full[1:], r, want)
		}
	}
}

func TestInstallRefusesWhatIsNotRight(t *testing.T) {
	few := fewKeys(5)
	for name, wrong := range wrongRecords() {
		mustNotInstall(t, name, nil, wrong)
		mustNotInstall(t, name, few, wrong)
		mustNotInstall(t, name, eachKey(5)[:impl.MaxStore-1], wrong)
		for store, s := range wrongStores() {
			mustNotInstall(t, store+", "+name, s, wrong)
		}
	}
	for name, s := range wrongStores() {
		for _, r := range eachKey(5) {
			mustNotInstall(t, name, s, r)
			mustNotInstall(t, name, s, withSeq(r, impl.MaxSeq))
		}
	}
}

// Promise 5: a store has the newest of each key, in whatever order they come.
func TestStoresHaveTheNewestInWhateverOrder(t *testing.T) {
	node, thing := nodeRecord(), thingRecord()
	list := []impl.Record{withSeq(node, 1), withSeq(turned(node), 2), withSeq(node, 3),
		withSeq(thing, 100000), withSeq(turned(thing), 99999), beyondRecord()}
	want := []impl.Record{beyondRecord(), withSeq(node, 3), withSeq(thing, 100000)}
	eachOrder(list, func(list []impl.Record) {
		if got := installed(t, nil, list); !sameRecords(got, want) {
			t.Fatalf("%s one after another make %s", brief(list), brief(got))
		}
		if got := impl.Merge(nil, list); !sameRecords(got, want) {
			t.Fatalf("Merge(nil, %s) = %s", brief(list), brief(got))
		}
	})
}

func TestStoresOfManyRecordsInOtherOrders(t *testing.T) {
	var list []impl.Record
	for at, r := range eachKey(1)[10 : 10+impl.MaxStore] {
		for seq := 1; seq <= 1+at%4; seq++ {
			one := withSeq(r, seq*seq*seq*1000)
			if seq%2 == 0 {
				one = turned(one)
			}
			list = append(list, one)
		}
	}
	want := newestOf(list)
	if len(want) != impl.MaxStore {
		t.Fatalf("%d keys", len(want))
	}
	back := slices.Clone(list)
	slices.Reverse(back)
	orders := [][]impl.Record{list, back, append(slices.Clone(list), back...)}
	for number := range 20 {
		orders = append(orders, shuffled(list, number))
	}
	for at, order := range orders {
		if got := installed(t, nil, order); !sameRecords(got, want) {
			t.Fatalf("order %d makes another store", at)
		}
		if got := impl.Merge(nil, order); !sameRecords(got, want) {
			t.Fatalf("order %d is merged into another store", at)
		}
	}
}

// Of two bodies with one Seq the one that was there first stays.
func TestOfSeqsThatAreTheSameTheFirstStays(t *testing.T) {
	for _, r := range fewKeys(4) {
		other := turned(r)
		if impl.SameBody(r, other) {
			t.Fatalf("%+v has the same body", other)
		}
		for _, pair := range [][]impl.Record{{r, other}, {other, r}} {
			if got := installed(t, nil, pair); !sameRecords(got, pair[:1]) {
				t.Errorf("%s one after another make %s", brief(pair), brief(got))
			}
			if got := impl.Merge(pair[:1], pair[1:]); !sameRecords(got, pair[:1]) {
				t.Errorf("%s merged are %s", brief(pair), brief(got))
			}
			if got := impl.Newer(pair[:1], pair[1:]); len(got) > 0 {
				t.Errorf("Newer of %s = %s", brief(pair), brief(got))
			}
		}
	}
}

// someStores have some keys in common, with Seqs that are the same, less and
// more; by one key and Seq there is one body (an even Seq has the turned one).
func someStores() [][]impl.Record {
	all := eachKey(1)
	stores := [][]impl.Record{nil, {}, all[:1], all[179:], fewKeys(1), fewKeys(3),
		all[:impl.MaxStore-1], all[:impl.MaxStore], all[30:], eachKey(3)[20:170]}
	for number := 1; number < 7; number++ {
		var s []impl.Record
		for at, r := range all[:impl.MaxStore] {
			if (at*number+at/7)%5 < 2 {
				seq := 1 + (at*3+number*number)%4
				r = withSeq(r, seq)
				if seq%2 == 0 {
					r = turned(r)
				}
				s = append(s, r)
			}
		}
		stores = append(stores, s)
	}
	return stores
}

// olderThan are those of s of which other has none, or an older one.
func olderThan(s, other []impl.Record) []impl.Record {
	var out []impl.Record
	for _, r := range s {
		at := slices.IndexFunc(other, func(one impl.Record) bool { return impl.SameKey(one, r) })
		if at < 0 || other[at].Seq < r.Seq {
			out = append(out, r)
		}
	}
	return out
}

func TestNewerAreThoseThatTheOtherHasNot(t *testing.T) {
	stores := someStores()
	for i, s := range stores {
		for j, other := range stores {
			want := olderThan(s, other)
			if got := impl.Newer(s, other); !sameRecords(got, want) {
				t.Fatalf("Newer of %d and %d = %s; want %s", i, j, brief(got), brief(want))
			}
		}
		if got := impl.Newer(s, s); len(got) > 0 {
			t.Fatalf("%d has what is newer than itself: %s", i, brief(got))
		}
		if got := impl.Newer(s, nil); !sameRecords(got, s) {
			t.Fatalf("Newer of %d and nothing = %s", i, brief(got))
		}
		if got := impl.Newer(nil, s); len(got) > 0 {
			t.Fatalf("Newer of nothing and %d = %s", i, brief(got))
		}
	}
}

func TestNewerAtTheEdgesOfSeq(t *testing.T) {
	for _, r := range fewKeys(5) {
		for seq, want := range map[int]bool{1: false, 4: false, 5: false, 6: true, impl.MaxSeq: true} {
			for _, one := range []impl.Record{withSeq(r, seq), withSeq(turned(r), seq)} {
				got := impl.Newer([]impl.Record{one}, fewKeys(5))
				if want && !sameRecords(got, []impl.Record{one}) || !want && len(got) > 0 {
					t.Errorf("Newer of %+v = %s", one, brief(got))
				}
			}
		}
	}
}

// Each store has what is right and what is not as it stands: no sentence leaves
// anything out of Newer, or brings it into another order.
func TestNewerWhereSomethingIsNotRight(t *testing.T) {
	stores := wrongStores()
	stores["a right one"] = fewKeys(5)
	stores["an elder one"] = fewKeys(3)
	stores["none"] = nil
	for name, s := range stores {
		for other, u := range stores {
			if got := impl.Newer(s, u); !sameRecords(got, olderThan(s, u)) {
				t.Fatalf("Newer of %q and %q = %s; want %s", name, other, brief(got), brief(olderThan(s, u)))
			}
		}
	}
}

func TestScopeOfEachArea(t *testing.T) {
	all := eachKey(2)
	for _, s := range [][]impl.Record{all[:impl.MaxStore], all[30:], fewKeys(1), all[:126], all[126:], nil, {}} {
		for _, area := range []int{math.MinInt, -1, 0, 1, 2, 3, 8, 9, 10, math.MaxInt} {
			var want []impl.Record
			for _, r := range s {
				if r.Area == area || r.Area == 9 {
					want = append(want, r)
				}
			}
			got := impl.Scope(s, area)
			if !sameRecords(got, want) || !impl.StoreOk(got) {
				t.Errorf("Scope of %d = %s; want %s", area, brief(got), brief(want))
			}
		}
	}
	for area, want := range map[int]int{-1: 54, 0: 96, 1: 96, 2: 96, 3: 54, impl.Outside: 54} {
		if got := len(impl.Scope(all, area)); got != want {
			t.Errorf("Scope of %d has %d; want %d", area, got, want)
		}
	}
}

// A list is taken as it stands: also an area that there is not, when a record
// has it.
func TestScopeWhereSomethingIsNotRight(t *testing.T) {
	for name, s := range wrongStores() {
		for _, area := range []int{-1, 0, 1, 2, 3, 9, 10} {
			want := slices.DeleteFunc(slices.Clone(s), func(r impl.Record) bool { return r.Area != area && r.Area != 9 })
			if got := impl.Scope(s, area); !sameRecords(got, want) {
				t.Fatalf("%s: Scope of %d = %s; want %s", name, area, brief(got), brief(want))
			}
		}
	}
}

// Promise 5: what is merged is newer nowhere.
func TestWhatIsMergedIsNewerNowhere(t *testing.T) {
	stores := someStores()
	for i, s := range stores {
		for j, other := range stores {
			merged := impl.Merge(s, other)
			if !impl.StoreOk(merged) {
				t.Fatalf("%d and %d merged are no right store: %s", i, j, brief(merged))
			}
			if !sameRecords(merged, installed(t, s, other)) {
				t.Fatalf("%d and %d merged are not what Install makes of them", i, j)
			}
			want := newestOf(append(slices.Clone(s), other...))
			if len(want) > impl.MaxStore {
				continue
			}
			if !sameRecords(merged, want) {
				t.Fatalf("%d and %d merged are %s; want %s", i, j, brief(merged), brief(want))
			}
			if got := append(impl.Newer(s, merged), impl.Newer(other, merged)...); len(got) > 0 {
				t.Fatalf("%d or %d has what is newer than both merged: %s", i, j, brief(got))
			}
			mustBeOfEither(t, merged, s, other)
		}
	}
}

// mustBeOfEither holds that all of what was merged comes from one of the two,
// and that nothing is older than either had.
func mustBeOfEither(t *testing.T, merged, s, other []impl.Record) {
	t.Helper()
	for _, r := range merged {
		known := 0
		for _, one := range append(slices.Clone(s), other...) {
			if impl.SameKey(one, r) && one.Seq > r.Seq {
				t.Fatalf("%+v is older than %+v", r, one)
			}
			if sameRecord(one, r) {
				known++
			}
		}
		if known == 0 {
			t.Fatalf("%+v is of neither", r)
		}
	}
}

func TestMergeTheOtherWayRound(t *testing.T) {
	for i, s := range someStores() {
		for j, other := range someStores() {
			merged, back := impl.Merge(s, other), impl.Merge(other, s)
			if len(newestOf(append(slices.Clone(s), other...))) <= impl.MaxStore && !sameRecords(merged, back) {
				t.Fatalf("%d and %d merged: %s, the other way round %s", i, j, brief(merged), brief(back))
			}
			if got := impl.Merge(merged, other); !sameRecords(got, merged) {
				t.Fatalf("%d and %d merged again are %s; want %s", i, j, brief(got), brief(merged))
			}
		}
		if got := impl.Merge(s, s); !sameRecords(got, s) {
			t.Fatalf("%d merged with itself is %s", i, brief(got))
		}
	}
}

// What does not fit any more is left, and what comes behind it, and has its key
// there, is taken still.
func TestMergeIntoAStoreThatGetsFull(t *testing.T) {
	all := eachKey(3)
	s := all[:impl.MaxStore-2]
	list := []impl.Record{all[160], withSeq(all[0], 4), all[170], all[155], withSeq(all[160], 9), all[179], withSeq(turned(all[70]), 4), withSeq(all[1], 2)}
	want := append(slices.Clone(s), withSeq(all[160], 9), all[170])
	want[0], want[70] = withSeq(all[0], 4), withSeq(turned(all[70]), 4)
	if got := impl.Merge(s, list); !sameRecords(got, want) {
		t.Errorf("Merge = %s; want %s", brief(got), brief(want))
	}
	if got := impl.Merge(nil, all); !sameRecords(got, all[:impl.MaxStore]) {
		t.Errorf("of all keys the first %d do not stay: %s", impl.MaxStore, brief(got))
	}
	full := all[30:]
	if got := impl.Merge(full, eachKey(4)); !sameRecords(got, eachKey(4)[30:]) {
		t.Errorf("a full store does not take newer ones of its keys alone: %s", brief(got))
	}
}

// The second list need be no right store: each of it is taken for itself.
func TestMergeOfAListThatIsNotRight(t *testing.T) {
	few := fewKeys(5)
	for name, list := range wrongStores() {
		for _, s := range [][]impl.Record{nil, few, fewKeys(4), fewKeys(6), eachKey(1)[:impl.MaxStore-1]} {
			got, want := impl.Merge(s, list), installed(t, s, list)
			if !sameRecords(got, want) || !impl.StoreOk(got) {
				t.Fatalf("%s: Merge = %s; want %s", name, brief(got), brief(want))
			}
		}
	}
	var list []impl.Record
	for _, wrong := range wrongRecords() {
		list = append(list, wrong, wrong)
	}
	if got := impl.Merge(few, list); !sameRecords(got, few) {
		t.Errorf("of wrong records alone there come %s", brief(got))
	}
	for _, r := range few {
		list = append(list, withSeq(r, 6), withSeq(r, 0))
	}
	if got := impl.Merge(few, list); !sameRecords(got, fewKeys(6)) {
		t.Errorf("right records among wrong ones are %s", brief(got))
	}
}

// Install into what is not right is false at each, so it stays as it is.
func TestMergeIntoWhatIsNotRight(t *testing.T) {
	for name, s := range wrongStores() {
		for _, list := range [][]impl.Record{nil, eachKey(9), s, {impl.Record{}}} {
			if got := impl.Merge(s, list); !sameRecords(got, s) {
				t.Fatalf("%s: Merge = %s; want %s", name, brief(got), brief(s))
			}
		}
	}
}

// roomy is a list with spare room behind it, and behind each Near in it, and all
// that lies there.
func roomy(list []impl.Record) (short, whole []impl.Record) {
	for _, r := range list {
		r.Near = append(slices.Clone(r.Near), impl.Near{To: 77, Cost: 78}, impl.Near{To: 79, Cost: 80})
		whole = append(whole, r)
	}
	whole = append(whole, impl.Record{Owner: 81, Near: nearOf([2]int{82, 83})}, impl.Record{Owner: 84})
	short = slices.Clone(whole)
	for at, r := range list {
		short[at].Near = short[at].Near[:len(r.Near)]
	}
	return short[:len(list)], whole
}

// mustBeAsItWas looks into the spare room, too.
func mustBeAsItWas(t *testing.T, name string, short, whole, kept []impl.Record) {
	t.Helper()
	now := deepCopy(short[:len(whole)])
	for at := range short {
		now[at].Near = short[at].Near[:len(kept[at].Near)]
	}
	if !sameRecords(now, kept) || !sameRecords(whole, kept) {
		t.Fatalf("%s: an argument was written into: %s; want %s", name, brief(now), brief(kept))
	}
}

// overwrite writes over all that an answer has, its spare room too.
func overwrite(list []impl.Record) {
	for _, r := range list {
		near := r.Near[:cap(r.Near)]
		for at := range near {
			near[at] = impl.Near{To: -99, Cost: -99}
		}
	}
	list = list[:cap(list)]
	for at := range list {
		list[at] = impl.Record{Area: -99}
	}
}

// storeCalls are all that answer records, each with its answer as a list.
func storeCalls() map[string]func(s, other []impl.Record, r impl.Record) []impl.Record {
	return map[string]func(s, other []impl.Record, r impl.Record) []impl.Record{
		"Find": func(s, other []impl.Record, r impl.Record) []impl.Record {
			got, _ := impl.Find(s, r)
			return []impl.Record{got}
		},
		"Install": func(s, other []impl.Record, r impl.Record) []impl.Record {
			got, _ := impl.Install(s, r)
			return got
		},
		"Newer": func(s, other []impl.Record, r impl.Record) []impl.Record { return impl.Newer(s, other) },
		"Scope": func(s, other []impl.Record, r impl.Record) []impl.Record { return impl.Scope(s, r.Area) },
		"Merge": func(s, other []impl.Record, r impl.Record) []impl.Record { return impl.Merge(s, other) },
		"StoreOk": func(s, other []impl.Record, r impl.Record) []impl.Record {
			impl.StoreOk(s)
			return nil
		},
	}
}

func TestStoresLeaveTheirArgumentsAlone(t *testing.T) {
	all := eachKey(3)
	lists := [][]impl.Record{nil, fewKeys(3), fewKeys(4), eachKey(4)[:impl.MaxStore], all[:impl.MaxStore-1],
		all[2:9], {all[0], all[0]}, {all[3], all[2], all[1]}, {withSeq(all[0], 0)}}
	records := []impl.Record{all[0], withSeq(all[1], 5), withSeq(all[2], 4), all[179], withSeq(all[3], 0)}
	for name, call := range storeCalls() {
		for _, list := range lists {
			for _, otherList := range lists {
				for _, r := range records {
					s, sRoom := roomy(list)
					other, otherRoom := roomy(otherList)
					one, oneRoom := roomy([]impl.Record{r})
					sKept, otherKept, oneKept := deepCopy(sRoom), deepCopy(otherRoom), deepCopy(oneRoom)
					first, second := call(s, other, one[0]), call(s, other, one[0])
					kept := deepCopy(second)
					mustBeListsApart(t, name, second)
					overwrite(first)
					if !sameRecords(second, kept) {
						t.Fatalf("%s: two answers share memory, or differ: %s; want %s", name, brief(second), brief(kept))
					}
					overwrite(second)
					mustBeAsItWas(t, name, s, sRoom, sKept)
					mustBeAsItWas(t, name, other, otherRoom, otherKept)
					mustBeAsItWas(t, name, one, oneRoom, oneKept)
				}
			}
		}
	}
}

// mustBeListsApart holds that no two Near of one answer share memory.
func mustBeListsApart(t *testing.T, name string, list []impl.Record) {
	t.Helper()
	seen := map[*impl.Near]bool{}
	for _, r := range list {
		near := r.Near[:cap(r.Near)]
		for at := range near {
			if seen[&near[at]] {
				t.Fatalf("%s: two lists of one answer share memory: %s", name, brief(list))
			}
			seen[&near[at]] = true
		}
	}
}

// Records that are handed in with one Near among them come back each with one of
// its own.
func TestStoresPartWhatRecordsShare(t *testing.T) {
	near := nearOf([2]int{5, 1}, [2]int{6, 2})
	var s []impl.Record
	for owner := 1; owner <= 4; owner++ {
		s = append(s, impl.Record{Area: 1, Kind: impl.KindNode, Owner: owner, Seq: 3, Near: near})
	}
	newer := withSeq(s[2], 4)
	newer.Near = near
	for name, call := range storeCalls() {
		got := call(s, []impl.Record{newer}, newer)
		mustBeListsApart(t, name, got)
		overwrite(got)
		if !slices.Equal(near, nearOf([2]int{5, 1}, [2]int{6, 2})) {
			t.Fatalf("%s: the Near that was handed in is now %v", name, near)
		}
	}
}
