package tests

import (
	"math"
	"slices"
	"testing"

	"loop.example/g00177/impl"
)

// Nets of many kinds, all of them right.
var rightNets = map[string]impl.Net{
	"one node":            {N: 1},
	"nodes without links": {N: impl.MaxNodes},
	"two nodes":           {N: 2, Links: []impl.Link{{A: 1, B: 2, Cost: 7, Area: 0}}},
	"two nodes in two areas": {N: 2, Links: []impl.Link{
		{A: 1, B: 2, Cost: 7, Area: 0}, {A: 1, B: 2, Cost: 3, Area: 2}}},
	"two nodes in all areas": {N: 2, Links: []impl.Link{
		{A: 1, B: 2, Cost: 7, Area: 0}, {A: 1, B: 2, Cost: 7, Area: 1}, {A: 1, B: 2, Cost: 1, Area: 2}}},
	"a chain through all areas": {N: 4, Links: []impl.Link{
		{A: 1, B: 2, Cost: 1, Area: 1}, {A: 2, B: 3, Cost: 20, Area: 0}, {A: 3, B: 4, Cost: impl.MaxCost, Area: 2}}},
	"a ring": {N: 5, Links: []impl.Link{
		{A: 1, B: 2, Cost: 5, Area: 1}, {A: 1, B: 5, Cost: 4, Area: 1}, {A: 2, B: 3, Cost: 3, Area: 1},
		{A: 3, B: 4, Cost: 2, Area: 1}, {A: 4, B: 5, Cost: 1, Area: 1}}},
	"a star about the last": {N: 6, Links: []impl.Link{
		{A: 1, B: 6, Cost: 10, Area: 0}, {A: 2, B: 6, Cost: 20, Area: 1}, {A: 3, B: 6, Cost: 30, Area: 2},
		{A: 4, B: 6, Cost: 40, Area: 0}, {A: 5, B: 6, Cost: 50, Area: 1}}},
	"as many links as there may be": {N: 6, Links: mostLinks(), Things: []impl.Thing{{Owner: 6, Key: 9, Cost: 1, Far: true}}},
}

// linksOf has rows of A, B, Cost and Area.
func linksOf(rows [][4]int) []impl.Link {
	var links []impl.Link
	for _, row := range rows {
		links = append(links, impl.Link{A: row[0], B: row[1], Cost: row[2], Area: row[3]})
	}
	return links
}

// thingsOf has rows of Owner, Key, Cost, and 1 for what is Far.
func thingsOf(rows [][4]int) []impl.Thing {
	var things []impl.Thing
	for _, row := range rows {
		things = append(things, impl.Thing{Owner: row[0], Key: row[1], Cost: row[2], Far: row[3] == 1})
	}
	return things
}

// mostLinks are MaxLinks links of six nodes, some nodes with links in two areas.
func mostLinks() []impl.Link {
	return []impl.Link{
		{A: 1, B: 2, Cost: 1, Area: 0}, {A: 1, B: 2, Cost: 2, Area: 1}, {A: 1, B: 3, Cost: 3, Area: 0},
		{A: 1, B: 4, Cost: 4, Area: 2}, {A: 2, B: 3, Cost: 5, Area: 0}, {A: 2, B: 5, Cost: 6, Area: 1},
		{A: 2, B: 6, Cost: 7, Area: 1}, {A: 3, B: 4, Cost: 8, Area: 2}, {A: 3, B: 6, Cost: 9, Area: 0},
		{A: 4, B: 5, Cost: 10, Area: 2}, {A: 5, B: 6, Cost: 11, Area: 1}, {A: 5, B: 6, Cost: 12, Area: 2},
	}
}

// eachSmallNet hands out every net of three nodes, in three areas, without
// things; each link has a cost of its own.
func eachSmallNet(f func(x impl.Net)) {
	var all []impl.Link
	for _, ends := range [][2]int{{1, 2}, {1, 3}, {2, 3}} {
		for area := range impl.MaxArea + 1 {
			all = append(all, impl.Link{A: ends[0], B: ends[1], Cost: 10 + len(all), Area: area})
		}
	}
	for choice := range 1 << len(all) {
		x := impl.Net{N: 3}
		for at, l := range all {
			if choice>>at&1 == 1 {
				x.Links = append(x.Links, l)
			}
		}
		f(x)
	}
}

// costs is what a net's links say, place by node, node and area; 0 where there is no link.
func costs(x impl.Net) (table [impl.MaxNodes + 1][impl.MaxNodes + 1][impl.MaxArea + 1]int) {
	for _, l := range x.Links {
		table[l.A][l.B][l.Area] = l.Cost
		table[l.B][l.A][l.Area] = l.Cost
	}
	return table
}

// mustShow holds all that is asked of a right net against its links.
func mustShow(t *testing.T, x impl.Net) {
	t.Helper()
	table := costs(x)
	for node := range impl.MaxNodes + 1 {
		var areas []int
		for area := range impl.MaxArea + 1 {
			var next []int
			for to := range impl.MaxNodes + 1 {
				want := table[node][to][area]
				if want > 0 {
					next = append(next, to)
				}
				if got := impl.CostTo(x, node, to, area); got != want {
					t.Fatalf("CostTo(%v, %d, %d, %d) = %d; want %d", x, node, to, area, got, want)
				}
			}
			if got := impl.NextTo(x, node, area); !slices.Equal(got, next) {
				t.Fatalf("NextTo(%v, %d, %d) = %v; want %v", x, node, area, got, next)
			}
			if len(next) > 0 {
				areas = append(areas, area)
			}
		}
		if got := impl.AreasOf(x, node); !slices.Equal(got, areas) {
			t.Fatalf("AreasOf(%v, %d) = %v; want %v", x, node, got, areas)
		}
		border := slices.Contains(areas, 0) && len(areas) > 1
		if got := impl.Border(x, node); got != border {
			t.Fatalf("Border(%v, %d) = %v; want %v", x, node, got, border)
		}
	}
}

func TestLinkOkTakesJustTheLimits(t *testing.T) {
	small := []int{math.MinInt, -1, 0, 1, 2, 5, 6, 7, math.MaxInt}
	someCosts := []int{math.MinInt, -1, 0, 1, 2, impl.MaxCost - 1, impl.MaxCost, impl.MaxCost + 1, math.MaxInt}
	someAreas := []int{math.MinInt, -1, 0, 1, impl.MaxArea, impl.MaxArea + 1, math.MaxInt}
	// What the document lets stand, written out.
	nodesOk := map[[3]int]bool{
		{2, 1, 2}: true, {5, 1, 2}: true, {6, 1, 2}: true,
		{5, 1, 5}: true, {5, 2, 5}: true,
		{6, 1, 5}: true, {6, 2, 5}: true, {6, 1, 6}: true, {6, 2, 6}: true, {6, 5, 6}: true,
	}
	costOk := map[int]bool{1: true, 2: true, 999: true, 1000: true}
	areaOk := map[int]bool{0: true, 1: true, 2: true}
	for _, n := range small {
		for _, a := range small {
			for _, b := range small {
				for _, cost := range someCosts {
					for _, area := range someAreas {
						want := nodesOk[[3]int{n, a, b}] && costOk[cost] && areaOk[area]
						l := impl.Link{A: a, B: b, Cost: cost, Area: area}
						if impl.LinkOk(n, l) != want {
							t.Fatalf("LinkOk(%d, %+v) = %v", n, l, !want)
						}
					}
				}
			}
		}
	}
}

func TestNetOkAccepts(t *testing.T) {
	for name, x := range rightNets {
		if !impl.NetOk(x) {
			t.Errorf("%s: NetOk(%v) = false", name, x)
		}
	}
	eachSmallNet(func(x impl.Net) {
		if !impl.NetOk(x) {
			t.Fatalf("NetOk(%v) = false", x)
		}
	})
	for name, x := range map[string]impl.Net{
		"empty lists, not nil":  {N: 1, Links: []impl.Link{}, Things: []impl.Thing{}},
		"least and most cost":   {N: 3, Links: linksOf([][4]int{{1, 2, 1, 0}, {1, 3, impl.MaxCost, impl.MaxArea}})},
		"costs that go down":    {N: 2, Links: linksOf([][4]int{{1, 2, 9, 0}, {1, 2, 5, 1}, {1, 2, 1, 2}})},
		"areas that go down":    {N: 3, Links: linksOf([][4]int{{1, 2, 1, 2}, {1, 3, 1, 1}, {2, 3, 1, 0}})},
		"B that goes down":      {N: 3, Links: linksOf([][4]int{{1, 3, 1, 0}, {2, 3, 1, 0}})},
		"B less behind A":       {N: 4, Links: linksOf([][4]int{{1, 4, 1, 0}, {2, 3, 1, 0}})},
		"a thing of one node":   {N: 1, Things: thingsOf([][4]int{{1, 1, 1, 0}})},
		"most of everything":    {N: 6, Links: mostLinks(), Things: thingsOf([][4]int{{6, 9, impl.MaxCost, 1}})},
		"four things":           {N: 2, Things: thingsOf([][4]int{{2, 1, 1, 1}, {1, 2, 1, 0}, {2, 2, 1, 0}, {1, 9, 1000, 1}})},
		"four owners of a key":  {N: 4, Things: thingsOf([][4]int{{1, 5, 9, 1}, {2, 5, 8, 0}, {3, 5, 7, 1}, {4, 5, 6, 0}})},
		"owners that go down":   {N: 3, Things: thingsOf([][4]int{{3, 1, 1, 0}, {2, 2, 1, 0}, {1, 3, 1, 0}})},
		"things, and no link":   {N: 6, Things: thingsOf([][4]int{{6, 1, 1, 0}})},
		"a thing with no links": {N: 3, Links: linksOf([][4]int{{1, 2, 1, 0}}), Things: thingsOf([][4]int{{3, 4, 5, 1}})},
	} {
		if !impl.NetOk(x) {
			t.Errorf("%s: NetOk(%v) = false", name, x)
		}
	}
}

func TestNetOkRefusesLinks(t *testing.T) {
	for name, x := range map[string]impl.Net{
		"nothing":                        {},
		"N below 0":                      {N: -1},
		"N one too many":                 {N: impl.MaxNodes + 1},
		"N one too many, with a link":    {N: impl.MaxNodes + 1, Links: linksOf([][4]int{{1, 2, 1, 0}})},
		"N far too many":                 {N: math.MaxInt},
		"N far too few":                  {N: math.MinInt},
		"one link too many":              {N: 6, Links: slices.Insert(mostLinks(), 10, impl.Link{A: 4, B: 6, Cost: 10, Area: 2})},
		"a link of one node":             {N: 1, Links: linksOf([][4]int{{1, 2, 1, 0}})},
		"a link with itself":             {N: 2, Links: linksOf([][4]int{{1, 1, 1, 0}})},
		"A above B":                      {N: 2, Links: linksOf([][4]int{{2, 1, 1, 0}})},
		"A 0":                            {N: 2, Links: linksOf([][4]int{{0, 1, 1, 0}})},
		"B above N":                      {N: 3, Links: linksOf([][4]int{{1, 2, 1, 0}, {1, 4, 1, 0}})},
		"cost 0":                         {N: 2, Links: linksOf([][4]int{{1, 2, 0, 0}})},
		"cost below 0":                   {N: 2, Links: linksOf([][4]int{{1, 2, -1, 0}})},
		"cost one too much":              {N: 2, Links: linksOf([][4]int{{1, 2, impl.MaxCost + 1, 0}})},
		"area below 0":                   {N: 2, Links: linksOf([][4]int{{1, 2, 1, -1}})},
		"area one too high":              {N: 2, Links: linksOf([][4]int{{1, 2, 1, impl.MaxArea + 1}})},
		"the last link wrong":            {N: 3, Links: linksOf([][4]int{{1, 2, 1, 0}, {1, 3, 1, 0}, {2, 3, 0, 0}})},
		"a link twice":                   {N: 2, Links: linksOf([][4]int{{1, 2, 1, 0}, {1, 2, 1, 0}})},
		"a link twice, at two costs":     {N: 2, Links: linksOf([][4]int{{1, 2, 1, 1}, {1, 2, 2, 1}})},
		"a link twice, the dearer ahead": {N: 2, Links: linksOf([][4]int{{1, 2, 2, 1}, {1, 2, 1, 1}})},
		"a link twice, and one between":  {N: 3, Links: linksOf([][4]int{{1, 2, 1, 0}, {1, 3, 1, 0}, {1, 2, 1, 0}})},
		"a link twice, and one behind":   {N: 3, Links: linksOf([][4]int{{1, 2, 1, 0}, {1, 2, 2, 0}, {1, 3, 1, 0}})},
		"areas in another order":         {N: 2, Links: linksOf([][4]int{{1, 2, 1, 1}, {1, 2, 2, 0}})},
		"B in another order":             {N: 3, Links: linksOf([][4]int{{1, 3, 1, 0}, {1, 2, 2, 0}})},
		"B in another order, areas not":  {N: 3, Links: linksOf([][4]int{{1, 3, 1, 0}, {1, 2, 2, 1}})},
		"A in another order":             {N: 4, Links: linksOf([][4]int{{2, 3, 1, 0}, {1, 4, 2, 1}})},
		"the last two turned about":      {N: 4, Links: linksOf([][4]int{{1, 2, 1, 0}, {3, 4, 1, 0}, {2, 3, 2, 1}})},
	} {
		if impl.NetOk(x) {
			t.Errorf("%s: NetOk(%v) = true", name, x)
		}
	}
}

func TestNetOkRefusesThings(t *testing.T) {
	for name, things := range map[string][][4]int{
		"one too many":          {{1, 1, 1, 0}, {1, 2, 1, 0}, {1, 3, 1, 0}, {1, 4, 1, 0}, {1, 5, 1, 0}},
		"key 0":                 {{1, 0, 1, 0}},
		"key below 0":           {{1, -1, 1, 0}},
		"key one too high":      {{1, 10, 1, 0}},
		"owner 0":               {{0, 1, 1, 0}},
		"owner below 0":         {{-1, 1, 1, 0}},
		"owner above N":         {{4, 1, 1, 0}},
		"owner far above":       {{math.MaxInt, 1, 1, 0}},
		"cost 0":                {{1, 1, 0, 0}},
		"cost below 0":          {{1, 1, -1, 0}},
		"cost one too much":     {{1, 1, impl.MaxCost + 1, 0}},
		"the last one wrong":    {{1, 1, 1, 0}, {1, 2, 1, 0}, {1, 3, 1, 0}, {1, 4, 0, 0}},
		"one twice":             {{1, 1, 1, 0}, {1, 1, 1, 0}},
		"one twice, two costs":  {{1, 1, 1, 0}, {1, 1, 2, 0}},
		"one twice, once far":   {{1, 1, 1, 0}, {1, 1, 1, 1}},
		"one twice, one behind": {{1, 1, 1, 0}, {1, 1, 1, 0}, {1, 2, 1, 0}},
		"owners turned about":   {{2, 1, 1, 0}, {1, 1, 1, 0}},
		"keys turned about":     {{1, 2, 1, 0}, {1, 1, 1, 0}},
		"keys down, owners up":  {{1, 2, 1, 0}, {2, 1, 1, 0}},
		"the last two turned":   {{1, 1, 1, 0}, {1, 3, 1, 0}, {1, 2, 1, 0}},
	} {
		x := impl.Net{N: 3, Links: linksOf([][4]int{{1, 2, 1, 0}}), Things: thingsOf(things)}
		if impl.NetOk(x) {
			t.Errorf("%s: NetOk(%v) = true", name, x)
		}
	}
}

func TestLinksAreSeenFromBothEnds(t *testing.T) {
	both := func(x impl.Net) {
		t.Helper()
		for _, l := range x.Links {
			if there := impl.CostTo(x, l.A, l.B, l.Area); there != l.Cost {
				t.Fatalf("%v: %v costs %d from A", x, l, there)
			}
			if back := impl.CostTo(x, l.B, l.A, l.Area); back != l.Cost {
				t.Fatalf("%v: %v costs %d from B", x, l, back)
			}
			if next := impl.NextTo(x, l.A, l.Area); !slices.Contains(next, l.B) {
				t.Fatalf("%v: A of %v is next to %v", x, l, next)
			}
			if next := impl.NextTo(x, l.B, l.Area); !slices.Contains(next, l.A) {
				t.Fatalf("%v: B of %v is next to %v", x, l, next)
			}
			for _, end := range []int{l.A, l.B} {
				if areas := impl.AreasOf(x, end); !slices.Contains(areas, l.Area) {
					t.Fatalf("%v: %d has links in %v, and %v", x, end, areas, l)
				}
			}
		}
	}
	for _, x := range rightNets {
		both(x)
	}
	eachSmallNet(both)
}

func TestNetsShowTheirLinksAndNoOthers(t *testing.T) {
	for _, x := range rightNets {
		mustShow(t, x)
	}
	eachSmallNet(func(x impl.Net) { mustShow(t, x) })
}

func TestLinksOfTwoNodesInTwoAreas(t *testing.T) {
	x := impl.Net{N: 4, Links: []impl.Link{
		{A: 1, B: 2, Cost: 5, Area: 0}, {A: 1, B: 2, Cost: 9, Area: 1}, {A: 2, B: 3, Cost: 4, Area: 1}, {A: 2, B: 3, Cost: 2, Area: 2}}}
	for _, c := range []struct{ from, to, area, want int }{
		{1, 2, 0, 5}, {2, 1, 0, 5}, {1, 2, 1, 9}, {2, 1, 1, 9}, {1, 2, 2, 0}, {2, 1, 2, 0},
		{2, 3, 0, 0}, {3, 2, 0, 0}, {2, 3, 1, 4}, {3, 2, 1, 4}, {2, 3, 2, 2}, {3, 2, 2, 2},
		{1, 3, 1, 0}, {3, 1, 1, 0}, {1, 1, 0, 0}, {2, 2, 1, 0}, {4, 4, 0, 0}, {1, 4, 0, 0},
	} {
		if got := impl.CostTo(x, c.from, c.to, c.area); got != c.want {
			t.Errorf("CostTo(%d, %d, %d) = %d; want %d", c.from, c.to, c.area, got, c.want)
		}
	}
	for _, c := range []struct {
		node, area int
		want       []int
	}{
		{1, 0, []int{2}}, {1, 1, []int{2}}, {1, 2, nil}, {2, 0, []int{1}}, {2, 1, []int{1, 3}}, {2, 2, []int{3}},
		{3, 0, nil}, {3, 1, []int{2}}, {3, 2, []int{2}}, {4, 0, nil}, {4, 1, nil}, {4, 2, nil},
	} {
		if got := impl.NextTo(x, c.node, c.area); !slices.Equal(got, c.want) {
			t.Errorf("NextTo(%d, %d) = %v; want %v", c.node, c.area, got, c.want)
		}
	}
}

func TestAreasAndBorders(t *testing.T) {
	x := impl.Net{N: 6, Links: []impl.Link{
		{A: 1, B: 2, Cost: 1, Area: 0}, {A: 2, B: 3, Cost: 1, Area: 1}, {A: 2, B: 4, Cost: 1, Area: 2},
		{A: 3, B: 4, Cost: 1, Area: 2}, {A: 4, B: 5, Cost: 1, Area: 0}}}
	for _, c := range []struct {
		node   int
		areas  []int
		border bool
	}{
		{1, []int{0}, false},      // the middle one alone
		{2, []int{0, 1, 2}, true}, // all
		{3, []int{1, 2}, false},   // two, but not the middle one
		{4, []int{0, 2}, true},    // the middle one, and another one as B
		{5, []int{0}, false},      // the middle one alone, as B
		{6, nil, false},           // no link
	} {
		if got := impl.AreasOf(x, c.node); !slices.Equal(got, c.areas) {
			t.Errorf("AreasOf(%d) = %v; want %v", c.node, got, c.areas)
		}
		if got := impl.Border(x, c.node); got != c.border {
			t.Errorf("Border(%d) = %v; want %v", c.node, got, c.border)
		}
	}
	for _, area := range []int{1, 2} {
		y := impl.Net{N: 2, Links: []impl.Link{{A: 1, B: 2, Cost: 1, Area: area}}}
		if got := impl.AreasOf(y, 2); !slices.Equal(got, []int{area}) || impl.Border(y, 2) {
			t.Errorf("area %d alone: AreasOf %v, Border %v", area, got, impl.Border(y, 2))
		}
	}
}

func TestNodesAndAreasThatAreNone(t *testing.T) {
	none := []int{math.MinInt, -1, 0, 7, 8, math.MaxInt}
	for name, x := range rightNets {
		for _, node := range append([]int{x.N + 1}, none...) {
			if areas := impl.AreasOf(x, node); len(areas) > 0 || impl.Border(x, node) {
				t.Errorf("%s: node %d has links in %v, Border %v", name, node, areas, impl.Border(x, node))
			}
			for area := range impl.MaxArea + 1 {
				if next := impl.NextTo(x, node, area); len(next) > 0 {
					t.Errorf("%s: node %d is next to %v", name, node, next)
				}
				for to := range impl.MaxNodes + 1 {
					if there, back := impl.CostTo(x, node, to, area), impl.CostTo(x, to, node, area); there != 0 || back != 0 {
						t.Errorf("%s: node %d and %d cost %d and %d", name, node, to, there, back)
					}
				}
			}
		}
		for _, area := range []int{math.MinInt, -1, impl.MaxArea + 1, math.MaxInt} {
			for node := range impl.MaxNodes + 1 {
				if next := impl.NextTo(x, node, area); len(next) > 0 {
					t.Errorf("%s: in area %d node %d is next to %v", name, area, node, next)
				}
				for to := range impl.MaxNodes + 1 {
					if cost := impl.CostTo(x, node, to, area); cost != 0 {
						t.Errorf("%s: in area %d %d and %d cost %d", name, area, node, to, cost)
					}
				}
			}
		}
	}
}

func TestNetsThatAreNotRight(t *testing.T) {
	turned := impl.Net{N: 3, Links: linksOf([][4]int{{3, 2, 6, 2}, {2, 1, 5, 1}, {3, 1, 4, 1}, {1, 2, 5, 0}})}
	twice := impl.Net{N: 3, Links: linksOf([][4]int{{1, 3, 8, 1}, {1, 2, 5, 0}, {2, 1, 7, 0}, {1, 2, 5, 0}, {1, 3, 9, 1}})}
	for _, x := range []impl.Net{turned, twice} {
		if impl.NetOk(x) {
			t.Fatalf("NetOk(%v) = true", x)
		}
	}
	for _, c := range []struct {
		x          impl.Net
		node, area int
		want       []int
	}{
		{turned, 1, 0, []int{2}}, {turned, 1, 1, []int{2, 3}}, {turned, 2, 2, []int{3}}, {turned, 3, 1, []int{1}}, {turned, 3, 0, nil},
		{twice, 1, 0, []int{2}}, {twice, 2, 0, []int{1}}, {twice, 1, 1, []int{3}}, {twice, 3, 1, []int{1}},
	} {
		if got := impl.NextTo(c.x, c.node, c.area); !slices.Equal(got, c.want) {
			t.Errorf("NextTo(%v, %d, %d) = %v; want %v", c.x, c.node, c.area, got, c.want)
		}
	}
	for node, want := range map[int][]int{1: {0, 1}, 2: {0, 1, 2}, 3: {1, 2}} {
		if got := impl.AreasOf(turned, node); !slices.Equal(got, want) || impl.Border(turned, node) != (node < 3) {
			t.Errorf("AreasOf(%v, %d) = %v; want %v; Border %v", turned, node, got, want, impl.Border(turned, node))
		}
	}
	for _, c := range []struct {
		x                    impl.Net
		from, to, area, want int
	}{
		{turned, 1, 2, 1, 5}, {turned, 2, 1, 1, 5}, {turned, 2, 3, 2, 6}, {turned, 3, 2, 2, 6},
		// Of a link that stands twice the first one counts, seen from either end.
		{twice, 1, 2, 0, 5}, {twice, 2, 1, 0, 5}, {twice, 1, 3, 1, 8}, {twice, 3, 1, 1, 8},
	} {
		if got := impl.CostTo(c.x, c.from, c.to, c.area); got != c.want {
			t.Errorf("CostTo(%v, %d, %d, %d) = %d; want %d", c.x, c.from, c.to, c.area, got, c.want)
		}
	}
}

// Nodes are 1 .. N: a link with an end that is none names no node, and leaves
// the links beside it as they are.
func TestNextToNamesNoneButNodes(t *testing.T) {
	const n = 3
	beside := linksOf([][4]int{{1, 2, 5, 0}, {2, 3, 6, 0}, {1, 3, 7, 1}})
	want := func(node, area int) []int {
		switch [2]int{node, area} {
		case [2]int{1, 0}, [2]int{3, 0}:
			return []int{2}
		case [2]int{2, 0}:
			return []int{1, 3}
		case [2]int{1, 1}:
			return []int{3}
		case [2]int{3, 1}:
			return []int{1}
		}
		return nil
	}
	for _, none := range []int{math.MinInt, -1, 0, n + 1, n + 2, impl.MaxNodes, impl.MaxNodes + 1, 9, math.MaxInt} {
		for to := 1; to <= n; to++ {
			for area := range impl.MaxArea + 1 {
				asA := impl.Link{A: none, B: to, Cost: 8, Area: area}
				asB := impl.Link{A: to, B: none, Cost: 8, Area: area}
				for _, more := range [][]impl.Link{{asA}, {asB}, {asA, asB}} {
					for at := range len(beside) + 1 {
						mustBeNextTo(t, impl.Net{N: n, Links: slices.Insert(slices.Clone(beside), at, more...)}, want)
					}
					mustBeNextTo(t, impl.Net{N: n, Links: more}, func(int, int) []int { return nil })
				}
			}
		}
	}
}

// mustBeNextTo asks NextTo of each node of the net in each area.
func mustBeNextTo(t *testing.T, x impl.Net, want func(node, area int) []int) {
	t.Helper()
	for node := 1; node <= x.N; node++ {
		for area := range impl.MaxArea + 1 {
			if got := impl.NextTo(x, node, area); !slices.Equal(got, want(node, area)) {
				t.Fatalf("NextTo(%v, %d, %d) = %v; want %v", x, node, area, got, want(node, area))
			}
		}
	}
}

// The nodes that there are hang on N alone, the first and the last one among them.
func TestNextToGoesByN(t *testing.T) {
	links := linksOf([][4]int{{1, 0, 5, 0}, {1, 2, 5, 0}, {3, 1, 5, 0}, {1, 6, 5, 0}, {7, 1, 5, 0}})
	for _, c := range []struct {
		n    int
		want []int
	}{
		{math.MinInt, nil}, {-1, nil}, {0, nil}, {1, nil}, {2, []int{2}}, {3, []int{2, 3}}, {5, []int{2, 3}}, {6, []int{2, 3, 6}},
	} {
		if got := impl.NextTo(impl.Net{N: c.n, Links: links}, 1, 0); !slices.Equal(got, c.want) {
			t.Errorf("N %d: NextTo = %v; want %v", c.n, got, c.want)
		}
	}
	x := impl.Net{N: math.MinInt, Links: linksOf([][4]int{{math.MaxInt, 0, math.MaxInt, 0}})}
	for _, node := range []int{0, math.MaxInt} {
		if got := impl.NextTo(x, node, 0); len(got) > 0 {
			t.Errorf("a net without nodes: NextTo(%d) = %v", node, got)
		}
	}
}

// That an end is no node is for NextTo, which names it: the other end has a link
// in the area all the same, and the link its cost.
func TestLinksWithNoNodeHaveAreasAndCosts(t *testing.T) {
	for _, none := range []int{math.MinInt, -1, 0, 3, 9, math.MaxInt} {
		for _, links := range [][][4]int{{{1, none, 5, 0}, {none, 1, 6, 2}}, {{none, 1, 5, 0}, {1, none, 6, 2}}} {
			x := impl.Net{N: 2, Links: linksOf(links)}
			if got := impl.AreasOf(x, 1); !slices.Equal(got, []int{0, 2}) || !impl.Border(x, 1) {
				t.Errorf("AreasOf(%v, 1) = %v, Border %v", x, got, impl.Border(x, 1))
			}
			if there, back := impl.CostTo(x, 1, none, 2), impl.CostTo(x, none, 1, 2); there != 6 || back != 6 {
				t.Errorf("%v: CostTo %d and %d", x, there, back)
			}
		}
	}
}

func TestNetsAnswerWhateverComes(t *testing.T) {
	odd := []int{math.MinInt, -1, 0, 1, 2, 3, 6, 7, math.MaxInt}
	for _, a := range odd {
		for _, b := range odd {
			for _, area := range odd {
				for _, n := range odd {
					links := linksOf([][4]int{{a, b, 3, area}, {1, 2, n, 0}, {b, a, 4, area}})
					x := impl.Net{N: n, Links: links, Things: thingsOf([][4]int{{a, b, area, 1}})}
					impl.NetOk(x)
					areas := impl.AreasOf(x, a)
					next := impl.NextTo(x, a, area)
					if !slices.IsSorted(next) || len(slices.Compact(slices.Clone(next))) != len(next) {
						t.Fatalf("NextTo(%v, %d, %d) = %v", x, a, area, next)
					}
					if len(next) > 0 && (next[0] < 1 || next[len(next)-1] > n) {
						t.Fatalf("NextTo(%v, %d, %d) = %v", x, a, area, next)
					}
					for _, one := range areas {
						if one < 0 || one > impl.MaxArea {
							t.Fatalf("AreasOf(%v, %d) = %v", x, a, areas)
						}
					}
					impl.Border(x, b)
					if impl.CostTo(x, a, b, area) != impl.CostTo(x, b, a, area) {
						t.Fatalf("CostTo(%v, %d, %d, %d) hangs on the end", x, a, b, area)
					}
				}
			}
		}
	}
}

func TestNetsLeaveTheirArgumentsAlone(t *testing.T) {
	links := append(mostLinks(), impl.Link{A: 77}, impl.Link{B: 78})
	things := thingsOf([][4]int{{1, 1, 1, 0}, {2, 1, 1, 1}, {3, 3, 3, 1}, {4, 4, 4, 0}, {79, 79, 79, 1}})
	ahead, aheadThings := slices.Clone(links), slices.Clone(things)
	// The rest of both lists is spare room behind the argument.
	x := impl.Net{N: 6, Links: links[:impl.MaxLinks], Things: things[:4]}
	if !impl.NetOk(x) {
		t.Fatal("the net is refused")
	}
	for node := range impl.MaxNodes + 2 {
		impl.Border(x, node)
		for area := range impl.MaxArea + 2 {
			impl.CostTo(x, node, 3, area)
			first, second := impl.NextTo(x, node, area), impl.NextTo(x, node, area)
			mustBeApart(t, first, second)
		}
		mustBeApart(t, impl.AreasOf(x, node), impl.AreasOf(x, node))
	}
	if !slices.Equal(links, ahead) || !slices.Equal(things, aheadThings) {
		t.Errorf("the net was written into: %v, %v", links, things)
	}
}

// mustBeApart holds two answers to one question against each other, and
// whether the second one stays as it is when the first one is written over.
func mustBeApart(t *testing.T, first, second []int) {
	t.Helper()
	if !slices.Equal(first, second) {
		t.Fatalf("asked twice: %v, %v", first, second)
	}
	kept := slices.Clone(second)
	first = first[:cap(first)]
	for at := range first {
		first[at] = -99
	}
	if !slices.Equal(second, kept) {
		t.Fatalf("two answers share memory: %v, not %v", second, kept)
	}
}
