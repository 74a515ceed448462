package tests

import (
	"fmt"
	"math"
	"regexp"
	"slices"
	"strconv"
	"strings"
	"testing"

	"loop.example/g00177/impl"
)

// eventWords stand by the Kind of their events.
var eventWords = []string{"", "tick", "deliver", "drop", "copy", "cut", "raise", "down", "up", "bytes"}

// ofPlaces are the Kinds whose line has an At, and no Node.
var ofPlaces = []int{impl.EvDeliver, impl.EvDrop, impl.EvCopy, impl.EvCut, impl.EvRaise}

func lineOfEvent(e impl.Event) string {
	switch {
	case e.Kind == impl.EvBytes:
		return fmt.Sprintf("bytes %d %x", e.Node, e.Text)
	case slices.Contains(ofPlaces, e.Kind):
		return fmt.Sprint(eventWords[e.Kind], " ", e.At)
	}
	return fmt.Sprint(eventWords[e.Kind], " ", e.Node)
}

func linesOfEvents(events []impl.Event) (lines []string) {
	for _, e := range events {
		lines = append(lines, lineOfEvent(e))
	}
	return lines
}

// linesOfNet are without the net line.
func linesOfNet(x impl.Net) (lines []string) {
	for _, l := range x.Links {
		lines = append(lines, fmt.Sprintf("link %d %d %d %d", l.A, l.B, l.Cost, l.Area))
	}
	for _, thing := range x.Things {
		word := map[bool]string{false: "thing", true: "far"}[thing.Far]
		lines = append(lines, fmt.Sprintf("%s %d %d %d", word, thing.Owner, thing.Key, thing.Cost))
	}
	return lines
}

func lineOfN(x impl.Net) string {
	return fmt.Sprint("net ", x.N)
}

// scriptOf takes lines, and lists of them, and ends each.
func scriptOf(lists ...any) string {
	text := ""
	for _, one := range lists {
		switch lines := one.(type) {
		case string:
			text += lines + "\n"
		case []string:
			text += strings.Join(append(slices.Clone(lines), ""), "\n")
		}
	}
	return text
}

const numberForm = ` (0|[1-9][0-9]*)`

// lineForms are what a line looks like whose blanks are one each.
var lineForms = map[string]*regexp.Regexp{
	"net":     regexp.MustCompile(`^net` + numberForm + `$`),
	"link":    regexp.MustCompile(`^link` + strings.Repeat(numberForm, 4) + `$`),
	"thing":   regexp.MustCompile(`^thing` + strings.Repeat(numberForm, 3) + `$`),
	"far":     regexp.MustCompile(`^far` + strings.Repeat(numberForm, 3) + `$`),
	"tick":    regexp.MustCompile(`^tick` + numberForm + `$`),
	"deliver": regexp.MustCompile(`^deliver` + numberForm + `$`),
	"drop":    regexp.MustCompile(`^drop` + numberForm + `$`),
	"copy":    regexp.MustCompile(`^copy` + numberForm + `$`),
	"cut":     regexp.MustCompile(`^cut` + numberForm + `$`),
	"raise":   regexp.MustCompile(`^raise` + numberForm + `$`),
	"down":    regexp.MustCompile(`^down` + numberForm + `$`),
	"up":      regexp.MustCompile(`^up` + numberForm + `$`),
	"bytes":   regexp.MustCompile(`^bytes` + numberForm + ` ((?:[0-9a-f][0-9a-f])+)$`),
}

// scriptBy is a script as the document's words have it; its links and things stand in
// the order in which they came.
type scriptBy struct {
	net    impl.Net
	events []impl.Event
}

// partsBy are those that a line has by chapter 1, and whether it has any.
func partsBy(line string) ([]string, bool) {
	for at := range len(line) {
		if line[at] < 32 || line[at] > 126 {
			return nil, false
		}
	}
	parts := strings.Fields(line)
	return parts, len(line) <= 600 && len(parts) <= 10
}

// formOf has the word of a line and what stands behind it; false where it has no form.
func formOf(parts []string) (word string, numbers []int, text string, ok bool) {
	form := lineForms[parts[0]]
	if form == nil {
		return "", nil, "", false
	}
	found := form.FindStringSubmatch(strings.Join(parts, " "))
	if found == nil {
		return "", nil, "", false
	}
	if parts[0] == "bytes" {
		if _, err := fmt.Sscanf(found[2], "%x", &text); err != nil {
			return "", nil, "", false
		}
		found = found[:2]
	}
	for _, figures := range found[1:] {
		n, err := strconv.Atoi(figures)
		if err != nil || n > 1000000000 {
			return "", nil, "", false
		}
		numbers = append(numbers, n)
	}
	return parts[0], numbers, text, true
}

// netFits asks for a right net, but for its order.
func (s scriptBy) netFits() bool {
	links, things := map[[3]int]bool{}, map[[2]int]bool{}
	for _, l := range s.net.Links {
		if l.A < 1 || l.A >= l.B || l.B > s.net.N || l.Cost < 1 || l.Cost > 1000 || l.Area > 2 {
			return false
		}
		links[[3]int{l.A, l.B, l.Area}] = true
	}
	for _, one := range s.net.Things {
		if one.Key < 1 || one.Key > 9 || one.Owner < 1 || one.Owner > s.net.N || one.Cost < 1 || one.Cost > 1000 {
			return false
		}
		things[[2]int{one.Key, one.Owner}] = true
	}
	return len(links) == len(s.net.Links) && len(things) == len(s.net.Things) && len(links) <= 12 && len(things) <= 4
}

func (s *scriptBy) take(line string) bool {
	parts, ok := partsBy(line)
	if !ok {
		return false
	}
	if len(parts) == 0 || parts[0][0] == '#' {
		return true
	}
	word, n, text, ok := formOf(parts)
	if !ok || (word == "net") != (s.net.N == 0) {
		return false
	}
	switch word {
	case "net":
		s.net.N = n[0]
		return 1 <= n[0] && n[0] <= 6
	case "link":
		s.net.Links = append(s.net.Links, impl.Link{A: n[0], B: n[1], Cost: n[2], Area: n[3]})
		return len(s.events) == 0 && s.netFits()
	case "thing", "far":
		s.net.Things = append(s.net.Things, impl.Thing{Owner: n[0], Key: n[1], Cost: n[2], Far: word == "far"})
		return len(s.events) == 0 && s.netFits()
	}
	e := impl.Event{Kind: slices.Index(eventWords, word), Node: n[0], Text: text}
	if slices.Contains(ofPlaces, e.Kind) {
		e.Node, e.At = 1, n[0]
	}
	s.events = append(s.events, e)
	return 1 <= e.Node && e.Node <= s.net.N && len(e.Text) <= 200 && len(s.events) <= 60
}

// readBy is ReadScript by the document's words.
func readBy(text string) (impl.Net, []impl.Event, int) {
	lines := strings.Split(strings.TrimSuffix(text, "\n"), "\n")
	if len(text) > 4000 || len(lines) > 100 {
		return impl.Net{}, nil, -1
	}
	var s scriptBy
	for at, line := range lines {
		if !s.take(line) {
			return impl.Net{}, nil, at + 1
		}
	}
	if s.net.N == 0 {
		return impl.Net{}, nil, 1
	}
	slices.SortFunc(s.net.Links, func(a, b impl.Link) int { return 100*(a.A-b.A) + 10*(a.B-b.B) + a.Area - b.Area })
	slices.SortFunc(s.net.Things, func(a, b impl.Thing) int { return 10*(a.Key-b.Key) + a.Owner - b.Owner })
	return s.net, s.events, 0
}

// showBy is ShowRoute by the document's words.
func showBy(r impl.Route) string {
	what, far, hops := "node", "", ""
	if r.Thing {
		what = "thing"
	}
	if r.Kind == 4 {
		far = fmt.Sprintf(" far %d", r.Far)
	}
	for _, hop := range r.Hops {
		hops += fmt.Sprintf(" %d", hop)
	}
	return fmt.Sprintf("%s %d cost %d%s by%s", what, r.To, r.Cost, far, hops)
}

// toldOfLife is what Console tells of a net and events that are right: by RunNet and Routes.
func toldOfLife(t *testing.T, x impl.Net, events []impl.Event) string {
	t.Helper()
	w, numbers, ok := impl.RunNet(x, events)
	if !ok || len(numbers) != len(events) {
		t.Fatalf("RunNet(%+v, %s): %v, %v", x, shown(events...), numbers, ok)
	}
	text := ""
	for at, number := range numbers {
		text += fmt.Sprint(number) + map[bool]string{false: " ", true: "\n"}[at == len(numbers)-1]
	}
	for at, n := range w.Nodes {
		if !w.Up[at] {
			continue
		}
		text += fmt.Sprintf("at %d\n", at+1)
		for _, r := range impl.Routes(n) {
			text += showBy(r) + "\n"
		}
	}
	return text
}

// mustRead asks for just this net and these events, and for what Console makes of them.
func mustRead(t *testing.T, name, text string, x impl.Net, events ...impl.Event) {
	t.Helper()
	gotNet, gotEvents, line := impl.ReadScript(text)
	if line != 0 || !sameNet(gotNet, x) || !slices.Equal(gotEvents, events) {
		t.Fatalf("%s: ReadScript(%q) = %+v, %s, %d; want %+v, %s", name, text, gotNet, shown(gotEvents...), line, x, shown(events...))
	}
	if want := toldOfLife(t, x, events); impl.Console(text) != want {
		t.Fatalf("%s: Console(%q) = %q; want %q", name, text, impl.Console(text), want)
	}
}

// mustFault asks for nothing but the line of a fault, or -1.
func mustFault(t *testing.T, name, text string, line int) {
	t.Helper()
	x, events, got := impl.ReadScript(text)
	if got != line || !sameNet(x, impl.Net{}) || len(events) > 0 {
		t.Fatalf("%s: ReadScript(%q) = %+v, %s, %d; want %d", name, text, x, shown(events...), got, line)
	}
	if want := fmt.Sprintf("fault %d\n", line); impl.Console(text) != want {
		t.Fatalf("%s: Console(%q) = %q; want %q", name, text, impl.Console(text), want)
	}
}

// mustBeReadBy holds a text, of whatever kind, against the document's words.
func mustBeReadBy(t *testing.T, name, text string) int {
	t.Helper()
	x, events, line := readBy(text)
	if line != 0 {
		mustFault(t, name, text, line)
		return line
	}
	mustRead(t, name, text, x, events...)
	return 0
}

// idleLines are passed over.
var idleLines = []string{"", " ", "   ", "#", "# a remark", "#net 2", "  # tick 1", "#tick 1", "##", "# ~}| !", "#1 2 3 4 5 6 7 8 9 10",
	" #  b", "# # #", "# net 1 is not a net line", "#\"", "#-", strings.Repeat(" ", 60), "#" + strings.Repeat("x", 80)}

// withIdle puts lines that are passed over ahead of each line, and behind them all, as
// many as there is room for; beside the text are the numbers that the lines have in it.
func withIdle(lines []string, d *draws) (string, []int) {
	count, size := len(lines), len(scriptOf(lines))
	var all []string
	var numbers []int
	for at := 0; at <= len(lines); at++ {
		for range d.below(4) {
			line := idleLines[d.below(len(idleLines))]
			if count < impl.MaxLines && size+len(line)+1 <= impl.MaxScript {
				all = append(all, line)
				count, size = count+1, size+len(line)+1
			}
		}
		if at < len(lines) {
			all = append(all, lines[at])
			numbers = append(numbers, len(all))
		}
	}
	return scriptOf(all), numbers
}

// withBlanks puts more blanks between parts, ahead of them and behind them.
func withBlanks(lines []string, d *draws) (out []string) {
	for _, line := range lines {
		line = strings.Repeat(" ", d.below(3)) + strings.Replace(line, " ", strings.Repeat(" ", 1+d.below(3)), 1+d.below(4))
		out = append(out, line+strings.Repeat(" ", d.below(3)))
	}
	return out
}

// tellable is an event with all gone from it that a script has no place for.
func tellable(e impl.Event) impl.Event {
	e.At = min(e.At, impl.MaxNumber)
	if slices.Contains(ofPlaces, e.Kind) {
		e.Node = 1
		return e
	}
	e.At = 0
	if e.Kind == impl.EvBytes && e.Text == "" {
		e.Text = "\x00"
	}
	return e
}

// square has two ways as short from 1 to 4, and 5 beyond it.
func square() impl.Net {
	return impl.Net{N: 5, Links: linksOf([][4]int{{1, 2, 1, 0}, {1, 3, 1, 0}, {2, 4, 1, 0}, {3, 4, 1, 0}, {4, 5, 9, 1}})}
}

// hellosOf has all who are next to each other hear each other.
func hellosOf(t *testing.T, x impl.Net) (hellos []impl.Event) {
	t.Helper()
	for _, l := range x.Links {
		hellos = append(hellos, evSays(t, saysHello(l.A, l.B, l.Area, l.B)), evSays(t, saysHello(l.B, l.A, l.Area, l.A)))
	}
	return hellos
}

// drawnLife is a right net and events of all kinds, that have a script with room in it.
// In every second one ways are found.
func drawnLife(t *testing.T, number int) (impl.Net, []impl.Event) {
	t.Helper()
	d := &draws{state: 11*number + 5}
	x := drawnLifeNet(number)
	var first []impl.Event
	if number%2 == 1 {
		x = busyNet(number / 2)
		if number%6 == 5 {
			x = withThings(square(), number)
		}
		first = mixed(hellosOf(t, x), d)
	}
	l := livedOf(t, x)
	var events []impl.Event
	size := len(scriptOf(lineOfN(x), linesOfNet(x)))
	for len(events) < impl.MaxLife-number/2%4*7 {
		e := tellable(l.drawnEvent(t, d))
		if len(events) < len(first) {
			e = first[len(events)]
		} else if len(first) > 0 {
			e = tellable(l.busyEvent(t, d))
		}
		if size += len(scriptOf(lineOfEvent(e))); size > 3400 {
			break
		}
		events = append(events, e)
		l.meet(e)
	}
	return x, events
}

// Promise 14: what a script tells is what its net and events do; what is passed over
// changes nothing but the number of the line of a fault.
func TestAScriptTellsWhatItsEventsDo(t *testing.T) {
	seen := watched{}
	for number := range 200 {
		name := fmt.Sprint("life ", number)
		d := &draws{state: number}
		x, events := drawnLife(t, number)
		lines := slices.Concat([]string{lineOfN(x)}, linesOfNet(x), linesOfEvents(events))
		mustRead(t, name, scriptOf(lines), x, events...)
		mustRead(t, name+" without the last end", strings.TrimSuffix(scriptOf(lines), "\n"), x, events...)
		other := slices.Concat([]string{lineOfN(x)}, mixed(linesOfNet(x), d), linesOfEvents(events))
		mustRead(t, name+" in another order", scriptOf(other), x, events...)
		for range 3 {
			text, _ := withIdle(lines, d)
			mustRead(t, name+" with idle lines", text, x, events...)
			text, _ = withIdle(other, d)
			mustRead(t, name+" in another order with idle lines", text, x, events...)
		}
		if text := scriptOf(withBlanks(lines, d)); len(text) <= impl.MaxScript {
			mustRead(t, name+" with blanks", text, x, events...)
		}
		seen.lookScript(x, events, impl.Console(scriptOf(lines)))
	}
	for _, what := range slices.Concat(eventWords[1:], []string{"link", "thing", "far", "node", "numbers of 1", "far things found", "by two", "down", "all of MaxLife"}) {
		if seen[what] < 20 {
			t.Errorf("too few of %s: %d", what, seen[what])
		}
	}
}

// lookScript counts what is to be seen often enough in what is drawn.
func (n watched) lookScript(x impl.Net, events []impl.Event, told string) {
	for _, e := range events {
		n.count(eventWords[e.Kind], true)
	}
	for _, one := range x.Things {
		n.count("thing", !one.Far)
		n.count("far", one.Far)
	}
	n.count("link", len(x.Links) > 0)
	n.count("node", strings.Contains(told, "\nnode "))
	n.count("numbers of 1", strings.Contains(told, " 1 "))
	n.count("far things found", regexp.MustCompile(`thing [0-9] cost [1-9][0-9]* far [0-9]+ by [0-9]`).MatchString(told))
	n.count("by two", regexp.MustCompile(` by [0-9] [0-9]`).MatchString(told))
	n.count("down", strings.Count(told, "at ") < x.N)
	n.count("all of MaxLife", len(events) == impl.MaxLife)
}

// wrongLines are no lines of a net of 1 .. 6 nodes, wherever they stand.
var wrongLines = []string{"net 1", "net 6", "tick 0", "tick 7", "tick 1 1", "tick", "deliver", "copy 1 1", "bytes 1", "bytes 1 6", "bytes 1 61 61",
	"link 1 2 3", "link 1 1 1 0", "thing 1 1", "far 1 1 1 1", "Tick 1", "what", "tick 1 # a remark", "\t", "# \x7f", "up 01", "-", "net", "tick1",
	"# 1 2 3 4 5 6 7 8 9 10", "link 1 7 1 0", "down -1", "cut 1000000001", "raise one"}

// A fault put anywhere into a drawn script is found at its line, which idle lines move
// and do not change.
func TestTheLineOfAFault(t *testing.T) {
	for number := range 200 {
		d := &draws{state: number + 77}
		x, events := drawnLife(t, number)
		lines := slices.Concat([]string{lineOfN(x)}, linesOfNet(x), linesOfEvents(events))
		for range 4 {
			at := 1 + d.below(len(lines))
			wrong := wrongLines[d.below(len(wrongLines))]
			name := fmt.Sprintf("life %d with %q", number, wrong)
			hurt := slices.Insert(slices.Clone(lines), at, wrong)
			mustFault(t, name, scriptOf(hurt), at+1)
			text, numbers := withIdle(hurt, d)
			mustFault(t, name+" and idle lines", text, numbers[at])
			// What stands behind the first fault is looked at no more.
			hurt = append(hurt[:at+1], mixed(wrongLines[:10], d)...)
			mustFault(t, name+" and more of them", scriptOf(hurt), at+1)
			text, numbers = withIdle(hurt, d)
			mustFault(t, name+" and more of them and idle lines", text, numbers[at])
		}
	}
}

// Every idle line, at every place of a small script, in each of its faults, too.
func TestLinesThatArePassedOverChangeNothing(t *testing.T) {
	x := impl.Net{N: 2, Links: linksOf([][4]int{{1, 2, 3, 0}}), Things: thingsOf([][4]int{{1, 4, 5, 0}})}
	lines := []string{"net 2", "link 1 2 3 0", "thing 1 4 5", "tick 1", "deliver 0"}
	for _, idle := range idleLines {
		for at := 0; at <= len(lines); at++ {
			name := fmt.Sprintf("%q at %d", idle, at)
			mustRead(t, name, scriptOf(slices.Insert(slices.Clone(lines), at, idle)), x, evTick(1), evDeliver(0))
			for fault := 1; fault <= len(lines); fault++ {
				hurt := slices.Clone(lines)
				hurt[fault-1] += " 1"
				moved := fault
				if at < fault {
					moved++
				}
				mustFault(t, name, scriptOf(hurt), fault)
				mustFault(t, name, scriptOf(slices.Insert(hurt, at, idle)), moved)
			}
		}
	}
}

func TestScriptsWrittenOut(t *testing.T) {
	one := impl.Net{N: 1}
	mustRead(t, "net alone", "net 1\n", one)
	mustRead(t, "net alone, without the end", "net 1", one)
	mustRead(t, "blanks", "  net   1  ", one)
	mustRead(t, "the most nodes", "net 6\n", impl.Net{N: 6})
	mustRead(t, "idle lines", "\n \n#net 2\n net 1\n\n#\n", one)
	mustRead(t, "empty lines behind", "net 1\n\n\n\n", one)
	mustRead(t, "a blank behind", "net 1\n ", one)
	mustRead(t, "all words", "net 3\nlink 1 2 10 0\nlink 2 3 20 1\nthing 1 4 5\nfar 3 4 6\ntick 1\ndeliver 2\ndrop 3\ncopy 4\ncut 5\nraise 6\ndown 2\nup 3\nbytes 2 00ff61\n",
		impl.Net{N: 3, Links: linksOf([][4]int{{1, 2, 10, 0}, {2, 3, 20, 1}}), Things: thingsOf([][4]int{{1, 4, 5, 0}, {3, 4, 6, 1}})},
		evTick(1), evDeliver(2), evDrop(3), evCopy(4), evCut(5), evRaise(6), evDown(2), evUp(3), evBytes(2, "\x00\xffa"))
	mustRead(t, "events alone", "net 2\nup 1\ntick 2\n", impl.Net{N: 2}, evUp(1), evTick(2))
	mustRead(t, "a first event that is a remark away", "net 1\n# tick 1\ntick 1", one, evTick(1))
}

func TestScriptsWithoutANetLine(t *testing.T) {
	for _, text := range []string{"", "\n", " ", "#", "# a", "# a\n", "\n\n\n", "# a\n#b\n\n  \n", "   \n\n# net 1", strings.Repeat("\n", 100), strings.Repeat("#\n", 99) + "#"} {
		mustFault(t, "no line that is not passed over", text, 1)
	}
	// The first line that is not passed over is a fault itself, wherever it stands.
	for _, line := range []string{"net", "net 0", "net 7", "net 1 2", "net 1 1", "net 01", "net 00", "net +1", "net -1", "net one", "net a", "net 1a", "net 1.", "net 1,", "net 0x1",
		"net 1000000000", "net 1000000001", "net 99999999999999999999", "Net 1", "NET 1", "net1", "nets 1", "1", "n", "1 net", "net #", "net 1 #",
		"link 1 2 3 0", "thing 1 4 5", "far 1 4 5", "tick 1", "deliver 0", "drop 0", "copy 0", "cut 0", "raise 0", "down 1", "up 1", "bytes 1 61",
		"tick 0", "x", "-", "\x00", "\r", "net 1\r", "\tnet 1", "net\t1", "net 1\xc0\x8a", "net 1\u010a", "\ufeffnet 1", "n\u00e9t 1", "\xff", "n#", "?"} {
		for at, ahead := range []string{"", "\n", "# a\n \n", " # \n\n\n#b\n"} {
			number := []int{1, 2, 3, 5}[at]
			for _, behind := range []string{"", "\n", "\nnet 1\n", "\n# a\nnet 2\ntick 1\n", "\nwhat\n"} {
				mustFault(t, fmt.Sprintf("%q at line %d", line, number), ahead+line+behind, number)
			}
		}
	}
}

func TestNetLinesAgain(t *testing.T) {
	mustFault(t, "the same twice", "net 2\nnet 2\n", 2)
	mustFault(t, "another one", "net 2\n#\nnet 3\n", 3)
	mustFault(t, "behind a link", "net 2\nlink 1 2 3 0\nnet 2", 3)
	mustFault(t, "behind a thing", "net 2\nthing 1 2 3\nnet 2", 3)
	mustFault(t, "behind an event", "net 2\ntick 1\nnet 2\n", 3)
	mustFault(t, "one that is wrong itself", "net 2\nnet 9\n", 2)
	for n := -1; n <= 8; n++ {
		text := fmt.Sprintf("net %d\n", n)
		if 1 <= n && n <= 6 {
			mustRead(t, "N", text, impl.Net{N: n})
		} else {
			mustFault(t, "N", text, 1)
		}
	}
}

// All the numbers of a net's lines around their limits, alone and in all choices of few.
func TestLinksAndThingsAtTheEdges(t *testing.T) {
	numbers := []int{0, 1, 2, 3, 4}
	for _, a := range numbers {
		for _, b := range numbers {
			for _, area := range []int{0, 1, 2, 3} {
				for _, cost := range []int{0, 1, 1000, 1001} {
					mustBeReadBy(t, "a link", fmt.Sprintf("net 3\nlink %d %d %d %d\n", a, b, cost, area))
				}
			}
		}
	}
	for _, word := range []string{"thing", "far"} {
		for _, owner := range numbers {
			for _, key := range []int{0, 1, 5, 9, 10} {
				for _, cost := range []int{0, 1, 1000, 1001, 60000} {
					mustBeReadBy(t, "a thing", fmt.Sprintf("net 3\n%s %d %d %d\n", word, owner, key, cost))
				}
			}
		}
	}
	two := impl.Net{N: 3, Links: linksOf([][4]int{{1, 2, 7, 0}, {2, 3, 8, 2}}), Things: thingsOf([][4]int{{3, 1, 1000, 0}, {1, 9, 1, 1}})}
	mustRead(t, "in order", "net 3\nlink 1 2 7 0\nlink 2 3 8 2\nthing 3 1 1000\nfar 1 9 1\n", two)
	mustRead(t, "out of order", "net 3\nfar 1 9 1\nlink 2 3 8 2\nthing 3 1 1000\nlink 1 2 7 0\n", two)
	for name, line := range map[string]string{"A above B": "link 2 1 7 0", "A as B": "link 2 2 7 0", "Area 3": "link 1 2 7 3", "Cost 0": "link 1 2 0 0", "Cost 1001": "link 1 2 1001 0",
		"A 0": "link 0 1 7 0", "B above N": "link 1 4 7 0", "a Cost of MaxNumber": "link 1 2 1000000000 0", "Key 0": "thing 1 0 1", "Key 10": "far 1 10 1",
		"Owner 0": "thing 0 1 1", "Owner above N": "far 4 1 1", "a thing's Cost 0": "thing 1 1 0", "a thing's Cost 1001": "thing 1 1 1001"} {
		mustFault(t, name, scriptOf("net 3", line), 2)
		mustFault(t, name, scriptOf("net 3", "link 2 3 1 1", "", line, "tick 1"), 4)
	}
}

func TestLinksAndThingsTwice(t *testing.T) {
	mustFault(t, "a link that is there", "net 3\nlink 1 2 7 0\nlink 1 2 7 0\n", 3)
	mustFault(t, "with another Cost, more", "net 3\nlink 1 2 7 0\nlink 1 2 8 0\n", 3)
	mustFault(t, "with another Cost, less", "net 3\nlink 1 2 7 0\nlink 1 2 6 0\n", 3)
	mustFault(t, "not beside it", "net 3\nlink 2 3 7 0\nlink 1 3 7 0\nlink 1 2 7 0\nlink 1 3 7 0\n", 5)
	mustRead(t, "in another area", "net 3\nlink 1 2 7 1\nlink 1 2 7 0\nlink 1 2 7 2\n", impl.Net{N: 3, Links: linksOf([][4]int{{1, 2, 7, 0}, {1, 2, 7, 1}, {1, 2, 7, 2}})})
	mustFault(t, "a thing that is there", "net 3\nthing 1 2 7\nthing 1 2 7\n", 3)
	mustFault(t, "with another Cost", "net 3\nthing 1 2 7\nthing 1 2 8\n", 3)
	mustFault(t, "far", "net 3\nthing 1 2 7\nfar 1 2 7\n", 3)
	mustFault(t, "not far", "net 3\nfar 1 2 7\n\nthing 1 2 7\n", 4)
	mustRead(t, "another Owner, another Key", "net 3\nthing 2 2 7\nfar 1 3 7\nthing 1 2 7\nthing 3 1 7\n",
		impl.Net{N: 3, Things: thingsOf([][4]int{{3, 1, 7, 0}, {1, 2, 7, 0}, {2, 2, 7, 0}, {1, 3, 7, 1}})})
}

func TestTheMostLinksAndThings(t *testing.T) {
	x := impl.Net{N: 6, Links: mostLinks(), Things: thingsOf([][4]int{{1, 1, 1, 0}, {2, 1, 2, 1}, {6, 8, 3, 0}, {5, 9, 4, 1}})}
	for number := range 30 {
		d := &draws{state: number}
		mustRead(t, "the most", scriptOf("net 6", mixed(linesOfNet(x), d)), x)
		mustRead(t, "the most, and events", scriptOf("net 6", mixed(linesOfNet(x), d), "tick 6"), x, evTick(6))
		mustFault(t, "one link more", scriptOf("net 6", mixed(linesOfNet(x), d), "link 4 6 1 0", "tick 6"), 18)
		mustFault(t, "one thing more", scriptOf("net 6", mixed(linesOfNet(x), d), "thing 4 5 1"), 18)
		mustFault(t, "one far thing more", scriptOf("net 6", mixed(linesOfNet(x), d), "#", "far 4 5 1"), 19)
	}
}

// What tells of the net stands behind the net line and ahead of all events.
func TestPlacesOfLinksAndThings(t *testing.T) {
	for _, line := range []string{"link 1 2 3 0", "thing 1 4 5", "far 1 4 5"} {
		mustFault(t, "ahead of net", scriptOf(line, "net 2"), 1)
		mustFault(t, "ahead of net, behind a remark", scriptOf("#", "", line, "net 2"), 3)
		mustBeReadBy(t, "behind net", scriptOf("net 2", line))
		for _, event := range []string{"tick 1", "deliver 0", "drop 0", "copy 0", "cut 0", "raise 0", "down 1", "up 1", "bytes 1 61"} {
			mustFault(t, "behind "+event, scriptOf("net 2", event, line), 3)
			mustFault(t, "behind "+event+" and remarks", scriptOf("net 2", "", event, "#", line, "tick 1"), 5)
			mustFault(t, event+" ahead of net", scriptOf(event, "net 2", line), 1)
			if mustBeReadBy(t, "ahead of "+event, scriptOf("net 2", line, event)) != 0 {
				t.Errorf("%s ahead of %s is a fault", line, event)
			}
		}
	}
}

// rightLines have, behind `net 3`, each word once, with as many numbers as it takes.
var rightLines = []string{"link 1 2 3 0", "thing 1 4 5", "far 1 4 5", "tick 1", "deliver 2", "drop 2", "copy 2", "cut 2", "raise 2", "down 1", "up 1", "bytes 1 61"}

func TestWordsWithTooFewAndTooMany(t *testing.T) {
	for _, line := range append([]string{"net 3"}, rightLines...) {
		ahead, number := "net 3\n", 2
		if strings.HasPrefix(line, "net") {
			ahead, number = "", 1
		}
		if mustBeReadBy(t, line, ahead+line) != 0 {
			t.Errorf("%q is a fault", line)
		}
		parts := strings.Fields(line)
		for count := 1; count < len(parts); count++ {
			mustFault(t, "too few", ahead+strings.Join(parts[:count], " "), number)
			mustFault(t, "too few, and a blank", ahead+strings.Join(parts[:count], " ")+" \n", number)
		}
		for _, more := range []string{"0", "1", "2", "61", "x", "#", "# a", parts[0], parts[len(parts)-1], "1 1", "1 1 1"} {
			mustFault(t, "too many", ahead+line+" "+more, number)
			mustFault(t, "too many, ahead", ahead+parts[0]+" "+more+" "+strings.Join(parts[1:], " ")+"\n", number)
		}
	}
}

// Each number of each line in a form that ReadDecimal refuses.
func TestNumbersThatAreNone(t *testing.T) {
	for _, line := range rightLines {
		parts := strings.Fields(line)
		last := len(parts)
		if parts[0] == "bytes" {
			last--
		}
		for at := 1; at < last; at++ {
			for _, none := range []string{"0" + parts[at], "00" + parts[at], "+" + parts[at], "-" + parts[at], "-0", "00", "x", "one", parts[at] + "x", parts[at] + ".", parts[at] + ".0", "0x1", "1e0",
				parts[at] + ",", "1000000001", "9999999999", "9223372036854775808", "18446744073709551617", strings.Repeat("9", 300), "''", "#", "~"} {
				hurt := slices.Clone(parts)
				hurt[at] = none
				mustFault(t, "no number", "net 3\n"+strings.Join(hurt, " "), 2)
			}
		}
	}
}

func TestWordsThatAreNone(t *testing.T) {
	words := []string{"x", "a", "tick:", "-tick", "ticks", "tic", "ti", "link:", "thin", "things", "fare", "fa", "what", "nets", "node", "at", "fault", "1", "0", "~", "!", "n", "t#", "?#", ".", "=", "event",
		"tick1", "deliver0", "tick,", "bytes:", "byte", "rest", "end", "quit", "help", "true", "EvTick", "hello", "sum", "news"}
	for _, line := range append([]string{"net 3"}, rightLines...) {
		word := strings.Fields(line)[0]
		words = append(words, strings.ToUpper(word), strings.ToUpper(word[:1])+word[1:], word+"s", word+word, word[1:], word[:len(word)-1], word+"#", "\""+word+"\"", word+".", "."+word, word+"1")
	}
	for _, word := range words {
		if slices.Contains(eventWords, word) || lineForms[word] != nil {
			continue
		}
		for _, behind := range []string{"", " 1", " 1 2", " 1 61", " 1 4 5", " 1 2 3 0", " 1 2 3 0 0"} {
			mustFault(t, "no word", "net 3\n"+word+behind, 2)
			mustFault(t, "no word, behind an event", "net 3\ntick 1\n\n"+word+behind+"\ntick 1\n", 4)
		}
	}
}

func TestEventsAtTheEdges(t *testing.T) {
	x := impl.Net{N: 3}
	for kind := impl.EvTick; kind <= impl.EvUp; kind++ {
		word := eventWords[kind]
		for _, n := range []int{0, 1, 2, 3, 4, 5, 400, 999999999, 1000000000, 1000000001, math.MaxInt} {
			text := fmt.Sprintf("net 3\n%s %d\n", word, n)
			e := impl.Event{Kind: kind, Node: n}
			fits := 1 <= n && n <= 3
			if slices.Contains(ofPlaces, kind) {
				e.Node, e.At = 1, n
				fits = n <= 1000000000
			}
			if fits {
				mustRead(t, word, text, x, e)
			} else {
				mustFault(t, word, text, 2)
			}
		}
	}
	for n := range 6 {
		text := fmt.Sprintf("net 3\nbytes %d 61\n", n)
		if 1 <= n && n <= 3 {
			mustRead(t, "bytes", text, x, evBytes(n, "a"))
		} else {
			mustFault(t, "bytes", text, 2)
		}
	}
	// N is that of the script's own net.
	for n := 1; n <= 6; n++ {
		for node := range 8 {
			mustBeReadBy(t, "N", fmt.Sprintf("net %d\nup %d\n", n, node))
		}
		mustRead(t, "Node 1 of a place", fmt.Sprintf("net %d\ncut 0\n", n), impl.Net{N: n}, evCut(0))
	}
}

func TestBytesInScripts(t *testing.T) {
	x := impl.Net{N: 2}
	all := ""
	for at := range 256 {
		all += string([]byte{byte(at)})
		text := all[at:]
		mustRead(t, "each byte", fmt.Sprintf("net 2\nbytes 2 %x\n", text), x, evBytes(2, text))
	}
	for _, size := range []int{1, 2, 100, 199, 200, 201, 202, 256} {
		text := strings.Repeat(all, 2)[size : 2*size]
		script := fmt.Sprintf("net 2\n#\nbytes 1 %x", text)
		if size <= 200 {
			mustRead(t, fmt.Sprint(size, " bytes"), script, x, evBytes(1, text))
		} else {
			mustFault(t, fmt.Sprint(size, " bytes"), script, 3)
		}
	}
	for _, figures := range []string{"", " ", "6", "616", "6A", "FF", "0x61", "6g", "g6", "zz", "61 61", "6 1", "-1", "#", "# 61", "61 #", "..", "6:", "/6", "`a", "\x61\x00", "\xff\xff"} {
		mustFault(t, "no figures", "net 2\nbytes 1 "+figures+"\n", 2)
		mustFault(t, "no figures, at the end", "net 2\nbytes 1 "+figures, 2)
	}
	mustFault(t, "no node", "net 2\nbytes 61\n", 2)
	mustFault(t, "the figures first", "net 2\nbytes 6161 1\n", 2)
	// Figures are not read as a number: noughts ahead are not needless there.
	mustRead(t, "noughts", "net 2\nbytes 1 0000\nbytes 1 10\n", x, evBytes(1, "\x00\x00"), evBytes(1, "\x10"))
}

func TestTheMostEvents(t *testing.T) {
	x := twoNodes()
	lines := slices.Concat([]string{lineOfN(x)}, linesOfNet(x))
	for _, e := range []impl.Event{evTick(1), evDeliver(0), evUp(2), evBytes(1, "a")} {
		for _, count := range []int{0, 1, 59, 60} {
			mustRead(t, fmt.Sprint(count, " events"), scriptOf(lines, linesOfEvents(times(count, e))), x, times(count, e)...)
		}
		for _, count := range []int{61, 62, 80} {
			mustFault(t, fmt.Sprint(count, " events"), scriptOf(lines, linesOfEvents(times(count, e))), len(lines)+61)
		}
		most := scriptOf(lines, linesOfEvents(times(60, e)))
		mustRead(t, "idle lines behind", most+"#\n\n#tick 1\n", x, times(60, e)...)
		mustFault(t, "one more behind idle lines", most+"#\n\n#tick 1\ntick 1", len(lines)+64)
		mustFault(t, "what is none behind the most", most+"what\n", len(lines)+61)
		mustFault(t, "a link behind the most", most+"link 1 2 3 2\n", len(lines)+61)
	}
	// An event that is not right is no event, and the fault itself.
	mustFault(t, "the last one is wrong", scriptOf(lines, linesOfEvents(times(59, evTick(1))), "tick 3", "tick 1"), len(lines)+60)
}

func TestLinesThatPartsOfRefuses(t *testing.T) {
	x := impl.Net{N: 2}
	long := func(line string, size int) string { return line + strings.Repeat(" ", size-len(line)) }
	for _, size := range []int{599, 600} {
		mustRead(t, "a long remark", scriptOf("net 2", "#"+strings.Repeat("#", size-1), "tick 1"), x, evTick(1))
		mustRead(t, "a long line of blanks", scriptOf(long("", size), "net 2", "tick 1"), x, evTick(1))
		mustRead(t, "a long event", scriptOf("net 2", long("tick 1", size)), x, evTick(1))
		mustRead(t, "a long net line", scriptOf(strings.Repeat(" ", size-5)+"net 2", "tick 1"), x, evTick(1))
		mustRead(t, "a long line without an end", "net 2\n"+long("tick 1", size), x, evTick(1))
	}
	for _, size := range []int{601, 602, 1200} {
		mustFault(t, "a long remark", scriptOf("net 2", "#"+strings.Repeat("#", size-1), "tick 1"), 2)
		mustFault(t, "a long remark behind all", scriptOf("net 2", "tick 1", long("#", size)), 3)
		mustFault(t, "a long line of blanks", scriptOf(long("", size), "net 2", "tick 1"), 1)
		mustFault(t, "a long event", scriptOf("net 2", long("tick 1", size)), 2)
		mustFault(t, "a long line without an end", "net 2\n\n"+long("tick 1", size), 3)
	}
	for at := range 256 {
		if at == 10 {
			continue
		}
		sign := string([]byte{byte(at)})
		for number, text := range map[int]string{1: "# " + sign + "\nnet 2\n", 2: "net 2\n#" + sign, 3: "net 2\ntick 1\n #" + sign + "a\ntick 2\n"} {
			if at < 32 || at > 126 {
				mustFault(t, fmt.Sprint("the byte ", at, " in a remark"), text, number)
			} else if mustBeReadBy(t, fmt.Sprint("the byte ", at, " in a remark"), text) != 0 {
				t.Errorf("the byte %d in a remark is a fault", at)
			}
		}
		mustBeReadBy(t, fmt.Sprint("the byte ", at), "net 2\n"+sign+"\ntick 1")
		mustBeReadBy(t, fmt.Sprint("the byte ", at), "net 2\ntick"+sign+"1\n")
		mustBeReadBy(t, fmt.Sprint("the byte ", at), "net 2\n"+sign+" 1 2 3\ntick 1")
	}
	mustRead(t, "a remark of ten parts", "net 2\n# 1 2 3 4 5 6 7 8 9\ntick 1\n", x, evTick(1))
	mustFault(t, "a remark of eleven parts", "net 2\n# 1 2 3 4 5 6 7 8 9 10\ntick 1\n", 2)
	mustFault(t, "a remark of eleven parts ahead", "#\n # a b c d e f g h i j\nnet 2\ntick 1\n", 2)
	mustFault(t, "an event of ten parts", "net 2\ntick 1 1 1 1 1 1 1 1 1\n", 2)
	mustFault(t, "a remark of eleven parts alone", "# 1 2 3 4 5 6 7 8 9 10", 1)
	mustFault(t, "refused ahead of a net line that is missing", "#\n#\n\x00\n", 3)
}

// A byte 10 ends a line, whatever stands beside it, and nothing else does.
func TestEndsOfLines(t *testing.T) {
	x := impl.Net{N: 2}
	for _, odd := range []string{"\r", "\v", "\f", "\u0085", "\u2028", "\u010a", "\u0a0a", "\xc0\x8a", "\xe2", "\xe2\x82", "\xf0\x9f\x98", "\x8a", "\xff", "\ufffd", "\x00", "\\n"} {
		mustFault(t, fmt.Sprintf("%q", odd), "net 2"+odd+"tick 1\n", 1)
		mustFault(t, fmt.Sprintf("%q ahead of an end", odd), "net 2\ntick 1"+odd+"\ntick 1\n", 2)
		mustFault(t, fmt.Sprintf("%q behind an end", odd), "net 2\n"+odd+"tick 1\n", 2)
		if odd != "\\n" {
			mustFault(t, fmt.Sprintf("%q in a remark", odd), "#\nnet 2\n#"+odd+"\ntick 1\n", 3)
		}
		mustFault(t, fmt.Sprintf("101 lines of %q", odd), strings.Repeat(odd+"\n", 101), -1)
		mustFault(t, fmt.Sprintf("100 lines of %q", odd), strings.Repeat(odd+"\n", 100), 1)
	}
	mustRead(t, "no end", "net 2\ntick 1", x, evTick(1))
	mustRead(t, "an end", "net 2\ntick 1\n", x, evTick(1))
	mustRead(t, "two ends", "net 2\ntick 1\n\n", x, evTick(1))
	mustRead(t, "ends ahead", "\n\n\nnet 2\n\ntick 1", x, evTick(1))
	mustFault(t, "an end within a line", "net\n2", 1)
	mustFault(t, "an end within an event", "net 2\ntick\n1", 2)
}

func TestTheMostLines(t *testing.T) {
	if impl.MaxScript != 4000 || impl.MaxLines != 100 {
		t.Error("the constants are others")
	}
	x := impl.Net{N: 2}
	for _, idle := range []string{"", "#", " ", "# a"} {
		lines := func(count int) string { return scriptOf("net 2", slices.Repeat([]string{idle}, count-2), "tick 1") }
		for _, count := range []int{99, 100} {
			mustRead(t, fmt.Sprint(count, " lines"), lines(count), x, evTick(1))
			mustRead(t, fmt.Sprint(count, " lines, no end"), strings.TrimSuffix(lines(count), "\n"), x, evTick(1))
			mustFault(t, fmt.Sprint(count, " lines, the last one a fault"), lines(count-1)+"what\n", count)
			mustFault(t, fmt.Sprint(count, " lines, the last one a fault, no end"), lines(count-1)+"what", count)
		}
		for _, count := range []int{101, 102, 200} {
			mustFault(t, fmt.Sprint(count, " lines"), lines(count), -1)
			mustFault(t, fmt.Sprint(count, " lines, no end"), strings.TrimSuffix(lines(count), "\n"), -1)
		}
		mustFault(t, "an empty line more", lines(100)+"\n", -1)
		mustFault(t, "a blank more", lines(100)+" ", -1)
		mustFault(t, "a remark more", lines(100)+"#", -1)
	}
	// A text that is too long has no line of a fault, whatever is in it.
	mustFault(t, "lines without net", strings.Repeat("\n", 101), -1)
	mustFault(t, "a fault in the first line", "what\n"+strings.Repeat("#\n", 100), -1)
	mustFault(t, "a fault in each line", strings.Repeat("\x00\n", 150), -1)
	mustFault(t, "net lines", strings.Repeat("net 2\n", 101), -1)
	mustFault(t, "events", "net 2\n"+strings.Repeat("tick 1\n", 100), -1)
	mustFault(t, "as many events as there are lines for", "net 2\n"+strings.Repeat("tick 1\n", 99), 62)
}

// ofSize makes a text of just so many bytes, of lines that PartsOf takes.
func ofSize(size int, behind string) string {
	text := "net 2\ntick 1\n"
	for len(text)+len(behind) < size {
		left := size - len(text) - len(behind)
		text += strings.Repeat("#", min(left-1, 500)) + "\n"
	}
	return text + behind
}

func TestTheLongestScripts(t *testing.T) {
	x := impl.Net{N: 2}
	for _, behind := range []string{"", "tick 2", "tick 2\n", "#", "\n"} {
		var more []impl.Event
		if strings.HasPrefix(behind, "tick") {
			more = []impl.Event{evTick(2)}
		}
		for _, size := range []int{3998, 3999, 4000, 4001, 4002, 5000} {
			text := ofSize(size, behind)
			if len(text) != size {
				t.Fatalf("%d bytes; want %d", len(text), size)
			}
			if size <= 4000 {
				mustRead(t, fmt.Sprint(size, " bytes"), text, x, eventsOf(evTick(1), more)...)
			} else {
				mustFault(t, fmt.Sprint(size, " bytes"), text, -1)
			}
		}
	}
	whole := ofSize(4000, "# \n")
	mustRead(t, "with its end", whole, x, evTick(1))
	mustRead(t, "without its end", whole[:3999], x, evTick(1))
	mustFault(t, "and one more", whole+"\n", -1)
	mustFault(t, "and a blank", whole+" ", -1)
	mustFault(t, "the longest with a fault at its end", ofSize(4000, "what"), 11)
	// A text that is too long has no line of a fault, whatever is in it.
	mustFault(t, "one line", strings.Repeat("#", 4001), -1)
	mustFault(t, "one line that is not too long", strings.Repeat("#", 4000), 1)
	mustFault(t, "blanks", strings.Repeat(" ", 4001), -1)
	mustFault(t, "a fault in the first line", "what\n"+ofSize(4000, ""), -1)
	mustFault(t, "events", strings.Repeat("tick 1\n", 600), -1)
	mustFault(t, "bytes of all kinds", strings.Repeat("\x00\xff\n", 2000), -1)
	mustFault(t, "much", strings.Repeat("net 1\n", 300000), -1)
}

// hurtScript changes a script somewhere, so that some are right still.
func hurtScript(lines []string, d *draws) string {
	lines = slices.Clone(lines)
	at := d.below(len(lines))
	parts := strings.Fields(lines[at])
	some := []string{"0", "1", "2", "3", "6", "7", "9", "10", "1000", "1001", "00", "01", "-1", "1000000000", "1000000001", "x", "#", "61", "6", "tick", "net", "link", "far", "bytes", "Tick", "\t", "\x80"}
	switch d.below(9) {
	case 0:
		lines = slices.Delete(lines, at, at+1)
	case 1:
		lines = slices.Insert(lines, d.below(len(lines)+1), lines[at])
	case 2:
		other := d.below(len(lines))
		lines[at], lines[other] = lines[other], lines[at]
	case 3:
		if len(parts) > 0 {
			parts[d.below(len(parts))] = some[d.below(len(some))]
		}
		lines[at] = strings.Join(parts, " ")
	case 4:
		parts = slices.Insert(parts, d.below(len(parts)+1), some[d.below(len(some))])
		lines[at] = strings.Join(parts, " ")
	case 5:
		if len(parts) > 0 {
			place := d.below(len(parts))
			parts = slices.Delete(parts, place, place+1)
		}
		lines[at] = strings.Join(parts, " ")
	case 6:
		text := []byte(scriptOf(lines))
		text[d.below(len(text))] = byte(d.below(256))
		return string(text)
	case 7:
		text := scriptOf(lines)
		return text[:d.below(len(text)+1)]
	case 8:
		lines = slices.Insert(lines, d.below(len(lines)+1), idleLines[d.below(len(idleLines))])
	}
	return scriptOf(lines)
}

// Drawn scripts that are hurt, once or more often, answer what the document's words ask.
func TestHurtScripts(t *testing.T) {
	seen := watched{}
	for number := range 300 {
		d := &draws{state: 3*number + 1}
		x, events := drawnLife(t, number)
		events = events[:min(len(events), 3+number%20)]
		for range 20 {
			text := scriptOf(lineOfN(x), linesOfNet(x), linesOfEvents(events))
			for range 1 + d.below(3) {
				text = hurtScript(strings.Split(text, "\n"), d)
			}
			line := mustBeReadBy(t, fmt.Sprint("hurt ", number), text)
			seen.count("right still", line == 0)
			seen.count("first line", line == 1)
			seen.count("a line of the net", 1 < line && line <= 1+len(x.Links)+len(x.Things))
			seen.count("a line of events", line > 1+len(x.Links)+len(x.Things))
		}
	}
	for _, what := range []string{"right still", "first line", "a line of the net", "a line of events"} {
		if seen[what] < 200 {
			t.Errorf("too few of %s: %d", what, seen[what])
		}
	}
}

// Texts made of words, numbers, blanks, ends and any bytes, with no sense.
func TestTextsOfAllKinds(t *testing.T) {
	pieces := []string{"net", "link", "thing", "far", "tick", "deliver", "bytes", "up", " ", " ", " ", "\n", "\n", "0", "1", "2", "3", "6", "61", "#", "\r\n", "\x00", "\xff", "\u010a", "  ", "\nnet 2\n", "\ntick 1\n"}
	for number := range 6000 {
		d := &draws{state: number}
		text := strings.Repeat("net 2\n", d.below(2))
		for range d.below(30) {
			text += pieces[d.below(len(pieces))]
		}
		mustBeReadBy(t, "pieces", text)
	}
	eachText("n1 \n#\xff", 5, func(text string) { mustBeReadBy(t, "small", text) })
	for number := range 300 {
		d := &draws{state: number}
		text := make([]byte, d.below(5000))
		for at := range text {
			text[at] = byte(d.below(256))
		}
		mustBeReadBy(t, "bytes", string(text))
	}
}

func TestShowRouteWrittenOut(t *testing.T) {
	for want, r := range map[string]impl.Route{
		"node 2 cost 3 by 2":                 toNode(impl.WithinArea, 2, 3, 2),
		"node 6 cost 11 by 3 4":              toNode(impl.BeyondArea, 6, 11, 3, 4),
		"thing 5 cost 13 by 2":               toNear(5, 13, 2),
		"thing 5 cost 2 by":                  toNear(5, 2),
		"thing 5 cost 13 far 7 by 1 2 3 4 5": toFar(5, 13, 7, 1, 2, 3, 4, 5),
		"thing 9 cost 0 far 1000 by":         toFar(9, 0, 1000),
		"node 0 cost 0 by":                   {},
		"thing 0 cost 0 by":                  {Thing: true},
		// Far is told of ToFar alone, and of ToFar always.
		"node 1 cost 2 by 4":           {To: 1, Cost: 2, Far: 3, Hops: []int{4}},
		"thing 1 cost 2 by 4":          {Thing: true, Kind: impl.ToThing, To: 1, Cost: 2, Far: 3, Hops: []int{4}},
		"node 1 cost 2 far 3 by 4":     {Kind: impl.ToFar, To: 1, Cost: 2, Far: 3, Hops: []int{4}},
		"thing 1 cost 2 far 0 by 4":    {Thing: true, Kind: impl.ToFar, To: 1, Cost: 2, Hops: []int{4}},
		"node -1 cost -2 by -4 -5":     {To: -1, Cost: -2, Far: -3, Hops: []int{-4, -5}},
		"thing -1 cost -2 far -3 by 0": {Thing: true, Kind: impl.ToFar, To: -1, Cost: -2, Far: -3, Hops: []int{0}},
		"node 9223372036854775807 cost -9223372036854775808 by -9223372036854775808 9223372036854775807": {To: math.MaxInt, Cost: math.MinInt, Hops: []int{math.MinInt, math.MaxInt}},
		"node 3 cost 1 by 2 2 1": {To: 3, Cost: 1, Hops: []int{2, 2, 1}},
	} {
		if got := impl.ShowRoute(r); got != want {
			t.Errorf("ShowRoute(%+v) = %q; want %q", r, got, want)
		}
	}
}

func TestShowRouteOfAllKinds(t *testing.T) {
	for number := range 3000 {
		d := &draws{state: number}
		odd := func() int { return oddInts[d.below(len(oddInts))] }
		r := impl.Route{Thing: d.below(2) == 0, To: odd(), Kind: d.below(8) - 2, Cost: odd(), Far: odd()}
		for range d.below(7) {
			r.Hops = append(r.Hops, odd())
		}
		if d.below(20) == 0 {
			r.Kind = odd()
		}
		if got := impl.ShowRoute(r); got != showBy(r) {
			t.Fatalf("ShowRoute(%+v) = %q; want %q", r, got, showBy(r))
		}
	}
}

func mustConsole(t *testing.T, name, text, want string) {
	t.Helper()
	if got := impl.Console(text); got != want {
		t.Errorf("%s: Console(%q) = %q; want %q", name, text, got, want)
	}
}

func TestConsoleWrittenOut(t *testing.T) {
	mustConsole(t, "a fault", "net 7\n", "fault 1\n")
	mustConsole(t, "a fault in a later line", "net 2\n\ntick 3", "fault 3\n")
	mustConsole(t, "nothing", "", "fault 1\n")
	mustConsole(t, "too long", strings.Repeat("#\n", 101), "fault -1\n")
	mustConsole(t, "no events", "net 1", "at 1\n")
	mustConsole(t, "no events, several nodes", "net 3\nlink 1 2 3 0\n", "at 1\nat 2\nat 3\n")
	mustConsole(t, "no events, things", "net 3\nthing 3 4 5\nfar 1 6 7\nfar 3 5 8\n", "at 1\nthing 6 cost 0 far 7 by\nat 2\nat 3\nthing 4 cost 5 by\nthing 5 cost 0 far 8 by\n")
	mustConsole(t, "one event", "net 1\ntick 1\n", "0\nat 1\n")
	mustConsole(t, "all down", "net 2\ndown 2\ndown 1\ndown 2", "0 0 1\n")
	mustConsole(t, "one down", "net 3\nthing 2 1 1\nthing 3 1 1\ndown 2\n", "0\nat 1\nat 3\nthing 1 cost 1 by\n")
	mustConsole(t, "down and up", "net 2\nup 1\ndown 1\ntick 1\nup 1\ntick 1", "1 0 1 0 0\nat 1\nat 2\n")
	mustConsole(t, "nothing flies", "net 2\nlink 1 2 3 0\ndeliver 0\ndrop 5\ncopy 1\ncut 3\ncut 0\nraise 1000000000\nraise 0\nbytes 1 61\n", "1 1 1 0 1 0 1 1\nat 1\nat 2\n")
	mustConsole(t, "no links", "net 2\ncut 0\nraise 0\ntick 1\ndeliver 0\n", "1 1 0 1\nat 1\nat 2\n")
}

// Hellos, hellos that were heard, and news: both find each other, and the things.
func TestConsoleFindsWays(t *testing.T) {
	net := "net 2\nlink 1 2 3 0\nthing 1 4 5\nfar 2 7 6\n"
	nothing := "at 1\nthing 4 cost 5 by\nat 2\nthing 7 cost 0 far 6 by\n"
	mustConsole(t, "one hears", net+"tick 1\ndeliver 0\n", "0 0\n"+nothing)
	mustConsole(t, "one hears both ways", net+"tick 1\ndeliver 0\ntick 2\ndeliver 0\n", "0 0 0 0\n"+nothing)
	talk := "tick 1\ndeliver 0\ntick 2\ndeliver 0\ndrop 0\ntick 1\ndeliver 0\n" + strings.Repeat("deliver 0\n", 6)
	mustConsole(t, "both find", net+talk, "0 0 0 0 0 0 0 0 0 0 0 0 1\n"+
		"at 1\nnode 2 cost 3 by 2\nthing 4 cost 5 by\nthing 7 cost 3 far 6 by 2\n"+
		"at 2\nnode 1 cost 3 by 1\nthing 4 cost 8 by 1\nthing 7 cost 0 far 6 by\n")
	mustConsole(t, "one finds, the other is down", net+talk+"down 2\n", "0 0 0 0 0 0 0 0 0 0 0 0 1 0\n"+
		"at 1\nnode 2 cost 3 by 2\nthing 4 cost 5 by\nthing 7 cost 3 far 6 by 2\n")
}

// Who is beyond, a thing there, and all Hops, found in just MaxLife events.
func TestConsoleFindsAllHops(t *testing.T) {
	x := square()
	x.Things = thingsOf([][4]int{{5, 2, 4, 0}})
	events := eventsOf(hellosOf(t, x), times(42, evDeliver(0)), evTick(5), times(7, evDeliver(0)))
	mustConsole(t, "the square", scriptOf(lineOfN(x), linesOfNet(x), linesOfEvents(events)), scriptOf(strings.Join(slices.Repeat([]string{"0"}, 60), " "),
		"at 1", "node 2 cost 1 by 2", "node 3 cost 1 by 3", "node 4 cost 2 by 2 3", "node 5 cost 11 by 2 3", "thing 2 cost 15 by 2 3",
		"at 2", "node 1 cost 1 by 1", "node 3 cost 2 by 1 4", "node 4 cost 1 by 4", "node 5 cost 10 by 4", "thing 2 cost 14 by 4",
		"at 3", "node 1 cost 1 by 1", "node 2 cost 2 by 1 4", "node 4 cost 1 by 4", "node 5 cost 10 by 4", "thing 2 cost 14 by 4",
		"at 4", "node 1 cost 2 by 2 3", "node 2 cost 1 by 2", "node 3 cost 1 by 3", "node 5 cost 9 by 5", "thing 2 cost 13 by 5",
		"at 5", "node 4 cost 9 by 4", "node 1 cost 11 by 4", "node 2 cost 10 by 4", "node 3 cost 10 by 4", "thing 2 cost 4 by"))
}

// mustStayScript writes over one answer, and looks whether another one to the same
// text stays as it is, and whether it is answered again.
func mustStayScript(t *testing.T, name, text string) {
	t.Helper()
	text = onHeap(text)
	first, firstEvents, _ := impl.ReadScript(text)
	x, events, line := impl.ReadScript(text)
	wantNet, wantEvents, want := readBy(text)
	mustBe := func(when string, x impl.Net, events []impl.Event, line int) {
		t.Helper()
		if !sameNet(x, wantNet) || !slices.Equal(events, wantEvents) || line != want {
			t.Fatalf("%s, %s: %+v, %s, %d; want %+v, %s, %d", name, when, x, shown(events...), line, wantNet, shown(wantEvents...), want)
		}
	}
	for at, e := range events {
		// A text of one byte is Go's own, of which there is one.
		if len(e.Text) > 1 && (sharesMemory(e.Text, text) || sharesMemory(e.Text, firstEvents[at].Text)) {
			t.Fatalf("%s: %s shares memory", name, shown(e))
		}
	}
	said := impl.Console(text)
	if sharesMemory(said, text) || sharesMemory(text, said) || sharesMemory(said, impl.Console(text)) {
		t.Fatalf("%s: what is told shares memory", name)
	}
	kept := onHeap(said)
	overwriteAll(first.Links, impl.Link{A: -99})
	overwriteAll(first.Things, impl.Thing{Owner: -99})
	overwriteAll(firstEvents, impl.Event{Kind: -99})
	mustBe("one answer written over", x, events, line)
	// Neither is what stands behind one list another one of the answer.
	overwriteAll(x.Links, impl.Link{A: -98})
	if !slices.Equal(x.Things, wantNet.Things) || !slices.Equal(events, wantEvents) {
		t.Fatalf("%s: Links written over", name)
	}
	overwriteAll(x.Things, impl.Thing{Owner: -98})
	overwriteAll(events, impl.Event{Kind: -98})
	x, events, line = impl.ReadScript(text)
	mustBe("asked again", x, events, line)
	if impl.Console(text) != kept {
		t.Fatalf("%s: %q is told again as %q", name, kept, impl.Console(text))
	}
}

func TestScriptsShareNoMemory(t *testing.T) {
	for name, text := range map[string]string{"nothing": "", "one node": "net 1\n", "a fault": "net 2\nlink 1 2 3 0\ntick 1\ntick 9\n", "too long": strings.Repeat("\n", 101),
		"all words": scriptOf("net 3", rightLines[:2], rightLines[3:]), "bytes": "net 1\nbytes 1 6161616161616161\nbytes 1 6161616161616161\n"} {
		mustStayScript(t, name, text)
	}
	for number := range 60 {
		x, events := drawnLife(t, number)
		mustStayScript(t, fmt.Sprint("life ", number), scriptOf(lineOfN(x), linesOfNet(x), linesOfEvents(events)))
	}
}

// What a fault has left unread is not there in the next answer, nor is what was read.
func TestScriptsAreReadAnew(t *testing.T) {
	long := scriptOf("net 6", linesOfNet(impl.Net{Links: mostLinks()}), linesOfEvents(times(60, evTick(1))))
	for range 3 {
		mustFault(t, "a fault at the end", long+"tick 1\n", 74)
		mustRead(t, "a small one behind it", "net 1\ntick 1\n", impl.Net{N: 1}, evTick(1))
		mustRead(t, "a long one", long, impl.Net{N: 6, Links: mostLinks()}, times(60, evTick(1))...)
		mustFault(t, "none behind it", "tick 1\n", 1)
		mustFault(t, "a link without a net", "link 1 2 3 0\n", 1)
	}
}

func TestShowRouteLeavesHopsAlone(t *testing.T) {
	hops := withRoom([]int{3, 1, 2}, 77, 78)
	r := impl.Route{Thing: true, To: 4, Kind: impl.ToFar, Cost: 5, Far: 6, Hops: hops}
	first, second := impl.ShowRoute(r), impl.ShowRoute(r)
	if first != "thing 4 cost 5 far 6 by 3 1 2" || second != first || sharesMemory(first, second) {
		t.Errorf("%q, %q", first, second)
	}
	if full := inFullOf(hops); !slices.Equal(full[:5], []int{3, 1, 2, 77, 78}) || len(r.Hops) != 3 {
		t.Errorf("Hops are %v", full)
	}
	overwriteAll(hops, 9)
	if first != "thing 4 cost 5 far 6 by 3 1 2" {
		t.Errorf("behind it: %q", first)
	}
}
