package tests

import (
	"math"
	"math/big"
	"slices"
	"strings"
	"testing"
	"unsafe"

	"loop.example/g00177/impl"
)

// Numbers around each place where VarText grows by a byte, and around the limit.
var varNumbers = []int{
	0, 1, 2, 63, 64, 126, 127, 128, 129, 255, 256, 300, 16383, 16384, 16385,
	2097151, 2097152, 2097153, 268435455, 268435456, 268435457, 999999999, 1000000000,
}

// sharesMemory tells whether a piece lies in the memory of the whole.
func sharesMemory(piece, whole string) bool {
	if piece == "" || whole == "" {
		return false
	}
	at := uintptr(unsafe.Pointer(unsafe.StringData(piece)))
	from := uintptr(unsafe.Pointer(unsafe.StringData(whole)))
	return at >= from && at < from+uintptr(len(whole))
}

// onHeap makes a text that no constant shares its memory with.
func onHeap(text string) string {
	return string([]byte(text))
}

// eachText calls f with every text of at most size bytes, all of them of the given ones.
func eachText(bytes string, size int, f func(text string)) {
	f("")
	texts := []string{""}
	for range size {
		var longer []string
		for _, text := range texts {
			for i := range len(bytes) {
				longer = append(longer, text+bytes[i:i+1])
			}
		}
		for _, text := range longer {
			f(text)
		}
		texts = longer
	}
}

func TestVarTextWrites(t *testing.T) {
	for _, c := range []struct {
		n    int
		want string
	}{
		{0, "\x00"}, {1, "\x01"}, {127, "\x7f"}, {128, "\x80\x01"}, {129, "\x81\x01"},
		{255, "\xff\x01"}, {300, "\xac\x02"}, {16383, "\xff\x7f"}, {16384, "\x80\x80\x01"},
		{2097151, "\xff\xff\x7f"}, {2097152, "\x80\x80\x80\x01"},
		{268435455, "\xff\xff\xff\x7f"}, {268435456, "\x80\x80\x80\x80\x01"},
		{impl.MaxNumber, "\x80\x94\xeb\xdc\x03"},
	} {
		if s, ok := impl.VarText(c.n); !ok || s != c.want {
			t.Errorf("VarText(%d) = %q, %v; want %q", c.n, s, ok, c.want)
		}
	}
}

func TestVarTextRefuses(t *testing.T) {
	for _, n := range []int{-1, -128, impl.MaxNumber + 1, math.MinInt, math.MaxInt, 1 << 32, 1 << 35} {
		if s, ok := impl.VarText(n); ok || s != "" {
			t.Errorf("VarText(%d) = %q, %v", n, s, ok)
		}
	}
}

func TestVarTextIsReadBack(t *testing.T) {
	numbers := slices.Clone(varNumbers)
	for n := range 20000 {
		numbers = append(numbers, n)
	}
	for n := 20011; n <= impl.MaxNumber; n += 99991 {
		numbers = append(numbers, n)
	}
	for _, n := range numbers {
		s, ok := impl.VarText(n)
		if !ok {
			t.Fatalf("VarText(%d) is refused", n)
		}
		for _, ahead := range []string{"", "\x00", "\x80\xff"} {
			for _, behind := range []string{"", "\x00", "\x80", "\xff\x01"} {
				got, next, ok := impl.ReadVar(ahead+s+behind, len(ahead))
				if !ok || got != n || next != len(ahead)+len(s) {
					t.Fatalf("ReadVar of %d: %d, %d, %v", n, got, next, ok)
				}
			}
		}
	}
}

func TestReadVarRefuses(t *testing.T) {
	for _, c := range []struct {
		text string
		at   int
	}{
		{"", 0}, {"", 1}, {"", -1}, // nothing there
		{"\x05", 1}, {"\x05", 2}, {"\x05", -1}, {"\x05", math.MaxInt}, {"\x05", math.MinInt},
		{"\x80", 0}, {"\x80\x80", 0}, {"\xff\xff\xff\xff", 0}, {"\x01\x80", 1}, // cut short
		{"\x80\x94\xeb\xdc", 0},
		{"\x80\x00", 0}, {"\x85\x00", 0}, {"\xff\x00", 0}, {"\x80\x80\x00", 0}, // longer forms
		{"\xac\x82\x00", 0}, {"\x00\x80\x00", 1}, {"\x80\x94\xeb\xdc\x83\x00", 0},
		{"\x81\x94\xeb\xdc\x03", 0}, {"\xff\xff\xff\xff\x03", 0}, // above MaxNumber
		{"\x80\x80\x80\x80\x04", 0}, {"\xff\xff\xff\xff\x7f", 0}, {"\x80\x80\x80\x80\x80\x01", 0},
		{"\x80\x80\x80\x80\x80\x80\x80\x80\x80\x01", 0}, // wraps round 64 bits
		{"\x80\x80\x80\x80\x80\x80\x80\x80\x80\x80\x01", 0},
		{"\x81\x80\x80\x80\x80\x80\x80\x80\x80\x80\x02", 0},
		{"\xff\xff\xff\xff\xff\xff\xff\xff\xff\x01", 0},
		{strings.Repeat("\x80", 8) + "\x7f", 0}, {strings.Repeat("\xff", 8) + "\x40", 0},
		{strings.Repeat("\x80", 50) + "\x01", 0}, {strings.Repeat("\x80", 20000), 0},
	} {
		if n, next, ok := impl.ReadVar(c.text, c.at); ok || n != 0 || next != 0 {
			t.Errorf("ReadVar(%.20q, %d) = %d, %d, %v", c.text, c.at, n, next, ok)
		}
	}
}

// What is read is always what would be written, and what was written is always read.
func TestReadVarReadsWhatIsWrittenAlone(t *testing.T) {
	eachText("\x00\x01\x02\x7f\x80\x81\xff", 4, func(text string) {
		for at := -1; at <= len(text)+1; at++ {
			n, next, ok := impl.ReadVar(text, at)
			if ok {
				s, fine := impl.VarText(n)
				if !fine || at < 0 || next > len(text) || text[at:next] != s {
					t.Fatalf("ReadVar(%q, %d) = %d, %d", text, at, n, next)
				}
			} else if n != 0 || next != 0 {
				t.Fatalf("ReadVar(%q, %d) is false beside %d, %d", text, at, n, next)
			}
			if at >= 0 && at < len(text) && text[at] < 128 && !ok {
				t.Fatalf("ReadVar(%q, %d) is refused", text, at)
			}
		}
	})
}

func TestShortTextIsReadBack(t *testing.T) {
	for _, s := range []string{
		"", "a", "\x00", "\x80\xff", "a b\n", strings.Repeat("x", 127), strings.Repeat("y", 128),
		strings.Repeat("\xff", 16384), strings.Repeat("z", impl.MaxText-1), strings.Repeat("\x00", impl.MaxText),
	} {
		size, _ := impl.VarText(len(s))
		short, ok := impl.ShortText(s)
		if !ok || short != size+s {
			t.Fatalf("ShortText of %d bytes: %v", len(s), ok)
		}
		for _, ahead := range []string{"", "\x05", "\x80\x80"} {
			for _, behind := range []string{"", "\x00", "more"} {
				text := ahead + short + behind
				got, next, ok := impl.ReadShort(text, len(ahead))
				if !ok || got != s || next != len(ahead)+len(short) {
					t.Fatalf("ReadShort of %d bytes: %d bytes, %d, %v", len(s), len(got), next, ok)
				}
				if sharesMemory(got, text) {
					t.Fatalf("ReadShort of %d bytes shares memory with its argument", len(s))
				}
			}
		}
		if sharesMemory(short, s) {
			t.Fatalf("ShortText of %d bytes shares memory with its argument", len(s))
		}
	}
}

func TestShortTextRefuses(t *testing.T) {
	for _, size := range []int{impl.MaxText + 1, 2 * impl.MaxText} {
		if s, ok := impl.ShortText(strings.Repeat("x", size)); ok || s != "" {
			t.Errorf("ShortText of %d bytes: %d bytes, %v", size, len(s), ok)
		}
	}
}

func TestReadShortRefuses(t *testing.T) {
	size, _ := impl.VarText(impl.MaxText + 1)
	most, _ := impl.VarText(impl.MaxText)
	huge, _ := impl.VarText(impl.MaxNumber)
	full := strings.Repeat("x", impl.MaxText)
	for _, c := range []struct {
		text string
		at   int
	}{
		{"", 0}, {"", -1}, {"", 1}, {"\x01a", 2}, {"\x01a", 3}, {"\x01a", -1},
		{"\x00", math.MinInt}, {"\x00", math.MaxInt},
		{"\x01", 0}, {"\x02a", 0}, {"a\x03bc", 1}, {most + full[1:], 0}, // cut short
		{"\x80", 0}, {"\x80\x00", 0}, {"\x81\x00a", 0}, // no number, longer forms of one
		{size + full + "x", 0}, {size + full + "xxx", 0}, // longer than MaxText
		{huge + full, 0}, {"\xff\xff\xff\xff\x7f" + full, 0},
	} {
		if s, next, ok := impl.ReadShort(c.text, c.at); ok || s != "" || next != 0 {
			t.Errorf("ReadShort(%.10q, %d) = %.10q, %d, %v", c.text, c.at, s, next, ok)
		}
	}
}

func TestHexIsReadBack(t *testing.T) {
	var every []byte
	for b := range 256 {
		every = append(every, byte(b))
	}
	for _, text := range []string{
		"", "\x00", "a", string(every), strings.Repeat("\xf0", impl.MaxText-1), strings.Repeat("\x0f", impl.MaxText),
	} {
		text = onHeap(text)
		h, ok := impl.Hex(text)
		if !ok || len(h) != 2*len(text) {
			t.Fatalf("Hex of %d bytes: %d figures, %v", len(text), len(h), ok)
		}
		if got, ok := impl.Unhex(h); !ok || got != text {
			t.Fatalf("Unhex of Hex of %d bytes: %d bytes, %v", len(text), len(got), ok)
		}
	}
}

func TestHexWrites(t *testing.T) {
	for text, want := range map[string]string{
		"": "", "\x00": "00", "\x09\x0a": "090a", "\x1f": "1f", "\xf1": "f1", "az~": "617a7e", "\xab\xcd\xef": "abcdef",
	} {
		if h, ok := impl.Hex(text); !ok || h != want {
			t.Errorf("Hex(%q) = %q, %v; want %q", text, h, ok, want)
		}
	}
	for _, size := range []int{impl.MaxText + 1, 2 * impl.MaxText} {
		if h, ok := impl.Hex(strings.Repeat("x", size)); ok || h != "" {
			t.Errorf("Hex of %d bytes: %d figures, %v", size, len(h), ok)
		}
	}
}

func TestUnhexRefuses(t *testing.T) {
	for _, text := range []string{
		"0", "a", "abc", "00000", "g0", "0g", "A0", "0A", "aF", "0x", " 0", "0 ", "-1", "+1", "1\n",
		"/0", "0/", ":0", "0:", "`0", "0`", "\x0000", "00\xff0", "0\x80", "00zz", "zz00", "é",
		strings.Repeat("0", 2*impl.MaxText+1), strings.Repeat("0", 2*impl.MaxText+2),
		strings.Repeat("0", 2*impl.MaxText-1), strings.Repeat("0", 2*impl.MaxText-1) + "g",
	} {
		if s, ok := impl.Unhex(text); ok || s != "" {
			t.Errorf("Unhex(%.10q) = %.10q, %v", text, s, ok)
		}
	}
}

// Two figures are read just when both of them are figures that Hex writes.
func TestUnhexOfAnyTwoBytes(t *testing.T) {
	const figures = "0123456789abcdef"
	for a := range 256 {
		for b := range 256 {
			high, low := strings.IndexByte(figures, byte(a)), strings.IndexByte(figures, byte(b))
			want := ""
			if high >= 0 && low >= 0 {
				want = string([]byte{byte(16*high + low)})
			}
			text := string([]byte{byte(a), byte(b)})
			if s, ok := impl.Unhex(text); s != want || ok != (want != "") {
				t.Fatalf("Unhex(%q) = %q, %v; want %q", text, s, ok, want)
			}
		}
	}
}

func TestDecimalWrites(t *testing.T) {
	for n, want := range map[int]string{
		0: "0", 1: "1", 9: "9", 10: "10", 99: "99", 100: "100", 101: "101", 1000000000: "1000000000",
		-1: "-1", -5: "-5", -10: "-10", -1000000000: "-1000000000", 1000000001: "1000000001",
		math.MaxInt: "9223372036854775807", math.MinInt: "-9223372036854775808",
		math.MaxInt - 1: "9223372036854775806", math.MinInt + 1: "-9223372036854775807",
	} {
		if s := impl.Decimal(n); s != want {
			t.Errorf("Decimal(%d) = %q", n, s)
		}
	}
	for shift := range 64 {
		for off := -2; off <= 2; off++ {
			n := 1<<shift + off // wraps round at the end
			if s := impl.Decimal(n); s != big.NewInt(int64(n)).String() {
				t.Errorf("Decimal(%d) = %q", n, s)
			}
		}
	}
}

func TestDecimalIsReadBack(t *testing.T) {
	numbers := slices.Clone(varNumbers)
	for n := range 20000 {
		numbers = append(numbers, n)
	}
	for n := 20011; n <= impl.MaxNumber; n += 99991 {
		numbers = append(numbers, n)
	}
	for _, n := range numbers {
		if got, ok := impl.ReadDecimal(impl.Decimal(n)); !ok || got != n {
			t.Fatalf("ReadDecimal of %d: %d, %v", n, got, ok)
		}
	}
	for _, n := range []int{-1, -9, -1000, impl.MaxNumber + 1, 2 * impl.MaxNumber, math.MaxInt, math.MinInt} {
		if got, ok := impl.ReadDecimal(impl.Decimal(n)); ok || got != 0 {
			t.Errorf("ReadDecimal of %d: %d, %v", n, got, ok)
		}
	}
}

func TestReadDecimalRefuses(t *testing.T) {
	for _, text := range []string{
		"", "00", "01", "000", "007", "0000000001", "+0", "+1", "-0", "-1", "-", "+", " 1", "1 ", "1 2",
		"a", "1a", "a1", "0a", "0x1", "1e3", "1_000", "1.0", "1\n", "\x00", "1\x00", "/", ":", "1/", "1:", "\xff", "٣",
		"1000000001", "1000000010", "9999999999", "10000000000", "01000000000",
		"9223372036854775808", "18446744073709551616", "18446744073709551617", strings.Repeat("9", 500),
		"1" + strings.Repeat("0", 64), strings.Repeat("0", 20000),
	} {
		if n, ok := impl.ReadDecimal(text); ok || n != 0 {
			t.Errorf("ReadDecimal(%.30q) = %d, %v", text, n, ok)
		}
	}
}

// What is read is always what would be written, and what was written is always read.
func TestReadDecimalReadsWhatIsWrittenAlone(t *testing.T) {
	written := map[string]int{}
	for n := range 10000 {
		written[big.NewInt(int64(n)).String()] = n
	}
	eachText("0159-+ a/:", 4, func(text string) {
		want, wanted := written[text]
		if n, ok := impl.ReadDecimal(text); ok != wanted || n != want {
			t.Fatalf("ReadDecimal(%q) = %d, %v", text, n, ok)
		}
	})
}

func TestPartsOf(t *testing.T) {
	ten := "a b c d e f g h i j"
	for _, c := range []struct {
		line string
		want []string
	}{
		{"", nil}, {" ", nil}, {"     ", nil}, {strings.Repeat(" ", impl.MaxWords), nil},
		{"a", []string{"a"}}, {" a", []string{"a"}}, {"a ", []string{"a"}}, {"  a  ", []string{"a"}},
		{" tick  1 2 ", []string{"tick", "1", "2"}}, {"b a a", []string{"b", "a", "a"}},
		{"!~", []string{"!~"}}, {"#x  y", []string{"#x", "y"}},
		{ten, strings.Split(ten, " ")}, {"  " + ten + "  ", strings.Split(ten, " ")},
		{strings.Repeat("x", impl.MaxWords), []string{strings.Repeat("x", impl.MaxWords)}},
		{strings.Repeat(" ", impl.MaxWords-1) + "x", []string{"x"}},
	} {
		line := onHeap(c.line)
		parts, ok := impl.PartsOf(line)
		if !ok || !slices.Equal(parts, c.want) {
			t.Errorf("PartsOf(%.30q) = %.30q, %v", c.line, parts, ok)
		}
		for _, part := range parts {
			if sharesMemory(part, line) {
				t.Errorf("PartsOf(%.30q) shares memory with its argument", c.line)
			}
		}
	}
}

func TestPartsOfRefuses(t *testing.T) {
	for _, line := range []string{
		"a b c d e f g h i j k", " a b c d e f g h i j k ", strings.Repeat("a ", 300),
		strings.Repeat("x", impl.MaxWords+1), strings.Repeat(" ", impl.MaxWords+1), strings.Repeat("x", impl.MaxText),
		"é", "a\u00a0b", "a\u2003b",
	} {
		if parts, ok := impl.PartsOf(line); ok || len(parts) != 0 {
			t.Errorf("PartsOf(%.30q) = %.30q, %v", line, parts, ok)
		}
	}
}

// A byte outside 32 .. 126 is refused, wherever it stands in the line.
func TestPartsOfAnyByte(t *testing.T) {
	for b := range 256 {
		for _, ahead := range []string{"", "a", "a ", " "} {
			for _, behind := range []string{"", "a", " a", " "} {
				line := ahead + string([]byte{byte(b)}) + behind
				parts, ok := impl.PartsOf(line)
				if ok != (b >= 32 && b <= 126) {
					t.Fatalf("PartsOf(%q) = %q, %v", line, parts, ok)
				}
				if !ok && len(parts) != 0 {
					t.Fatalf("PartsOf(%q) is false beside %q", line, parts)
				}
			}
		}
	}
}

// The parts of any line are what stands between its blanks.
func TestPartsOfStandBetweenBlanks(t *testing.T) {
	eachText(" ab", 7, func(line string) {
		var want []string
		for _, piece := range strings.Split(line, " ") {
			if piece != "" {
				want = append(want, piece)
			}
		}
		if parts, ok := impl.PartsOf(line); !ok || !slices.Equal(parts, want) {
			t.Fatalf("PartsOf(%q) = %q, %v", line, parts, ok)
		}
	})
}
