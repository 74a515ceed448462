package tests

import (
	"math"
	"math/bits"
	"strings"
	"testing"

	"loop.example/g00177/impl"
)

// Texts of many lengths and kinds, the empty and the longest one among them.
var sumTexts = []string{
	"", "\x00", "\x01", "\x80", "\xff", "a", "abc", "123456789", "\x00\x00\x00\x00", "\xff\xff\xff\xff",
	"\x00\x00\x00\x00\x00", "\xff\xff\xff\xff\xff", "abcdefgh\x00\x80\xff and so on\n",
	strings.Repeat("\x00", 300), strings.Repeat("ab\xfe", 100),
	strings.Repeat("x", impl.MaxText-1), strings.Repeat("\xff", impl.MaxText),
}

// sumByBits is the rule of the document, bit by bit.
func sumByBits(sum uint32, text string) uint32 {
	for i := range len(text) {
		sum ^= uint32(text[i])
		for range 8 {
			odd := sum%2 == 1
			sum /= 2
			if odd {
				sum ^= 3558460437
			}
		}
	}
	return sum
}

// sealedBy is a text and a sum, the highest byte first.
func sealedBy(text string, sum uint32) string {
	return text + string([]byte{byte(sum >> 24), byte(sum >> 16), byte(sum >> 8), byte(sum)})
}

// someSums are 0, 4294967295, those of one bit, those that lack one, and some between.
func someSums() []uint32 {
	sums := []uint32{0, math.MaxUint32, 3558460437, 0x12345678, 0xfedcba98, 0x80000001, 0x7ffffffe}
	for shift := range 32 {
		sums = append(sums, 1<<shift, ^uint32(1<<shift))
	}
	return sums
}

func mustBeRefused(t *testing.T, text string) {
	t.Helper()
	if s, ok := impl.Unsealed(text); ok || s != "" {
		t.Fatalf("Unsealed of %d bytes, %.20q: %.20q, %v", len(text), text, s, ok)
	}
}

func mustSeal(t *testing.T, text string) string {
	t.Helper()
	sealed, ok := impl.Sealed(text)
	if !ok {
		t.Fatalf("Sealed of %d bytes is refused", len(text))
	}
	return sealed
}

func TestSumsOfKnownTexts(t *testing.T) {
	for _, c := range []struct {
		sum  uint32
		text string
		want uint32
	}{
		{0, "", 0}, {0, "\x00", 0}, {0, "\x00\x00\x00", 0},
		{0, "\x80", 3558460437}, {128, "\x00", 3558460437}, {0x1000, "\x00", 0x10},
		{0, "\x01", 0x2bddd04f}, {1, "\x00", 0x2bddd04f}, {1, "\x01", 0},
		{math.MaxUint32, "", math.MaxUint32}, {math.MaxUint32, "\xff", 0x00ffffff},
		{math.MaxUint32, "123456789", 0x78ceaa89},
	} {
		if sum := impl.SumMore(c.sum, c.text); sum != c.want {
			t.Errorf("SumMore(%#x, %q) = %#x; want %#x", c.sum, c.text, sum, c.want)
		}
	}
	if sum := impl.SumOf("123456789"); sum != 0x78ceaa89 {
		t.Errorf("SumOf = %#x", sum)
	}
	if sum := impl.SumOf(""); sum != 4294967295 {
		t.Errorf("SumOf nothing = %#x", sum)
	}
}

// Every byte, behind many sums, and every text go by the document's rule.
func TestSumsGoByBits(t *testing.T) {
	for _, sum := range someSums() {
		for b := range 256 {
			text := string([]byte{byte(b)})
			if got, want := impl.SumMore(sum, text), sumByBits(sum, text); got != want {
				t.Fatalf("SumMore(%#x, %q) = %#x; want %#x", sum, text, got, want)
			}
		}
	}
	for _, text := range sumTexts {
		for _, sum := range []uint32{0, 1, 0x80000000, 0xdeadbeef, math.MaxUint32} {
			if got, want := impl.SumMore(sum, text), sumByBits(sum, text); got != want {
				t.Fatalf("SumMore of %#x and %d bytes = %#x; want %#x", sum, len(text), got, want)
			}
		}
		if got, want := impl.SumOf(text), sumByBits(math.MaxUint32, text); got != want {
			t.Fatalf("SumOf %d bytes = %#x; want %#x", len(text), got, want)
		}
	}
}

// A sum has no limit of its own: only what is sealed has one.
func TestSumsOfLongTexts(t *testing.T) {
	for _, size := range []int{impl.MaxText + 1, 3*impl.MaxText + 7} {
		text := strings.Repeat("n", size)
		if got, want := impl.SumOf(text), sumByBits(math.MaxUint32, text); got != want {
			t.Errorf("SumOf %d bytes = %#x; want %#x", size, got, want)
		}
	}
}

func TestSumMoreOfNothing(t *testing.T) {
	for _, sum := range someSums() {
		if got := impl.SumMore(sum, ""); got != sum {
			t.Errorf("SumMore(%#x, nothing) = %#x", sum, got)
		}
	}
}

func TestSumMoreGoesOnWhereSumOfStopped(t *testing.T) {
	for _, text := range sumTexts {
		step := 1 + len(text)/50
		for cut := 0; cut <= len(text); cut += step {
			if got := impl.SumMore(impl.SumOf(text[:cut]), text[cut:]); got != impl.SumOf(text) {
				t.Fatalf("%d bytes, cut at %d: %#x, not %#x", len(text), cut, got, impl.SumOf(text))
			}
		}
	}
}

func TestSumMoreInPieces(t *testing.T) {
	text := "abcdefgh\x00\x80\xff and so on\n"
	for _, first := range someSums() {
		want := impl.SumMore(first, text)
		for size := 1; size <= len(text); size++ {
			sum := first
			for at := 0; at < len(text); at += size {
				sum = impl.SumMore(sum, text[at:min(at+size, len(text))])
			}
			if sum != want {
				t.Fatalf("from %#x in pieces of %d: %#x, not %#x", first, size, sum, want)
			}
		}
	}
}

// Of two sums that differ, or two bytes, the sums behind them differ: what one turned byte does is never lost.
func TestSumsStayApart(t *testing.T) {
	seen := map[uint32]int{}
	for b := range 256 {
		sum := impl.SumMore(math.MaxUint32, string([]byte{byte(b)}))
		if other, ok := seen[sum]; ok {
			t.Fatalf("the bytes %d and %d have one sum", b, other)
		}
		seen[sum] = b
	}
	for _, sum := range someSums() {
		for shift := range 32 {
			if impl.SumMore(sum, "abcdef") == impl.SumMore(sum^1<<shift, "abcdef") {
				t.Fatalf("%#x and it with the bit %d turned come together", sum, shift)
			}
		}
	}
}

func TestSealedIsUnsealed(t *testing.T) {
	for _, text := range sumTexts {
		text = onHeap(text)
		sealed := mustSeal(t, text)
		if want := sealedBy(text, sumByBits(math.MaxUint32, text)); sealed != want {
			t.Fatalf("Sealed of %d bytes: %d bytes, %.20q", len(text), len(sealed), sealed)
		}
		got, ok := impl.Unsealed(sealed)
		if !ok || got != text {
			t.Fatalf("Unsealed of Sealed of %d bytes: %d bytes, %v", len(text), len(got), ok)
		}
		if sharesMemory(sealed, text) || sharesMemory(got, sealed) {
			t.Fatalf("what is answered of %d bytes shares memory with what was given", len(text))
		}
	}
}

func TestSealedOfKnownTexts(t *testing.T) {
	for text, want := range map[string]string{
		"": "\xff\xff\xff\xff", "\xff": "\xff\x00\xff\xff\xff", "123456789": "123456789\x78\xce\xaa\x89",
	} {
		if sealed, ok := impl.Sealed(text); !ok || sealed != want {
			t.Errorf("Sealed(%q) = %q, %v", text, sealed, ok)
		}
		if got, ok := impl.Unsealed(want); !ok || got != text {
			t.Errorf("Unsealed(%q) = %q, %v", want, got, ok)
		}
	}
}

func TestSealedTwice(t *testing.T) {
	text := "a text that is sealed in a sealed one"
	twice := mustSeal(t, mustSeal(t, text))
	once, ok := impl.Unsealed(twice)
	if !ok || once != mustSeal(t, text) {
		t.Fatalf("Unsealed once: %q, %v", once, ok)
	}
	if got, ok := impl.Unsealed(once); !ok || got != text {
		t.Fatalf("Unsealed twice: %q, %v", got, ok)
	}
}

func TestSealedRefuses(t *testing.T) {
	for _, size := range []int{impl.MaxText + 1, impl.MaxText + 4, 2 * impl.MaxText} {
		if s, ok := impl.Sealed(strings.Repeat("x", size)); ok || s != "" {
			t.Errorf("Sealed of %d bytes: %d bytes, %v", size, len(s), ok)
		}
	}
}

// A right sum alone does not do: a text longer than MaxText has no Sealed.
func TestUnsealedOfTheLongest(t *testing.T) {
	for _, size := range []int{impl.MaxText - 1, impl.MaxText} {
		text := strings.Repeat("\x5a", size)
		if got, ok := impl.Unsealed(sealedBy(text, sumByBits(math.MaxUint32, text))); !ok || got != text {
			t.Errorf("Unsealed of %d bytes: %d bytes, %v", size+4, len(got), ok)
		}
	}
	for _, size := range []int{impl.MaxText + 1, impl.MaxText + 4, 2 * impl.MaxText} {
		text := strings.Repeat("\x5a", size)
		mustBeRefused(t, sealedBy(text, sumByBits(math.MaxUint32, text)))
	}
}

func TestUnsealedOfShortTexts(t *testing.T) {
	eachText("\x00\x01\x80\xfe\xff", 5, func(text string) {
		size := len(text) - 4
		sealed := size >= 0 && text == sealedBy(text[:size], sumByBits(math.MaxUint32, text[:size]))
		got, ok := impl.Unsealed(text)
		if ok != sealed || !sealed && got != "" || sealed && got != text[:size] {
			t.Fatalf("Unsealed(%q) = %q, %v", text, got, ok)
		}
	})
	for b := range 256 {
		text := string([]byte{byte(b)})
		sealed := sealedBy(text, sumByBits(math.MaxUint32, text))
		if got, ok := impl.Unsealed(sealed); !ok || got != text {
			t.Fatalf("Unsealed(%q) = %q, %v", sealed, got, ok)
		}
	}
}

func TestOneByteTurnedIsRefused(t *testing.T) {
	for _, text := range sumTexts {
		if len(text) > 300 {
			continue
		}
		sealed := []byte(mustSeal(t, text))
		for at, was := range sealed {
			for by := 1; by < 256; by++ {
				sealed[at] = was ^ byte(by)
				mustBeRefused(t, string(sealed))
			}
			sealed[at] = was
		}
	}
}

func TestOneByteOfTheLongestTurnedIsRefused(t *testing.T) {
	for _, text := range []string{strings.Repeat("\xff", impl.MaxText), strings.Repeat("ab", impl.MaxText/2)} {
		sealed := []byte(mustSeal(t, text))
		for at := 0; at < len(sealed); at += 61 {
			sealed[at] ^= byte(1 + at%255)
			mustBeRefused(t, string(sealed))
			sealed[at] ^= byte(1 + at%255)
		}
		for at := len(sealed) - 8; at < len(sealed); at++ {
			for shift := range 8 {
				sealed[at] ^= 1 << shift
				mustBeRefused(t, string(sealed))
				sealed[at] ^= 1 << shift
			}
		}
	}
}

func TestSumInAnotherOrderIsRefused(t *testing.T) {
	for _, text := range []string{"abc", "123456789", "", "\xff"} {
		sealed := mustSeal(t, text)
		sum := sealed[len(text):]
		eachText("\x00\x01\x02\x03", 4, func(order string) {
			if len(order) < 4 {
				return
			}
			var other []byte
			for i := range 4 {
				other = append(other, sum[order[i]])
			}
			if string(other) != sum {
				mustBeRefused(t, text+string(other))
			}
		})
		if text != "" {
			mustBeRefused(t, sum+text)
		}
	}
}

func TestAByteCutOffOrPutOnIsRefused(t *testing.T) {
	for _, text := range []string{"abc", "123456789", "\x00", "\xff\xfe", strings.Repeat("x", impl.MaxText)} {
		sealed := mustSeal(t, text)
		mustBeRefused(t, sealed[1:])
		mustBeRefused(t, sealed[:len(sealed)-1])
		for b := range 256 {
			more := string([]byte{byte(b)})
			mustBeRefused(t, more+sealed)
			mustBeRefused(t, sealed+more)
			if len(text) > 300 {
				break
			}
		}
	}
}

// Another sum, as a sealing of another rule would have it, does not do.
func TestOtherSumsAreRefused(t *testing.T) {
	for _, text := range []string{"", "abc", "123456789"} {
		sum := sumByBits(math.MaxUint32, text)
		for _, other := range []uint32{^sum, sum + 1, sum - 1, sumByBits(0, text), bits.Reverse32(sum)} {
			if other != sum {
				mustBeRefused(t, sealedBy(text, other))
			}
		}
		if text != "" {
			mustBeRefused(t, text+sealedBy(text, sum))
		}
	}
}
