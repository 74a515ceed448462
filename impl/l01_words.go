package impl

import (
	"strconv"
	"strings"
)

const (
	MaxText   = 20000
	MaxNumber = 1000000000
	MaxWords  = 600
	MaxParts  = 10
)

const hexFigures = "0123456789abcdef"

func VarText(n int) (string, bool) {
	if n < 0 || n > MaxNumber {
		return "", false
	}
	var out []byte
	for ; n > 127; n /= 128 {
		out = append(out, byte(n%128+128))
	}
	return string(append(out, byte(n))), true
}

func ReadVar(text string, at int) (int, int, bool) {
	if at < 0 || at > len(text) {
		return 0, 0, false
	}
	n, i := 0, at
	// A byte whose scale is above MaxNumber can but make a number too great or
	// a longer form, so the loop ends there and nothing overflows.
	for scale := 1; i < len(text) && scale <= MaxNumber; scale *= 128 {
		c := int(text[i])
		n += c % 128 * scale
		i++
		if c > 127 {
			continue
		}
		longer := c == 0 && i > at+1
		if longer || n > MaxNumber {
			break
		}
		return n, i, true
	}
	return 0, 0, false
}

func ShortText(s string) (string, bool) {
	if len(s) > MaxText {
		return "", false
	}
	size, ok := VarText(len(s))
	return size + s, ok
}

func ReadShort(text string, at int) (string, int, bool) {
	size, from, ok := ReadVar(text, at)
	if !ok || size > MaxText || size > len(text)-from {
		return "", 0, false
	}
	// Cloned, as a piece of text would share its memory.
	return strings.Clone(text[from : from+size]), from + size, true
}

func Hex(text string) (string, bool) {
	if len(text) > MaxText {
		return "", false
	}
	out := make([]byte, 0, 2*len(text))
	for i := range len(text) {
		out = append(out, hexFigures[text[i]/16], hexFigures[text[i]%16])
	}
	return string(out), true
}

func Unhex(text string) (string, bool) {
	if len(text)%2 != 0 || len(text) > 2*MaxText {
		return "", false
	}
	out := make([]byte, len(text)/2)
	read := 0
figures:
	for i := range len(text) {
		c := text[i]
		switch {
		case c >= '0' && c <= '9':
			c -= '0'
		case c >= 'a' && c <= 'f':
			c -= 'a' - 10
		default:
			break figures
		}
		out[i/2] = out[i/2]*16 + c
		read++
	}
	if read < len(text) {
		return "", false
	}
	return string(out), true
}

func Decimal(n int) string {
	return strconv.Itoa(n)
}

func ReadDecimal(text string) (int, bool) {
	n, read := 0, 0
figures:
	for i := range len(text) {
		c := text[i]
		switch {
		case c < '0' || c > '9':
			break figures
		case i > 0 && n == 0: // a needless nought stands ahead
			break figures
		}
		n = 10*n + int(c-'0')
		if n > MaxNumber { // left at once, ahead of any overflow
			break figures
		}
		read++
	}
	if read == 0 || read < len(text) {
		return 0, false
	}
	return n, true
}

func PartsOf(line string) ([]string, bool) {
	if len(line) > MaxWords {
		return nil, false
	}
	for i := range len(line) {
		if line[i] < 32 || line[i] > 126 {
			return nil, false
		}
	}
	// Of what Fields takes for space, only the blank is left by now.
	parts := strings.Fields(line)
	if len(parts) > MaxParts {
		return nil, false
	}
	for i := range parts {
		// Cloned, as a piece of the line would share its memory.
		parts[i] = strings.Clone(parts[i])
	}
	return parts, true
}
