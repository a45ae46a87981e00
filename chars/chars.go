// Package chars is layer 1: classes of bytes, checked numbers: see shared/doc/01-chars.md.
package chars

import (
	"strconv"
	"strings"
	"turnstile/api"
)

// Digit tells whether a byte is one of 0 to 9.
func Digit(c byte) bool { return c >= '0' && c <= '9' }

// Token tells whether a byte may stand in a token.
func Token(c byte) bool {
	switch c {
	case '!', '#', '$', '%', '&', '\'', '*', '+', '-', '.', '^', '_', '`', '|', '~':
		return true
	}
	return letter(c) || Digit(c)
}

// Value tells whether a byte may stand in a field's value.
func Value(c byte) bool { return c == '\t' || c >= 32 && c != 127 }

// Visible tells whether a byte may stand in a target.
func Visible(c byte) bool { return c >= 33 && c <= 126 }

// IsToken tells whether a text is a token.
func IsToken(s string) bool {
	for i := range len(s) {
		if !Token(s[i]) {
			return false
		}
	}
	return s != ""
}

// Hex is a hexadecimal digit's value.
func Hex(c byte) (int, bool) {
	switch {
	case Digit(c):
		return int(c - '0'), true
	case c >= 'a' && c <= 'f':
		return int(c-'a') + 10, true
	case c >= 'A' && c <= 'F':
		return int(c-'A') + 10, true
	}
	return 0, false
}

// Decimal is a number in decimal digits, up to most.
func Decimal(s string, most int) (int, error) { return number(s, 10, most) }

// HexNumber is a number in hexadecimal digits, up to most.
func HexNumber(s string, most int) (int, error) { return number(s, 16, most) }

// Text is a number in decimal digits.
func Text(n int) string { return strconv.Itoa(n) }

// HexText is a number in hexadecimal digits.
func HexText(n int) (string, error) {
	if n < 0 {
		return "", api.ErrArg
	}
	return strconv.FormatInt(int64(n), 16), nil
}

// Lower is a text with small letters for great ones.
func Lower(s string) string {
	b := []byte(s)
	for i, c := range b {
		b[i] = small(c)
	}
	return string(b)
}

// Same tells whether two texts are the same but for the size of letters.
func Same(a, b string) bool {
	if len(a) != len(b) {
		return false
	}
	for i := range len(a) {
		if small(a[i]) != small(b[i]) {
			return false
		}
	}
	return true
}

// Trim is a text without blanks and tabs ahead and behind.
func Trim(s string) string {
	from, to := 0, len(s)
	for from < to && blank(s[from]) {
		from++
	}
	for from < to && blank(s[to-1]) {
		to--
	}
	// An answer is new memory: a piece of s would hold on to the whole of it.
	return strings.Clone(s[from:to])
}

// List are the elements of a list with commas.
func List(s string) []string {
	var l []string
	for _, piece := range strings.Split(s, ",") {
		if t := Trim(piece); t != "" {
			l = append(l, t)
		}
	}
	return l
}

func letter(c byte) bool {
	c = small(c)
	return c >= 'a' && c <= 'z'
}

func blank(c byte) bool { return c == ' ' || c == '\t' }

func small(c byte) byte {
	if c >= 'A' && c <= 'Z' {
		return c + ('a' - 'A')
	}
	return c
}

// number reads s in two passes, for a byte that is no digit is told ahead of a number that is too great, wherever it stands.
func number(s string, base, most int) (int, error) {
	if most < 0 {
		return 0, api.ErrArg
	}
	if !digits(s, base) {
		return 0, api.ErrForm
	}
	n := 0
	for i := range len(s) {
		d, _ := Hex(s[i])
		// Asked this way round, since n*base+d could be above the greatest int.
		if d > most || n > (most-d)/base {
			return 0, api.ErrRange
		}
		n = n*base + d
	}
	return n, nil
}

// digits tells whether s is one or more digits of a base up to 16, and nothing else.
func digits(s string, base int) bool {
	for i := range len(s) {
		if d, ok := Hex(s[i]); !ok || d >= base {
			return false
		}
	}
	return s != ""
}
