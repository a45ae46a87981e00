package target

import (
	"strings"
	"turnstile/chars"
)

// greatDigits are those that codes are written with.
const greatDigits = "0123456789ABCDEF"

// codeSize is how many bytes a code has.
const codeSize = 3

// code is the byte of the code that s begins with.
func code(s string) (byte, bool) {
	if len(s) < codeSize || s[0] != '%' {
		return 0, false
	}
	high, ok := digit(s[1])
	if !ok {
		return 0, false
	}
	low, ok := digit(s[2])
	if !ok {
		return 0, false
	}
	return high<<4 | low, true
}

func digit(c byte) (byte, bool) {
	switch {
	case c >= 'A' && c <= 'F':
		c += 'a' - 'A'
		fallthrough
	case c >= 'a' && c <= 'f':
		return c - 'a' + 10, true
	case chars.Digit(c):
		return c - '0', true
	}
	return 0, false
}

// decoded is s with each code as its byte.
func decoded(s string) string {
	b := make([]byte, 0, len(s))
	for i := 0; i < len(s); i++ {
		c, coded := code(s[i:])
		if !coded {
			b = append(b, s[i])
			continue
		}
		b = append(b, c)
		i += codeSize - 1
	}
	return string(b)
}

// appendByte adds c to b, in a code if it is not unreserved.
func appendByte(b []byte, c byte) []byte {
	if unreserved(c) {
		return append(b, c)
	}
	return append(b, '%', greatDigits[c>>4], greatDigits[c&15])
}

// made tells whether s is made of plain bytes and of codes of bytes that may stand in codes; no % is plain.
func made(s string, plain, inCode func(c byte) bool) bool {
	for i := 0; i < len(s); i++ {
		if s[i] != '%' {
			if !plain(s[i]) {
				return false
			}
			continue
		}
		c, coded := code(s[i:])
		if !coded || !inCode(c) {
			return false
		}
		i += codeSize - 1
	}
	return true
}

func isPath(s string) bool { return strings.HasPrefix(s, "/") && made(s, inPath, noControl) }

func isQuery(s string) bool { return made(s, inQuery, anyByte) }

func inPath(c byte) bool { return c == '/' || pathByte(c) }

func inQuery(c byte) bool { return c == '?' || inPath(c) }

func anyByte(c byte) bool { return true }

func noControl(c byte) bool { return c >= 32 && c != 127 }

func pathByte(c byte) bool {
	switch c {
	case '!', '$', '&', '\'', '(', ')', '*', '+', ',', ';', '=', ':', '@':
		return true
	}
	return unreserved(c)
}

func unreserved(c byte) bool {
	switch c {
	case '-', '.', '_', '~':
		return true
	}
	return letterOrDigit(c)
}

func hostByte(c byte) bool {
	switch c {
	case '-', '.', '_', ':':
		return true
	}
	return letterOrDigit(c)
}

func letterOrDigit(c byte) bool {
	return c >= 'a' && c <= 'z' || c >= 'A' && c <= 'Z' || chars.Digit(c)
}
