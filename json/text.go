package json

import (
	"strings"
	"turnstile/api"
	"unicode/utf8"
)

// hexDigits are the hexadecimal digits by their values, and the great letters behind them.
const hexDigits = "0123456789abcdefABCDEF"

// text reads a text or a name from its first quotation mark to its last one.
func (r *reader) text() (string, error) {
	r.at++
	var text []byte
	for r.next() != '"' {
		char, err := r.character()
		if err != nil {
			return "", err
		}
		text = utf8.AppendRune(text, char)
	}
	r.at++
	return string(text), nil
}

// character reads a character, be it itself or an escape.
func (r *reader) character() (rune, error) {
	switch c := r.next(); {
	case c < 32:
		return 0, api.ErrForm
	case c == '\\':
		return r.escape()
	}
	char, size := utf8.DecodeRuneInString(r.s[r.at:])
	if char == utf8.RuneError && size == 1 {
		r.at = r.broken()
		return 0, api.ErrForm
	}
	r.at += size
	return char, nil
}

// broken is the place of the byte with which what comes next can't become a character any more.
func (r *reader) broken() int {
	to := r.at
	for to < len(r.s) && !utf8.FullRuneInString(r.s[r.at:to+1]) {
		to++
	}
	return to
}

func (r *reader) escape() (rune, error) {
	r.at++
	char := rune(0)
	switch c := r.next(); c {
	case '"', '\\', '/':
		char = rune(c)
	case 'b':
		char = '\b'
	case 'f':
		char = '\f'
	case 'n':
		char = '\n'
	case 'r':
		char = '\r'
	case 't':
		char = '\t'
	case 'u':
		r.at++
		return r.code()
	default:
		return 0, api.ErrForm
	}
	r.at++
	return char, nil
}

// code reads what stands behind \u: four digits, and the other half, if they are the half of a pair.
func (r *reader) code() (rune, error) {
	char, err := r.fourDigits()
	switch {
	case err != nil:
		return 0, err
	case isLow(char):
		r.at--
		return 0, api.ErrForm
	case !isHigh(char):
		return char, nil
	}
	low, err := r.lowHalf()
	if err != nil {
		return 0, err
	}
	return 0x10000 + (char-0xd800)<<10 + (low - 0xdc00), nil
}

func isHigh(char rune) bool { return char >= 0xd800 && char < 0xdc00 }

func isLow(char rune) bool { return char >= 0xdc00 && char < 0xe000 }

// lowHalf reads an escape from \uDC00 to \uDFFF.
func (r *reader) lowHalf() (rune, error) {
	from := r.at
	for _, some := range []string{`\`, "u", "dD", "cdefCDEF"} {
		if !r.skip(some) {
			return 0, api.ErrForm
		}
	}
	r.at = from + len(`\u`)
	return r.fourDigits()
}

func (r *reader) fourDigits() (rune, error) {
	char := rune(0)
	for range 4 {
		digit := strings.IndexByte(hexDigits, r.next())
		if digit < 0 {
			return 0, api.ErrForm
		}
		if digit > 15 {
			digit -= 6
		}
		char = char<<4 | rune(digit)
		r.at++
	}
	return char, nil
}
