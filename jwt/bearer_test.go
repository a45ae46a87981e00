package jwt

import (
	"strings"
	"testing"
	"unicode"
)

// JW3: the chapter's example, and ordinary values.
func TestBearer(t *testing.T) {
	for value, want := range map[string]string{
		"bearer  a.b.c": "a.b.c", "Bearer a": "a", "BEARER a": "a", "bEaReR a": "a", "Bearer                  a.b": "a.b", "Bearer ==": "==", "Bearer a=b=": "a=b=", "Bearer Bearer": "Bearer", "Bearer bearer": "bearer",
		"Bearer -._~+/=": "-._~+/=", "Bearer " + good(): good(), "bearer " + strings.Repeat(" ", 10000) + "x": "x", "Bearer " + strings.Repeat("y", 100000): strings.Repeat("y", 100000), "Bearer ..": "..", "Bearer .": ".",
	} {
		checkBearer(t, value, want)
	}
}

// JW3: what bears no token.
func TestBearerNone(t *testing.T) {
	for _, value := range []string{
		"", " ", "Bearer", "Bearer ", "Bearer    ", "bearer", "Bearera", "Bearera.b.c", "a.b.c", good(), "Bearer\ta", "Bearer \ta", "Bearer a\t", "Bearer a ", "Bearer  a  ", " Bearer a", "\tBearer a", "Bearer a b", "Bearer a,b", "Bearer a, Bearer b",
		"Bearer: a", "Bearer:a", "Bearer=a", "Bearer \"a\"", "Bearer a;", "Bearer a\n", "Bearer\na", "Bearer\r\n a", "Bearer a\x00", "Bearer \x00", "Bearer é", "Bearer \xff", "Bearer a\u00a0", "Bearer\u00a0a", "Bearer\u2003a", "Bearer %41", "Bearer a*", "Bearer a?",
		"Basic a", "Beare a", "Bearers a", "earer a", "BearerBearer a", "Bear er a", "Token a", "B a", "Вearer a", "Bea\u0280er a", "Ｂearer a", "Digest a", "bearer\x00 a",
	} {
		checkBearer(t, value, "")
	}
}

// JW3: each byte alone, at the begin, in the middle and at the end of a token, and in each place of the word.
func TestBearerBytes(t *testing.T) {
	for c := range 256 {
		b := string([]byte{byte(c)})
		want := c >= '0' && c <= '9' || c >= 'A' && c <= 'Z' || c >= 'a' && c <= 'z' || c != 0 && strings.Contains("-._~+/=", b)
		for _, form := range [][2]string{{"", ""}, {"a", ""}, {"", "a"}, {"a", "b"}, {"ab", "cd"}} {
			token := ""
			if want {
				token = form[0] + b + form[1]
			} else if c == ' ' && form[0] == "" {
				token = form[1]
			}
			checkBearer(t, "Bearer "+form[0]+b+form[1], token)
		}
		for i := range len("Bearer") {
			word := "Bearer"[:i] + b + "Bearer"[i+1:]
			token := ""
			if c|32 == int("bearer"[i]) && unicode.IsLetter(rune(c)) && c < 128 {
				token = "a"
			}
			checkBearer(t, word+" a", token)
		}
		for i := range len("Bearer") + 1 {
			token := ""
			if c == ' ' && i == len("Bearer") {
				token = "a"
			}
			checkBearer(t, "Bearer"[:i]+b+"Bearer"[i:]+" a", token)
		}
	}
}

// JW3: only letters of ASCII are the word's, whatever another letter's small or great one is.
func TestBearerLetters(t *testing.T) {
	for i := range len("bearer") {
		for r := rune(128); r <= unicode.MaxRune; r++ {
			if unicode.IsLetter(r) {
				value := "bearer"[:i] + string(r) + "bearer"[i+1:] + " a"
				if got, err := Bearer(value); got != "" || err == nil {
					t.Fatalf("Bearer(%q): %q, %v", value, got, err)
				}
			}
		}
	}
}

// JW3: any values, against the chapter's words.
func TestAnyBearer(t *testing.T) {
	m := newMaker(8)
	borne, none := 0, 0
	for range 50000 {
		value := m.of("Bearer", "bearer", "BEARER", "beareR", "Basic", "", " Bearer") + m.of(" ", " ", "  ", "   ", "", "\t", " \t")
		for range m.Intn(6) {
			value += m.of("a", "Z", "0", "9", ".", "-", "_", "~", "+", "/", "=", "b", m.of(" ", ",", "\x7f", "é", "@", "[", "`", "{", ":", ";"))
		}
		want, _ := ofBearer(value)
		if want == "" {
			none++
		} else {
			borne++
		}
		checkBearer(t, value, want)
	}
	if borne < 5000 || none < 5000 {
		t.Errorf("%d borne, %d none", borne, none)
	}
}
