package jwt

import (
	"fmt"
	"math"
	"strings"
	"testing"
	"turnstile/api"
)

const headOne = `{"alg":"HS256","kid":"one"}`

// JW3: a token written out byte by byte.
func TestSignKnown(t *testing.T) {
	s, err := Sign(api.Key{ID: "k", Secret: "key"}, api.Claims{Subject: "7", NotBefore: -1, Exp: 9})
	part := "eyJhbGciOiJIUzI1NiIsImtpZCI6ImsifQ.eyJzdWIiOiI3IiwiZXhwIjo5fQ"
	if want := part + "." + digitsOf(codeOf("key", part)); s != want || err != nil {
		t.Errorf("%s, %v, not %s", s, err, want)
	}
	checkSign(t, api.Key{ID: "k", Secret: "key"}, api.Claims{Subject: "7", NotBefore: -1, Exp: 9}, `{"alg":"HS256","kid":"k"}`, `{"sub":"7","exp":9}`)
}

// JW3: the claims that are not missing stand in the order sub, iss, aud, nbf, exp, scope, without blanks, whichever they are.
func TestSignParts(t *testing.T) {
	parts := []string{`"sub":"s"`, `"iss":"i"`, `"aud":["a"]`, `"nbf":5`, `"exp":9`, `"scope":"r"`}
	for set := range 1 << len(parts) {
		c := nothing
		var there []string
		for i, part := range parts {
			if set>>i&1 == 0 {
				continue
			}
			there = append(there, part)
			switch i {
			case 0:
				c.Subject = "s"
			case 1:
				c.Issuer = "i"
			case 2:
				c.Audience = []string{"a"}
			case 3:
				c.NotBefore = 5
			case 4:
				c.Exp = 9
			case 5:
				c.Scopes = []string{"r"}
			}
		}
		checkSign(t, keyOne, c, headOne, "{"+strings.Join(there, ",")+"}")
	}
	c := nothing
	c.Audience, c.Scopes = []string{}, []string{}
	checkSign(t, keyOne, c, headOne, "{}")
}

// JW3: the audience is always a list, in its order; scopes stand with single blanks between.
func TestSignLists(t *testing.T) {
	for text, l := range map[string][]string{`["a"]`: {"a"}, `[""]`: {""}, `["",""]`: {"", ""}, `["b","a","b"]`: {"b", "a", "b"}, `["a b"," "]`: {"a b", " "}, `["a,b","[]"]`: {"a,b", "[]"}} {
		checkSign(t, keyOne, api.Claims{Audience: l, NotBefore: -1, Exp: -1}, headOne, `{"aud":`+text+`}`)
	}
	for text, l := range map[string][]string{"r": {"r"}, "r w": {"r", "w"}, "w r w": {"w", "r", "w"}, "<>&' a,b": {"<>&'", "a,b"}} {
		checkSign(t, keyOne, api.Claims{Scopes: l, NotBefore: -1, Exp: -1}, headOne, `{"scope":"`+text+`"}`)
	}
}

// JW3: the header tells the key's ID, also an empty one; the secret is any.
func TestSignKeys(t *testing.T) {
	for _, id := range []string{"", "k", "a b", " ", "../x", "<>&'{}:,[]~!#", strings.Repeat("k", 5000)} {
		for _, secret := range []string{"", "s", "\x00\xff\"\\\n", strings.Repeat("s", 64), strings.Repeat("s", 65), strings.Repeat("\xff", 10000)} {
			checkSign(t, api.Key{ID: id, Secret: secret}, always(), `{"alg":"HS256","kid":"`+id+`"}`, `{"exp":100}`)
		}
	}
}

// JW3: a text is plain, if its bytes are from 32 to 126, and neither " nor \; a scope has no blank, and is not empty.
func TestSignPlain(t *testing.T) {
	for b := range 256 {
		for _, form := range []string{"%s", "a%s", "%sa", "a%sb"} {
			s := fmt.Sprintf(form, string([]byte{byte(b)}))
			plain := b >= 32 && b <= 126 && b != '"' && b != '\\'
			check := func(k api.Key, c api.Claims, plain bool, claims string) {
				t.Helper()
				if plain {
					checkSign(t, k, c, `{"alg":"HS256","kid":"`+k.ID+`"}`, claims)
				} else {
					checkNoSign(t, k, c)
				}
			}
			check(api.Key{ID: s}, nothing, plain, "{}")
			c := nothing
			c.Subject = s
			check(keyOne, c, plain, `{"sub":"`+s+`"}`)
			c = nothing
			c.Issuer = s
			check(keyOne, c, plain, `{"iss":"`+s+`"}`)
			for _, l := range [][]string{{s}, {s, "x"}, {"x", s}, {"x", s, "y"}} {
				c = nothing
				c.Audience = l
				check(keyOne, c, plain, `{"aud":["`+strings.Join(l, `","`)+`"]}`)
				c = nothing
				c.Scopes = l
				check(keyOne, c, plain && b != ' ', `{"scope":"`+strings.Join(l, " ")+`"}`)
			}
		}
	}
	for _, s := range []string{"é", "\u2028", "\U0001F600", "\ufeff", "a\x00", "a\n", "a\tb", "a\x7f", `\n`, `\u0061`} {
		for _, c := range []api.Claims{{Subject: s}, {Issuer: s}, {Audience: []string{s}}, {Scopes: []string{s}}} {
			checkNoSign(t, keyOne, c)
		}
		checkNoSign(t, api.Key{ID: s}, nothing)
	}
	for _, l := range [][]string{{""}, {"", "r"}, {"r", ""}, {"r", "", "w"}, {" "}, {"r w"}, {" r"}, {"r "}, {"r", "w "}} {
		checkNoSign(t, keyOne, api.Claims{Scopes: l, NotBefore: -1, Exp: -1})
	}
}

// JW3: NotBefore and Exp are from -1 to MaxTicks.
func TestSignTicks(t *testing.T) {
	for _, n := range []int{0, 1, 9, 10, 1300819380, lastTick - 1, lastTick} {
		checkSign(t, keyOne, api.Claims{NotBefore: n, Exp: -1}, headOne, fmt.Sprintf(`{"nbf":%d}`, n))
		checkSign(t, keyOne, api.Claims{NotBefore: -1, Exp: n}, headOne, fmt.Sprintf(`{"exp":%d}`, n))
		checkSign(t, keyOne, api.Claims{NotBefore: n, Exp: n}, headOne, fmt.Sprintf(`{"nbf":%d,"exp":%d}`, n, n))
	}
	for _, n := range []int{math.MinInt, -lastTick, -3, -2, lastTick + 1, 2 * lastTick, math.MaxInt} {
		checkNoSign(t, keyOne, api.Claims{NotBefore: n, Exp: -1})
		checkNoSign(t, keyOne, api.Claims{NotBefore: -1, Exp: n})
		checkNoSign(t, keyOne, api.Claims{NotBefore: n, Exp: n})
	}
}

// JW3: a token has at most 8192 bytes, whatever part takes them.
func TestSignLength(t *testing.T) {
	fits, above := 0, 0
	for n := 5900; n < 6120; n++ {
		x := strings.Repeat("x", n)
		for _, c := range []struct {
			key    api.Key
			claims api.Claims
			header string
			text   string
		}{
			{api.Key{ID: x}, nothing, `{"alg":"HS256","kid":"` + x + `"}`, "{}"},
			{keyOne, api.Claims{Subject: x, NotBefore: -1, Exp: -1}, headOne, `{"sub":"` + x + `"}`},
			{keyOne, api.Claims{Issuer: x, NotBefore: -1, Exp: -1}, headOne, `{"iss":"` + x + `"}`},
			{keyOne, api.Claims{Audience: []string{"a", x}, NotBefore: -1, Exp: -1}, headOne, `{"aud":["a","` + x + `"]}`},
			{keyOne, api.Claims{Scopes: []string{x, "r"}, NotBefore: -1, Exp: -1}, headOne, `{"scope":"` + x + ` r"}`},
		} {
			// The code has 43 digits.
			size := len(unsigned(c.header, c.text)) + 44
			if size > 8192 {
				checkNoSign(t, c.key, c.claims)
			} else {
				checkSign(t, c.key, c.claims, c.header, c.text)
			}
			if size == 8192 {
				fits++
			}
			if size == 8193 {
				above++
			}
		}
	}
	if fits < 3 || above < 3 {
		t.Errorf("%d fit just so, %d are one above", fits, above)
	}
	for _, n := range []int{1 << 14, 1 << 20} {
		x := strings.Repeat("x", n)
		checkNoSign(t, api.Key{ID: x}, always())
		checkNoSign(t, keyOne, api.Claims{Subject: x, NotBefore: -1, Exp: -1})
		checkNoSign(t, keyOne, api.Claims{Audience: make([]string, n), NotBefore: -1, Exp: -1})
		checkNoSign(t, keyOne, api.Claims{Scopes: strings.Split(strings.Repeat("x ", n)+"x", " "), NotBefore: -1, Exp: -1})
	}
}

// JW3: any keys and claims, also those that are not plain, against the chapter's words.
func TestAnySign(t *testing.T) {
	m := newMaker(5)
	ends := map[error]int{}
	for range 20000 {
		k, c := api.Key{ID: m.of("", "k", "a b"), Secret: m.secret()}, m.claims()
		odd := m.of("\x1f", "\x7f", "\"", "\\", "é", "a\nb")
		switch m.Intn(16) {
		case 0:
			k.ID = odd
		case 1:
			c.Subject += odd
		case 2:
			c.Issuer = odd + c.Issuer
		case 3:
			c.Audience = append(c.Audience, odd)
		case 4:
			c.Scopes = append(c.Scopes, m.of("", " ", "r w", odd))
		case 5:
			c.Exp = m.Intn(10) - 5
		case 6:
			c.NotBefore = lastTick - 3 + m.Intn(6)
		}
		want, wantErr := ofSign(k, c)
		ends[wantErr]++
		if got, err := Sign(k, c); got != want || err != wantErr {
			t.Fatalf("Sign(%s, %s): %q, %v, not %q, %v", short(k), short(c), got, err, want, wantErr)
		}
	}
	if ends[nil] < 5000 || ends[api.ErrToken] < 3000 {
		t.Errorf("ends: %v", ends)
	}
}
