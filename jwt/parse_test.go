package jwt

import (
	"fmt"
	"strings"
	"testing"
	"turnstile/api"
)

// values are values of every kind, of which none is what a text, a tick or an audience is read from.
func values() map[int][]string {
	return map[int][]string{
		api.JSONNull: {"null"}, api.JSONBool: {"true", "false"}, api.JSONNumber: {"0", "1", "7.5", "1e2"}, api.JSONText: {`""`, `"x"`, `"1"`},
		api.JSONList: {"[]", `["x"]`, "[1]", `[["x"]]`}, api.JSONObject: {"{}", `{"x":"x"}`},
	}
}

// JW1: tokens told elsewhere: that of RFC 7515's appendix A.1, with line ends in its parts, and one that many know.
func TestParseKnown(t *testing.T) {
	part := "eyJ0eXAiOiJKV1QiLA0KICJhbGciOiJIUzI1NiJ9.eyJpc3MiOiJqb2UiLA0KICJleHAiOjEzMDA4MTkzODAsDQogImh0dHA6Ly9leGFtcGxlLmNvbS9pc19yb290Ijp0cnVlfQ"
	code, err := library.DecodeString("dBjftJeZ4CVP-mB92K27uhbUJU1p1r_wW1gFWFOEjXk")
	if err != nil {
		t.Fatal(err)
	}
	checkParse(t, part+".dBjftJeZ4CVP-mB92K27uhbUJU1p1r_wW1gFWFOEjXk", Token{"HS256", "", api.Claims{Issuer: "joe", NotBefore: -1, Exp: 1300819380}, part, code}, nil)
	part = "eyJhbGciOiJIUzI1NiIsInR5cCI6IkpXVCJ9.eyJzdWIiOiIxMjM0NTY3ODkwIiwibmFtZSI6IkpvaG4gRG9lIiwiaWF0IjoxNTE2MjM5MDIyfQ"
	if code, err = library.DecodeString("SflKxwRJSMeKKF2QT4fwpMeJf36POk6yJV_adQssw5c"); err != nil {
		t.Fatal(err)
	}
	checkParse(t, part+".SflKxwRJSMeKKF2QT4fwpMeJf36POk6yJV_adQssw5c", Token{"HS256", "", api.Claims{Subject: "1234567890", NotBefore: -1, Exp: -1}, part, code}, nil)
}

// JW1: the least of all tokens, and one with all that may be named.
func TestParse(t *testing.T) {
	part := "eyJhbGciOiIifQ.e30"
	checkParse(t, part+".", Token{"", "", nothing, part, nil}, nil)
	part = unsigned(`{"typ":"JWT","kid":"k 1","alg":"HS256"}`, `{"scope":"r w","nbf":5,"exp":9,"aud":["a","b"],"iss":"i","sub":"s"}`)
	want := api.Claims{Subject: "s", Issuer: "i", Audience: []string{"a", "b"}, Scopes: []string{"r", "w"}, NotBefore: 5, Exp: 9}
	checkParse(t, part+".____", Token{"HS256", "k 1", want, part, []byte{255, 255, 255}}, nil)
}

// JW1: what is not three texts with a point between.
func TestParseNotThree(t *testing.T) {
	h, c, s := digitsOf(goodHead), digitsOf(goodClaim), digitsOf("code")
	good := h + "." + c + "." + s
	if _, err := Parse(good); err != nil {
		t.Fatal(err)
	}
	for _, x := range []string{
		"", ".", "..", "...", "a", "a.b", "a.b.c", h, h + "." + c, h + c + s, h + "." + c + s, h + c + "." + s, h + "..", "." + c + ".", ".." + s, h + ".." + s, "." + c + "." + s,
		good + ".", "." + good, good + "." + s, h + ".." + c + "." + s, h + "." + c + ".." + s, good + "." + good, h + "." + c + "." + s + "." + s + "." + s,
		h + ":" + c + ":" + s, h + "%2E" + c + "%2E" + s, h + "." + c + "\x00." + s, h + "." + c + "․" + s, "Bearer " + good, " " + good, good + " ", good + "\n", "\ufeff" + good,
		h + "=." + c + "." + s, h + "." + c + "=." + s, good + "=", good + "==", h + "\r\n." + c + "." + s,
		goodHead + "." + goodClaim + ".code", s + "." + c + "." + h,
	} {
		checkNone(t, x)
	}
}

// JW1: each part is base64url without padding, so each byte but its digits makes it none, wherever it stands, and so do bits that are left over, or one digit too many.
func TestParseDigits(t *testing.T) {
	parts := []string{digitsOf(`{"alg":"x","kid":"??>>"}`), digitsOf(`{"sub":"??>>"}`), digitsOf("??>>~~")}
	none := 0
	for i, part := range parts {
		for at := range len(part) + 1 {
			for c := range 256 {
				turned := append([]string(nil), parts...)
				turned[i] = part[:at] + string([]byte{byte(c)}) + part[at:]
				s := strings.Join(turned, ".")
				want, err := ofParse(s)
				checkParse(t, s, want, err)
				if err != nil {
					none++
				}
			}
		}
	}
	if none < 10000 {
		t.Errorf("only %d none", none)
	}
	h, c := digitsOf(goodHead), digitsOf("{}")
	for s, code := range map[string]string{"": "", "QQ": "A", "QUE": "AA", "QUFB": "AAA", "_-8": "\xff\xef", "AA": "\x00"} {
		checkParse(t, h+"."+c+"."+s, Token{"HS256", "", nothing, h + "." + c, []byte(code)}, nil)
	}
	for _, s := range []string{"Q", "QR", "QUF", "QUFBQ", "AB", "//8", "++8", "QQ==", "A A", "é", "\xff\xff"} {
		checkNone(t, h+"."+c+"."+s)
	}
	// {} has bits left over in its last digit.
	checkNone(t, h+".e31.")
	checkNone(t, h+".e3.")
	checkNone(t, h+".e30A.")
}

// sized is a token of n bytes, most of which one of its parts takes, and a few another one.
func sized(n, most int) string {
	for few := range 4 {
		fill := [3]int{few, few, few}
		for fill[most] = (n - 100) * 3 / 4; ; fill[most]++ {
			x := strings.Repeat("x", fill[most])
			parts := [3]string{`{"alg":"HS256","x":""}`, `{"x":""}`, ""}
			for i := range parts {
				parts[i] = digitsOf(strings.Replace(parts[i], `""`, `"`+x[:fill[i]]+`"`, 1))
			}
			if most == 2 {
				parts[2] = digitsOf(x)
			}
			s := strings.Join(parts[:], ".")
			if len(s) == n {
				return s
			}
			if len(s) > n {
				break
			}
		}
	}
	return ""
}

// JW1: a token has at most 8192 bytes, whatever part takes them.
func TestParseLength(t *testing.T) {
	for n := longest - 9; n < longest+10; n++ {
		for most := range 3 {
			s := sized(n, most)
			if len(s) != n {
				t.Fatalf("no token of %d bytes", n)
			}
			want, err := ofParse(s)
			if (err == nil) != (n <= 8192) {
				t.Errorf("the words of a token of %d bytes: %v", n, err)
			}
			checkParse(t, s, want, err)
		}
	}
	for _, n := range []int{longest + 1, 1 << 16, 1 << 22} {
		for _, c := range []string{".", "A", "a.", " "} {
			checkNone(t, strings.Repeat(c, n))
		}
		checkNone(t, unsigned(goodHead, goodClaim)+"."+strings.Repeat("AAAA", n/4+1))
	}
}

// JW1: header and claims are JSON objects as layer 6 reads them, with blanks around.
func TestParseObjects(t *testing.T) {
	for _, x := range []string{" {} ", "\r\n\t{\n}\t", "{}", `{"x":` + strings.Repeat("[", 31) + strings.Repeat("]", 31) + "}"} {
		checkClaims(t, x, nothing)
	}
	checkHeader(t, " { \"alg\"\t:\r\n\"a\" } ", "a", "")
	checkHeader(t, `{"alg":"a","x":`+strings.Repeat(`{"y":`, 30)+"{}"+strings.Repeat("}", 31), "a", "")
	for _, x := range []string{
		"", " ", "null", "true", "1", `"{}"`, "[]", "[{}]", `["alg","a"]`, `{"alg":"a"`, `"alg":"a"}`, `{"alg":"a"}}`, `{"alg":"a"}{}`, `{"alg":"a"},`, `{"alg":"a",}`, `{,"alg":"a"}`,
		`{'alg':'a'}`, `{alg:"a"}`, `{"alg":"a"}//`, `{"alg" "a"}`, `{"alg":"a";"x":1}`, "{\"alg\":\"a\"}\x00", "\ufeff{\"alg\":\"a\"}", "{\"alg\":\"a\"}\u00a0", "\x0b{\"alg\":\"a\"}",
		`{"alg":"a","alg":"a"}`, `{"alg":"a","\u0061lg":"a"}`, `{"alg":"a","x":1,"x":1}`, `{"alg":"a","x":{"y":1,"y":1}}`,
		"{\"alg\":\"\xff\"}", "{\"alg\":\"a\",\"x\":\"\xc0\x80\"}", "{\"alg\":\"a\",\"\xed\xa0\x80\":1}", `{"alg":"a","x":"\ud800"}`, "{\"alg\":\"a\",\"x\":\"\n\"}", `{"alg":"a","x":"\x"}`,
		`{"alg":"a","x":01}`, `{"alg":"a","x":+1}`, `{"alg":"a","x":1.}`, `{"alg":"a","x":NaN}`, `{"alg":"a","x":` + strings.Repeat("1", 65) + `}`, `{"alg":"a","x":tru}`,
		`{"alg":"a","x":` + strings.Repeat("[", 32) + strings.Repeat("]", 32) + "}", `{"alg":"a","x":` + strings.Repeat(`{"y":`, 31) + "{}" + strings.Repeat("}", 32),
	} {
		checkNoHeader(t, x)
		checkNoClaims(t, x)
	}
}

// JW1: alg must be there; it and, where they are there, typ and kid are texts, of whatever there is in them.
func TestParseHeader(t *testing.T) {
	for _, alg := range []string{"", "none", "HS256", "hs256", "é\U0001F600", " ", "a.b"} {
		for _, kid := range []string{"", "0", "é", "a b", "../x", strings.Repeat("k", 5000)} {
			for _, typ := range []string{"", "JWT", "at+jwt", "é"} {
				checkHeader(t, fmt.Sprintf(`{"alg":"%s","kid":"%s","typ":"%s"}`, alg, kid, typ), alg, kid)
			}
			checkHeader(t, fmt.Sprintf(`{"kid":"%s","alg":"%s"}`, kid, alg), alg, kid)
		}
		checkHeader(t, fmt.Sprintf(`{"typ":"JWT","alg":"%s"}`, alg), alg, "")
	}
	checkHeader(t, `{"\u0061\u006C\u0067":"\u0048S256","k\u0069d":"\"\\\n\u0000"}`, "HS256", "\"\\\n\x00")
	for _, x := range []string{"{}", `{"kid":"k"}`, `{"typ":"JWT"}`, `{"Alg":"a"}`, `{"ALG":"a"}`, `{"alg ":"a"}`, `{"":"a"}`, `{"x":{"alg":"a"}}`, `{"al.g":"a"}`, `{"alg.":"a"}`} {
		checkNoHeader(t, x)
	}
	for kind, l := range values() {
		for _, v := range l {
			for form, name := range map[string]string{`{"alg":%s}`: "alg", `{"alg":"a","kid":%s}`: "kid", `{"kid":%s,"alg":"a"}`: "kid", `{"alg":"a","typ":%s}`: "typ", `{"typ":%s,"x":1,"alg":"a"}`: "typ"} {
				x := fmt.Sprintf(form, v)
				if kind != api.JSONText {
					checkNoHeader(t, x)
					continue
				}
				want := map[string]string{"alg": "a", name: v[1 : len(v)-1]}
				checkHeader(t, x, want["alg"], want["kid"])
			}
		}
	}
}

// JW1: there may not be a crit in the header, whatever it holds; elsewhere, or written in another way, it is a name as others are.
func TestParseCrit(t *testing.T) {
	for _, l := range values() {
		for _, v := range l {
			for _, form := range []string{`{"alg":"a","crit":%s}`, `{"crit":%s,"alg":"a"}`, `{"alg":"a","\u0063rit":%s,"kid":"k"}`} {
				checkNoHeader(t, fmt.Sprintf(form, v))
			}
			for _, name := range []string{"Crit", "CRIT", "crit ", "", "crits", "cri"} {
				checkHeader(t, fmt.Sprintf(`{"alg":"a","%s":%s}`, name, v), "a", "")
			}
			checkHeader(t, fmt.Sprintf(`{"alg":"a","x":{"crit":%s}}`, v), "a", "")
			checkClaims(t, fmt.Sprintf(`{"crit":%s}`, v), nothing)
		}
	}
}

// JW1: other names may stand in both, with any values; a name of the one means nothing in the other.
func TestParseOtherNames(t *testing.T) {
	for _, l := range values() {
		for _, v := range l {
			for _, name := range []string{"sub", "iss", "scope", "aud", "nbf", "exp", "cty", "jku", "b64", "", "a.b", "é", "Kid", "TYP", "alg "} {
				checkHeader(t, fmt.Sprintf(`{"%s":%s,"alg":"a","kid":"k"}`, name, v), "a", "k")
			}
			for _, name := range []string{"alg", "kid", "typ", "iat", "jti", "name", "", "aud.0", "é", "Sub", "ISS", "Scope", "AUD", "nbF", "exp ", "scopes", "scp"} {
				checkClaims(t, fmt.Sprintf(`{"%s":%s,"sub":"s"}`, name, v), api.Claims{Subject: "s", NotBefore: -1, Exp: -1})
			}
			for _, name := range []string{"sub", "iss", "scope", "aud", "nbf", "exp"} {
				checkClaims(t, fmt.Sprintf(`{"x":{"%s":%s}}`, name, v), nothing)
			}
		}
	}
}

// JW1: each claim has its kind.
func TestParseClaims(t *testing.T) {
	for kind, l := range values() {
		for _, v := range l {
			for _, name := range []string{"sub", "iss", "scope", "aud", "nbf", "exp"} {
				x := fmt.Sprintf(`{"%s":%s}`, name, v)
				want, text := nothing, strings.Trim(v, `"[]`)
				ok := kind == api.JSONText
				switch {
				case name == "sub":
					want.Subject = text
				case name == "iss":
					want.Issuer = text
				case name == "scope" && text != "":
					want.Scopes = []string{text}
				case name == "aud":
					ok = ok || v == "[]" || v == `["x"]`
					if v != "[]" {
						want.Audience = []string{text}
					}
				case name == "nbf":
					ok = v == "0" || v == "1"
					fmt.Sscan(v, &want.NotBefore)
				case name == "exp":
					ok = v == "0" || v == "1"
					fmt.Sscan(v, &want.Exp)
				}
				if !ok {
					checkNoClaims(t, x)
					checkNoClaims(t, fmt.Sprintf(`{"x":1,"%s":%s,"y":"z"}`, name, v))
					continue
				}
				checkClaims(t, x, want)
			}
		}
	}
	checkClaims(t, `{"\u0073ub":"\u00e9\n","iss":"\"\\"}`, api.Claims{Subject: "é\n", Issuer: `"\`, NotBefore: -1, Exp: -1})
}

// JW1: one claim that is wrong makes it none, whatever the others are.
func TestParseEachWrong(t *testing.T) {
	good := []string{`"sub":"s"`, `"iss":"i"`, `"aud":["a"]`, `"nbf":1`, `"exp":2`, `"scope":"r w"`}
	wrong := []string{`"sub":1`, `"iss":[]`, `"aud":[1]`, `"nbf":"1"`, `"exp":-1`, `"scope":"r  w"`}
	checkClaims(t, "{"+strings.Join(good, ",")+"}", api.Claims{Subject: "s", Issuer: "i", Audience: []string{"a"}, Scopes: []string{"r", "w"}, NotBefore: 1, Exp: 2})
	for set := 1; set < 1<<len(good); set++ {
		parts := append([]string(nil), good...)
		for i := range good {
			if set>>i&1 == 1 {
				parts[i] = wrong[i]
			}
		}
		checkNoClaims(t, "{"+strings.Join(parts, ",")+"}")
	}
}

// JW1: nbf and exp are whole numbers from 0 to MaxTicks.
func TestParseTicks(t *testing.T) {
	for text, n := range map[string]int{"0": 0, "-0": 0, "1": 1, "7": 7, "1300819380": 1300819380, "1099511627775": lastTick - 1, "1099511627776": lastTick} {
		checkClaims(t, `{"nbf":`+text+`}`, api.Claims{NotBefore: n, Exp: -1})
		checkClaims(t, `{"exp":`+text+`}`, api.Claims{NotBefore: -1, Exp: n})
	}
	for _, text := range []string{
		"-1", "-7", "1099511627777", "2199023255552", "9223372036854775807", "9223372036854775808", "-9223372036854775808", "18446744073709551616", "18446744073709551617", strings.Repeat("9", 64),
		"0.0", "1.0", "1.5", "1e0", "1E2", "10e-1", "-0.0", "0e0", `"1"`, `""`, "null", "[1]", "01", "+1", "0x1", "1_0",
	} {
		checkNoClaims(t, `{"nbf":`+text+`}`)
		checkNoClaims(t, `{"exp":`+text+`}`)
		checkNoClaims(t, `{"nbf":1,"exp":`+text+`}`)
	}
}

// JW1: the audience is a text, or a list of texts.
func TestParseAudience(t *testing.T) {
	for text, l := range map[string][]string{
		`""`: {""}, `"a"`: {"a"}, `"a b"`: {"a b"}, `"a,b"`: {"a,b"}, `[]`: nil, `[""]`: {""}, `["a"]`: {"a"}, `["a","b"]`: {"a", "b"}, `["b","a","b",""]`: {"b", "a", "b", ""},
		`["\u0061"]`: {"a"}, ` [ "a" , "b" ] `: {"a", "b"}, `"é"`: {"é"},
	} {
		checkClaims(t, `{"aud":`+text+`}`, api.Claims{Audience: l, NotBefore: -1, Exp: -1})
	}
	for _, wrong := range []string{"1", "null", "true", "{}", "[]", `["a"]`, `{"0":"a"}`} {
		for _, form := range []string{"[%s]", `["a",%s]`, `[%s,"a"]`, `["a",%s,"b"]`} {
			checkNoClaims(t, `{"aud":`+fmt.Sprintf(form, wrong)+`}`)
		}
	}
	var many []string
	for i := range 1000 {
		many = append(many, fmt.Sprint(i))
	}
	checkClaims(t, `{"aud":["`+strings.Join(many, `","`)+`"]}`, api.Claims{Audience: many, NotBefore: -1, Exp: -1})
}

// JW1: scopes stand between single blanks; one that is empty makes it none, but of the empty text there are none.
func TestParseScopes(t *testing.T) {
	for text, l := range map[string][]string{
		"": nil, "a": {"a"}, "a b": {"a", "b"}, "a b c": {"a", "b", "c"}, "b a b": {"b", "a", "b"}, `a\u0020b`: {"a", "b"}, `a\tb`: {"a\tb"}, `a\n`: {"a\n"}, "a,b": {"a,b"}, "a\u00a0b": {"a\u00a0b"},
		`\t`: {"\t"}, `é\"`: {`é"`}, "r:w.x/y": {"r:w.x/y"},
	} {
		checkClaims(t, `{"scope":"`+text+`"}`, api.Claims{Scopes: l, NotBefore: -1, Exp: -1})
	}
	for _, text := range []string{" ", "  ", " a", "a ", " a ", "a  b", "a b ", " a b", "a b  c", "a   b", `\u0020`, `a\u0020`, `a \u0020b`} {
		checkNoClaims(t, `{"scope":"`+text+`"}`)
	}
	var many []string
	for i := range 1000 {
		many = append(many, fmt.Sprint(i))
	}
	checkClaims(t, `{"scope":"`+strings.Join(many, " ")+`"}`, api.Claims{Scopes: many, NotBefore: -1, Exp: -1})
}
