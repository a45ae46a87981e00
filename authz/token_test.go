package authz

import (
	"slices"
	"strings"
	"testing"
	"turnstile/api"
	"unicode"
)

// AZ1: no field, one and more, wherever they stand.
func TestToken(t *testing.T) {
	one := api.Field{Name: "Authorization", Value: "Bearer a.b.c"}
	others := fields("Host", "x", "Proxy-Authorization", "Bearer p.q.r", "X", "", "WWW-Authenticate", "Bearer", "", "Bearer n", "Cookie", "Authorization: Bearer e")
	checkToken(t, nil, "")
	checkToken(t, []api.Field{}, "")
	checkToken(t, others, "")
	checkToken(t, []api.Field{one}, "a.b.c")
	for i := range len(others) + 1 {
		l := slices.Insert(slices.Clone(others), i, one)
		checkToken(t, l, "a.b.c")
		for j := range len(l) + 1 {
			for _, second := range []api.Field{one, {Name: "authorization", Value: "Bearer a.b.c"}, {Name: "Authorization", Value: ""}, {Name: "AUTHORIZATION", Value: "Basic x"}, {Name: "authorizatioN", Value: "Bearer d"}} {
				two := slices.Insert(slices.Clone(l), j, second)
				checkToken(t, two, "")
				checkToken(t, slices.Insert(two, i, one), "")
			}
		}
	}
	// What lies behind the end of a list, in its spare room, is not there.
	checkToken(t, append(fields("Host", "x"), one)[:1], "")
	checkToken(t, []api.Field{one, one}[:1], "a.b.c")
}

// AZ1: the field's name in letters of both sizes, every way to write it.
func TestEveryNameOfAuthorization(t *testing.T) {
	for set := range 1 << len("authorization") {
		b := []byte("authorization")
		for i := range b {
			if set>>i&1 == 1 {
				b[i] -= 'a' - 'A'
			}
		}
		checkToken(t, fields(string(b), "Bearer x"), "x")
	}
}

// AZ1: names that are another field's: with a byte more, fewer, or another one, or with letters that are not of ASCII.
func TestOtherNames(t *testing.T) {
	const name = "Authorization"
	for i := range len(name) {
		checkToken(t, fields(name[:i]+name[i+1:], "Bearer x"), "")
		for c := range 256 {
			b := string([]byte{byte(c)})
			checkToken(t, fields(name[:i]+b+name[i:], "Bearer x"), "")
			if !strings.EqualFold(b, name[i:i+1]) {
				checkToken(t, fields(name[:i]+b+name[i+1:], "Bearer x"), "")
			}
		}
		for r := rune(128); r < 0x2200; r++ {
			if other := name[:i] + string(r) + name[i+1:]; unicode.IsLetter(r) {
				checkToken(t, fields(other, "Bearer x"), "")
				checkToken(t, fields(other, "Bearer x", name, "Bearer y"), "y")
			}
		}
	}
	for _, other := range []string{"", " Authorization", "Authorization ", "Authorization:", "Authorization\x00", "Authentication", "Authorizations", "Authorisation", "Proxy-Authorization", "Bearer"} {
		checkToken(t, fields(other, "Bearer x"), "")
		checkToken(t, fields(other, "Bearer x", "Authorization", "Bearer y", other, ""), "y")
	}
}

// AZ1: layer 19 tells what bears a token, and what doesn't.
func TestBearing(t *testing.T) {
	for value, want := range map[string]string{
		"Bearer a": "a", "bearer  a.b.c": "a.b.c", "BEARER a": "a", "bEaReR      -._~+/=": "-._~+/=", "Bearer Bearer": "Bearer", "Bearer ===": "===", "Bearer " + strings.Repeat("a", 100000): strings.Repeat("a", 100000),
		"": "", " ": "", "Bearer": "", "Bearer ": "", "Bearera": "", "a.b.c": "", "Basic YTpi": "", " Bearer a": "", "Bearer a ": "", "Bearer\ta": "", "Bearer a b": "", "Bearer a,b": "", "Bearer a, Bearer b": "", "Bearer a\r\n": "", "Bearer é": "", "Bearer \xff": "", "Bearer \x00": "",
		"Bearer: a": "", "Bearer=a": "", `Bearer "a"`: "", "Token a": "", "Bearer a;b": "", "\u212aearer a": "", "Bearer a%2e": "",
	} {
		checkToken(t, fields("Authorization", value), want)
		checkToken(t, fields("Host", "x", "authorization", value, "Host", "y"), want)
		checkToken(t, fields("authorization", value, "Authorization", value), "")
	}
	for c := range 256 {
		b := string([]byte{byte(c)})
		want := ""
		if c < 128 && (unicode.IsLetter(rune(c)) || unicode.IsDigit(rune(c)) || c != 0 && strings.Contains("-._~+/=", b)) {
			want = "a" + b + "c"
		}
		checkToken(t, fields("Authorization", "Bearer a"+b+"c"), want)
	}
}

// AZ1: any fields, against the chapter's words.
func TestAnyFields(t *testing.T) {
	m := newMaker(1)
	borne, none := 0, 0
	for range 20000 {
		l := m.fields(m.of("a.b.c", "x", "-", "a b", "a,b", ""))
		want, _ := ofToken(l)
		checkToken(t, l, want)
		if want == "" {
			none++
		} else {
			borne++
		}
	}
	if borne < 4000 || none < 4000 {
		t.Errorf("%d borne, %d not", borne, none)
	}
}
