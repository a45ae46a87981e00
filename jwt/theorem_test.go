package jwt

import (
	"fmt"
	"slices"
	"strings"
	"sync"
	"testing"
	"turnstile/api"
	"unsafe"
)

// wished is an Auth that asks for all that claims have, and a time at which they are right, if there is one.
func wished(m *maker, c api.Claims) (api.Auth, int, bool) {
	a := api.Auth{On: m.Intn(2) == 0, Issuer: c.Issuer, Scopes: c.Scopes}
	if len(c.Audience) > 0 {
		a.Audience = c.Audience[m.Intn(len(c.Audience))]
	}
	low, high := max(c.NotBefore, 0), c.Exp-1
	if low > high {
		return a, 0, false
	}
	return a, []int{low, high}[m.Intn(2)], true
}

// JW4: what is signed is verified with that key, among others too, and gives those claims; Parse reads them, whatever the time is.
func TestSignedIsVerified(t *testing.T) {
	m := newMaker(1)
	verified := 0
	for i := range 10000 {
		k, c := api.Key{ID: m.of("", "k", "a b", "~"), Secret: m.secret()}, m.claims()
		s, err := Sign(k, c)
		if err != nil {
			t.Fatal(err)
		}
		u, err := Parse(s)
		if err != nil || u.Alg != "HS256" || u.Kid != k.ID || !sameClaims(u.Claims, c) || u.Signed+"."+digitsOf(string(u.Signature)) != s {
			t.Fatalf("Parse(%q): %v, %v, not %v", s, u, err, c)
		}
		l := []api.Key{k}
		if k.ID != "" {
			l = slices.Insert([]api.Key{{}, {ID: "x", Secret: "y"}, {ID: fmt.Sprint(i)}}, m.Intn(4), k)
		}
		a, now, can := wished(m, c)
		if !can {
			checkVerify(t, s, l, a, now, api.Claims{}, api.ErrTime)
			continue
		}
		verified++
		checkVerify(t, s, l, a, now, c, nil)
	}
	if verified < 3000 {
		t.Errorf("only %d verified", verified)
	}
}

// refused asks that a token is not taken with a key.
func refused(t *testing.T, s string, k api.Key) {
	t.Helper()
	if c, err := Verify(s, []api.Key{k}, api.Auth{Leeway: 50}, 50); err == nil || !sameClaims(c, api.Claims{}) {
		t.Fatalf("Verify(%q): %v, %v", s, c, err)
	}
}

// JW4: with one byte turned a token is not verified: each byte, into each other one.
func TestTurned(t *testing.T) {
	k := api.Key{ID: "k", Secret: "key"}
	for _, c := range []api.Claims{{NotBefore: -1, Exp: 100}, {Subject: "s", Audience: []string{"a"}, Scopes: []string{"r"}, NotBefore: 0, Exp: 99}} {
		s, err := Sign(k, c)
		if err != nil {
			t.Fatal(err)
		}
		checkVerify(t, s, []api.Key{k}, api.Auth{}, 50, c, nil)
		for at := range len(s) {
			for b := range 256 {
				if s[at] != byte(b) {
					refused(t, s[:at]+string([]byte{byte(b)})+s[at+1:], k)
				}
			}
		}
	}
}

// JW4: nor is it with a byte more or fewer, with two of its bytes in the other order, with a part of another token, or with another key of the same ID.
func TestTurnedOtherwise(t *testing.T) {
	m := newMaker(4)
	k := api.Key{ID: "k", Secret: "key"}
	for range 300 {
		c, d := m.claims(), m.claims()
		c.NotBefore, c.Exp, d.NotBefore, d.Exp = -1, 100, -1, 90
		s, err := Sign(k, c)
		other, otherErr := Sign(k, d)
		if err != nil || otherErr != nil {
			t.Fatal(err, otherErr)
		}
		checkVerify(t, s, []api.Key{k}, api.Auth{}, 50, c, nil)
		at := m.Intn(len(s) - 1)
		refused(t, s[:at]+s[at+1:], k)
		refused(t, s[:at]+m.of("A", "_", ".", "=", " ", s[at:at+1])+s[at:], k)
		if s[at] != s[at+1] {
			refused(t, s[:at]+s[at+1:at+2]+s[at:at+1]+s[at+2:], k)
		}
		one, two := strings.Split(s, "."), strings.Split(other, ".")
		refused(t, one[0]+"."+two[1]+"."+one[2], k)
		refused(t, one[0]+"."+one[1]+"."+two[2], k)
		refused(t, s, api.Key{ID: "k", Secret: "kez"})
		refused(t, s, api.Key{ID: "k", Secret: k.Secret + "x"})
	}
}

// JW1, JW2: any texts, most of them near to tokens, against the chapter's words.
func TestAnyToken(t *testing.T) {
	m := newMaker(2)
	ends := map[error]int{}
	for range 30000 {
		s := m.token()
		want, wantErr := ofParse(s)
		checkParse(t, s, want, wantErr)
		l := []api.Key{{ID: "k", Secret: "key"}, {ID: "l", Secret: "other"}}[:m.Intn(6)/2%3]
		a, now := m.auth(), m.tick()
		c, end := ofVerify(s, l, a, now)
		checkVerify(t, s, l, a, now, c, end)
		ends[end]++
		if t.Failed() {
			t.FailNow()
		}
	}
	for _, end := range []error{nil, api.ErrArg, api.ErrToken, api.ErrAlg, api.ErrKey, api.ErrSign, api.ErrTime, api.ErrIssuer, api.ErrAudience, api.ErrScope} {
		if ends[end] < 50 {
			t.Errorf("%v only %d times", end, ends[end])
		}
	}
}

// token is a text that is near to a token.
func (m *maker) token() string {
	header := `{"alg":"HS256"`
	if m.Intn(15) == 0 {
		header = `{"alg":` + m.of(`"none"`, "null", "1", `"hs256"`)
	}
	if m.Intn(2) == 0 {
		header += `,"kid":` + m.of(`"k"`, `"k"`, `"k"`, `"l"`, `"m"`, `""`)
	}
	header += m.of("", "", `,"typ":"JWT"`, `,"x":[1]`) + "}"
	if m.Intn(20) == 0 {
		header = m.of(`{"alg":"HS256","crit":[]}`, "{}", "[]", `{"alg":"HS256","typ":0}`, "", " "+header, header+"}")
	}
	c := m.claims()
	if m.Intn(4) > 0 {
		c.Exp = lastTick
	}
	claims := written(c)
	if m.Intn(10) == 0 {
		claims = strings.Replace(claims, m.of(`"`, ",", " ", "[", "0", "}"), m.of("", "  ", "-", `"x":1,`, "null"), 1)
	}
	s := signed(m.of("key", "key", "key", "other"), header, claims)
	if m.Intn(20) == 0 {
		at := m.Intn(len(s))
		s = s[:at] + m.of("", ".", "A", "=", "\x00") + s[at+m.Intn(2):]
	}
	return s
}

// inside tells whether a text is a piece of another one's memory.
func inside(s, whole string) bool {
	if s == "" || whole == "" {
		return false
	}
	at, from := uintptr(unsafe.Pointer(unsafe.StringData(s))), uintptr(unsafe.Pointer(unsafe.StringData(whole)))
	return at >= from && at < from+uintptr(len(whole))
}

// over writes over all of a list, spare room too.
func over[T any](l []T, value T) {
	for i := range l[:cap(l)] {
		l[:cap(l)][i] = value
	}
}

// Rule 3: what is answered shares no memory with an argument or with another answer, and no two of its lists share any.
func TestAnswers(t *testing.T) {
	s := good()
	want, _ := ofParse(s)
	l := keys(keyTwo, keyOne)
	for range 3 {
		u, err := Parse(s)
		if err != nil || !sameToken(u, want) {
			t.Fatalf("%v, %v", u, err)
		}
		c, err := Verify(s, l, all(), 50)
		if err != nil || !sameClaims(c, want.Claims) {
			t.Fatalf("%v, %v", c, err)
		}
		if inside(u.Signed, s) {
			t.Error("Signed is a piece of the argument")
		}
		over(u.Signature, 0)
		over(u.Claims.Audience, "over")
		if !slices.Equal(u.Claims.Scopes, want.Claims.Scopes) || !sameClaims(c, want.Claims) {
			t.Errorf("written over: %v, %v", u, c)
		}
		over(u.Claims.Scopes, "over")
		over(c.Scopes, "over")
		if !slices.Equal(c.Audience, want.Claims.Audience) {
			t.Errorf("written over: %v", c)
		}
		over(c.Audience, "over")
	}
	value := "Bearer " + s
	if token, err := Bearer(value); token != s || err != nil || inside(token, value) {
		t.Errorf("Bearer: %q, %v, or a piece of the argument", token, err)
	}
	one := signed("s", goodHead, `{"aud":"a","exp":9}`)
	u, err := Parse(one)
	if err != nil {
		t.Fatal(err)
	}
	over(u.Claims.Audience, "over")
	if v, err := Parse(one); err != nil || !slices.Equal(v.Claims.Audience, []string{"a"}) {
		t.Errorf("%v, %v", v, err)
	}
}

// Rule 3: no list that is handed in is changed, nor the room behind it.
func TestArguments(t *testing.T) {
	roomy := func(l ...string) []string { return append(make([]string, 0, 8), l...) }
	untouched := func(what string, l []string, want ...string) {
		t.Helper()
		if !slices.Equal(l, want) || slices.ContainsFunc(l[len(l):cap(l)], func(s string) bool { return s != "" }) {
			t.Errorf("%s changed: %q", what, l[:cap(l)])
		}
	}
	c := api.Claims{Audience: roomy("b", "a"), Scopes: roomy("w", "r"), NotBefore: -1, Exp: 100}
	a := api.Auth{Audience: "a", Scopes: roomy("w", "r", "w")}
	l := append(make([]api.Key, 0, 4), keyTwo, keyOne)
	s, err := Sign(keyOne, c)
	if err != nil {
		t.Fatal(err)
	}
	checkVerify(t, s, l, a, 5, c, nil)
	checkCheck(t, c, a, 5, nil)
	untouched("the audience", c.Audience, "b", "a")
	untouched("the scopes", c.Scopes, "w", "r")
	untouched("the wishes", a.Scopes, "w", "r", "w")
	if !slices.Equal(l, keys(keyTwo, keyOne)) || l[:3][2] != (api.Key{}) || l[:4][3] != (api.Key{}) {
		t.Errorf("the keys changed: %q", l[:4])
	}
}

// Rule 4: asking twice answers the same, and many may ask at once.
func TestAsking(t *testing.T) {
	m := newMaker(9)
	var l []string
	for range 300 {
		l = append(l, m.token())
	}
	k := []api.Key{{ID: "k", Secret: "key"}}
	var wait sync.WaitGroup
	for range 4 {
		wait.Go(func() {
			for _, s := range l {
				want, wantErr := ofVerify(s, k, api.Auth{}, 5)
				for range 2 {
					if got, err := Verify(s, k, api.Auth{}, 5); !sameClaims(got, want) || err != wantErr {
						t.Errorf("Verify(%q): %v, %v, not %v, %v", s, got, err, want, wantErr)
					}
				}
				again, err := Sign(k[0], api.Claims{Subject: s, NotBefore: -1, Exp: -1})
				if wanted, wantedErr := ofSign(k[0], api.Claims{Subject: s, NotBefore: -1, Exp: -1}); again != wanted || err != wantedErr {
					t.Errorf("Sign of %q: %q, %v", s, again, err)
				}
			}
		})
	}
	wait.Wait()
}
