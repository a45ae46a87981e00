package authz

import (
	"crypto/hmac"
	"crypto/sha256"
	"encoding/base64"
	"encoding/json"
	"errors"
	"fmt"
	"math/rand"
	"regexp"
	"slices"
	"strings"
	"testing"
	"turnstile/api"
)

// The bounds and the forms, written down a second time.
const lastTick = 1 << 40

var (
	nameForm   = regexp.MustCompile(`\A[Aa][Uu][Tt][Hh][Oo][Rr][Ii][Zz][Aa][Tt][Ii][Oo][Nn]\z`)
	bearerForm = regexp.MustCompile(`\A[Bb][Ee][Aa][Rr][Ee][Rr] +([A-Za-z0-9._~+/=-]+)\z`)
)

// layer19 is the errors that Decide may answer, in their order.
var layer19 = []error{api.ErrArg, api.ErrToken, api.ErrAlg, api.ErrKey, api.ErrSign, api.ErrTime, api.ErrIssuer, api.ErrAudience, api.ErrScope}

// made is a token of which all is known.
type made struct {
	alg, kid, secret string
	claims           api.Claims
}

// text is the token as the library writes and signs it.
func (m made) text() string {
	header, claims := map[string]any{"alg": m.alg}, map[string]any{}
	if m.kid != "" {
		header["kid"] = m.kid
	}
	for name, text := range map[string]string{"sub": m.claims.Subject, "iss": m.claims.Issuer, "scope": strings.Join(m.claims.Scopes, " ")} {
		if text != "" {
			claims[name] = text
		}
	}
	if len(m.claims.Audience) > 0 {
		claims["aud"] = m.claims.Audience
	}
	for name, n := range map[string]int{"nbf": m.claims.NotBefore, "exp": m.claims.Exp} {
		if n >= 0 {
			claims[name] = n
		}
	}
	part := digitsOf(header) + "." + digitsOf(claims)
	h := hmac.New(sha256.New, []byte(m.secret))
	h.Write([]byte(part))
	return part + "." + base64.RawURLEncoding.EncodeToString(h.Sum(nil))
}

func digitsOf(value any) string {
	b, err := json.Marshal(value)
	if err != nil {
		panic(err)
	}
	return base64.RawURLEncoding.EncodeToString(b)
}

// ofToken is what Token is to answer.
func ofToken(l []api.Field) (string, error) {
	var values []string
	for _, f := range l {
		if nameForm.MatchString(f.Name) {
			values = append(values, f.Value)
		}
	}
	if len(values) != 1 {
		return "", api.ErrToken
	}
	m := bearerForm.FindStringSubmatch(values[0])
	if m == nil {
		return "", api.ErrToken
	}
	return m[1], nil
}

// ofDecide is what Decide is to answer, where the tokens are known, and all others are none.
func ofDecide(l []api.Field, a api.Auth, keys []api.Key, now int, known map[string]made) (api.Claims, int, error) {
	if !a.On {
		return api.Claims{}, 0, nil
	}
	s, err := ofToken(l)
	if err != nil {
		return api.Claims{}, 401, api.ErrToken
	}
	if now < 0 || now > lastTick || a.Leeway < 0 || a.Leeway > lastTick {
		return api.Claims{}, 401, api.ErrArg
	}
	m, ok := known[s]
	if !ok {
		return api.Claims{}, 401, api.ErrToken
	}
	switch c := m.claims; {
	case m.alg != "HS256":
		return api.Claims{}, 401, api.ErrAlg
	case !isKnown(keys, m.kid):
		return api.Claims{}, 401, api.ErrKey
	case !isSigned(keys, m):
		return api.Claims{}, 401, api.ErrSign
	case c.Exp < 0 || now >= c.Exp+a.Leeway || c.NotBefore >= 0 && now < c.NotBefore-a.Leeway:
		return api.Claims{}, 401, api.ErrTime
	case a.Issuer != "" && a.Issuer != c.Issuer:
		return api.Claims{}, 401, api.ErrIssuer
	case a.Audience != "" && !slices.Contains(c.Audience, a.Audience):
		return api.Claims{}, 401, api.ErrAudience
	case !holdsAll(c.Scopes, a.Scopes):
		return api.Claims{}, 403, api.ErrScope
	}
	return m.claims, 0, nil
}

func isKnown(keys []api.Key, id string) bool {
	if id == "" {
		return len(keys) == 1
	}
	return slices.ContainsFunc(keys, func(k api.Key) bool { return k.ID == id })
}

// isSigned tells whether the first key that a token can mean is the one that signed it.
func isSigned(keys []api.Key, m made) bool {
	i := slices.IndexFunc(keys, func(k api.Key) bool { return m.kid == "" || k.ID == m.kid })
	return keys[i].Secret == m.secret
}

func holdsAll(have, want []string) bool {
	return !slices.ContainsFunc(want, func(s string) bool { return !slices.Contains(have, s) })
}

// ofScopes is what Scopes is to answer.
func ofScopes(want, have []string) []string {
	var l []string
	for i, s := range want {
		if slices.Index(have, s) < 0 && slices.Index(want, s) == i {
			l = append(l, s)
		}
	}
	return l
}

// sameClaims tells whether claims are the same; nil is the empty list.
func sameClaims(a, b api.Claims) bool {
	return a.Subject == b.Subject && a.Issuer == b.Issuer && slices.Equal(a.Audience, b.Audience) &&
		slices.Equal(a.Scopes, b.Scopes) && a.NotBefore == b.NotBefore && a.Exp == b.Exp
}

// checkToken asks for a token of fields; the empty one is none.
func checkToken(t *testing.T, l []api.Field, want string) {
	t.Helper()
	var wantErr error
	if want == "" {
		wantErr = api.ErrToken
	}
	if got, err := Token(l); got != want || err != wantErr {
		t.Errorf("Token(%s): %s, %v, not %s", short(l), short(got), err, short(want))
	}
	if got, err := ofToken(l); got != want || err != wantErr {
		t.Errorf("the words of Token(%s): %s, %v, not %s", short(l), short(got), err, short(want))
	}
}

// question is all that Decide is asked with, and the tokens that are known.
type question struct {
	l     []api.Field
	a     api.Auth
	keys  []api.Key
	now   int
	known map[string]made
}

// checkDecide asks for claims, a status and an error.
func checkDecide(t *testing.T, q question, want api.Claims, status int, wantErr error) {
	t.Helper()
	if got, n, err := Decide(q.l, q.a, q.keys, q.now); !sameClaims(got, want) || n != status || err != wantErr {
		t.Errorf("Decide(%s, %s, %s, %d): %s, %d, %v, not %s, %d, %v", short(q.l), short(q.a), short(q.keys), q.now, short(got), n, err, short(want), status, wantErr)
	}
	if got, n, err := ofDecide(q.l, q.a, q.keys, q.now, q.known); !sameClaims(got, want) || n != status || err != wantErr {
		t.Errorf("the words of Decide(%s, %s, %s, %d): %s, %d, %v, not %s, %d, %v", short(q.l), short(q.a), short(q.keys), q.now, short(got), n, err, short(want), status, wantErr)
	}
}

// checkError asks for the status and the challenge of an error.
func checkError(t *testing.T, err error, status int, challenge string) {
	t.Helper()
	if n, ask := Status(err), Challenge(err); n != status || ask != challenge {
		t.Errorf("%T %v: Status %d, Challenge %q, not %d, %q", err, err, n, ask, status, challenge)
	}
}

func checkScopes(t *testing.T, want, have []string, missing ...string) {
	t.Helper()
	if got := Scopes(want, have); !slices.Equal(got, missing) {
		t.Errorf("Scopes(%s, %s): %s, not %s", short(want), short(have), short(got), short(missing))
	}
	if got := ofScopes(want, have); !slices.Equal(got, missing) {
		t.Errorf("the words of Scopes(%s, %s): %s, not %s", short(want), short(have), short(got), short(missing))
	}
}

// fields is a head's fields, of names and values in turns.
func fields(texts ...string) []api.Field {
	var l []api.Field
	for i := 0; i+1 < len(texts); i += 2 {
		l = append(l, api.Field{Name: texts[i], Value: texts[i+1]})
	}
	return l
}

// bearing is a head's only field, with a token.
func bearing(s string) []api.Field { return fields("Authorization", "Bearer "+s) }

// knowing is the tokens that are known, by their texts.
func knowing(l ...made) map[string]made {
	known := map[string]made{}
	for _, m := range l {
		known[m.text()] = m
	}
	return known
}

// short is what tells of a value, without what is too long to be read.
func short(value any) string {
	s := fmt.Sprintf("%q", value)
	if len(s) > 400 {
		return s[:200] + ".." + s[len(s)-200:]
	}
	return s
}

// wrapped is an error around another one, with a text of its own.
type wrapped struct {
	text string
	err  error
}

func (w wrapped) Error() string { return w.text }
func (w wrapped) Unwrap() error { return w.err }

// around is an error in each way in which one stands around another one.
func around(err error) []error {
	return []error{
		wrapped{"a", err}, &wrapped{"b", err}, wrapped{"c", wrapped{"d", &wrapped{"e", err}}}, fmt.Errorf("f: %w", err), errors.Join(err), errors.Join(errors.New("g"), err), errors.Join(err, errors.New("h")),
		fmt.Errorf("%w, %w", errors.New("i"), err), wrapped{"j", errors.Join(errors.New("k"), wrapped{"l", err})}, alike{err},
	}
}

// alike is an error that says of itself which one it is.
type alike struct{ err error }

func (a alike) Error() string        { return "alike" }
func (a alike) Is(target error) bool { return target == a.err }

// maker makes any fields, tokens, keys and routes' wishes.
type maker struct{ *rand.Rand }

func newMaker(seed int64) *maker { return &maker{rand.New(rand.NewSource(seed))} }

// of is one of some texts.
func (m *maker) of(texts ...string) string { return texts[m.Intn(len(texts))] }

// some is some of few texts, now and then one of them twice.
func (m *maker) some(most int, texts ...string) []string {
	var l []string
	for range m.Intn(most + 1) {
		l = append(l, m.of(texts...))
	}
	return l
}

// tick is -1, one of few, or the last one.
func (m *maker) tick() int {
	if m.Intn(12) == 0 {
		return lastTick
	}
	return m.Intn(12) - 1
}

// token is a token that is mostly right at most times.
func (m *maker) token() made {
	c := api.Claims{Subject: m.of("", "me"), Issuer: m.of("i", "i", "j", ""), Audience: m.some(3, "a", "a", "b"), Scopes: m.some(4, "r", "w", "x"), NotBefore: -1, Exp: lastTick}
	if m.Intn(3) == 0 {
		c.NotBefore = m.tick()
	}
	if m.Intn(3) == 0 {
		c.Exp = m.tick()
	}
	return made{m.of("HS256", "HS256", "HS256", "HS256", "HS256", "HS256", "none", "hs256"), m.of("", "k", "k", "k", "l"), m.of("one", "one", "one", "two"), c}
}

// auth is what a route may ask for.
func (m *maker) auth() api.Auth {
	a := api.Auth{On: m.Intn(8) > 0, Issuer: m.of("", "", "i"), Audience: m.of("", "", "a"), Scopes: m.some(2, "r", "w", "r")}
	if m.Intn(3) == 0 {
		a.Leeway = m.tick()
	}
	return a
}

// fields is fields of which mostly one bears a text.
func (m *maker) fields(s string) []api.Field {
	var l []api.Field
	for range m.Intn(3) {
		l = append(l, api.Field{Name: m.of("Host", "Authorizatio", "Proxy-Authorization", "X-Authorization", "authorization "), Value: m.of("a", "Bearer a.b.c", "Bearer "+s)})
	}
	times := 1
	if m.Intn(6) == 0 {
		times = m.Intn(3)
	}
	for range times {
		f := api.Field{Name: m.of("Authorization", "authorization", "AUTHORIZATION", "aUTHorization"), Value: m.of("Bearer ", "bearer ", "BEARER   ") + s}
		if m.Intn(12) == 0 {
			f.Value = m.of("", "Bearer", "Basic "+s, s, "Bearer "+s+" ", "Bearer "+s+",", "Bearer a.b.c", "Bearer "+s+"=", "Bearer ."+s)
		}
		l = slices.Insert(l, m.Intn(len(l)+1), f)
	}
	return l
}
