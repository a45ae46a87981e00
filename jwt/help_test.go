package jwt

import (
	"bytes"
	"crypto/hmac"
	"crypto/sha256"
	"encoding/base64"
	stdjson "encoding/json"
	"fmt"
	"math/big"
	"math/rand"
	"regexp"
	"slices"
	"strings"
	"testing"
	"turnstile/api"
	"turnstile/json"
)

// The bounds and the forms, written down a second time.
const (
	longest   = 8192
	lastTick  = 1 << 40
	goodClaim = `{"exp":100}`
	goodHead  = `{"alg":"HS256"}`
)

var (
	threeTexts = regexp.MustCompile(`\A([A-Za-z0-9_-]*)\.([A-Za-z0-9_-]*)\.([A-Za-z0-9_-]*)\z`)
	wholeForm  = regexp.MustCompile(`\A-?(0|[1-9][0-9]*)\z`)
	plainForm  = regexp.MustCompile(`\A[ !#-\[\]-~]*\z`)
	scopeForm  = regexp.MustCompile(`\A[!#-\[\]-~]+\z`)
	bearerForm = regexp.MustCompile(`\A[Bb][Ee][Aa][Rr][Ee][Rr] +([A-Za-z0-9._~+/=-]+)\z`)
	wordsForm  = regexp.MustCompile(`\A[^ ]+( [^ ]+)*\z`)
	library    = base64.RawURLEncoding.Strict()
)

// nothing is the claims of which all are missing.
var nothing = api.Claims{NotBefore: -1, Exp: -1}

// digitsOf is bytes as base64url.
func digitsOf(s string) string { return library.EncodeToString([]byte(s)) }

// unsigned is the signed part of a token.
func unsigned(header, claims string) string { return digitsOf(header) + "." + digitsOf(claims) }

// codeOf is what a token with a signed part is signed with.
func codeOf(secret, part string) string {
	h := hmac.New(sha256.New, []byte(secret))
	h.Write([]byte(part))
	return string(h.Sum(nil))
}

// signed is a token of any header and claims.
func signed(secret, header, claims string) string {
	part := unsigned(header, claims)
	return part + "." + digitsOf(codeOf(secret, part))
}

// sameClaims tells whether claims are the same; nil is the empty list.
func sameClaims(a, b api.Claims) bool {
	return a.Subject == b.Subject && a.Issuer == b.Issuer && slices.Equal(a.Audience, b.Audience) &&
		slices.Equal(a.Scopes, b.Scopes) && a.NotBefore == b.NotBefore && a.Exp == b.Exp
}

func sameToken(a, b Token) bool {
	return a.Alg == b.Alg && a.Kid == b.Kid && sameClaims(a.Claims, b.Claims) && a.Signed == b.Signed && bytes.Equal(a.Signature, b.Signature)
}

// partsOf is what an object has, by its names.
func partsOf(digits string) (map[string]api.Value, bool) {
	text, err := library.DecodeString(digits)
	if err != nil {
		return nil, false
	}
	v, _, err := json.Parse(string(text))
	if err != nil || v.Kind != api.JSONObject {
		return nil, false
	}
	parts := map[string]api.Value{}
	for i, name := range v.Names {
		parts[name] = v.List[i]
	}
	return parts, true
}

// texts is what a list of texts holds.
func texts(v api.Value) ([]string, bool) {
	var l []string
	for _, part := range v.List {
		if part.Kind != api.JSONText {
			return nil, false
		}
		l = append(l, part.Text)
	}
	return l, v.Kind == api.JSONList
}

// tick is a number's tick.
func tick(v api.Value) (int, bool) {
	n, ok := new(big.Int).SetString(v.Text, 10)
	if v.Kind != api.JSONNumber || !wholeForm.MatchString(v.Text) || !ok || n.Sign() < 0 || n.Cmp(big.NewInt(lastTick)) > 0 {
		return 0, false
	}
	return int(n.Int64()), true
}

// claimsOf is what the parts of claims say, if they are of the kinds that are asked for.
func claimsOf(parts map[string]api.Value) (api.Claims, bool) {
	c, all := nothing, true
	for name, v := range parts {
		ok := true
		switch name {
		case "sub":
			c.Subject, ok = v.Text, v.Kind == api.JSONText
		case "iss":
			c.Issuer, ok = v.Text, v.Kind == api.JSONText
		case "aud":
			c.Audience, ok = texts(v)
			if v.Kind == api.JSONText {
				c.Audience, ok = []string{v.Text}, true
			}
		case "nbf":
			c.NotBefore, ok = tick(v)
		case "exp":
			c.Exp, ok = tick(v)
		case "scope":
			ok = v.Kind == api.JSONText && (v.Text == "" || wordsForm.MatchString(v.Text))
			if v.Text != "" {
				c.Scopes = strings.Split(v.Text, " ")
			}
		}
		all = all && ok
	}
	return c, all
}

// ofParse is what Parse is to answer.
func ofParse(s string) (Token, error) {
	m := threeTexts.FindStringSubmatch(s)
	if m == nil || len(s) > longest {
		return Token{}, api.ErrToken
	}
	header, isHeader := partsOf(m[1])
	parts, isClaims := partsOf(m[2])
	code, err := library.DecodeString(m[3])
	if !isHeader || !isClaims || err != nil {
		return Token{}, api.ErrToken
	}
	c, ok := claimsOf(parts)
	_, crit := header["crit"]
	if !ok || crit || header["alg"].Kind != api.JSONText {
		return Token{}, api.ErrToken
	}
	for _, name := range []string{"kid", "typ"} {
		if v, has := header[name]; has && v.Kind != api.JSONText {
			return Token{}, api.ErrToken
		}
	}
	return Token{header["alg"].Text, header["kid"].Text, c, m[1] + "." + m[2], code}, nil
}

// ofCheck is what Check is to answer.
func ofCheck(c api.Claims, a api.Auth, now int) error {
	outside := func(n, low int) bool { return n < low || n > lastTick }
	if outside(now, 0) || outside(a.Leeway, 0) || outside(c.NotBefore, -1) || outside(c.Exp, -1) {
		return api.ErrArg
	}
	if c.Exp == -1 || !(now < c.Exp+a.Leeway) || c.NotBefore != -1 && now < c.NotBefore-a.Leeway {
		return api.ErrTime
	}
	if a.Issuer != "" && c.Issuer != a.Issuer {
		return api.ErrIssuer
	}
	if a.Audience != "" && slices.Index(c.Audience, a.Audience) < 0 {
		return api.ErrAudience
	}
	if slices.ContainsFunc(a.Scopes, func(s string) bool { return slices.Index(c.Scopes, s) < 0 }) {
		return api.ErrScope
	}
	return nil
}

// ofVerify is what Verify is to answer.
func ofVerify(s string, keys []api.Key, a api.Auth, now int) (api.Claims, error) {
	if now < 0 || now > lastTick || a.Leeway < 0 || a.Leeway > lastTick {
		return api.Claims{}, api.ErrArg
	}
	u, err := ofParse(s)
	if err != nil {
		return api.Claims{}, err
	}
	if u.Alg != "HS256" {
		return api.Claims{}, api.ErrAlg
	}
	at := slices.IndexFunc(keys, func(k api.Key) bool { return k.ID == u.Kid })
	if u.Kid == "" {
		at = len(keys) - 1
		if at > 0 {
			at = -1
		}
	}
	if at < 0 {
		return api.Claims{}, api.ErrKey
	}
	if codeOf(keys[at].Secret, u.Signed) != string(u.Signature) {
		return api.Claims{}, api.ErrSign
	}
	if err := ofCheck(u.Claims, a, now); err != nil {
		return api.Claims{}, err
	}
	return u.Claims, nil
}

// written is claims as the library writes them, in the order of the fields.
func written(c api.Claims) string {
	number := func(n int) *int {
		if n == -1 {
			return nil
		}
		return &n
	}
	var b bytes.Buffer
	e := stdjson.NewEncoder(&b)
	e.SetEscapeHTML(false)
	err := e.Encode(struct {
		Sub   string   `json:"sub,omitempty"`
		Iss   string   `json:"iss,omitempty"`
		Aud   []string `json:"aud,omitempty"`
		Nbf   *int     `json:"nbf,omitempty"`
		Exp   *int     `json:"exp,omitempty"`
		Scope string   `json:"scope,omitempty"`
	}{c.Subject, c.Issuer, c.Audience, number(c.NotBefore), number(c.Exp), strings.Join(c.Scopes, " ")})
	if err != nil {
		panic(err)
	}
	return strings.TrimSuffix(b.String(), "\n")
}

// ofSign is what Sign is to answer.
func ofSign(k api.Key, c api.Claims) (string, error) {
	for _, s := range append([]string{k.ID, c.Subject, c.Issuer}, c.Audience...) {
		if !plainForm.MatchString(s) {
			return "", api.ErrToken
		}
	}
	for _, s := range c.Scopes {
		if !scopeForm.MatchString(s) {
			return "", api.ErrToken
		}
	}
	for _, n := range []int{c.NotBefore, c.Exp} {
		if n < -1 || n > lastTick {
			return "", api.ErrToken
		}
	}
	s := signed(k.Secret, fmt.Sprintf(`{"alg":"HS256","kid":"%s"}`, k.ID), written(c))
	if len(s) > longest {
		return "", api.ErrToken
	}
	return s, nil
}

// ofBearer is what Bearer is to answer.
func ofBearer(value string) (string, error) {
	m := bearerForm.FindStringSubmatch(value)
	if m == nil {
		return "", api.ErrToken
	}
	return m[1], nil
}

// checkParse asks for a token, or for an error beside none.
func checkParse(t *testing.T, s string, want Token, wantErr error) {
	t.Helper()
	if got, err := Parse(s); !sameToken(got, want) || err != wantErr {
		t.Errorf("Parse(%s): %s, %v, not %s, %v", short(s), short(got), err, short(want), wantErr)
	}
	if got, err := ofParse(s); !sameToken(got, want) || err != wantErr {
		t.Errorf("the words of Parse(%s): %s, %v, not %s, %v", short(s), short(got), err, short(want), wantErr)
	}
}

func checkNone(t *testing.T, s string) {
	t.Helper()
	checkParse(t, s, Token{}, api.ErrToken)
}

// checkHeader asks for the algorithm and the key's ID that a header tells.
func checkHeader(t *testing.T, header, alg, kid string) {
	t.Helper()
	part := unsigned(header, "{}")
	checkParse(t, part+".AQID", Token{alg, kid, nothing, part, []byte{1, 2, 3}}, nil)
}

func checkNoHeader(t *testing.T, header string) {
	t.Helper()
	checkNone(t, unsigned(header, "{}")+".AQID")
}

// checkClaims asks for what a text tells as claims.
func checkClaims(t *testing.T, claims string, want api.Claims) {
	t.Helper()
	part := unsigned(goodHead, claims)
	checkParse(t, part+".", Token{"HS256", "", want, part, nil}, nil)
}

func checkNoClaims(t *testing.T, claims string) {
	t.Helper()
	checkNone(t, unsigned(goodHead, claims)+".")
}

// checkVerify asks for claims, or for an error beside none.
func checkVerify(t *testing.T, s string, keys []api.Key, a api.Auth, now int, want api.Claims, wantErr error) {
	t.Helper()
	if got, err := Verify(s, keys, a, now); !sameClaims(got, want) || err != wantErr {
		t.Errorf("Verify(%s, %s, %s, %d): %s, %v, not %s, %v", short(s), short(keys), short(a), now, short(got), err, short(want), wantErr)
	}
	if got, err := ofVerify(s, keys, a, now); !sameClaims(got, want) || err != wantErr {
		t.Errorf("the words of Verify(%s, %s, %s, %d): %s, %v, not %s, %v", short(s), short(keys), short(a), now, short(got), err, short(want), wantErr)
	}
}

func checkCheck(t *testing.T, c api.Claims, a api.Auth, now int, want error) {
	t.Helper()
	if err := Check(c, a, now); err != want {
		t.Errorf("Check(%s, %s, %d): %v, not %v", short(c), short(a), now, err, want)
	}
	if err := ofCheck(c, a, now); err != want {
		t.Errorf("the words of Check(%s, %s, %d): %v, not %v", short(c), short(a), now, err, want)
	}
}

// checkSign asks for a token of a key and a text of claims.
func checkSign(t *testing.T, k api.Key, c api.Claims, header, claims string) {
	t.Helper()
	want := signed(k.Secret, header, claims)
	if got, err := Sign(k, c); got != want || err != nil {
		t.Errorf("Sign(%s, %s): %s, %v, not %s", short(k), short(c), short(got), err, short(want))
	}
	if got, err := ofSign(k, c); got != want || err != nil {
		t.Errorf("the words of Sign(%s, %s): %s, %v, not %s", short(k), short(c), short(got), err, short(want))
	}
}

func checkNoSign(t *testing.T, k api.Key, c api.Claims) {
	t.Helper()
	if got, err := Sign(k, c); got != "" || err != api.ErrToken {
		t.Errorf("Sign(%s, %s): %s, %v", short(k), short(c), short(got), err)
	}
	if got, err := ofSign(k, c); got != "" || err != api.ErrToken {
		t.Errorf("the words of Sign(%s, %s): %s, %v", short(k), short(c), short(got), err)
	}
}

// checkBearer asks for a token of a field's value; the empty one is none.
func checkBearer(t *testing.T, value, want string) {
	t.Helper()
	var wantErr error
	if want == "" {
		wantErr = api.ErrToken
	}
	if got, err := Bearer(value); got != want || err != wantErr {
		t.Errorf("Bearer(%s): %s, %v, not %s", short(value), short(got), err, short(want))
	}
	if got, err := ofBearer(value); got != want || err != wantErr {
		t.Errorf("the words of Bearer(%s): %s, %v, not %s", short(value), short(got), err, short(want))
	}
}

// short is what tells of a value, without what is too long to be read.
func short(value any) string {
	s := fmt.Sprintf("%q", value)
	if len(s) > 400 {
		return s[:200] + ".." + s[len(s)-200:]
	}
	return s
}

// maker makes any keys, claims, routes' wishes and tokens.
type maker struct{ *rand.Rand }

func newMaker(seed int64) *maker { return &maker{rand.New(rand.NewSource(seed))} }

// of is one of some texts.
func (m *maker) of(texts ...string) string { return texts[m.Intn(len(texts))] }

// some is some of few texts, now and then one of them twice.
func (m *maker) some(texts ...string) []string {
	var l []string
	for range m.Intn(4) {
		l = append(l, m.of(texts...))
	}
	return l
}

func (m *maker) secret() string {
	b := make([]byte, m.Intn(4)*m.Intn(40))
	m.Read(b)
	return string(b)
}

// tick is -1, one of few, or the last one.
func (m *maker) tick() int {
	if m.Intn(12) == 0 {
		return lastTick
	}
	return m.Intn(12) - 1
}

// claims is what Sign takes.
func (m *maker) claims() api.Claims {
	return api.Claims{
		Subject: m.of("", "7", "a b", " ", "/:~.{}[],"), Issuer: m.of("", "i", "https://i.x/"), Audience: m.some("", "a", "b", "a b"),
		Scopes: m.some("r", "w", "r:w", "<>&'"), NotBefore: m.tick(), Exp: m.tick(),
	}
}

// auth is what a route may ask for.
func (m *maker) auth() api.Auth {
	a := api.Auth{On: m.Intn(2) == 0, Issuer: m.of("", "", "i", "https://i.x/"), Audience: m.of("", "", "a", "b"), Leeway: m.Intn(3) * m.Intn(3)}
	if m.Intn(2) == 0 {
		a.Scopes = m.some("r", "w")
	}
	return a
}
