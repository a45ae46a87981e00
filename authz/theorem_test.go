package authz

import (
	"slices"
	"sync"
	"testing"
	"turnstile/api"
	"turnstile/jwt"
	"unsafe"
)

// lets is the theorem's words: whether a route that asks lets a request in.
func lets(q question) bool {
	s, err := ofToken(q.l)
	m, ok := q.known[s]
	if err != nil || !ok || m.alg != "HS256" {
		return false
	}
	signed := false
	for _, k := range q.keys {
		signed = signed || (k.ID == m.kid || m.kid == "" && len(q.keys) == 1) && k.Secret == m.secret
	}
	early := m.claims.NotBefore >= 0 && q.now < m.claims.NotBefore-q.a.Leeway
	late := m.claims.Exp < 0 || q.now >= m.claims.Exp+q.a.Leeway
	return signed && !early && !late && (q.a.Issuer == "" || q.a.Issuer == m.claims.Issuer) &&
		(q.a.Audience == "" || slices.Contains(m.claims.Audience, q.a.Audience)) && holdsAll(m.claims.Scopes, q.a.Scopes)
}

// AZ4: any requests: just those that have all that is asked for are let in; and AZ2: what they are answered with, against the chapter's words.
func TestAnyRequest(t *testing.T) {
	m := newMaker(2)
	ends := map[error]int{}
	for range 30000 {
		token := m.token()
		q := question{m.fields(token.text()), m.auth(), []api.Key{{ID: "k", Secret: "one"}, {ID: "l", Secret: "two"}}[:1+m.Intn(2)], max(m.tick(), 0), knowing(token)}
		if q.a.Leeway < 0 && m.Intn(2) == 0 {
			q.a.Leeway = 0
		}
		c, status, err := ofDecide(q.l, q.a, q.keys, q.now, q.known)
		checkDecide(t, q, c, status, err)
		if q.a.On && err != api.ErrArg && lets(q) != (status == 0) {
			t.Errorf("%s: lets in: %t, but %d", short(q), lets(q), status)
		}
		if _, n, err := Decide(q.l, q.a, q.keys, q.now); n != Status(err) {
			t.Errorf("%s: %d, and the status of %v is %d", short(q), n, err, Status(err))
		}
		ends[err]++
		if t.Failed() {
			t.FailNow()
		}
	}
	for _, err := range append(layer19, nil) {
		if ends[err] < 100 {
			t.Errorf("%v only %d times", err, ends[err])
		}
	}
}

// AZ4: what layer 19 signs is let in; with one bit of the token turned it is not, whichever it is, with one key or more.
func TestTurnedBits(t *testing.T) {
	long := good().claims
	for _, c := range []api.Claims{{NotBefore: -1, Exp: 100}, {Subject: "0", NotBefore: 0, Exp: 99}, {Issuer: "ii", NotBefore: -1, Exp: 100}, long} {
		for _, keys := range [][]api.Key{{keyOne}, {keyTwo, keyOne, {ID: "oneone"}}, {{Secret: "key"}}, {{ID: "k"}, {ID: "j", Secret: "s"}}} {
			s, err := jwt.Sign(keys[len(keys)/2], c)
			if err != nil {
				t.Fatal(err)
			}
			a := api.Auth{On: true, Leeway: 5}
			if got, n, err := Decide(bearing(s), a, keys, 50); !sameClaims(got, c) || n != 0 || err != nil {
				t.Fatalf("%s: %v, %d, %v", s, got, n, err)
			}
			for i := range 8 * len(s) {
				b := []byte(s)
				b[i/8] ^= 1 << (i % 8)
				if got, n, err := Decide(bearing(string(b)), a, keys, 50); n != 401 || err == nil || !sameClaims(got, api.Claims{}) {
					t.Fatalf("bit %d of %s turned: %v, %d, %v", i, s, got, n, err)
				}
			}
		}
	}
}

// inside tells whether a text is a piece of another one's memory.
func inside(s, whole string) bool {
	if s == "" || whole == "" {
		return false
	}
	at, from := uintptr(unsafe.Pointer(unsafe.StringData(s))), uintptr(unsafe.Pointer(unsafe.StringData(whole)))
	return at >= from && at < from+uintptr(len(whole))
}

// over writes over all of a list, spare room too.
func over(l []string) {
	for i := range l[:cap(l)] {
		l[:cap(l)][i] = "over"
	}
}

// Rule 3: what is answered shares no memory with an argument or with another answer.
func TestAnswers(t *testing.T) {
	m := good()
	l, a, keys := bearing(m.text()), all(), []api.Key{keyTwo, keyOne}
	for range 3 {
		s, err := Token(l)
		if err != nil || s != m.text() || inside(s, l[0].Value) {
			t.Fatalf("%q, %v, or a piece of the field", s, err)
		}
		c, _, err := Decide(l, a, keys, 50)
		d, _, otherErr := Decide(l, a, keys, 50)
		if err != nil || otherErr != nil || !sameClaims(c, m.claims) {
			t.Fatalf("%v, %v, %v", c, err, otherErr)
		}
		over(c.Audience)
		if !slices.Equal(c.Scopes, m.claims.Scopes) || !sameClaims(d, m.claims) {
			t.Fatalf("written over: %v, %v", c, d)
		}
		over(c.Scopes)
		over(d.Scopes)
		if !slices.Equal(d.Audience, m.claims.Audience) {
			t.Fatalf("written over: %v", d)
		}
	}
	want := []string{"a text", "another", "a text", "b"}
	for range 3 {
		got := Scopes(want, []string{"b"})
		if !slices.Equal(got, want[:2]) || inside(got[0], want[0]) || inside(got[1], want[1]) {
			t.Fatalf("%q, or a piece of an argument", got)
		}
		over(got)
	}
	client, c := string([]byte("client")), api.Claims{Subject: string([]byte("subject"))}
	if inside(Subject(c, client), c.Subject) || inside(Subject(api.Claims{}, client), client) {
		t.Error("Subject's answer is a piece of an argument")
	}
}

// Rule 3: no list that is handed in is changed, nor the room behind it.
func TestArguments(t *testing.T) {
	m := good()
	l := append(make([]api.Field, 0, 4), fields("Host", "x", "Authorization", "Bearer "+m.text())...)
	keys := append(make([]api.Key, 0, 4), keyTwo, keyOne)
	a := all()
	a.Scopes = append(make([]string, 0, 4), "w", "r")
	have := append(make([]string, 0, 4), "r", "r")
	checkDecide(t, question{l, a, keys, 50, knowing(m)}, m.claims, 0, nil)
	checkToken(t, l, m.text())
	checkScopes(t, a.Scopes, have, "w")
	if !slices.Equal(l[:4], []api.Field{{Name: "Host", Value: "x"}, {Name: "Authorization", Value: "Bearer " + m.text()}, {}, {}}) {
		t.Errorf("the fields changed: %q", l[:4])
	}
	if !slices.Equal(keys[:4], []api.Key{keyTwo, keyOne, {}, {}}) {
		t.Errorf("the keys changed: %q", keys[:4])
	}
	if !slices.Equal(a.Scopes[:4], []string{"w", "r", "", ""}) || !slices.Equal(have[:4], []string{"r", "r", "", ""}) {
		t.Errorf("the scopes changed: %q, %q", a.Scopes[:4], have[:4])
	}
}

// Rule 4: asking twice answers the same, and many may ask at once.
func TestAsking(t *testing.T) {
	m := newMaker(3)
	var l []question
	for range 300 {
		token := m.token()
		l = append(l, question{m.fields(token.text()), m.auth(), []api.Key{{ID: "k", Secret: "one"}}, m.tick(), knowing(token)})
	}
	var wait sync.WaitGroup
	for range 4 {
		wait.Go(func() {
			for _, q := range l {
				c, n, err := ofDecide(q.l, q.a, q.keys, q.now, q.known)
				for range 2 {
					checkDecide(t, q, c, n, err)
				}
			}
		})
	}
	wait.Wait()
}
