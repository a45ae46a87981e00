package authz

import (
	"math"
	"testing"
	"turnstile/api"
	"turnstile/jwt"
)

var (
	keyOne = api.Key{ID: "one", Secret: "first secret"}
	keyTwo = api.Key{ID: "two", Secret: "second secret"}
)

// good is a token of keyOne that is right at the times 5 to 99.
func good() made {
	return made{"HS256", keyOne.ID, keyOne.Secret, api.Claims{Subject: "me", Issuer: "i", Audience: []string{"a", "b"}, Scopes: []string{"r", "w"}, NotBefore: 5, Exp: 100}}
}

// all is an Auth that asks for all that the good token has.
func all() api.Auth {
	return api.Auth{On: true, Issuer: "i", Audience: "b", Scopes: []string{"w", "r"}}
}

// asked is the question that a token answers well.
func asked(m made) question {
	return question{bearing(m.text()), all(), []api.Key{keyTwo, keyOne}, 50, knowing(m)}
}

// The chapter's examples: without a field, and with a good token and a scope missing.
func TestExamples(t *testing.T) {
	k := api.Key{ID: "k", Secret: "s"}
	c := api.Claims{Subject: "me", Scopes: []string{"read"}, NotBefore: -1, Exp: 9}
	s, err := jwt.Sign(k, c)
	if err != nil {
		t.Fatal(err)
	}
	q := question{nil, api.Auth{On: true, Scopes: []string{"read", "write"}}, []api.Key{k}, 5, map[string]made{s: {"HS256", "k", "s", c}}}
	checkDecide(t, q, api.Claims{}, 401, api.ErrToken)
	checkError(t, api.ErrToken, 401, "Bearer")
	q.l = bearing(s)
	checkDecide(t, q, api.Claims{}, 403, api.ErrScope)
	checkError(t, api.ErrScope, 403, `Bearer error="insufficient_scope"`)
	q.a.Scopes = q.a.Scopes[:1]
	checkDecide(t, q, c, 0, nil)
}

// AZ2: a route that doesn't ask lets everyone in, and tells nothing of who asks.
func TestNotOn(t *testing.T) {
	m := good()
	for _, l := range [][]api.Field{nil, bearing(m.text()), bearing("x"), fields("Authorization", ""), append(bearing(m.text()), bearing(m.text())...)} {
		for _, a := range []api.Auth{{}, {Issuer: "i"}, {Issuer: "j", Audience: "c", Scopes: []string{"no"}, Leeway: 7}, {Leeway: -1}, {Leeway: math.MaxInt}} {
			for _, keys := range [][]api.Key{nil, {keyOne}, {keyTwo, keyOne}} {
				for _, now := range []int{50, 0, 1000, -1, lastTick, lastTick + 1, math.MinInt, math.MaxInt} {
					checkDecide(t, question{l, a, keys, now, knowing(m)}, api.Claims{}, 0, nil)
				}
			}
		}
	}
}

// AZ2: a good token gives its claims, whoever is asked for with it.
func TestDecide(t *testing.T) {
	m := good()
	for _, l := range [][]api.Field{
		bearing(m.text()), fields("authorization", "bearer   "+m.text()), fields("Host", "x", "AUTHORIZATION", "BEARER "+m.text(), "Proxy-Authorization", "Bearer x.y.z", "X", ""),
	} {
		for _, a := range []api.Auth{all(), {On: true}, {On: true, Issuer: "i"}, {On: true, Audience: "a"}, {On: true, Scopes: []string{"r"}}, {On: true, Scopes: []string{"w", "w", "r", "w"}}} {
			for _, keys := range [][]api.Key{{keyOne}, {keyOne, keyTwo}, {keyTwo, keyOne}, {{}, keyTwo, keyOne, keyTwo}} {
				q := question{l, a, keys, 50, knowing(m)}
				checkDecide(t, q, m.claims, 0, nil)
			}
		}
	}
	bare := made{"HS256", "", "one", api.Claims{NotBefore: -1, Exp: 1}}
	checkDecide(t, question{bearing(bare.text()), api.Auth{On: true}, []api.Key{{ID: "any", Secret: "one"}}, 0, knowing(bare)}, bare.claims, 0, nil)
}

// spoil is a way to spoil a question, and the error that it is answered with.
type spoil struct {
	err error
	way func(q *question)
}

// remade is a question with a token that differs.
func remade(q *question, change func(m *made)) {
	s, err := ofToken(q.l)
	if err != nil {
		panic(err)
	}
	m := q.known[s]
	change(&m)
	q.l, q.known = bearing(m.text()), knowing(m)
}

// spoils is the ways to spoil a question, in the order in which they are told.
func spoils() []spoil {
	return []spoil{
		{api.ErrArg, func(q *question) { q.now = -1 }},
		{api.ErrAlg, func(q *question) { remade(q, func(m *made) { m.alg = "none" }) }},
		{api.ErrKey, func(q *question) { remade(q, func(m *made) { m.kid = "three" }) }},
		{api.ErrSign, func(q *question) { remade(q, func(m *made) { m.secret = keyTwo.Secret }) }},
		{api.ErrTime, func(q *question) { remade(q, func(m *made) { m.claims.Exp = 50 }) }},
		{api.ErrIssuer, func(q *question) { q.a.Issuer = "j" }},
		{api.ErrAudience, func(q *question) { q.a.Audience = "c" }},
		{api.ErrScope, func(q *question) { q.a.Scopes = []string{"r", "x"} }},
	}
}

// AZ2: each error alone, and every set of them at once: the first one is told, with its status.
func TestEveryErrors(t *testing.T) {
	l := spoils()
	for set := range 1 << len(l) {
		q := asked(good())
		want, status := error(nil), 0
		for i, s := range l {
			if set>>i&1 == 0 {
				continue
			}
			s.way(&q)
			if want == nil {
				want, status = s.err, 401
			}
		}
		if want == api.ErrScope {
			status = 403
		}
		c := api.Claims{}
		if set == 0 {
			c = good().claims
		}
		checkDecide(t, q, c, status, want)
		// No token goes ahead of all of them, but what is no token comes behind a time that can't be.
		for _, none := range [][]api.Field{nil, fields("Host", "x"), fields("Authorization", "Basic x"), append(q.l, q.l...), fields("Authorization", "Bearer ")} {
			checkDecide(t, question{none, q.a, q.keys, q.now, q.known}, api.Claims{}, 401, api.ErrToken)
		}
		want = api.ErrToken
		if set&1 == 1 {
			want = api.ErrArg
		}
		for _, s := range []string{"x", "a.b.c", "..", good().text() + ".", "." + good().text(), good().text() + "="} {
			checkDecide(t, question{bearing(s), q.a, q.keys, q.now, q.known}, api.Claims{}, 401, want)
		}
		if t.Failed() {
			t.FailNow()
		}
	}
}

// AZ2: what can't be a time, or a leeway, is told behind the field and ahead of the token.
func TestArgs(t *testing.T) {
	for _, n := range []int{math.MinInt, -lastTick, -2, -1, lastTick + 1, 2 * lastTick, math.MaxInt} {
		q := asked(good())
		q.now = n
		checkDecide(t, q, api.Claims{}, 401, api.ErrArg)
		q.a.Leeway = n
		checkDecide(t, q, api.Claims{}, 401, api.ErrArg)
		q.now = 50
		checkDecide(t, q, api.Claims{}, 401, api.ErrArg)
		q.l = nil
		checkDecide(t, q, api.Claims{}, 401, api.ErrToken)
	}
	q := asked(good())
	q.now, q.a.Leeway = lastTick, lastTick
	checkDecide(t, q, good().claims, 0, nil)
	q.now = 0
	checkDecide(t, q, good().claims, 0, nil)
}

// AZ2: which key a token is held against.
func TestKeys(t *testing.T) {
	m := good()
	other := api.Key{ID: "one", Secret: "another secret"}
	for _, c := range []struct {
		kid  string
		keys []api.Key
		err  error
	}{
		{"one", nil, api.ErrKey}, {"one", []api.Key{keyTwo}, api.ErrKey}, {"one", []api.Key{keyOne}, nil}, {"one", []api.Key{other}, api.ErrSign}, {"one", []api.Key{keyTwo, keyOne}, nil}, {"one", []api.Key{{ID: "One", Secret: keyOne.Secret}}, api.ErrKey},
		{"one", []api.Key{keyOne, other}, nil}, {"one", []api.Key{other, keyOne}, api.ErrSign}, {"two", []api.Key{keyOne, keyTwo}, api.ErrSign}, {"", nil, api.ErrKey}, {"", []api.Key{keyOne}, nil}, {"", []api.Key{other}, api.ErrSign},
		{"", []api.Key{keyOne, keyTwo}, api.ErrKey}, {"", []api.Key{keyOne, keyOne}, api.ErrKey}, {"", []api.Key{keyTwo}, api.ErrSign}, {"three", []api.Key{keyOne}, api.ErrKey},
	} {
		m.kid = c.kid
		q, want, status := asked(m), m.claims, 0
		if c.err != nil {
			want, status = api.Claims{}, 401
		}
		q.keys = c.keys
		checkDecide(t, q, want, status, c.err)
	}
}

// AZ2: every time around nbf and exp, with any leeway.
func TestTimes(t *testing.T) {
	for _, span := range [][2]int{{-1, 10}, {0, 10}, {5, 10}, {9, 10}, {10, 10}, {11, 10}, {5, -1}, {-1, -1}, {0, 0}, {-1, 0}, {-1, lastTick}, {lastTick, lastTick}} {
		m := good()
		m.claims.NotBefore, m.claims.Exp = span[0], span[1]
		q := asked(m)
		for _, leeway := range []int{0, 1, 2, 5, 20, lastTick - 1, lastTick} {
			q.a.Leeway = leeway
			for _, now := range []int{0, 1, 2, 3, 4, 5, 6, 7, 8, 9, 10, 11, 12, 13, 14, 15, 16, 29, 30, 31, lastTick - 20, lastTick - 6, lastTick - 5, lastTick - 4, lastTick - 2, lastTick - 1, lastTick} {
				q.now = now
				if span[1] >= 0 && now < span[1]+leeway && (span[0] < 0 || now+leeway >= span[0]) {
					checkDecide(t, q, m.claims, 0, nil)
				} else {
					checkDecide(t, q, api.Claims{}, 401, api.ErrTime)
				}
			}
		}
	}
}

// AZ2: the issuer, the audience and the scopes byte by byte; what isn't asked for may be anything.
func TestWishes(t *testing.T) {
	for _, c := range []struct {
		a   api.Auth
		err error
	}{
		{api.Auth{Issuer: "i"}, nil}, {api.Auth{Issuer: "I"}, api.ErrIssuer}, {api.Auth{Issuer: "i "}, api.ErrIssuer}, {api.Auth{Issuer: "me"}, api.ErrIssuer},
		{api.Auth{Audience: "a"}, nil}, {api.Auth{Audience: "b"}, nil}, {api.Auth{Audience: "B"}, api.ErrAudience}, {api.Auth{Audience: "ab"}, api.ErrAudience}, {api.Auth{Audience: "i"}, api.ErrAudience},
		{api.Auth{Scopes: []string{"w"}}, nil}, {api.Auth{Scopes: []string{"r", "w"}}, nil}, {api.Auth{Scopes: []string{"R"}}, api.ErrScope}, {api.Auth{Scopes: []string{"r w"}}, api.ErrScope}, {api.Auth{Scopes: []string{""}}, api.ErrScope}, {api.Auth{Scopes: []string{"r", "w", "x"}}, api.ErrScope}, {api.Auth{Scopes: []string{"a"}}, api.ErrScope},
		{api.Auth{Issuer: "j", Audience: "c", Scopes: []string{"x"}}, api.ErrIssuer}, {api.Auth{Issuer: "i", Audience: "c", Scopes: []string{"x"}}, api.ErrAudience}, {api.Auth{Issuer: "i", Audience: "a", Scopes: []string{"x"}}, api.ErrScope},
	} {
		q, want, status := asked(good()), good().claims, 0
		if c.err != nil {
			want, status = api.Claims{}, 401
		}
		if c.err == api.ErrScope {
			status = 403
		}
		q.a = c.a
		q.a.On = true
		checkDecide(t, q, want, status, c.err)
	}
	bare := good()
	bare.claims.Issuer, bare.claims.Audience, bare.claims.Scopes = "", nil, nil
	for i, c := range []struct {
		claims api.Claims
		status int
		err    error
	}{{bare.claims, 0, nil}, {api.Claims{}, 401, api.ErrIssuer}, {api.Claims{}, 401, api.ErrAudience}, {api.Claims{}, 403, api.ErrScope}} {
		q := asked(bare)
		q.a = []api.Auth{{On: true}, {On: true, Issuer: "i"}, {On: true, Audience: "a"}, {On: true, Scopes: []string{"r"}}}[i]
		checkDecide(t, q, c.claims, c.status, c.err)
	}
}
