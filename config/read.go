package config

import (
	"math"
	"slices"
	"turnstile/api"
	"turnstile/b64"
	"turnstile/chars"
	"turnstile/pick"
)

// reader takes values out of a text's JSON and keeps the first place at which one is wrong. So that it is the first one, values are taken in the order of the text's names; what is taken behind it is of no worth.
type reader struct {
	whole api.Value
	wrong bool // the place alone does not tell it: that of the whole is empty
	place string
}

func (r *reader) fail(place string) {
	if !r.wrong {
		r.wrong, r.place = true, place
	}
}

// has tells whether a name that may be missing is there. A null is there, as a value of another kind.
func (r *reader) has(place string) bool {
	_, err := pick.At(r.whole, place)
	return err == nil
}

// object asks for an object that has no other names.
func (r *reader) object(place string, names ...string) {
	if pick.Only(r.whole, place, names) != nil {
		r.fail(place)
	}
}

func (r *reader) text(place string) string {
	s, err := pick.Text(r.whole, place)
	if err != nil {
		r.fail(place)
	}
	return s
}

func (r *reader) textOr(place, taken string) string {
	if !r.has(place) {
		return taken
	}
	return r.text(place)
}

// texts are a list's that may be missing.
func (r *reader) texts(place string) []string {
	if !r.has(place) {
		return nil
	}
	return listOf(r, place, r.text)
}

func (r *reader) number(place string) int {
	n, err := pick.Int(r.whole, place, math.MinInt, math.MaxInt)
	if err != nil {
		r.fail(place)
	}
	return n
}

func (r *reader) numberOr(place string, taken int) int {
	if !r.has(place) {
		return taken
	}
	return r.number(place)
}

// word is the number of a text that is one of the words.
func (r *reader) word(place string, words []string) int {
	n := slices.Index(words, r.text(place))
	// At the place 0 stands the empty text, which is no word.
	if n <= 0 {
		r.fail(place)
	}
	return n
}

// listOf takes each value of a list by its place.
func listOf[T any](r *reader, place string, one func(place string) T) []T {
	at, err := pick.At(r.whole, place)
	if err != nil || at.Kind != api.JSONList {
		r.fail(place)
	}
	var l []T
	for i := range at.List {
		if r.wrong {
			break
		}
		l = append(l, one(place+"."+chars.Text(i)))
	}
	return l
}

func (r *reader) config() api.Config {
	r.object("", "keys", "pools", "routes", "maxhead", "maxbody", "maxconns", "idle", "header")
	var c api.Config
	if r.has("keys") {
		c.Keys = listOf(r, "keys", r.key)
	}
	c.Pools = listOf(r, "pools", r.pool)
	c.Routes = listOf(r, "routes", r.route)
	c.MaxHead = r.numberOr("maxhead", takenMaxHead)
	c.MaxBody = r.numberOr("maxbody", takenMaxBody)
	c.MaxConns = r.numberOr("maxconns", takenMaxConns)
	c.Idle = r.numberOr("idle", takenIdle)
	c.Header = r.numberOr("header", takenHeader)
	return c
}

func (r *reader) key(at string) api.Key {
	r.object(at, "id", "secret")
	var k api.Key
	k.ID = r.text(at + ".id")
	k.Secret = r.secret(at + ".secret")
	return k
}

func (r *reader) secret(place string) string {
	b, err := b64.Decode(r.text(place))
	if err != nil {
		r.fail(place)
	}
	return string(b)
}

func (r *reader) pool(at string) api.Pool {
	r.object(at, "name", "backends", "policy", "retries", "timeout", "breaker", "probe")
	var p api.Pool
	p.Name = r.text(at + ".name")
	p.Backends = listOf(r, at+".backends", r.backend)
	p.Policy = takenPolicy
	if r.has(at + ".policy") {
		p.Policy = r.word(at+".policy", policyWords())
	}
	p.Retries = r.numberOr(at+".retries", takenRetries)
	p.Timeout = r.numberOr(at+".timeout", takenTimeout)
	if r.has(at + ".breaker") {
		p.Breaker = r.breaker(at + ".breaker")
	}
	if r.has(at + ".probe") {
		p.Probe = r.probe(at + ".probe")
	}
	return p
}

func (r *reader) backend(at string) api.Backend {
	r.object(at, "addr", "weight")
	var b api.Backend
	b.Addr = r.text(at + ".addr")
	b.Weight = r.numberOr(at+".weight", takenWeight)
	return b
}

func (r *reader) breaker(at string) api.Breaker {
	r.object(at, "fails", "open")
	var b api.Breaker
	b.Fails = r.number(at + ".fails")
	b.Open = r.number(at + ".open")
	return b
}

func (r *reader) probe(at string) api.Probe {
	r.object(at, "path", "every", "timeout", "rise", "fall")
	var p api.Probe
	p.Path = r.text(at + ".path")
	p.Every = r.number(at + ".every")
	p.Timeout = r.number(at + ".timeout")
	p.Rise = r.number(at + ".rise")
	p.Fall = r.number(at + ".fall")
	return p
}

func (r *reader) route(at string) api.Route {
	r.object(at, "host", "path", "methods", "pool", "auth", "limit")
	var t api.Route
	t.Host = r.text(at + ".host")
	t.Path = r.text(at + ".path")
	t.Methods = r.texts(at + ".methods")
	t.Pool = r.text(at + ".pool")
	if r.has(at + ".auth") {
		t.Auth = r.auth(at + ".auth")
	}
	if r.has(at + ".limit") {
		t.Limit = r.limit(at + ".limit")
	}
	return t
}

func (r *reader) auth(at string) api.Auth {
	r.object(at, "issuer", "audience", "scopes", "leeway")
	a := api.Auth{On: true}
	a.Issuer = r.textOr(at+".issuer", "")
	a.Audience = r.textOr(at+".audience", "")
	a.Scopes = r.texts(at + ".scopes")
	a.Leeway = r.numberOr(at+".leeway", takenLeeway)
	return a
}

func (r *reader) limit(at string) api.Limit {
	r.object(at, "by", "rate", "per", "burst")
	var l api.Limit
	l.By = r.word(at+".by", byWords())
	l.Rate = r.number(at + ".rate")
	l.Per = r.number(at + ".per")
	l.Burst = r.number(at + ".burst")
	return l
}
