package config

import (
	"turnstile/api"
	"turnstile/b64"
	"turnstile/chars"
)

// object is a JSON object, to which values are laid one behind the other.
type object struct {
	names  []string
	values []api.Value
}

func (o *object) put(name string, v api.Value) {
	o.names = append(o.names, name)
	o.values = append(o.values, v)
}

func (o *object) text(name, s string) { o.put(name, textValue(s)) }

func (o *object) textBut(name, s, taken string) {
	if s != taken {
		o.text(name, s)
	}
}

func (o *object) textsBut(name string, l []string) {
	if len(l) > 0 {
		o.put(name, listValue(l, textValue))
	}
}

func (o *object) number(name string, n int) {
	o.put(name, api.Value{Kind: api.JSONNumber, Text: chars.Text(n), Int: n, Whole: true})
}

func (o *object) numberBut(name string, n, taken int) {
	if n != taken {
		o.number(name, n)
	}
}

func (o *object) value() api.Value {
	return api.Value{Kind: api.JSONObject, Names: o.names, List: o.values}
}

func textValue(s string) api.Value { return api.Value{Kind: api.JSONText, Text: s} }

func listValue[T any](l []T, one func(T) api.Value) api.Value {
	v := api.Value{Kind: api.JSONList}
	for _, x := range l {
		v.List = append(v.List, one(x))
	}
	return v
}

// configValue is a configuration that may be as JSON; all names stand in the order of the text's.
func configValue(c api.Config) api.Value {
	var o object
	if len(c.Keys) > 0 {
		o.put("keys", listValue(c.Keys, keyValue))
	}
	o.put("pools", listValue(c.Pools, poolValue))
	o.put("routes", listValue(c.Routes, routeValue))
	o.numberBut("maxhead", c.MaxHead, takenMaxHead)
	o.numberBut("maxbody", c.MaxBody, takenMaxBody)
	o.numberBut("maxconns", c.MaxConns, takenMaxConns)
	o.numberBut("idle", c.Idle, takenIdle)
	o.numberBut("header", c.Header, takenHeader)
	return o.value()
}

func keyValue(k api.Key) api.Value {
	var o object
	o.text("id", k.ID)
	o.text("secret", b64.Encode([]byte(k.Secret)))
	return o.value()
}

func poolValue(p api.Pool) api.Value {
	var o object
	o.text("name", p.Name)
	o.put("backends", listValue(p.Backends, backendValue))
	words := policyWords()
	o.textBut("policy", words[p.Policy], words[takenPolicy])
	o.numberBut("retries", p.Retries, takenRetries)
	o.numberBut("timeout", p.Timeout, takenTimeout)
	if p.Breaker != (api.Breaker{}) {
		o.put("breaker", breakerValue(p.Breaker))
	}
	if p.Probe != (api.Probe{}) {
		o.put("probe", probeValue(p.Probe))
	}
	return o.value()
}

func backendValue(b api.Backend) api.Value {
	var o object
	o.text("addr", b.Addr)
	o.numberBut("weight", b.Weight, takenWeight)
	return o.value()
}

func breakerValue(b api.Breaker) api.Value {
	var o object
	o.number("fails", b.Fails)
	o.number("open", b.Open)
	return o.value()
}

func probeValue(p api.Probe) api.Value {
	var o object
	o.text("path", p.Path)
	o.number("every", p.Every)
	o.number("timeout", p.Timeout)
	o.number("rise", p.Rise)
	o.number("fall", p.Fall)
	return o.value()
}

func routeValue(r api.Route) api.Value {
	var o object
	o.text("host", r.Host)
	o.text("path", r.Path)
	o.textsBut("methods", r.Methods)
	o.text("pool", r.Pool)
	if r.Auth.On {
		o.put("auth", authValue(r.Auth))
	}
	if r.Limit != (api.Limit{}) {
		o.put("limit", limitValue(r.Limit))
	}
	return o.value()
}

func authValue(a api.Auth) api.Value {
	var o object
	o.textBut("issuer", a.Issuer, "")
	o.textBut("audience", a.Audience, "")
	o.textsBut("scopes", a.Scopes)
	o.numberBut("leeway", a.Leeway, takenLeeway)
	return o.value()
}

func limitValue(l api.Limit) api.Value {
	var o object
	o.text("by", byWords()[l.By])
	o.number("rate", l.Rate)
	o.number("per", l.Per)
	o.number("burst", l.Burst)
	return o.value()
}
