package config

import (
	"slices"
	"turnstile/api"
	"turnstile/chars"
	"turnstile/head"
	"turnstile/host"
	"turnstile/json"
	"turnstile/target"
	"turnstile/trie"
)

// The bounds that stand in no other layer.
const (
	mostName    = 64 // bytes of a key's id, a pool's name, a scope
	mostSecret  = 256
	mostAddr    = 128
	mostWeight  = 256
	mostRetries = 8
	mostCount   = 1 << 20 // ticks of a time, tokens of a bucket
	mostFails   = 1000
	mostPath    = 256 // bytes of a probe's path
	mostRow     = 100 // probes in a row
	mostMethod  = 32  // bytes of a method
	mostTokens  = 16  // methods of a route, or scopes
	mostClaim   = 256 // bytes of an issuer or an audience
	leastHead   = 64
)

// fault is the first place at which a configuration is wrong; like all faults here it is the empty text, if none is: no place that may be wrong is told by that one.
func fault(c api.Config) string {
	// The lists are asked one behind the other: what stands behind one that is too long is not gone over.
	if at := listFault("keys", c.Keys, 0, api.MaxKeys, keyFault); at != "" {
		return at
	}
	if at := listFault("pools", c.Pools, 1, api.MaxPools, poolFault); at != "" {
		return at
	}
	inRoute := func(l []api.Route, i int) string { return routeFault(c, l[i]) }
	if at := listFault("routes", c.Routes, 1, api.MaxRoutes, inRoute); at != "" {
		return at
	}
	switch {
	case !within(c.MaxHead, leastHead, api.MaxHead):
		return "maxhead"
	case !within(c.MaxBody, 0, api.MaxBuffer):
		return "maxbody"
	case !within(c.MaxConns, 1, api.MaxConns):
		return "maxconns"
	case !within(c.Idle, 1, mostCount):
		return "idle"
	case !within(c.Header, 1, mostCount):
		return "header"
	}
	return ""
}

// listFault is the list's own name, if it has not from least to most values, else the place of the first fault of one. What is to be unlike those ahead is found by the list and a place in it.
func listFault[T any](name string, l []T, least, most int, one func(l []T, i int) string) string {
	if !within(len(l), least, most) {
		return name
	}
	for i := range l {
		if at := one(l, i); at != "" {
			return name + "." + chars.Text(i) + "." + at
		}
	}
	return ""
}

// partFault is the fault of an object by the name that it stands under.
func partFault(name, at string) string {
	if at == "" {
		return ""
	}
	return name + "." + at
}

func within(n, low, high int) bool { return n >= low && n <= high }

func isToken(s string, most int) bool { return len(s) <= most && chars.IsToken(s) }

// areTokens tells whether texts are not too many, tokens that are not too long, and unlike.
func areTokens(l []string, most, longest int) bool {
	if len(l) > most {
		return false
	}
	for i, s := range l {
		if !isToken(s, longest) || slices.Contains(l[:i], s) {
			return false
		}
	}
	return true
}

func keyFault(l []api.Key, i int) string {
	k := l[i]
	same := func(ahead api.Key) bool { return ahead.ID == k.ID }
	switch {
	case !isToken(k.ID, mostName) || slices.ContainsFunc(l[:i], same):
		return "id"
	case !within(len(k.Secret), 1, mostSecret):
		return "secret"
	}
	return ""
}

func poolFault(l []api.Pool, i int) string {
	p := l[i]
	same := func(ahead api.Pool) bool { return ahead.Name == p.Name }
	if !isToken(p.Name, mostName) || slices.ContainsFunc(l[:i], same) {
		return "name"
	}
	if at := listFault("backends", p.Backends, 1, api.MaxBackends, backendFault); at != "" {
		return at
	}
	switch {
	case !within(p.Policy, api.PolicyTurns, api.PolicyHash):
		return "policy"
	case !within(p.Retries, 0, mostRetries):
		return "retries"
	case !within(p.Timeout, 1, mostCount):
		return "timeout"
	}
	if at := breakerFault(p.Breaker); at != "" {
		return partFault("breaker", at)
	}
	return partFault("probe", probeFault(p.Probe))
}

func backendFault(l []api.Backend, i int) string {
	b := l[i]
	same := func(ahead api.Backend) bool { return ahead.Addr == b.Addr }
	switch {
	case !isAddr(b.Addr) || slices.ContainsFunc(l[:i], same):
		return "addr"
	case !within(b.Weight, 1, mostWeight):
		return "weight"
	}
	return ""
}

// isAddr tells whether a text is a host and a port, asked as the Host of a request.
func isAddr(s string) bool {
	if len(s) > mostAddr {
		return false
	}
	_, port, err := head.Host(api.Request{Minor: 1, Fields: []api.Field{{Name: "Host", Value: s}}})
	return err == nil && port != ""
}

func breakerFault(b api.Breaker) string {
	least, most := 1, mostCount
	if b.Fails == 0 {
		least, most = 0, 0
	}
	switch {
	case !within(b.Fails, 0, mostFails):
		return "fails"
	case !within(b.Open, least, most):
		return "open"
	}
	return ""
}

func probeFault(p api.Probe) string {
	least, row, isPath := 1, mostRow, isProbePath
	if p.Every == 0 {
		least, row, isPath = 0, 0, isEmpty
	}
	switch {
	case !within(p.Every, 0, mostCount):
		return "every"
	case !isPath(p.Path):
		return "path"
	case !within(p.Timeout, least, p.Every):
		return "timeout"
	case !within(p.Rise, least, row):
		return "rise"
	case !within(p.Fall, least, row):
		return "fall"
	}
	return ""
}

func isEmpty(s string) bool { return s == "" }

// isProbePath tells whether a probe can ask for a path. One that Normal takes begins with a slash and is of Visible bytes.
func isProbePath(s string) bool {
	if len(s) > mostPath {
		return false
	}
	_, err := target.Normal(s)
	return err == nil
}

func routeFault(c api.Config, r api.Route) string {
	switch {
	case host.Check(r.Host) != nil:
		return "host"
	case trie.Check(r.Path) != nil:
		return "path"
	case !areTokens(r.Methods, mostTokens, mostMethod):
		return "methods"
	}
	if _, err := Pool(c, r.Pool); err != nil {
		return "pool"
	}
	if at := authFault(r.Auth); at != "" {
		return partFault("auth", at)
	}
	return partFault("limit", limitFault(r.Limit, r.Auth.On))
}

func authFault(a api.Auth) string {
	claim, scopes, leeway := mostClaim, mostTokens, mostCount
	if !a.On {
		claim, scopes, leeway = 0, 0, 0
	}
	switch {
	case !isClaim(a.Issuer, claim):
		return "issuer"
	case !isClaim(a.Audience, claim):
		return "audience"
	case !areTokens(a.Scopes, scopes, mostName):
		return "scopes"
	case !within(a.Leeway, 0, leeway):
		return "leeway"
	}
	return ""
}

// isClaim tells whether a text is not too long, and UTF-8: else layer 6 does not quote it.
func isClaim(s string, most int) bool {
	if len(s) > most {
		return false
	}
	_, err := json.Quote(s)
	return err == nil
}

// limitFault is a limit's; a subject is known only on a route that asks for a token.
func limitFault(l api.Limit, on bool) string {
	least, most := 1, mostCount
	if l.By == api.ByNone {
		least, most = 0, 0
	}
	switch {
	case !within(l.By, api.ByNone, api.BySubject) || l.By == api.BySubject && !on:
		return "by"
	case !within(l.Rate, least, most):
		return "rate"
	case !within(l.Per, least, most):
		return "per"
	case !within(l.Burst, least, most):
		return "burst"
	}
	return ""
}
