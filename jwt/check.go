package jwt

import (
	"slices"
	"turnstile/api"
)

// Check is an error, if claims are not what a route asks for at a time.
func Check(c api.Claims, a api.Auth, now int) error {
	switch {
	case !isTick(now) || !isTick(a.Leeway) || !mayBeTime(c.NotBefore) || !mayBeTime(c.Exp):
		return api.ErrArg
	case !inTime(c, a.Leeway, now):
		return api.ErrTime
	case a.Issuer != "" && a.Issuer != c.Issuer:
		return api.ErrIssuer
	case a.Audience != "" && !slices.Contains(c.Audience, a.Audience):
		return api.ErrAudience
	}
	for _, s := range a.Scopes {
		if !slices.Contains(c.Scopes, s) {
			return api.ErrScope
		}
	}
	return nil
}

// inTime tells whether a token may be used now. One that never ends may not.
func inTime(c api.Claims, leeway, now int) bool {
	if c.Exp == missing || now >= c.Exp+leeway {
		return false
	}
	return c.NotBefore == missing || now >= c.NotBefore-leeway
}

func isTick(n int) bool { return n >= 0 && n <= api.MaxTicks }

func mayBeTime(n int) bool { return n == missing || isTick(n) }
