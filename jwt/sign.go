package jwt

import (
	"slices"
	"strconv"
	"strings"
	"turnstile/api"
	"turnstile/b64"
	"turnstile/mac"
)

// maxSigned is how many bytes of a token stand ahead of the last point and the 43 digits of a code.
const maxSigned = maxToken - 1 - 43

// Sign is a token of claims, signed with a key.
func Sign(k api.Key, c api.Claims) (string, error) {
	if !isPlain(k.ID) || !canSign(c) {
		return "", api.ErrToken
	}
	signed := b64.Encode(headerText(k.ID)) + "." + b64.Encode(claimsText(c))
	if len(signed) > maxSigned {
		return "", api.ErrToken
	}
	code := mac.Sum([]byte(k.Secret), []byte(signed))
	return signed + "." + b64.Encode(code[:]), nil
}

// canSign tells whether claims are such that what is written of them is read as them.
func canSign(c api.Claims) bool {
	return isPlain(c.Subject) && isPlain(c.Issuer) && allFit(c.Audience, isPlain) && allFit(c.Scopes, isScope) &&
		mayBeTime(c.NotBefore) && mayBeTime(c.Exp)
}

func allFit(l []string, fits func(s string) bool) bool {
	for _, s := range l {
		if !fits(s) {
			return false
		}
	}
	return true
}

func isScope(s string) bool { return s != "" && !strings.Contains(s, " ") && isPlain(s) }

// isPlain tells whether a text stands in JSON as it is.
func isPlain(s string) bool {
	for _, c := range []byte(s) {
		if c < 32 || c > 126 || c == '"' || c == '\\' {
			return false
		}
	}
	return true
}

func headerText(id string) []byte {
	return []byte(`{"alg":` + quoted(algorithm) + `,"kid":` + quoted(id) + `}`)
}

// claimsText has no part for a claim that is missing.
func claimsText(c api.Claims) []byte {
	var parts []string
	part := func(there bool, name, value string) {
		if there {
			parts = append(parts, quoted(name)+":"+value)
		}
	}
	part(c.Subject != "", "sub", quoted(c.Subject))
	part(c.Issuer != "", "iss", quoted(c.Issuer))
	part(len(c.Audience) > 0, "aud", "["+strings.Join(quotedAll(c.Audience), ",")+"]")
	part(c.NotBefore != missing, "nbf", strconv.Itoa(c.NotBefore))
	part(c.Exp != missing, "exp", strconv.Itoa(c.Exp))
	part(len(c.Scopes) > 0, "scope", quoted(strings.Join(c.Scopes, " ")))
	return []byte("{" + strings.Join(parts, ",") + "}")
}

// quoted is a plain text as JSON.
func quoted(s string) string { return `"` + s + `"` }

func quotedAll(l []string) []string {
	all := slices.Clone(l)
	for i, s := range l {
		all[i] = quoted(s)
	}
	return all
}
