package jwt

import (
	"strings"
	"turnstile/api"
)

const (
	scheme  = "Bearer"
	letters = "ABCDEFGHIJKLMNOPQRSTUVWXYZabcdefghijklmnopqrstuvwxyz"
	digits  = "0123456789"
	marks   = "-._~+/="
)

// Bearer is the token of an Authorization field's value.
func Bearer(value string) (string, error) {
	first, rest, _ := strings.Cut(value, " ")
	s := strings.TrimLeft(rest, " ")
	if !strings.EqualFold(first, scheme) || !isBearable(s) {
		return "", api.ErrToken
	}
	return strings.Clone(s), nil
}

func isBearable(s string) bool {
	for i := range len(s) {
		if strings.IndexByte(letters+digits+marks, s[i]) < 0 {
			return false
		}
	}
	return s != ""
}
