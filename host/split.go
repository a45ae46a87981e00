package host

import (
	"strings"
	"turnstile/api"
	"turnstile/chars"
)

const mostPort = 65535

// Split is an authority's host and port.
func Split(authority string) (string, int, error) {
	name, digits, more := strings.Cut(authority, ":")
	host, err := Canon(name)
	if err != nil {
		return "", 0, err
	}
	if !more {
		return host, 0, nil
	}
	port, err := portOf(digits)
	if err != nil {
		return "", 0, err
	}
	return host, port, nil
}

// portOf is the number of a port. A nought ahead is a needless one, or makes it the port 0, which is none; without it no number up to the greatest has more than 5 digits.
func portOf(digits string) (int, error) {
	if strings.HasPrefix(digits, "0") {
		return 0, api.ErrForm
	}
	port, err := chars.Decimal(digits, mostPort)
	if err != nil {
		return 0, api.ErrForm
	}
	return port, nil
}
