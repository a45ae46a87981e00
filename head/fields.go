package head

import (
	"strings"
	"turnstile/api"
	"turnstile/chars"
)

const mostPort = 65535

// Values are the values of all fields of a name.
func Values(l []api.Field, name string) []string {
	var values []string
	for _, f := range l {
		if chars.Same(f.Name, name) {
			// An answer is new memory: the text of a field could hold on to a longer one.
			values = append(values, strings.Clone(f.Value))
		}
	}
	return values
}

// One is the value of the one field of a name.
func One(l []api.Field, name string) (string, error) {
	values := Values(l, name)
	switch len(values) {
	case 0:
		return "", api.ErrNone
	case 1:
		return values[0], nil
	}
	return "", api.ErrTwice
}

// Host is the host that a request is for, and its port as it stands.
func Host(q api.Request) (string, string, error) {
	value, err := One(q.Fields, "Host")
	if err == api.ErrNone && q.Minor == 0 {
		return "", "", nil
	}
	if err != nil {
		return "", "", err
	}
	host, port, _ := strings.Cut(value, ":")
	if !isHost(host) || !isPort(port) {
		return "", "", api.ErrForm
	}
	return host, port, nil
}

// Has tells whether a field that is a list has an element.
func Has(l []api.Field, name, element string) bool {
	for _, value := range Values(l, name) {
		for _, e := range chars.List(value) {
			if chars.Same(e, element) {
				return true
			}
		}
	}
	return false
}

// Keep tells whether the connection stays open behind a message.
func Keep(minor int, l []api.Field) bool {
	return minor == 1 && !Has(l, "Connection", "close")
}

func isHost(s string) bool {
	for i := range len(s) {
		if !hostByte(s[i]) {
			return false
		}
	}
	return s != ""
}

func hostByte(c byte) bool {
	switch c {
	case '-', '.', '_':
		return true
	}
	return c >= 'a' && c <= 'z' || c >= 'A' && c <= 'Z' || chars.Digit(c)
}

// isPort takes the empty text, too: a colon needs no digits behind it.
func isPort(s string) bool {
	_, err := chars.Decimal(s, mostPort)
	return s == "" || err == nil
}
