package target

import (
	"strings"
	"turnstile/chars"
)

const (
	star     = "*"
	scheme   = "http://"
	mostHost = 255
)

func origin(s string) (Target, bool) {
	path, query, has := strings.Cut(s, "?")
	if !isPath(path) || !isQuery(query) {
		return Target{}, false
	}
	// The parts are copied: a piece of s would hold on to the whole of it.
	return Target{Form: FormOrigin, Path: strings.Clone(path), Query: strings.Clone(query), HasQuery: has}, true
}

func absolute(s string) (Target, bool) {
	if len(s) < len(scheme) || !chars.Same(s[:len(scheme)], scheme) {
		return Target{}, false
	}
	host, rest := cutHost(s[len(scheme):])
	if !isHost(host) {
		return Target{}, false
	}
	if !strings.HasPrefix(rest, "/") {
		rest = "/" + rest
	}
	t, ok := origin(rest)
	if !ok {
		return Target{}, false
	}
	t.Form, t.Host = FormAbsolute, chars.Lower(host)
	return t, true
}

// cutHost cuts s ahead of its path or its query, whichever comes first.
func cutHost(s string) (host, rest string) {
	end := strings.IndexAny(s, "/?")
	if end < 0 {
		end = len(s)
	}
	return s[:end], s[end:]
}

func isHost(s string) bool {
	for i := range len(s) {
		if !hostByte(s[i]) {
			return false
		}
	}
	return s != "" && len(s) <= mostHost
}

// shortest is the shortest text that could have the parts of t.
func shortest(t Target) string {
	if t.Form == FormStar {
		return star
	}
	var b []byte
	path := t.Path
	if t.Form == FormAbsolute {
		b = append(append(b, scheme...), t.Host...)
		if path == "/" {
			path = ""
		}
	}
	b = append(b, path...)
	if t.HasQuery {
		b = append(append(b, '?'), t.Query...)
	}
	return string(b)
}
