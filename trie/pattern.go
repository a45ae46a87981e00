package trie

import (
	"slices"
	"strings"
	"turnstile/api"
	"turnstile/chars"
)

// mostBytes is how long a pattern may be.
const mostBytes = 256

// The kinds of segments, in the order in which they are better.
const (
	plain = iota
	parameter
	rest
)

// segment is one of a pattern; its text is a plain one's own, or else the token alone.
type segment struct {
	kind int
	text string
}

// Check is an error, if a pattern is none.
func Check(pattern string) error {
	_, err := segments(pattern)
	return err
}

// Fits tells whether a pattern fits a path, and its parameters.
func Fits(pattern, path string) (bool, []api.Field, error) {
	l, err := segments(pattern)
	if err != nil || !begins(path) {
		return false, nil, api.ErrForm
	}
	fields, fits := fit(l, path)
	return fits, fields, nil
}

// Beats tells whether, of two patterns that fit a path, the first one is found.
func Beats(a, b, path string) (bool, error) {
	fits, _, err := Fits(a, path)
	also, _, alsoErr := Fits(b, path)
	if err != nil || alsoErr != nil {
		return false, api.ErrForm
	}
	if !fits || !also {
		return false, api.ErrNone
	}
	return better(a, b), nil
}

// better tells whether, of two patterns that fit one path, the first one is the better one.
func better(a, b string) bool {
	first, _ := segments(a)
	second, _ := segments(b)
	for i := range min(len(first), len(second)) {
		if first[i].kind != second[i].kind {
			return first[i].kind < second[i].kind
		}
	}
	return false
}

// begins tells whether a text begins as paths and patterns do.
func begins(text string) bool { return strings.HasPrefix(text, "/") }

// segments is what a pattern is made of.
func segments(pattern string) ([]segment, error) {
	if !begins(pattern) || len(pattern) > mostBytes {
		return nil, api.ErrForm
	}
	texts := strings.Split(pattern[1:], "/")
	if len(texts) > api.MaxSegments {
		return nil, api.ErrForm
	}
	var l []segment
	var tokens []string
	for i, text := range texts {
		s, ok := segmentOf(text)
		if !ok || s.kind == rest && i < len(texts)-1 {
			return nil, api.ErrForm
		}
		if s.kind != plain {
			if slices.Contains(tokens, s.text) {
				return nil, api.ErrForm
			}
			tokens = append(tokens, s.text)
		}
		l = append(l, s)
	}
	return l, nil
}

// segmentOf is a segment by its text, and whether a pattern may have it.
func segmentOf(text string) (segment, bool) {
	if token, ok := strings.CutPrefix(text, ":"); ok {
		return segment{parameter, token}, chars.IsToken(token)
	}
	if token, ok := strings.CutPrefix(text, "*"); ok {
		return segment{rest, token}, chars.IsToken(token)
	}
	return segment{plain, text}, isVisible(text)
}

// isVisible tells whether all bytes of a text are Visible.
func isVisible(text string) bool {
	for i := range len(text) {
		if !chars.Visible(text[i]) {
			return false
		}
	}
	return true
}

// fit is the parameters that a pattern's segments give of a path, and whether they fit it.
func fit(l []segment, path string) ([]api.Field, bool) {
	var fields []api.Field
	// A path may have any number of segments, so it is cut no further than the pattern asks.
	text, left, more := "", path[1:], true
	for _, s := range l {
		if !more {
			return nil, false
		}
		text, left, more = s.take(left)
		if !s.fits(text) {
			return nil, false
		}
		if s.kind != plain {
			fields = append(fields, api.Field{Name: strings.Clone(s.text), Value: strings.Clone(text)})
		}
	}
	if more {
		return nil, false
	}
	return fields, true
}

// take is what a segment stands for of what is left of a path, what stands behind that, and whether there is more.
func (s segment) take(left string) (string, string, bool) {
	if s.kind == rest {
		return left, "", false
	}
	return strings.Cut(left, "/")
}

// fits tells whether a segment may stand for a text.
func (s segment) fits(text string) bool {
	switch s.kind {
	case plain:
		return text == s.text
	case parameter:
		return text != ""
	}
	return true
}
