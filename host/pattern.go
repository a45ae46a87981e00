package host

import (
	"strings"
	"turnstile/api"
	"turnstile/chars"
)

const (
	mostBytes = 253 // of a host or a pattern
	mostLabel = 63
	star      = "*"
)

// The marks of a shape: the smaller one goes ahead.
const (
	plainMark = '0'
	starMark  = '1'
)

// key is a pattern as it is kept and compared: two that are the same but for the size of letters are the same one.
type key struct {
	shape string // a mark a label, from the last one on; the empty pattern has none
	plain string // the plain labels, from the last one on, with a dot between each two
}

// Canon is a host in small letters.
func Canon(host string) (string, error) {
	if _, err := labels(host, false); err != nil {
		return "", err
	}
	return chars.Lower(host), nil
}

// Check tells whether a text is a pattern.
func Check(pattern string) error {
	_, err := parse(pattern)
	return err
}

// Fits tells whether a pattern fits a host.
func Fits(pattern, host string) (bool, error) {
	p, err := parse(pattern)
	if err != nil {
		return false, err
	}
	l, err := labels(host, false)
	if err != nil {
		return false, err
	}
	return p.fits(l), nil
}

// Beats tells which of two patterns goes ahead.
func Beats(a, b, host string) (bool, error) {
	first, err := parse(a)
	if err != nil {
		return false, err
	}
	second, err := parse(b)
	if err != nil {
		return false, err
	}
	l, err := labels(host, false)
	if err != nil {
		return false, err
	}
	if !first.fits(l) || !second.fits(l) {
		return false, api.ErrNone
	}
	return order(first.shape, second.shape) < 0, nil
}

// parse is the pattern that a text is.
func parse(text string) (key, error) {
	if text == "" {
		return key{}, nil
	}
	l, err := labels(text, true)
	if err != nil {
		return key{}, err
	}
	p, _ := under(l, shapeOf(l))
	return p, nil
}

// labels are the labels of a host in small letters, or of a pattern, of which some may be stars.
func labels(text string, stars bool) ([]string, error) {
	if len(text) > mostBytes {
		return nil, api.ErrForm
	}
	l := strings.Split(chars.Lower(text), ".")
	for _, s := range l {
		if !isLabel(s) && !(stars && s == star) {
			return nil, api.ErrForm
		}
	}
	return l, nil
}

// isLabel tells whether a text in small letters is a plain label.
func isLabel(s string) bool {
	for i := range len(s) {
		c := s[i]
		if !chars.Digit(c) && (c < 'a' || c > 'z') && c != '-' && c != '_' {
			return false
		}
	}
	return s != "" && len(s) <= mostLabel
}

// shapeOf is the shape of a pattern's labels.
func shapeOf(labels []string) string {
	var marks []byte
	for i := len(labels) - 1; i >= 0; i-- {
		if labels[i] == star {
			marks = append(marks, starMark)
		} else {
			marks = append(marks, plainMark)
		}
	}
	return string(marks)
}

// under is the only pattern of a shape that can fit labels, if there is one: a shape has as many labels, or is the empty pattern's.
func under(labels []string, shape string) (key, bool) {
	if shape != "" && len(shape) != len(labels) {
		return key{}, false
	}
	var plain []string
	for i := range len(shape) {
		if shape[i] == plainMark {
			plain = append(plain, labels[len(labels)-1-i])
		}
	}
	return key{shape: shape, plain: strings.Join(plain, ".")}, true
}

func (p key) fits(host []string) bool {
	q, can := under(host, p.shape)
	return can && q == p
}

// order is below 0, if patterns of the first shape go ahead of those of the second one. Of shapes with as many labels, the first mark that parts them tells it; the others never fit one host.
func order(a, b string) int {
	if a == "" || b == "" {
		return len(b) - len(a)
	}
	return strings.Compare(a, b)
}
