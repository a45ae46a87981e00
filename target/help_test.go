package target

import (
	"fmt"
	"math/rand"
	"net/url"
	"regexp"
	"slices"
	"strings"
	"testing"
	"turnstile/api"
)

// The classes of bytes and the forms, written down a second time: by the library's patterns.
const (
	letters     = "ABCDEFGHIJKLMNOPQRSTUVWXYZabcdefghijklmnopqrstuvwxyz"
	numerals    = "0123456789"
	unreservedS = letters + numerals + "-._~"
	pathS       = unreservedS + "!$&'()*+,;=:@"
	hostS       = letters + numerals + "-._:"

	pathBytes = `[A-Za-z0-9\-._~!$&'()*+,;=:@]`
	pathForm  = `/(?:` + pathBytes + `|/|%[2-6][0-9A-Fa-f]|%7[0-9A-Ea-e]|%[89A-Fa-f][0-9A-Fa-f])*`
	queryForm = `(?:` + pathBytes + `|[/?]|%[0-9A-Fa-f][0-9A-Fa-f])*`
)

var (
	pathPattern     = regexp.MustCompile(`^` + pathForm + `$`)
	queryPattern    = regexp.MustCompile(`^` + queryForm + `$`)
	originPattern   = regexp.MustCompile(`^(` + pathForm + `)(\?)?(` + queryForm + `)$`)
	absolutePattern = regexp.MustCompile(`^[Hh][Tt][Tt][Pp]://([A-Za-z0-9\-._:]{1,255})(` + pathForm + `)?(\?)?(` + queryForm + `)$`)
	codePattern     = regexp.MustCompile(`%[0-9A-Fa-f][0-9A-Fa-f]`)
)

// has asks by bytes, so that a byte from 128 on is not taken for a rune.
func has(set string, c byte) bool { return strings.IndexByte(set, c) >= 0 }

// one is the text of one byte.
func one(c int) string { return string([]byte{byte(c)}) }

// smallCode and greatCode are the codes of a byte.
func smallCode(c int) string { return fmt.Sprintf("%%%02x", c) }

func greatCode(c int) string { return fmt.Sprintf("%%%02X", c) }

// parsed is what Parse is to answer, by the patterns.
func parsed(s string) (Target, error) {
	if len(s) > 65536 {
		return Target{}, api.ErrLong
	}
	if s == "*" {
		return Target{Form: 3}, nil
	}
	if m := originPattern.FindStringSubmatch(s); m != nil && (m[2] != "" || m[3] == "") {
		return Target{Form: 1, Path: m[1], HasQuery: m[2] != "", Query: m[3]}, nil
	}
	if m := absolutePattern.FindStringSubmatch(s); m != nil && (m[3] != "" || m[4] == "") {
		t := Target{Form: 2, Host: strings.ToLower(m[1]), Path: m[2], HasQuery: m[3] != "", Query: m[4]}
		if t.Path == "" {
			t.Path = "/"
		}
		return t, nil
	}
	return Target{}, api.ErrTarget
}

// normal is what Normal is to answer: segments are put on a pile and taken from it.
func normal(path string) (string, error) {
	if !pathPattern.MatchString(path) {
		return "", api.ErrTarget
	}
	written := codePattern.ReplaceAllStringFunc(path, func(code string) string {
		plain, _ := url.PathUnescape(code)
		if has(unreservedS, plain[0]) {
			return plain
		}
		return strings.ToUpper(code)
	})
	pile := []string{""}
	segments := strings.Split(written, "/")[1:]
	for i, segment := range segments {
		if segment == ".." {
			if len(pile) == 1 {
				return "", api.ErrTarget
			}
			pile = pile[:len(pile)-1]
		}
		if segment != "." && segment != ".." {
			pile = append(pile, segment)
		} else if i == len(segments)-1 {
			pile = append(pile, "")
		}
	}
	return strings.Join(pile, "/"), nil
}

// segments is what Segments is to answer.
func segments(path string) ([]string, error) {
	s, err := normal(path)
	if err != nil {
		return nil, err
	}
	list := strings.Split(s, "/")[1:]
	if len(list) > 64 {
		return nil, api.ErrLong
	}
	for i := range list {
		list[i], _ = url.PathUnescape(list[i])
	}
	return list, nil
}

// pairs is what Pairs is to answer.
func pairs(query string) ([]api.Field, error) {
	if !queryPattern.MatchString(query) {
		return nil, api.ErrTarget
	}
	var list []api.Field
	for _, part := range strings.FieldsFunc(query, func(r rune) bool { return r == '&' }) {
		halves := strings.SplitN(part, "=", 2)
		var f api.Field
		f.Name, _ = url.QueryUnescape(halves[0])
		if len(halves) == 2 {
			f.Value, _ = url.QueryUnescape(halves[1])
		}
		list = append(list, f)
	}
	if len(list) > 64 {
		return nil, api.ErrLong
	}
	return list, nil
}

// short is a text that a report can tell.
func short(s string) string {
	if len(s) > 200 {
		return fmt.Sprintf("%s.. (%d bytes)", s[:200], len(s))
	}
	return s
}

func checkParse(t *testing.T, s string, want Target, wantErr error) {
	t.Helper()
	if got, err := Parse(s); got != want || err != wantErr {
		t.Errorf("Parse(%q) = %+v, %v, not %+v, %v", short(s), got, err, want, wantErr)
	}
}

// checkNoTarget checks that no text has the form.
func checkNoTarget(t *testing.T, s string) {
	t.Helper()
	checkParse(t, s, Target{}, api.ErrTarget)
}

func checkText(t *testing.T, x Target, want string, wantErr error) {
	t.Helper()
	if got, err := Text(x); got != want || err != wantErr {
		t.Errorf("Text(%+v) = %q, %v, not %q, %v", x, short(got), err, short(want), wantErr)
	}
}

func checkNormal(t *testing.T, path, want string, wantErr error) {
	t.Helper()
	if got, err := Normal(path); got != want || err != wantErr {
		t.Errorf("Normal(%q) = %q, %v, not %q, %v", short(path), short(got), err, short(want), wantErr)
	}
}

func checkSegments(t *testing.T, path string, want []string, wantErr error) {
	t.Helper()
	if got, err := Segments(path); !slices.Equal(got, want) || err != wantErr {
		t.Errorf("Segments(%q) = %q, %v, not %q, %v", short(path), got, err, want, wantErr)
	}
}

func checkDecode(t *testing.T, s, want string, wantErr error) {
	t.Helper()
	if got, err := Decode(s); got != want || err != wantErr {
		t.Errorf("Decode(%q) = %q, %v, not %q, %v", short(s), short(got), err, short(want), wantErr)
	}
}

func checkPairs(t *testing.T, query string, want []api.Field, wantErr error) {
	t.Helper()
	if got, err := Pairs(query); !slices.Equal(got, want) || err != wantErr {
		t.Errorf("Pairs(%q) = %q, %v, not %q, %v", short(query), got, err, want, wantErr)
	}
}

// checkAll checks every call that is given a text against what is written down here.
func checkAll(t *testing.T, s string) {
	t.Helper()
	x, err := parsed(s)
	checkParse(t, s, x, err)
	path, err := normal(s)
	checkNormal(t, s, path, err)
	list, err := segments(s)
	checkSegments(t, s, list, err)
	plain, err := url.PathUnescape(s)
	if err != nil {
		plain, err = "", api.ErrTarget
	}
	checkDecode(t, s, plain, err)
	fields, err := pairs(s)
	checkPairs(t, s, fields, err)
	if back, err := Decode(Encode(s)); back != s || err != nil {
		t.Errorf("Decode of Encode(%q) = %q, %v", s, back, err)
	}
}

// maker makes texts without an order.
type maker struct{ *rand.Rand }

func newMaker(seed int64) maker { return maker{rand.New(rand.NewSource(seed))} }

// row is some of the pieces, one behind the other.
func (m maker) row(most int, pieces ...string) string {
	var s strings.Builder
	for range m.Intn(most + 1) {
		s.WriteString(pieces[m.Intn(len(pieces))])
	}
	return s.String()
}

var (
	pathPieces = []string{
		"/", "/", "/", "/", ".", ".", "..", "/.", "/..", "/../", "/./", "a", "B", "7", "~", "!", "'", ":", "@", "%2e", "%2E", "%2f", "%2F", "%41", "%7e", "%7E", "%25", "%20", "%80", "%fF", "%c3%A9",
		"2e", "%2525", "b/", "c/",
	}
	queryPieces = []string{"a", "b", "=", "=", "&", "&", "&&", "+", "%2b", "%2B", "%26", "%3d", "%3D", "%00", "%7f", "%fe", "?", "/", "%20", "%25", ".", "x=1&", "y&", "=z&"}
	wrongPieces = []string{"%", "%4", "%g0", "%0g", "%00", "%1f", "%7f", "%7F", "#", " ", "\x00", "\x7f", "\x80", "\xff", "é", "[", "]", "|", "\\", "\"", "<", ">", "^", "`", "{", "}", "\n", "*", "http://", "?"}
)

// path is a path, and now and then none.
func (m maker) path() string {
	s := m.row(12, pathPieces...)
	switch m.Intn(12) {
	case 0:
		return s
	case 1:
		return "/" + s + wrongPieces[m.Intn(len(wrongPieces))] + m.row(3, pathPieces...)
	}
	return "/" + s
}

// query is a query, and now and then none.
func (m maker) query() string {
	s := m.row(12, queryPieces...)
	if m.Intn(12) == 0 {
		return s + wrongPieces[m.Intn(len(wrongPieces))] + m.row(3, queryPieces...)
	}
	return s
}

func (m maker) host() string {
	return m.row(6, "h", "H", "example", ".", "-", "_", ":", "80", "Z", "a1")
}

// target is a target of any form, and now and then none.
func (m maker) target() string {
	s := m.path()
	switch m.Intn(4) {
	case 0:
		s = []string{"http://", "HTTP://", "hTtP://", "https://", "http:/"}[m.Intn(5)] + m.host()
		if m.Intn(2) == 0 {
			s += m.path()
		}
	case 1:
		s = m.row(2, "*", "/", "?")
	}
	if m.Intn(2) == 0 {
		s += "?" + m.query()
	}
	return s
}
