package trie

import (
	"fmt"
	"math/rand"
	"regexp"
	"slices"
	"strings"
	"testing"
	"turnstile/api"
)

// The bounds and the forms, written down a second time.
const (
	maxBytes    = 256
	maxSegments = 64

	tokenForm = "[0-9A-Za-z!#$%&'*+.^_`|~-]+"
	plainForm = `(?:[!-)+-.0-9;-~][!-.0-~]*)?`
)

var (
	patternForm = regexp.MustCompile(`^(?:/` + plainForm + `|/:` + tokenForm + `)*(?:/\*` + tokenForm + `)?$`)
	tokenPlace  = regexp.MustCompile(`/[:*][^/]*`)
)

// fieldsOf is fields of names and values by turns.
func fieldsOf(texts ...string) []api.Field {
	var l []api.Field
	for i := 0; i+1 < len(texts); i += 2 {
		l = append(l, api.Field{Name: texts[i], Value: texts[i+1]})
	}
	return l
}

// ofCheck tells whether Check is to take a pattern.
func ofCheck(pattern string) bool {
	if !strings.HasPrefix(pattern, "/") || len(pattern) > maxBytes || strings.Count(pattern, "/") > maxSegments || !patternForm.MatchString(pattern) {
		return false
	}
	tokens := tokenPlace.FindAllString(pattern, -1)
	for i := range tokens {
		for k := range i {
			if tokens[i][2:] == tokens[k][2:] {
				return false
			}
		}
	}
	return true
}

// cut is the segments of a path or a pattern.
func cut(text string) []string { return strings.Split(text, "/")[1:] }

// kindOf is the kind of a pattern's segment: the smaller is the better.
func kindOf(segment string) int {
	switch {
	case strings.HasPrefix(segment, ":"):
		return 1
	case strings.HasPrefix(segment, "*"):
		return 2
	}
	return 0
}

// ofFit is whether a pattern fits a path, and its parameters, where both are what they are to be.
func ofFit(pattern, path string) (bool, []api.Field) {
	have, want := cut(path), cut(pattern)
	var fields []api.Field
	if last := want[len(want)-1]; kindOf(last) == 2 {
		if len(have) < len(want) {
			return false, nil
		}
		ahead := len(want) - 1
		have = append(have[:ahead:ahead], strings.Join(have[ahead:], "/"))
	}
	if len(have) != len(want) {
		return false, nil
	}
	for i, s := range want {
		if kindOf(s) == 0 && s != have[i] || kindOf(s) == 1 && have[i] == "" {
			return false, nil
		}
		if kindOf(s) != 0 {
			fields = append(fields, api.Field{Name: s[1:], Value: have[i]})
		}
	}
	return true, fields
}

// ofFits is what Fits is to answer.
func ofFits(pattern, path string) (bool, []api.Field, error) {
	if !ofCheck(pattern) || !strings.HasPrefix(path, "/") {
		return false, nil, api.ErrForm
	}
	fits, fields := ofFit(pattern, path)
	return fits, fields, nil
}

// ofBetter tells whether the first one of two patterns that fit one path is better.
func ofBetter(a, b string) bool {
	first, second := cut(a), cut(b)
	for i := 0; i < len(first) && i < len(second); i++ {
		if k, l := kindOf(first[i]), kindOf(second[i]); k != l {
			return k == 0 || k == 1 && l == 2
		}
	}
	return false
}

// ofBeats is what Beats is to answer.
func ofBeats(a, b, path string) (bool, error) {
	if !ofCheck(a) || !ofCheck(b) || !strings.HasPrefix(path, "/") {
		return false, api.ErrForm
	}
	fits, _ := ofFit(a, path)
	also, _ := ofFit(b, path)
	if !fits || !also {
		return false, api.ErrNone
	}
	return ofBetter(a, b), nil
}

// shape is a pattern without its tokens.
func shape(pattern string) string {
	return tokenPlace.ReplaceAllStringFunc(pattern, func(s string) string { return s[:2] })
}

// list is a trie as a plain row of patterns.
type list []item

type item struct {
	pattern string
	id      int
}

// add is what Add is to answer and to do.
func (l *list) add(pattern string, id int) error {
	if !ofCheck(pattern) {
		return api.ErrForm
	}
	for _, x := range *l {
		if shape(x.pattern) == shape(pattern) {
			return api.ErrTwice
		}
	}
	*l = append(*l, item{pattern, id})
	return nil
}

// find is what Find is to answer.
func (l list) find(path string) (int, []api.Field, error) {
	if !strings.HasPrefix(path, "/") {
		return 0, nil, api.ErrForm
	}
	for _, x := range l {
		if fits, fields := ofFit(x.pattern, path); fits && l.beatsAll(x.pattern, path) {
			return x.id, fields, nil
		}
	}
	return 0, nil, api.ErrNone
}

// beatsAll tells whether a pattern is better than every other one that fits.
func (l list) beatsAll(pattern, path string) bool {
	for _, x := range l {
		if fits, _ := ofFit(x.pattern, path); fits && x.pattern != pattern && !ofBetter(pattern, x.pattern) {
			return false
		}
	}
	return true
}

func (l list) all() []string {
	var patterns []string
	for _, x := range l {
		patterns = append(patterns, x.pattern)
	}
	return patterns
}

// checkPattern asks whether a pattern is one.
func checkPattern(t *testing.T, pattern string, want bool) {
	t.Helper()
	var wantErr error = api.ErrForm
	if want {
		wantErr = nil
	}
	if err := Check(pattern); err != wantErr {
		t.Errorf("Check(%s): %v, not %v", short(pattern), err, wantErr)
	}
	if ofCheck(pattern) != want {
		t.Errorf("the words of Check(%s): not %v", short(pattern), want)
	}
}

// checkFits asks whether a pattern fits a path, which it is to do with these parameters, or not to do.
func checkFits(t *testing.T, pattern, path string, want bool, fields ...api.Field) {
	t.Helper()
	if fits, l, err := Fits(pattern, path); fits != want || !slices.Equal(l, fields) || err != nil {
		t.Errorf("Fits(%s, %s): %v, %s, %v, not %v, %s", short(pattern), short(path), fits, short(l), err, want, short(fields))
	}
	if fits, l, err := ofFits(pattern, path); fits != want || !slices.Equal(l, fields) || err != nil {
		t.Errorf("the words of Fits(%s, %s): %v, %s, %v, not %v, %s", short(pattern), short(path), fits, short(l), err, want, short(fields))
	}
}

// checkNoFits asks for a fit where one of both is none.
func checkNoFits(t *testing.T, pattern, path string) {
	t.Helper()
	if fits, l, err := Fits(pattern, path); fits || l != nil || err != api.ErrForm {
		t.Errorf("Fits(%s, %s): %v, %s, %v", short(pattern), short(path), fits, short(l), err)
	}
	if _, _, err := ofFits(pattern, path); err != api.ErrForm {
		t.Errorf("the words of Fits(%s, %s): %v", short(pattern), short(path), err)
	}
}

// checkBeats asks whether one pattern is better than another one.
func checkBeats(t *testing.T, a, b, path string, want bool, wantErr error) {
	t.Helper()
	if got, err := Beats(a, b, path); got != want || err != wantErr {
		t.Errorf("Beats(%s, %s, %s): %v, %v, not %v, %v", short(a), short(b), short(path), got, err, want, wantErr)
	}
	if got, err := ofBeats(a, b, path); got != want || err != wantErr {
		t.Errorf("the words of Beats(%s, %s, %s): %v, %v, not %v, %v", short(a), short(b), short(path), got, err, want, wantErr)
	}
}

// both is a trie and the same one as a plain row.
type both struct {
	*testing.T
	trie *Trie
	row  list
}

func newBoth(t *testing.T) *both {
	b := &both{T: t, trie: New()}
	b.state()
	return b
}

// of lays patterns in, of the numbers from 1 on.
func of(t *testing.T, patterns ...string) *both {
	t.Helper()
	b := newBoth(t)
	for i, p := range patterns {
		b.add(p, i+1, nil)
	}
	return b
}

// state holds Len and All against the row.
func (b *both) state() {
	b.Helper()
	if n := b.trie.Len(); n != len(b.row) {
		b.Errorf("Len: %d, not %d", n, len(b.row))
	}
	if l := b.trie.All(); !slices.Equal(l, b.row.all()) {
		b.Errorf("All: %s, not %s", short(l), short(b.row.all()))
	}
}

func (b *both) add(pattern string, id int, want error) {
	b.Helper()
	if err := b.trie.Add(pattern, id); err != want {
		b.Errorf("Add(%s, %d): %v, not %v", short(pattern), id, err, want)
	}
	if err := b.row.add(pattern, id); err != want {
		b.Errorf("the words of Add(%s, %d): %v, not %v", short(pattern), id, err, want)
	}
	b.state()
}

func (b *both) find(path string, id int, fields ...api.Field) {
	b.Helper()
	if got, l, err := b.trie.Find(path); got != id || !slices.Equal(l, fields) || err != nil {
		b.Errorf("Find(%s): %d, %s, %v, not %d, %s", short(path), got, short(l), err, id, short(fields))
	}
	if got, l, err := b.row.find(path); got != id || !slices.Equal(l, fields) || err != nil {
		b.Errorf("the words of Find(%s): %d, %s, %v, not %d, %s", short(path), got, short(l), err, id, short(fields))
	}
	b.state()
}

func (b *both) findNot(path string, want error) {
	b.Helper()
	if got, l, err := b.trie.Find(path); got != 0 || l != nil || err != want {
		b.Errorf("Find(%s): %d, %s, %v, not %v", short(path), got, short(l), err, want)
	}
	if _, _, err := b.row.find(path); err != want {
		b.Errorf("the words of Find(%s): %v, not %v", short(path), err, want)
	}
	b.state()
}

// same asks the trie for a path, against the row.
func (b *both) same(path string) {
	b.Helper()
	if id, fields, err := b.row.find(path); err != nil {
		b.findNot(path, err)
	} else {
		b.find(path, id, fields...)
	}
}

// short is what tells of a value, without what is too long to be read.
func short(value any) string {
	s := fmt.Sprintf("%q", value)
	if len(s) > 400 {
		return s[:200] + ".." + s[len(s)-200:]
	}
	return s
}

// texts is every text of up to so many of some bytes.
func texts(alphabet string, most int) []string {
	l := []string{""}
	for from := 0; most > 0; most-- {
		to := len(l)
		for _, s := range l[from:to] {
			for i := range len(alphabet) {
				l = append(l, s+alphabet[i:i+1])
			}
		}
		from = to
	}
	return l
}

// begun is those of some texts that begin as a path.
func begun(l []string) []string {
	return slices.DeleteFunc(slices.Clone(l), func(s string) bool { return !strings.HasPrefix(s, "/") })
}

// lawful is those of some texts that are patterns.
func lawful(l []string) []string {
	return slices.DeleteFunc(slices.Clone(l), func(s string) bool { return !ofCheck(s) })
}

// maker makes any patterns and paths.
type maker struct{ *rand.Rand }

func newMaker(seed int64) *maker { return &maker{rand.New(rand.NewSource(seed))} }

// of is one of some texts.
func (m *maker) of(texts ...string) string { return texts[m.Intn(len(texts))] }

// pattern is a pattern of few segments, so that many fit one path.
func (m *maker) pattern() string {
	var b strings.Builder
	n := 1 + m.Intn(4)
	for i := range n {
		switch k := m.Intn(8); {
		case k < 3:
			b.WriteString("/:" + m.of("x", "y", "id", "*") + fmt.Sprint(i))
		case k == 3 && i == n-1:
			b.WriteString("/*" + m.of("all", "rest", ".") + fmt.Sprint(i))
		default:
			b.WriteString("/" + m.of("a", "b", "a", "b", "", "a:", "b*"))
		}
	}
	return b.String()
}

// spoilt is a pattern, or one with a byte changed, put between or left out.
func (m *maker) spoilt() string {
	p := m.pattern()
	if m.Intn(3) != 0 {
		return p
	}
	i := m.Intn(len(p))
	switch c := m.of("/", ":", "*", " ", "\x00", "\x7f", "\xff", "é", "a", "0"); m.Intn(3) {
	case 0:
		return p[:i] + c + p[i+1:]
	case 1:
		return p[:i] + c + p[i:]
	}
	return p[:i] + p[i+1:]
}

// path is a path, which may be none now and then.
func (m *maker) path() string {
	var b strings.Builder
	for range 1 + m.Intn(5) {
		b.WriteString("/" + m.of("a", "b", "a", "b", "", "a:", "b*", ":", "*", ":x0", "*all1", "c", "\x00", "\xff "))
	}
	if m.Intn(30) == 0 {
		return b.String()[1:]
	}
	return b.String()
}

// pathOf is a path that a pattern fits.
func (m *maker) pathOf(pattern string) string {
	var b strings.Builder
	for _, s := range cut(pattern) {
		switch kindOf(s) {
		case 1:
			s = m.of("a", "b", "a:", "*", "\xff")
		case 2:
			s = m.of("", "a", "a/b", "/", "b//*", "\x00")
		}
		b.WriteString("/" + s)
	}
	return b.String()
}

// alike is a pattern with some segments of another kind.
func (m *maker) alike(pattern string) string {
	l := cut(pattern)
	for i := range l {
		if kindOf(l[i]) == 0 && m.Intn(2) == 0 {
			l[i] = ":z" + fmt.Sprint(i)
		}
	}
	if i := m.Intn(2 * len(l)); i < len(l) {
		l = append(l[:i], "*q")
	}
	return "/" + strings.Join(l, "/")
}
