package host

import (
	"fmt"
	"math/rand"
	"regexp"
	"slices"
	"strconv"
	"strings"
	"testing"
	"turnstile/api"
)

// The bounds and the forms, written down a second time.
const (
	longest   = 253
	maxRoutes = 64

	labelForm = `[0-9A-Za-z_-]{1,63}`
	starForm  = `(?:` + labelForm + `|\*)`
)

var (
	hostForm      = regexp.MustCompile(`^` + labelForm + `(?:\.` + labelForm + `)*$`)
	patternForm   = regexp.MustCompile(`^(?:` + starForm + `(?:\.` + starForm + `)*)?$`)
	authorityForm = regexp.MustCompile(`^([^:]*)(?::([1-9][0-9]{0,4}))?$`)
)

// isHost tells whether a text is a host.
func isHost(s string) bool { return len(s) <= longest && hostForm.MatchString(s) }

// isPattern tells whether a text is a pattern.
func isPattern(s string) bool { return len(s) <= longest && patternForm.MatchString(s) }

// ofCanon is what Canon is to answer.
func ofCanon(host string) (string, error) {
	if !isHost(host) {
		return "", api.ErrForm
	}
	return strings.ToLower(host), nil
}

// ofFit tells whether a pattern fits a host, where both are what they are to be.
func ofFit(pattern, host string) bool {
	if pattern == "" {
		return true
	}
	want, have := strings.Split(pattern, "."), strings.Split(host, ".")
	return slices.EqualFunc(want, have, func(p, h string) bool { return p == "*" || strings.EqualFold(p, h) })
}

// ofFits is what Fits is to answer.
func ofFits(pattern, host string) (bool, error) {
	if !isPattern(pattern) || !isHost(host) {
		return false, api.ErrForm
	}
	return ofFit(pattern, host), nil
}

// ofAhead tells whether the first one of two patterns that fit one host goes ahead.
func ofAhead(a, b string) bool {
	if a == "" || b == "" {
		return a != "" && b == ""
	}
	first, second := strings.Split(a, "."), strings.Split(b, ".")
	slices.Reverse(first)
	slices.Reverse(second)
	for i := range first {
		if first[i] != "*" && second[i] == "*" {
			return true
		}
		if first[i] == "*" && second[i] != "*" {
			return false
		}
	}
	return false
}

// ofBeats is what Beats is to answer.
func ofBeats(a, b, host string) (bool, error) {
	if !isPattern(a) || !isPattern(b) || !isHost(host) {
		return false, api.ErrForm
	}
	if !ofFit(a, host) || !ofFit(b, host) {
		return false, api.ErrNone
	}
	return ofAhead(a, b), nil
}

// ofSplit is what Split is to answer.
func ofSplit(authority string) (string, int, error) {
	l := authorityForm.FindStringSubmatch(authority)
	if l == nil || !isHost(l[1]) {
		return "", 0, api.ErrForm
	}
	port := 0
	if l[2] != "" {
		port, _ = strconv.Atoi(l[2])
	}
	if port > 65535 {
		return "", 0, api.ErrForm
	}
	return strings.ToLower(l[1]), port, nil
}

// list is a table as a plain row of patterns.
type list []item

type item struct {
	pattern string
	id      int
}

// add is what Add is to answer and to do.
func (l *list) add(pattern string, id int) error {
	if !isPattern(pattern) {
		return api.ErrForm
	}
	for _, x := range *l {
		if strings.EqualFold(x.pattern, pattern) {
			return api.ErrTwice
		}
	}
	if len(*l) >= maxRoutes {
		return api.ErrFull
	}
	*l = append(*l, item{strings.ToLower(pattern), id})
	return nil
}

// find is what Find is to answer.
func (l list) find(host string) (int, error) {
	if !isHost(host) {
		return 0, api.ErrForm
	}
	for _, x := range l {
		if ofFit(x.pattern, host) && l.aheadOfAll(x.pattern, host) {
			return x.id, nil
		}
	}
	return 0, api.ErrNone
}

// aheadOfAll tells whether a pattern goes ahead of every other one that fits.
func (l list) aheadOfAll(pattern, host string) bool {
	for _, x := range l {
		if x.pattern != pattern && ofFit(x.pattern, host) && !ofAhead(pattern, x.pattern) {
			return false
		}
	}
	return true
}

func (l list) all() []string {
	var patterns []string
	for _, x := range l {
		patterns = append(patterns, x.pattern)
	}
	return patterns
}

// checkHost asks for a host in small letters, of which "" is to be an error.
func checkHost(t *testing.T, host, want string) {
	t.Helper()
	var wantErr error
	if want == "" {
		wantErr = api.ErrForm
	}
	if got, err := Canon(host); got != want || err != wantErr {
		t.Errorf("Canon(%s): %s, %v, not %s, %v", short(host), short(got), err, short(want), wantErr)
	}
	if got, err := ofCanon(host); got != want || err != wantErr {
		t.Errorf("the words of Canon(%s): %s, %v, not %s, %v", short(host), short(got), err, short(want), wantErr)
	}
}

// checkPattern asks whether a pattern is one.
func checkPattern(t *testing.T, pattern string, want bool) {
	t.Helper()
	var wantErr error
	if !want {
		wantErr = api.ErrForm
	}
	if err := Check(pattern); err != wantErr {
		t.Errorf("Check(%s): %v, not %v", short(pattern), err, wantErr)
	}
	if isPattern(pattern) != want {
		t.Errorf("the words of Check(%s): not %v", short(pattern), want)
	}
}

// checkFits asks whether a pattern fits a host.
func checkFits(t *testing.T, pattern, host string, want bool, wantErr error) {
	t.Helper()
	if got, err := Fits(pattern, host); got != want || err != wantErr {
		t.Errorf("Fits(%s, %s): %v, %v, not %v, %v", short(pattern), short(host), got, err, want, wantErr)
	}
	if got, err := ofFits(pattern, host); got != want || err != wantErr {
		t.Errorf("the words of Fits(%s, %s): %v, %v, not %v, %v", short(pattern), short(host), got, err, want, wantErr)
	}
}

// checkBeats asks whether one pattern goes ahead of another one.
func checkBeats(t *testing.T, a, b, host string, want bool, wantErr error) {
	t.Helper()
	if got, err := Beats(a, b, host); got != want || err != wantErr {
		t.Errorf("Beats(%s, %s, %s): %v, %v, not %v, %v", short(a), short(b), short(host), got, err, want, wantErr)
	}
	if got, err := ofBeats(a, b, host); got != want || err != wantErr {
		t.Errorf("the words of Beats(%s, %s, %s): %v, %v, not %v, %v", short(a), short(b), short(host), got, err, want, wantErr)
	}
}

// checkSplit asks for an authority's host, of which "" is to be an error, and its port.
func checkSplit(t *testing.T, authority, host string, port int) {
	t.Helper()
	var wantErr error
	if host == "" {
		wantErr = api.ErrForm
	}
	if h, p, err := Split(authority); h != host || p != port || err != wantErr {
		t.Errorf("Split(%s): %s, %d, %v, not %s, %d, %v", short(authority), short(h), p, err, short(host), port, wantErr)
	}
	if h, p, err := ofSplit(authority); h != host || p != port || err != wantErr {
		t.Errorf("the words of Split(%s): %s, %d, %v, not %s, %d, %v", short(authority), short(h), p, err, short(host), port, wantErr)
	}
}

// both is a table and the same one as a plain row.
type both struct {
	*testing.T
	table *Table
	row   list
}

func newBoth(t *testing.T) *both {
	b := &both{T: t, table: New()}
	b.state()
	return b
}

// of adds patterns, of the ids from 1 on.
func of(t *testing.T, patterns ...string) *both {
	t.Helper()
	b := newBoth(t)
	for i, p := range patterns {
		b.add(p, i+1, nil)
	}
	return b
}

// state holds Len and All against the row.
func (b *both) state() {
	b.Helper()
	if n := b.table.Len(); n != len(b.row) {
		b.Errorf("Len: %d, not %d", n, len(b.row))
	}
	if l := b.table.All(); !slices.Equal(l, b.row.all()) {
		b.Errorf("All: %s, not %s", short(l), short(b.row.all()))
	}
}

func (b *both) add(pattern string, id int, want error) {
	b.Helper()
	if err := b.table.Add(pattern, id); err != want {
		b.Errorf("Add(%s, %d): %v, not %v", short(pattern), id, err, want)
	}
	if err := b.row.add(pattern, id); err != want {
		b.Errorf("the words of Add(%s, %d): %v, not %v", short(pattern), id, err, want)
	}
	b.state()
}

// find asks for a host's id, or for an error beside 0.
func (b *both) find(host string, id int, want error) {
	b.Helper()
	if got, err := b.table.Find(host); got != id || err != want {
		b.Errorf("Find(%s): %d, %v, not %d, %v", short(host), got, err, id, want)
	}
	if got, err := b.row.find(host); got != id || err != want {
		b.Errorf("the words of Find(%s): %d, %v, not %d, %v", short(host), got, err, id, want)
	}
	b.state()
}

// same asks the table for a host, against the row.
func (b *both) same(host string) {
	b.Helper()
	id, err := b.row.find(host)
	b.find(host, id, err)
}

// short is what tells of a value, without what is too long to be read.
func short(value any) string {
	s := fmt.Sprintf("%q", value)
	if len(s) > 400 {
		return s[:200] + ".." + s[len(s)-200:]
	}
	return s
}

// texts is every text of up to so many of some bytes.
func texts(alphabet string, most int) []string {
	l := []string{""}
	for from := 0; most > 0; most-- {
		to := len(l)
		for _, s := range l[from:to] {
			for i := range len(alphabet) {
				l = append(l, s+alphabet[i:i+1])
			}
		}
		from = to
	}
	return l
}

// those is the ones of some texts of which something holds.
func those(l []string, holds func(string) bool) []string {
	return slices.DeleteFunc(slices.Clone(l), func(s string) bool { return !holds(s) })
}

// sized is a host of so many bytes: labels of 63, as many as there is room for, and a shorter one ahead.
func sized(n int) string {
	var l []string
	for n > 63 {
		// One byte at least must be left for the label ahead, and one for its dot.
		k := min(63, n-2)
		l = append(l, strings.Repeat("x", k))
		n -= k + 1
	}
	l = append(l, strings.Repeat("y", n))
	slices.Reverse(l)
	return strings.Join(l, ".")
}

// dotted is so many of one label.
func dotted(label string, n int) string {
	return strings.TrimSuffix(strings.Repeat(label+".", n), ".")
}

// maker makes any patterns, hosts and authorities.
type maker struct{ *rand.Rand }

func newMaker(seed int64) *maker { return &maker{rand.New(rand.NewSource(seed))} }

// of is one of some texts.
func (m *maker) of(texts ...string) string { return texts[m.Intn(len(texts))] }

// row is some labels, or stars.
func (m *maker) row(labels ...string) string {
	var l []string
	for range 1 + m.Intn(4) {
		l = append(l, m.of(labels...))
	}
	return strings.Join(l, ".")
}

// host is a host of few labels, so that many patterns fit it.
func (m *maker) host() string { return m.row("a", "b", "a", "b", "A", "B", "c-1", "C_") }

// pattern is a pattern of few labels, so that many fit one host.
func (m *maker) pattern() string {
	if m.Intn(20) == 0 {
		return ""
	}
	return m.row("a", "b", "A", "B", "*", "*", "c-1", "C_")
}

// spoilt is a text, or the text with a byte changed, put between or left out.
func (m *maker) spoilt(s string) string {
	if s == "" || m.Intn(3) != 0 {
		return s
	}
	i := m.Intn(len(s))
	switch c := m.of(".", "*", ":", " ", "\x00", "\x7f", "\xff", "é", "a", "0", "/", "@"); m.Intn(3) {
	case 0:
		return s[:i] + c + s[i+1:]
	case 1:
		return s[:i] + c + s[i:]
	}
	return s[:i] + s[i+1:]
}

// starred is a host with some labels, of which stars were made.
func (m *maker) starred(host string) string {
	l := strings.Split(host, ".")
	for i := range l {
		if m.Intn(2) == 0 {
			l[i] = "*"
		}
	}
	return m.sizes(strings.Join(l, "."))
}

// sizes is a text with letters of any size.
func (m *maker) sizes(s string) string {
	b := []byte(s)
	for i := range b {
		switch m.Intn(3) {
		case 0:
			b[i] = strings.ToUpper(string(b[i]))[0]
		case 1:
			b[i] = strings.ToLower(string(b[i]))[0]
		}
	}
	return string(b)
}
