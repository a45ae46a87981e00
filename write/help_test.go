package write

import (
	"fmt"
	"math/rand"
	"regexp"
	"slices"
	"strconv"
	"strings"
	"testing"
	"turnstile/api"
)

// The forms of what may be written, written down a second time: by the library's patterns, over texts in which each byte is one character (see latin).
var (
	tokenForm  = regexp.MustCompile("^[A-Za-z0-9!#$%&'*+\\-.^_`|~]+$")
	targetForm = regexp.MustCompile(`^[!-~]+$`)
	reasonForm = regexp.MustCompile(`^[\t -~\x{80}-\x{ff}]*$`)
	valueForm  = regexp.MustCompile(`^([!-~\x{80}-\x{ff}]([\t -~\x{80}-\x{ff}]*[!-~\x{80}-\x{ff}])?)?$`)
)

// latin is a text with one character for each byte, so that patterns know bytes from 128 on.
func latin(s string) string {
	runes := make([]rune, len(s))
	for i := range len(s) {
		runes[i] = rune(s[i])
	}
	return string(runes)
}

func is(form *regexp.Regexp, s string) bool { return form.MatchString(latin(s)) }

// ofRequest is what Request is to answer.
func ofRequest(q api.Request) (string, error) {
	if !is(tokenForm, q.Method) || !is(targetForm, q.Target) || q.Minor < 0 || q.Minor > 1 {
		return "", api.ErrLine
	}
	return ofFields(q.Method+" "+q.Target+fmt.Sprintf(" HTTP/1.%d", q.Minor), q.Fields)
}

// ofResponse is what Response is to answer.
func ofResponse(p api.Response) (string, error) {
	if p.Status < 100 || p.Status >= 1000 || !is(reasonForm, p.Reason) || p.Minor < 0 || p.Minor > 1 {
		return "", api.ErrLine
	}
	return ofFields(fmt.Sprintf("HTTP/1.%d %03d ", p.Minor, p.Status)+p.Reason, p.Fields)
}

func ofFields(first string, l []api.Field) (string, error) {
	lines := []string{first}
	for _, f := range l {
		if !is(tokenForm, f.Name) || !is(valueForm, f.Value) {
			return "", api.ErrField
		}
		lines = append(lines, f.Name+": "+f.Value)
	}
	s := strings.Join(append(lines, "", ""), "\r\n")
	if len(l) > 64 {
		return "", api.ErrField
	}
	if len(s) > 65536 {
		return "", api.ErrSize
	}
	return s, nil
}

// checkRequest writes a request, which is to become this text, or this error.
func checkRequest(t *testing.T, q api.Request, want string, wantErr error) {
	t.Helper()
	b, err := Request(q)
	checkBytes(t, b, err, want, wantErr, fmt.Sprintf("Request(%q)", short(fmt.Sprint(q))))
	if s, e := ofRequest(q); s != want || e != wantErr {
		t.Errorf("the patterns of a request ask for %q, %v, not %q, %v", short(s), e, short(want), wantErr)
	}
}

// checkResponse writes a response, which is to become this text, or this error.
func checkResponse(t *testing.T, p api.Response, want string, wantErr error) {
	t.Helper()
	b, err := Response(p)
	checkBytes(t, b, err, want, wantErr, fmt.Sprintf("Response(%q)", short(fmt.Sprint(p))))
	if s, e := ofResponse(p); s != want || e != wantErr {
		t.Errorf("the patterns of a response ask for %q, %v, not %q, %v", short(s), e, short(want), wantErr)
	}
}

func checkBytes(t *testing.T, b []byte, err error, want string, wantErr error, call string) {
	t.Helper()
	if string(b) != want || err != wantErr {
		t.Errorf("%s = %q, %v, not %q, %v", call, short(string(b)), err, short(want), wantErr)
	}
}

// anyRequest holds a request against the patterns.
func anyRequest(t *testing.T, q api.Request) (string, error) {
	t.Helper()
	s, err := ofRequest(q)
	checkRequest(t, q, s, err)
	return s, err
}

// anyResponse holds a response against the patterns.
func anyResponse(t *testing.T, p api.Response) (string, error) {
	t.Helper()
	s, err := ofResponse(p)
	checkResponse(t, p, s, err)
	return s, err
}

func sameRequest(a, b api.Request) bool {
	return a.Method == b.Method && a.Target == b.Target && a.Minor == b.Minor && slices.Equal(a.Fields, b.Fields)
}

func sameResponse(a, b api.Response) bool {
	return a.Status == b.Status && a.Reason == b.Reason && a.Minor == b.Minor && slices.Equal(a.Fields, b.Fields)
}

// sameName tells whether names are the same but for the size of the letters A to Z.
func sameName(a, b string) bool { return small(a) == small(b) }

func small(s string) string {
	const great = "ABCDEFGHIJKLMNOPQRSTUVWXYZ"
	b := []byte(s)
	for i, c := range b {
		if at := strings.IndexByte(great, c); at >= 0 {
			b[i] = 'a' + byte(at)
		}
	}
	return string(b)
}

// fieldsOf is fields out of names and values, one behind the other.
func fieldsOf(texts ...string) []api.Field {
	var l []api.Field
	for i := 0; i < len(texts); i += 2 {
		l = append(l, api.Field{Name: texts[i], Value: texts[i+1]})
	}
	return l
}

// one is the text of one byte.
func one(c int) string { return string([]byte{byte(c)}) }

// short is a text that a report can tell.
func short(s string) string {
	if len(s) > 300 {
		return s[:300] + ".. (" + strconv.Itoa(len(s)) + " bytes)"
	}
	return s
}

// maker makes heads without an order.
type maker struct{ *rand.Rand }

func newMaker(seed int64) maker { return maker{rand.New(rand.NewSource(seed))} }

func (m maker) of(pieces ...string) string { return pieces[m.Intn(len(pieces))] }

// row is some of the pieces, one behind the other.
func (m maker) row(most int, pieces ...string) string {
	var s strings.Builder
	for range m.Intn(most + 1) {
		s.WriteString(m.of(pieces...))
	}
	return s.String()
}

// seldom is mostly the first text, and now and then one of the others.
func (m maker) seldom(well string, others ...string) string {
	if m.Intn(12) > 0 {
		return well
	}
	return m.of(others...)
}

func (m maker) name() string {
	return m.of("a", "A", "Host", "host", "x-Y", "!#$%&'*+-.^_`|~09", "Connection", "connection")
}

func (m maker) value() string {
	return strings.Trim(m.row(4, "a", "b c", "\t", " ", ":", ",", "\x80", "\xff", "close", "é"), " \t")
}

// fields is some fields, of which few may not be written.
func (m maker) fields() []api.Field {
	var l []api.Field
	for range m.Intn(4) {
		l = append(l, api.Field{
			Name:  m.seldom(m.name(), "", "a b", "a:", "é", "a\r\nb", "\x7f"),
			Value: m.seldom(m.value(), " a", "a ", "\t", "a\r\nb: c", "\n", "\x00", "\x7f"),
		})
	}
	return l
}

// minor is mostly 0 or 1.
func (m maker) minor() int {
	n, _ := strconv.Atoi(m.seldom(m.of("0", "1"), "-1", "2", "10"))
	return n
}

// request is a request's head, of which few may not be written.
func (m maker) request() api.Request {
	return api.Request{
		Method: m.seldom(m.of("GET", "POST", "x", "M*!"), "", "G T", "GET ", "G\r\n", "é", "HTTP/1.1"),
		Target: m.seldom(m.of("/", "*", "/a?b#c", "http://h:1/", "~"), "", " ", "/ ", "/é", "/\r\n", "\x7f"),
		Minor:  m.minor(),
		Fields: m.fields(),
	}
}

// response is a response's head, of which few may not be written.
func (m maker) response() api.Response {
	p := api.Response{
		Status: 100 + m.Intn(500),
		Reason: m.seldom(m.row(3, "OK", " ", "\t", "Not Found", "\xf0", ":"), "\r\n", "a\nb", "\x7f", "\x00", "\x1f"),
		Minor:  m.minor(),
		Fields: m.fields(),
	}
	if m.Intn(8) == 0 {
		p.Status = m.Intn(1200) - 50
	}
	return p
}
