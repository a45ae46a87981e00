package head

import (
	"fmt"
	"math/rand"
	"regexp"
	"slices"
	"strconv"
	"strings"
	"testing"
	"turnstile/api"
)

// The forms of heads, written down a second time: by the library's patterns, over texts in which each byte is one character (see latin).
const (
	tokenForm  = "[A-Za-z0-9!#$%&'*+\\-.^_`|~]+"
	targetForm = `[!-~]+`
	valueForm  = `[\t -~\x{80}-\x{ff}]*`
	fieldForm  = tokenForm + `:` + valueForm + `\r\n`
)

// grammar is one kind of head: its pattern, the pattern of its beginnings, and some that go well, with each kind of place in them.
type grammar struct {
	name         string
	whole, begin *regexp.Regexp
	well         []string
}

var (
	requests  = newGrammar("request", tokenForm, ` `, targetForm, ` `, `H`, `T`, `T`, `P`, `/`, `1`, `\.`, `[01]`)
	responses = newGrammar("response", `H`, `T`, `T`, `P`, `/`, `1`, `\.`, `[01]`, ` `, `[1-5]`, `[0-9]`, `[0-9]`, ` `, valueForm)
	both      = []grammar{requests, responses}
)

// newGrammar is the heads whose first line is made of these parts.
func newGrammar(name string, parts ...string) grammar {
	begun := `(?:` + fieldForm + `)*(?:\r\n?|` + tokenForm + `(?::` + valueForm + `\r?)?)?`
	first := slices.Concat(parts, []string{`\r`, `\n`})
	g := grammar{
		name:  name,
		whole: regexp.MustCompile(`^` + strings.Join(first, ``) + `(?:` + fieldForm + `)*\r\n`),
		begin: regexp.MustCompile(`^` + begins(append(first, begun))),
	}
	g.begin.Longest()
	g.well = wellResponses()
	if name == "request" {
		g.well = wellRequests()
	}
	return g
}

func wellRequests() []string {
	return []string{
		lines("GET / HTTP/1.1", "Host: a"),
		lines("P /a?b HTTP/1.0"),
		lines("M-1 * HTTP/1.1", "a:", "B:c", "d: \t e \t f\t", "~: "),
		lines("OPTIONS http://h/%20 HTTP/1.0", "X: \xff,\x80", "X:y:z"),
	}
}

func wellResponses() []string {
	return []string{
		lines("HTTP/1.1 200 OK", "A: b"),
		lines("HTTP/1.0 100 "),
		lines("HTTP/1.1 599  a\tb\xe9 ", "a:", "B:c", "d: \t e \t f\t"),
	}
}

// begins is the pattern of what begins as a row of parts does.
func begins(parts []string) string {
	if len(parts) == 0 {
		return ""
	}
	return `(?:` + parts[0] + begins(parts[1:]) + `)?`
}

// latin is a text with one character for each byte, so that patterns know bytes from 128 on.
func latin(s string) string {
	runes := make([]rune, len(s))
	for i := range len(s) {
		runes[i] = rune(s[i])
	}
	return string(runes)
}

// answer is what a reader answers of bytes: how many it took, whether the head is whole, the error, and the head.
type answer struct {
	taken    int
	whole    bool
	err      error
	request  api.Request
	response api.Response
}

// of is what a reader of so many bytes at most is to answer of a text.
func (g grammar) of(s string, most int) answer {
	text := latin(s)
	good := len([]rune(g.begin.FindString(text)))
	full := len([]rune(g.whole.FindString(text)))
	// Of the errors that there are the one at the first byte counts; of those at one byte ErrSize, which is asked last.
	a := answer{taken: len(s)}
	if full > 0 {
		a.taken, a.whole = full, true
	} else if good < len(s) {
		a.taken, a.err = good+1, api.ErrField
		if !strings.Contains(s[:good], "\r\n") {
			a.err = api.ErrLine
		}
	}
	if at := endOfLine(s[:good], 66); at > 0 && at <= a.taken && !(full > 0 && at == full) {
		a = answer{taken: at, err: api.ErrSize}
	}
	if a.taken > most {
		a = answer{taken: most + 1, err: api.ErrSize}
	}
	if a.whole {
		g.tell(&a, s[:full])
	}
	return a
}

// endOfLine is how many bytes there are up to the end of line n, counted from 1; 0, if it does not end.
func endOfLine(s string, n int) int {
	at := 0
	for range n {
		i := strings.Index(s[at:], "\r\n")
		if i < 0 {
			return 0
		}
		at += i + 2
	}
	return at
}

// tell lays the parts of a whole head into the answer.
func (g grammar) tell(a *answer, s string) {
	lines := strings.Split(s, "\r\n")
	var fields []api.Field
	for _, line := range lines[1 : len(lines)-2] {
		name, value, _ := strings.Cut(line, ":")
		fields = append(fields, api.Field{Name: name, Value: strings.Trim(value, " \t")})
	}
	if g.name == "request" {
		words := strings.Split(lines[0], " ")
		a.request = api.Request{Method: words[0], Target: words[1], Minor: int(words[2][7] - '0'), Fields: fields}
		return
	}
	words := strings.SplitN(lines[0], " ", 3)
	status, _ := strconv.Atoi(words[1])
	a.response = api.Response{Status: status, Reason: words[2], Minor: int(words[0][7] - '0'), Fields: fields}
}

// reader is a new reader of this kind.
func (g grammar) reader(t *testing.T, most int) *Reader {
	t.Helper()
	r, err := map[string]func(int) (*Reader, error){"request": NewRequest, "response": NewResponse}[g.name](most)
	if err != nil || r == nil {
		t.Fatalf("a %s reader of %d: %v, %v", g.name, most, r, err)
	}
	return r
}

// check feeds the pieces one by one, and asks everything of the reader behind each.
func (g grammar) check(t *testing.T, want answer, most int, pieces ...string) {
	t.Helper()
	r := g.reader(t, most)
	fed := 0
	for _, piece := range pieces {
		take := min(len(piece), max(want.taken-fed, 0))
		at := fed + take
		now := answer{taken: take}
		if at == want.taken {
			now.whole, now.err, now.request, now.response = want.whole, want.err, want.request, want.response
		}
		g.checkFeed(t, r, piece, now)
		if n := r.Len(); n != at {
			t.Errorf("Len is %d behind %d bytes of %q", n, at, short(strings.Join(pieces, "")))
		}
		fed = at
		if t.Failed() {
			t.Fatalf("%s, most %d: %q, in %d pieces", g.name, most, short(strings.Join(pieces, "")), len(pieces))
		}
	}
}

// checkFeed feeds once, and asks for the head of both kinds.
func (g grammar) checkFeed(t *testing.T, r *Reader, piece string, want answer) {
	t.Helper()
	if n, whole, err := r.Feed([]byte(piece)); n != want.taken || whole != want.whole || err != want.err {
		t.Errorf("Feed(%q) = %d, %v, %v, not %d, %v, %v", short(piece), n, whole, err, want.taken, want.whole, want.err)
	}
	g.checkHead(t, r, want)
}

func (g grammar) checkHead(t *testing.T, r *Reader, want answer) {
	t.Helper()
	var ofRequest, ofResponse error = api.ErrNone, api.ErrNone
	if want.whole && g.name == "request" {
		ofRequest = nil
	}
	if want.whole && g.name == "response" {
		ofResponse = nil
	}
	if q, err := r.Request(); !sameRequest(q, want.request) || err != ofRequest {
		t.Errorf("Request() = %+v, %v, not %+v, %v", q, err, want.request, ofRequest)
	}
	if p, err := r.Response(); !sameResponse(p, want.response) || err != ofResponse {
		t.Errorf("Response() = %+v, %v, not %+v, %v", p, err, want.response, ofResponse)
	}
}

// checkParse parses all at once.
func (g grammar) checkParse(t *testing.T, want answer, most int, s string) {
	t.Helper()
	length, wantErr := want.taken, want.err
	if !want.whole {
		length = 0
		if wantErr == nil {
			wantErr = api.ErrEnd
		}
	}
	if g.name == "request" {
		if q, n, err := ParseRequest([]byte(s), most); !sameRequest(q, want.request) || n != length || err != wantErr {
			t.Fatalf("ParseRequest(%q, %d) = %+v, %d, %v, not %+v, %d, %v", short(s), most, q, n, err, want.request, length, wantErr)
		}
		return
	}
	if p, n, err := ParseResponse([]byte(s), most); !sameResponse(p, want.response) || n != length || err != wantErr {
		t.Fatalf("ParseResponse(%q, %d) = %+v, %d, %v, not %+v, %d, %v", short(s), most, p, n, err, want.response, length, wantErr)
	}
}

// checkAll holds a text against the patterns: at once, and a byte a feed.
func (g grammar) checkAll(t *testing.T, s string, most int) answer {
	t.Helper()
	want := g.of(s, most)
	g.check(t, want, most, s)
	g.check(t, want, most, singles(s)...)
	g.checkParse(t, want, most, s)
	return want
}

// singles is a text cut into its bytes.
func singles(s string) []string {
	pieces := make([]string, len(s))
	for i := range pieces {
		pieces[i] = s[i : i+1]
	}
	return pieces
}

func sameRequest(a, b api.Request) bool {
	return a.Method == b.Method && a.Target == b.Target && a.Minor == b.Minor && slices.Equal(a.Fields, b.Fields)
}

func sameResponse(a, b api.Response) bool {
	return a.Status == b.Status && a.Reason == b.Reason && a.Minor == b.Minor && slices.Equal(a.Fields, b.Fields)
}

// short is a text that a report can tell.
func short(s string) string {
	if len(s) > 300 {
		return fmt.Sprintf("%s.. (%d bytes)", s[:300], len(s))
	}
	return s
}

// one is the text of one byte.
func one(c int) string { return string([]byte{byte(c)}) }

// lines is a text of lines with their ends, and an empty one.
func lines(list ...string) string { return strings.Join(list, "\r\n") + "\r\n\r\n" }

// maker makes texts without an order.
type maker struct{ *rand.Rand }

func newMaker(seed int64) maker { return maker{rand.New(rand.NewSource(seed))} }

func (m maker) of(pieces ...string) string { return pieces[m.Intn(len(pieces))] }

// row is some of the pieces, one behind the other.
func (m maker) row(most int, pieces ...string) string {
	var s strings.Builder
	for range m.Intn(most + 1) {
		s.WriteString(m.of(pieces...))
	}
	return s.String()
}

func (m maker) field() string {
	return m.of("a", "Host", "x-Y", "!#$%&'*+-.^_`|~09", "Connection") + ":" + m.of("", " ", "\t ") + m.row(4, "a", "b c", "\t", " ", ":", ",", "\x80", "\xff", "close", "é")
}

// fields is some field lines with their ends.
func (m maker) fields() string {
	s := ""
	for range m.Intn(4) {
		s += m.field() + "\r\n"
	}
	return s
}

// head is a head of either kind that goes well.
func (m maker) head(g grammar) string {
	if g.name == "request" {
		return m.of("GET", "POST", "x", "M*!") + " " + m.of("/", "*", "/a?b#c", "http://h:1/", "~") + " HTTP/1." + m.of("0", "1") + "\r\n" + m.fields() + "\r\n"
	}
	return "HTTP/1." + m.of("0", "1") + " " + m.of("1", "2", "3", "4", "5") + m.of("00", "04", "99", "10") + " " + m.row(3, "OK", " ", "\t", "Not Found", "\xf0", ":") + "\r\n" + m.fields() + "\r\n"
}

// spoilt is a text with some bytes changed, left out, put between, or cut off.
func (m maker) spoilt(s string) string {
	b := []byte(s)
	for range m.Intn(3) {
		if len(b) == 0 {
			break
		}
		at := m.Intn(len(b))
		c := m.of("\r", "\n", " ", "\t", ":", "a", "1", "H", "\x00", "\x7f", "\x80", "\r\n", "/", "\"")
		switch m.Intn(4) {
		case 0:
			b[at] = c[0]
		case 1:
			b = slices.Delete(b, at, at+1)
		case 2:
			b = slices.Insert(b, at, []byte(c)...)
		case 3:
			b = b[:at]
		}
	}
	return string(b)
}

// cut is a text in pieces, some of them empty.
func (m maker) cut(s string) []string {
	var pieces []string
	for s != "" {
		n := m.Intn(min(len(s), 12) + 1)
		pieces = append(pieces, s[:n])
		s = s[n:]
	}
	return append(pieces, "")
}
