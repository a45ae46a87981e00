package hops

import (
	"fmt"
	"math/rand"
	"regexp"
	"slices"
	"strings"
	"testing"
	"turnstile/api"
	"turnstile/write"
)

// The framings, the bounds and the names, written down a second time.
var (
	none    = api.Frame{Kind: 0}
	chunked = api.Frame{Kind: 2}
	closing = api.Frame{Kind: 3}

	hopNames = []string{"Connection", "Keep-Alive", "Proxy-Connection", "Proxy-Authenticate", "Proxy-Authorization", "TE", "Trailer", "Transfer-Encoding", "Upgrade"}

	lengthForm = regexp.MustCompile(`^[0-9]{1,15}$`)
)

const (
	maxFields = 64
	maxHead   = 65536
	maxLength = 1 << 40
)

func length(n int) api.Frame { return api.Frame{Kind: 1, Length: n} }

// fieldsOf is fields of names and values by turns.
func fieldsOf(texts ...string) []api.Field {
	var l []api.Field
	for i := 0; i+1 < len(texts); i += 2 {
		l = append(l, api.Field{Name: texts[i], Value: texts[i+1]})
	}
	return l
}

// some is so many fields of one name.
func some(n int, name string) []api.Field {
	return slices.Repeat(fieldsOf(name, "1"), n)
}

// lower is a text with small letters, those of ASCII alone.
func lower(s string) string {
	b := []byte(s)
	for i, c := range b {
		if 'A' <= c && c <= 'Z' {
			b[i] = c + 32
		}
	}
	return string(b)
}

// upper is a text with great letters, those of ASCII alone.
func upper(s string) string {
	b := []byte(s)
	for i, c := range b {
		if 'a' <= c && c <= 'z' {
			b[i] = c - 32
		}
	}
	return string(b)
}

// turned is a text with the size of each letter turned round.
func turned(s string) string {
	b := []byte(s)
	for i, c := range b {
		if 'a' <= c && c <= 'z' || 'A' <= c && c <= 'Z' {
			b[i] = c ^ 32
		}
	}
	return string(b)
}

func is(name string, names ...string) bool {
	return slices.ContainsFunc(names, func(n string) bool { return lower(n) == lower(name) })
}

// with is fields whose name is among some.
func with(l []api.Field, names ...string) []api.Field {
	return slices.DeleteFunc(slices.Clone(l), func(f api.Field) bool { return !is(f.Name, names...) })
}

// without is fields whose name is not among some.
func without(l []api.Field, names ...string) []api.Field {
	return slices.DeleteFunc(slices.Clone(l), func(f api.Field) bool { return is(f.Name, names...) })
}

// ofNamed is what Named is to answer.
func ofNamed(l []api.Field) []string {
	var names []string
	for _, f := range with(l, "connection") {
		for _, piece := range strings.Split(f.Value, ",") {
			name := lower(strings.Trim(piece, " \t"))
			if name != "" && !slices.Contains(names, name) {
				names = append(names, name)
			}
		}
	}
	return names
}

// ofStrip is what Strip is to answer.
func ofStrip(l []api.Field) []api.Field {
	dropped := slices.Concat(hopNames, ofNamed(l))
	var ends []api.Field
	for _, f := range l {
		if is(f.Name, "host") || !is(f.Name, dropped...) {
			ends = append(ends, f)
		}
	}
	return ends
}

// ofFrame is the fields that tell a framing.
func ofFrame(f api.Frame) []api.Field {
	switch f.Kind {
	case 1:
		return fieldsOf("Content-Length", fmt.Sprint(f.Length))
	case 2:
		return fieldsOf("Transfer-Encoding", "chunked")
	}
	return nil
}

// ofFraming is what Framing is to answer.
func ofFraming(l []api.Field, f api.Frame) []api.Field {
	return append(without(l, "content-length", "transfer-encoding"), ofFrame(f)...)
}

// ofVia is what Via is to answer.
func ofVia(l []api.Field, minor int) []api.Field {
	if minor == 1 {
		return append(slices.Clone(l), fieldsOf("Via", "1.1 turnstile")...)
	}
	return append(slices.Clone(l), fieldsOf("Via", "1.0 turnstile")...)
}

// ofForwarded is what Forwarded is to answer.
func ofForwarded(l []api.Field, client string) []api.Field {
	var fields []api.Field
	done := false
	for _, f := range l {
		switch {
		case !is(f.Name, "x-forwarded-for"):
			fields = append(fields, f)
		case !done && f.Value == "":
			fields = append(fields, fieldsOf("X-Forwarded-For", client)...)
			done = true
		case !done:
			fields = append(fields, fieldsOf("X-Forwarded-For", f.Value+", "+client)...)
			done = true
		}
	}
	if !done {
		fields = append(fields, fieldsOf("X-Forwarded-For", client)...)
	}
	return fields
}

// ofRequest is what Request is to answer.
func ofRequest(q api.Request, client string, length int) (api.Request, error) {
	l := without(ofStrip(q.Fields), "expect", "content-length", "transfer-encoding")
	l = ofVia(ofForwarded(l, client), q.Minor)
	if length > 0 || length == 0 && slices.Contains([]string{"POST", "PUT", "PATCH"}, q.Method) {
		l = append(l, fieldsOf("Content-Length", fmt.Sprint(length))...)
	}
	want := api.Request{Method: q.Method, Target: q.Target, Minor: 1, Fields: l}
	if len(l) > maxFields {
		return api.Request{}, api.ErrField
	}
	if _, err := write.Request(want); err == api.ErrSize {
		return api.Request{}, api.ErrSize
	}
	return want, nil
}

// ofResponse is what Response is to answer.
func ofResponse(p api.Response, f api.Frame, minor int, last bool) (api.Response, error) {
	ends := ofStrip(p.Fields)
	l := ofVia(without(ends, "content-length", "transfer-encoding"), p.Minor)
	if p.Status/100 != 1 && p.Status != 204 {
		l = append(l, ofFrame(f)...)
		own := with(ends, "content-length")
		if f.Kind == 0 && len(own) == 1 && lengthForm.MatchString(own[0].Value) {
			l = append(l, own...)
		}
	}
	if last {
		l = append(l, fieldsOf("Connection", "close")...)
	}
	want := api.Response{Status: p.Status, Reason: p.Reason, Minor: minor, Fields: l}
	if len(l) > maxFields {
		return api.Response{}, api.ErrField
	}
	if _, err := write.Response(want); err == api.ErrSize {
		return api.Response{}, api.ErrSize
	}
	return want, nil
}

func sameRequest(a, b api.Request) bool {
	return a.Method == b.Method && a.Target == b.Target && a.Minor == b.Minor && slices.Equal(a.Fields, b.Fields)
}

func sameResponse(a, b api.Response) bool {
	return a.Status == b.Status && a.Reason == b.Reason && a.Minor == b.Minor && slices.Equal(a.Fields, b.Fields)
}

// checkFields holds fields against those that are to be.
func checkFields(t *testing.T, what string, got, want []api.Field) {
	t.Helper()
	if !slices.Equal(got, want) {
		t.Errorf("%s: %q, not %q", what, got, want)
	}
}

// checkNamed asks for the names of fields.
func checkNamed(t *testing.T, l []api.Field, want ...string) {
	t.Helper()
	if got := Named(l); !slices.Equal(got, want) || !slices.Equal(ofNamed(l), want) {
		t.Errorf("Named(%q) = %q, not %q", l, got, want)
	}
}

// checkStrip asks for the end-to-end fields, and for those of these.
func checkStrip(t *testing.T, l, want []api.Field) {
	t.Helper()
	got := Strip(l)
	checkFields(t, "Strip", got, want)
	checkFields(t, "Strip of Strip", Strip(got), want)
	checkFields(t, "the words of Strip", ofStrip(l), want)
	if t.Failed() {
		t.Fatalf("fields %s", short(l))
	}
}

// checkRequest sends a request on, whose fields are to be these, or which is to be refused.
func checkRequest(t *testing.T, q api.Request, client string, length int, want []api.Field, wantErr error) {
	t.Helper()
	on := api.Request{Method: q.Method, Target: q.Target, Minor: 1, Fields: want}
	if wantErr != nil {
		on = api.Request{}
	}
	got, err := Request(q, client, length)
	if !sameRequest(got, on) || err != wantErr {
		t.Errorf("Request(%s, %q, %d) = %s, %v, not %s, %v", short(q), client, length, short(got), err, short(on), wantErr)
	}
	if second, secondErr := ofRequest(q, client, length); !sameRequest(second, on) || secondErr != wantErr {
		t.Errorf("the words of Request(%s, %q, %d): %s, %v, not %s, %v", short(q), client, length, short(second), secondErr, short(on), wantErr)
	}
}

// checkResponse sends a response on, whose fields are to be these, or which is to be refused.
func checkResponse(t *testing.T, p api.Response, f api.Frame, minor int, last bool, want []api.Field, wantErr error) {
	t.Helper()
	on := api.Response{Status: p.Status, Reason: p.Reason, Minor: minor, Fields: want}
	if wantErr != nil {
		on = api.Response{}
	}
	got, err := Response(p, f, minor, last)
	if !sameResponse(got, on) || err != wantErr {
		t.Errorf("Response(%s, %v, %d, %v) = %s, %v, not %s, %v", short(p), f, minor, last, short(got), err, short(on), wantErr)
	}
	if second, secondErr := ofResponse(p, f, minor, last); !sameResponse(second, on) || secondErr != wantErr {
		t.Errorf("the words of Response(%s, %v, %d, %v): %s, %v, not %s, %v", short(p), f, minor, last, short(second), secondErr, short(on), wantErr)
	}
}

// short is what tells of a head, without what is too long to be read.
func short(head any) string {
	s := fmt.Sprintf("%+v", head)
	if len(s) > 400 {
		return s[:200] + ".." + s[len(s)-200:]
	}
	return s
}

// maker makes any fields and heads.
type maker struct{ *rand.Rand }

func newMaker(seed int64) *maker { return &maker{rand.New(rand.NewSource(seed))} }

// of is one of some texts.
func (m *maker) of(texts ...string) string { return texts[m.Intn(len(texts))] }

// sized is a text with letters of any sizes.
func (m *maker) sized(s string) string {
	switch m.Intn(4) {
	case 0:
		return lower(s)
	case 1:
		return upper(s)
	case 2:
		b := []byte(s)
		for i, c := range b {
			if m.Intn(2) == 0 {
				b[i] = turned(string([]byte{c}))[0]
			}
		}
		return string(b)
	}
	return s
}

// name is the name of a field.
func (m *maker) name() string {
	switch m.Intn(6) {
	case 0:
		return m.sized(m.of(hopNames...))
	case 1:
		return m.sized("Connection")
	case 2:
		return m.sized(m.of("Content-Length", "Transfer-Encoding", "Via", "X-Forwarded-For", "Expect", "Host"))
	case 3:
		return m.of("", " ", "Ä", "ä", "Connection ", "Connectio", "X-Te", "TEX", "\xff", "a\r\nb", "close")
	}
	return m.sized(m.of("X-A", "X-B", "X-C", "Accept"))
}

// elements is a list with commas.
func (m *maker) elements() string {
	var b strings.Builder
	for range m.Intn(5) {
		b.WriteString(m.of("", " ", "\t", ",", ", ,"))
		b.WriteString(m.of(m.name(), "close", "keep-alive", "", "x-a"))
		b.WriteString(m.of("", ",", ", ", " ,", "\t,\t"))
	}
	return b.String()
}

// value is the value of a field of a name.
func (m *maker) value(name string) string {
	switch lower(name) {
	case "connection":
		return m.elements()
	case "content-length":
		return m.of("0", "5", "007", "", "+1", " 1", "1 ", "1a", "5, 5", strings.Repeat("1", 15), strings.Repeat("1", 16), strings.Repeat("0", 15))
	}
	return m.of("1", "2", "", "a, b", " x ", "\x00", "chunked", "1.1 other")
}

// fields is any fields.
func (m *maker) fields() []api.Field {
	n := m.Intn(10)
	if m.Intn(20) == 0 {
		n = 50 + m.Intn(30)
	}
	var l []api.Field
	for range n {
		name := m.name()
		if n > 40 && m.Intn(8) != 0 {
			name = m.of("X-D", "X-E")
		}
		l = append(l, api.Field{Name: name, Value: m.value(name)})
	}
	return m.great(l)
}

// great makes a head of fields that may be written too large now and then, or nearly so.
func (m *maker) great(l []api.Field) []api.Field {
	if m.Intn(40) != 0 {
		return l
	}
	l = slices.DeleteFunc(l, func(f api.Field) bool {
		return is(f.Name, "", " ", "ä", "connection ", "\xff", "a\r\nb") || f.Name == "Ä"
	})
	for i := range l {
		l[i].Value = strings.Trim(strings.ReplaceAll(l[i].Value, "\x00", ""), " \t")
	}
	return append(l, api.Field{Name: "X-Great", Value: strings.Repeat("x", maxHead-300+m.Intn(400))})
}

// frame is any framing.
func (m *maker) frame() api.Frame {
	return []api.Frame{none, length(0), length(1), length(maxLength), length(-5), chunked, closing, {Kind: 0, Length: 3}, {Kind: 2, Length: 9}, {Kind: 4}, {Kind: -1, Length: 1}}[m.Intn(11)]
}

// number is one of some numbers.
func (m *maker) number(numbers ...int) int { return numbers[m.Intn(len(numbers))] }

// request is any request.
func (m *maker) request() api.Request {
	return api.Request{
		Method: m.of("GET", "POST", "PUT", "PATCH", "HEAD", "DELETE", "post", "Put", "", "A B"),
		Target: m.of("/", "/a/b", "*", "", "/ x"),
		Minor:  m.number(0, 1, 1, 1, 2, -1),
		Fields: m.fields(),
	}
}

// response is any response.
func (m *maker) response() api.Response {
	return api.Response{
		Status: m.number(100, 101, 199, 200, 200, 204, 205, 304, 404, 500, 599, 600, 99, 0, -1, 1000, -100, -199),
		Reason: m.of("", "OK", "Not Found", "a\r\nb"),
		Minor:  m.number(0, 1, 1, 1, 2, -1),
		Fields: m.fields(),
	}
}
