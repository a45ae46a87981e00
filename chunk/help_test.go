package chunk

import (
	"fmt"
	"math/big"
	"math/rand"
	"slices"
	"strings"
	"testing"
	"turnstile/api"
)

// The classes of bytes, written down a second time.
const (
	hexBytes   = "0123456789abcdefABCDEF"
	tokenBytes = "!#$%&'*+-.^_`|~0123456789abcdefghijklmnopqrstuvwxyzABCDEFGHIJKLMNOPQRSTUVWXYZ"
)

func hexByte(c byte) bool { return strings.IndexByte(hexBytes, c) >= 0 }

func tokenByte(c byte) bool { return strings.IndexByte(tokenBytes, c) >= 0 }

func valueByte(c byte) bool { return c == 9 || c >= 32 && c <= 126 || c >= 128 }

// answer is what a reader is to have answered of a text, all feeds together.
type answer struct {
	taken    int
	body     string
	trailers []api.Field
	done     bool
	err      error
}

// same tells whether two answers are alike.
func (a answer) same(b answer) bool {
	return a.taken == b.taken && a.body == b.body && slices.Equal(a.trailers, b.trailers) && a.done == b.done && a.err == b.err
}

func (a answer) String() string {
	return fmt.Sprintf("%d, %q, %v, %v, %s", a.taken, short(a.body), a.done, a.err, short(fmt.Sprintf("%q", a.trailers)))
}

// model is the chapter's words, written down a second time: over a whole text, line by line.
type model struct {
	answer
	s    string
	most int
}

// of is what a reader of so many bytes at most is to answer of a text.
func of(s string, most int) answer {
	m := &model{s: s, most: most}
	for m.chunk() {
	}
	return m.answer
}

// row takes bytes of a class, up to so many.
func (m *model) row(class func(byte) bool, most int) string {
	from := m.taken
	for m.taken < len(m.s) && m.taken-from < most && class(m.s[m.taken]) {
		m.taken++
	}
	return m.s[from:m.taken]
}

// must takes just this text; a byte that is another one is taken, too.
func (m *model) must(text string, err error) bool {
	for i := range len(text) {
		if m.taken == len(m.s) {
			return false
		}
		m.taken++
		if m.s[m.taken-1] != text[i] {
			m.err = err
			return false
		}
	}
	return true
}

// some takes one byte or more of a class.
func (m *model) some(class func(byte) bool, most int, err error) (string, bool) {
	text := m.row(class, most)
	if text == "" && m.taken < len(m.s) {
		m.taken, m.err = m.taken+1, err
	}
	return text, text != ""
}

// chunk takes one chunk, and tells whether another can follow.
func (m *model) chunk() bool {
	digits, ok := m.some(hexByte, 16, api.ErrChunk)
	if !ok {
		return false
	}
	if m.taken < len(m.s) && strings.IndexByte("; \t", m.s[m.taken]) >= 0 {
		m.row(valueByte, 256)
	}
	if !m.must("\r\n", api.ErrChunk) {
		return false
	}
	size, _ := new(big.Int).SetString(digits, 16)
	if new(big.Int).Add(size, big.NewInt(int64(len(m.body)))).Cmp(big.NewInt(int64(m.most))) > 0 {
		m.err = api.ErrBody
		return false
	}
	if size.Sign() == 0 {
		m.allTrailers()
		return false
	}
	to := min(len(m.s), m.taken+int(size.Int64()))
	short := to-m.taken < int(size.Int64())
	m.body += m.s[m.taken:to]
	m.taken = to
	return !short && m.must("\r\n", api.ErrChunk)
}

// allTrailers takes what stands behind the last chunk. That the lines are too long is asked behind all else, and then what came later is taken back.
func (m *model) allTrailers() {
	begin := m.taken
	var ends []int
	for m.taken < len(m.s) && m.s[m.taken] != '\r' && m.trailer() {
		ends = append(ends, m.taken)
	}
	counted := m.taken - begin
	if m.err == nil && m.taken < len(m.s) {
		m.done = m.must("\r\n", api.ErrField)
	}
	if counted > 8192 {
		m.taken, m.done, m.err = begin+8193, false, api.ErrSize
		whole := 0
		for _, end := range ends {
			if end <= begin+8192 {
				whole++
			}
		}
		m.trailers = m.trailers[:whole]
	}
}

// trailer takes one line.
func (m *model) trailer() bool {
	if len(m.trailers) == 64 {
		m.taken, m.err = m.taken+1, api.ErrField
		return false
	}
	name, ok := m.some(tokenByte, len(m.s), api.ErrField)
	if !ok || !m.must(":", api.ErrField) {
		return false
	}
	value := m.row(valueByte, len(m.s))
	if !m.must("\r\n", api.ErrField) {
		return false
	}
	m.trailers = append(m.trailers, api.Field{Name: name, Value: strings.Trim(value, " \t")})
	return true
}

func newReader(t *testing.T, most int) *Reader {
	t.Helper()
	r, err := New(most)
	if r == nil || err != nil {
		t.Fatalf("New(%d) = %v, %v", most, r, err)
	}
	return r
}

// checkFeed feeds once, and asks everything of the reader: what is to be answered then is what the text has more than what was there before.
func checkFeed(t *testing.T, r *Reader, piece []byte, before, want answer) {
	t.Helper()
	n, body, done, err := r.Feed(piece)
	taken, told := want.taken-before.taken, want.body[len(before.body):]
	if n != taken || string(body) != told || done != want.done || err != want.err {
		t.Errorf("Feed(%q) = %d, %q, %v, %v, not %d, %q, %v, %v", short(string(piece)), n, short(string(body)), done, err, taken, short(told), want.done, want.err)
	}
	checkReader(t, r, want)
}

func checkReader(t *testing.T, r *Reader, want answer) {
	t.Helper()
	if r.Done() != want.done || r.Len() != len(want.body) || !slices.Equal(r.Trailers(), want.trailers) {
		t.Errorf("Done %v, Len %d, Trailers %q, not %v, %d, %q", r.Done(), r.Len(), r.Trailers(), want.done, len(want.body), want.trailers)
	}
}

// check feeds the pieces one by one to a new reader, and holds all that it tells behind each against the model of what was fed so far.
func check(t *testing.T, most int, pieces ...string) answer {
	t.Helper()
	r := newReader(t, most)
	var before answer
	fed := ""
	for _, piece := range pieces {
		fed += piece
		want := of(fed, most)
		checkFeed(t, r, []byte(piece), before, want)
		if t.Failed() {
			t.Fatalf("most %d, %q in %d pieces, behind %d bytes", most, short(strings.Join(pieces, "")), len(pieces), len(fed))
		}
		before = want
	}
	return before
}

// checkWhole asks for a body at once.
func checkWhole(t *testing.T, most int, s string, want answer) {
	t.Helper()
	if want.err == nil && !want.done {
		want.taken, want.err = len(s), api.ErrChunk
	}
	if want.err != nil {
		want.body, want.trailers = "", nil
	}
	body, trailers, n, err := Whole([]byte(s), most)
	if string(body) != want.body || !slices.Equal(trailers, want.trailers) || n != want.taken || err != want.err {
		t.Fatalf("Whole(%q, %d) = %q, %q, %d, %v, not %q, %q, %d, %v", short(s), most, short(string(body)), trailers, n, err, short(want.body), want.trailers, want.taken, want.err)
	}
}

// checkAll holds a text against the model: in one feed, a byte a feed with empty feeds between, and at once.
func checkAll(t *testing.T, most int, s string) answer {
	t.Helper()
	want := check(t, most, s)
	check(t, most, singles(s)...)
	checkWhole(t, most, s, want)
	return want
}

// checkSaid holds a text against the model, and that against what the test itself says of the text.
func checkSaid(t *testing.T, most int, s string, want answer) {
	t.Helper()
	if got := checkAll(t, most, s); !got.same(want) {
		t.Errorf("%q, most %d: %v, not %v", short(s), most, got, want)
	}
}

// checkEnds: the text's first bytes are a whole body.
func checkEnds(t *testing.T, most int, s string, taken int, body string, trailers ...string) {
	t.Helper()
	checkSaid(t, most, s, answer{taken: taken, body: body, trailers: fieldsOf(trailers...), done: true})
}

// checkBegun: the text is the begin of a body.
func checkBegun(t *testing.T, most int, s, body string, trailers ...string) {
	t.Helper()
	checkSaid(t, most, s, answer{taken: len(s), body: body, trailers: fieldsOf(trailers...)})
}

// checkFault: with that many bytes of the text there is no going on.
func checkFault(t *testing.T, most int, s string, taken int, err error, body string, trailers ...string) {
	t.Helper()
	checkSaid(t, most, s, answer{taken: taken, body: body, trailers: fieldsOf(trailers...), err: err})
}

// singles is a text cut into its bytes, with an empty piece behind each third, and at the end.
func singles(s string) []string {
	var pieces []string
	for i := range len(s) {
		pieces = append(pieces, s[i:i+1])
		if i%3 == 2 {
			pieces = append(pieces, "")
		}
	}
	return append(pieces, "")
}

// short is a text that a report can tell.
func short(s string) string {
	if len(s) > 300 {
		return fmt.Sprintf("%s.. (%d bytes)", s[:300], len(s))
	}
	return s
}

// one is the text of one byte.
func one(c int) string { return string([]byte{byte(c)}) }

// fieldsOf is fields out of names and values by turns.
func fieldsOf(texts ...string) []api.Field {
	var l []api.Field
	for i := 0; i < len(texts); i += 2 {
		l = append(l, api.Field{Name: texts[i], Value: texts[i+1]})
	}
	return l
}

// well is bodies that go well, with each kind of place in them.
func well() []string {
	return []string{
		"0\r\n\r\n",
		"3\r\nabc\r\n0\r\n\r\n",
		"1;\r\n\r\r\n2 x=\"y\"\r\n\n0\r\n00\t\r\n\r\n",
		"a\r\n0123456789\r\n00B;e\xff\r\n0\r\n\r\n0\r\n\r\nz\r\n000;z\r\nX: 1\r\n\r\n",
		"0\r\na:\r\nB:c\r\nd: \t e \t f\t\r\n~: \r\n\r\n",
		"1\r\n\x00\r\n0 \r\nX:\xff,\x80\r\nX:y:z\r\n\r\n",
	}
}

// maker makes texts without an order.
type maker struct{ *rand.Rand }

func newMaker(seed int64) maker { return maker{rand.New(rand.NewSource(seed))} }

func (m maker) of(pieces ...string) string { return pieces[m.Intn(len(pieces))] }

// row is some of the pieces, one behind the other.
func (m maker) row(most int, pieces ...string) string {
	var s strings.Builder
	for range m.Intn(most + 1) {
		s.WriteString(m.of(pieces...))
	}
	return s.String()
}

// bytes is so many bytes at most, many of them such as stand in the frame of chunks.
func (m maker) bytes(most int) string {
	return m.row(most, "\r", "\n", "0", "a", ":", ";", " ", one(m.Intn(256)), one(m.Intn(256)))
}

// chunk is a chunk that goes well, its size in any of its forms.
func (m maker) chunk() string {
	b := m.bytes(20)
	if b == "" {
		b = "x"
	}
	return m.size(len(b)) + "\r\n" + b + "\r\n"
}

func (m maker) size(n int) string {
	digits := m.of(fmt.Sprintf("%x", n), fmt.Sprintf("%X", n), fmt.Sprintf("%02x", n), fmt.Sprintf("%016X", n))
	return digits + m.of("", "", "", ";", " ", "\t;a=b", "; \"\x80\"", ";"+strings.Repeat("e", 255))
}

func (m maker) trailer() string {
	return m.of("a", "Host", "x-Y", tokenBytes) + ":" + m.of("", " ", "\t ") + m.row(4, "a", "b c", "\t", " ", ":", ",", "\x80", "\xff", "é") + "\r\n"
}

// body is a body that goes well.
func (m maker) body() string {
	s := ""
	for range m.Intn(4) {
		s += m.chunk()
	}
	s += m.size(0) + "\r\n"
	for range m.Intn(4) {
		s += m.trailer()
	}
	return s + "\r\n"
}

// spoilt is a text with some bytes changed, left out, put between, or cut off.
func (m maker) spoilt(s string) string {
	b := []byte(s)
	for range m.Intn(3) {
		if len(b) == 0 {
			break
		}
		at := m.Intn(len(b))
		c := m.of("\r", "\n", " ", "\t", ":", ";", "a", "1", "0", "g", "\x00", "\x7f", "\x80", "\r\n", "\"")
		switch m.Intn(4) {
		case 0:
			b[at] = c[0]
		case 1:
			b = slices.Delete(b, at, at+1)
		case 2:
			b = slices.Insert(b, at, []byte(c)...)
		case 3:
			b = b[:at]
		}
	}
	return string(b)
}

// cut is a text in pieces, some of them empty.
func (m maker) cut(s string) []string {
	var pieces []string
	for s != "" {
		n := m.Intn(min(len(s), 12) + 1)
		pieces = append(pieces, s[:n])
		s = s[n:]
	}
	return append(pieces, "")
}
