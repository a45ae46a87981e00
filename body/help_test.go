package body

import (
	"fmt"
	"math/rand"
	"slices"
	"strings"
	"testing"
	"turnstile/api"
	"turnstile/chunk"
)

// The framings, and the bounds, written down a second time.
var (
	none    = api.Frame{Kind: 0}
	chunked = api.Frame{Kind: 2}
	closing = api.Frame{Kind: 3}
)

const maxLength = 1 << 40

func length(n int) api.Frame { return api.Frame{Kind: 1, Length: n} }

// answer is what a reader is to have answered of a text, all feeds together.
type answer struct {
	taken    int
	body     string
	trailers []api.Field
	done     bool
	err      error
}

// same tells whether two answers are alike.
func (a answer) same(b answer) bool {
	return a.taken == b.taken && a.body == b.body && slices.Equal(a.trailers, b.trailers) && a.done == b.done && a.err == b.err
}

func (a answer) String() string {
	return fmt.Sprintf("%d, %q, %v, %v, %q", a.taken, short(a.body), a.done, a.err, a.trailers)
}

// of is the chapter's words, written down a second time: what a reader is to answer of a text.
func of(f api.Frame, most int, s string) answer {
	switch f.Kind {
	case 1:
		n := min(len(s), f.Length)
		return answer{taken: n, body: s[:n], done: n == f.Length}
	case 2:
		return ofChunks(most, s)
	case 3:
		if most >= 0 && len(s) > most {
			return answer{taken: most + 1, body: s[:most], err: api.ErrBody}
		}
		return answer{taken: len(s), body: s}
	}
	return answer{done: true}
}

// ofChunks asks layer 12's reader.
func ofChunks(most int, s string) answer {
	if most == -1 || most > maxLength {
		most = maxLength
	}
	r, err := chunk.New(most)
	if err != nil {
		panic(err)
	}
	taken, body, done, err := r.Feed([]byte(s))
	a := answer{taken: taken, body: string(body), done: done, err: err}
	if done {
		a.trailers = r.Trailers()
	}
	return a
}

// ended is what there is behind the end of what was answered so far.
func ended(f api.Frame, a answer) answer {
	switch {
	case a.done || a.err != nil:
	case f.Kind == 3:
		a.done = true
	default:
		a.err = api.ErrEnd
	}
	return a
}

func newReader(t *testing.T, f api.Frame, most int) *Reader {
	t.Helper()
	r, err := New(f, most)
	if r == nil || err != nil {
		t.Fatalf("New(%v, %d) = %v, %v", f, most, r, err)
	}
	return r
}

// checkReader asks everything that changes nothing.
func checkReader(t *testing.T, r *Reader, want answer) {
	t.Helper()
	if r.Done() != want.done || r.Len() != len(want.body) || !slices.Equal(r.Trailers(), want.trailers) {
		t.Errorf("Done %v, Len %d, Trailers %q, not %v, %d, %q", r.Done(), r.Len(), r.Trailers(), want.done, len(want.body), want.trailers)
	}
}

// checkFeed feeds once, and asks everything of the reader: what is to be answered then is what want has more than what was there before.
func checkFeed(t *testing.T, r *Reader, piece []byte, before, want answer) {
	t.Helper()
	n, body, done, err := r.Feed(piece)
	taken, told := want.taken-before.taken, want.body[len(before.body):]
	if n != taken || string(body) != told || done != want.done || err != want.err {
		t.Errorf("Feed(%q) = %d, %q, %v, %v, not %d, %q, %v, %v", short(string(piece)), n, short(string(body)), done, err, taken, short(told), want.done, want.err)
	}
	checkReader(t, r, want)
}

// checkStays feeds a reader of which nothing is to come any more, and ends it again and again.
func checkStays(t *testing.T, r *Reader, want answer) {
	t.Helper()
	for _, more := range [][]byte{nil, {}, []byte("x"), []byte("0\r\n\r\n"), []byte("\r\n"), []byte("\n"), make([]byte, 100)} {
		checkFeed(t, r, more, want, want)
		if want.done || want.err != nil {
			checkEnd(t, r, want)
		}
	}
}

// checkEnd ends a reader of which want tells what it is behind that.
func checkEnd(t *testing.T, r *Reader, want answer) {
	t.Helper()
	if err := r.End(); err != want.err {
		t.Errorf("End() = %v, not %v", err, want.err)
	}
	checkReader(t, r, want)
}

// check feeds the pieces one by one to a new reader, and holds all that it tells behind each against the model of what was fed so far; then what is behind the end.
func check(t *testing.T, f api.Frame, most int, pieces ...string) answer {
	t.Helper()
	r := newReader(t, f, most)
	before := of(f, most, "")
	checkReader(t, r, before)
	fed := ""
	for _, piece := range pieces {
		fed += piece
		want := of(f, most, fed)
		checkFeed(t, r, []byte(piece), before, want)
		before = want
	}
	if before.done || before.err != nil {
		checkFeed(t, r, []byte("behind"), before, before)
	}
	end := ended(f, before)
	checkEnd(t, r, end)
	checkEnd(t, r, end)
	checkFeed(t, r, []byte("behind"), end, end)
	checkEnd(t, r, end)
	if t.Failed() {
		t.Fatalf("%v, most %d, %q", f, most, short(strings.Join(pieces, "|")))
	}
	return before
}

// checkWhole asks for a body at once; want is what a reader is to answer of it ahead of the end.
func checkWhole(t *testing.T, f api.Frame, most int, s string, want answer) {
	t.Helper()
	want = ended(f, want)
	if want.err != nil {
		want.taken, want.body = 0, ""
	}
	body, n, err := Whole(f, most, []byte(s))
	if string(body) != want.body || n != want.taken || err != want.err {
		t.Fatalf("Whole(%v, %d, %q) = %q, %d, %v, not %q, %d, %v", f, most, short(s), short(string(body)), n, err, short(want.body), want.taken, want.err)
	}
}

// checkAll holds a text against the model: in one feed, a byte a feed with empty feeds between, and at once.
func checkAll(t *testing.T, f api.Frame, most int, s string) answer {
	t.Helper()
	want := check(t, f, most, s)
	check(t, f, most, singles(s)...)
	checkWhole(t, f, most, s, want)
	return want
}

// checkSaid holds a text against the model, and that against what the test itself says of the text.
func checkSaid(t *testing.T, f api.Frame, most int, s string, want answer) {
	t.Helper()
	if got := checkAll(t, f, most, s); !got.same(want) {
		t.Errorf("%v, most %d, %q: %v, not %v", f, most, short(s), got, want)
	}
}

// checkEnds: the text's first bytes are a whole body.
func checkEnds(t *testing.T, f api.Frame, most int, s string, taken int, body string, trailers ...string) {
	t.Helper()
	checkSaid(t, f, most, s, answer{taken: taken, body: body, trailers: fieldsOf(trailers...), done: true})
}

// checkBegun: the text is the begin of a body.
func checkBegun(t *testing.T, f api.Frame, most int, s, body string) {
	t.Helper()
	checkSaid(t, f, most, s, answer{taken: len(s), body: body})
}

// checkFault: with that many bytes of the text there is no going on.
func checkFault(t *testing.T, f api.Frame, most int, s string, taken int, err error, body string) {
	t.Helper()
	checkSaid(t, f, most, s, answer{taken: taken, body: body, err: err})
}

// singles is a text cut into its bytes, with an empty piece behind each third, and at the end.
func singles(s string) []string {
	var pieces []string
	for i := range len(s) {
		pieces = append(pieces, s[i:i+1])
		if i%3 == 2 {
			pieces = append(pieces, "")
		}
	}
	return append(pieces, "")
}

// short is a text that a report can tell.
func short(s string) string {
	if len(s) > 300 {
		return fmt.Sprintf("%s.. (%d bytes)", s[:300], len(s))
	}
	return s
}

// fieldsOf is fields out of names and values by turns.
func fieldsOf(texts ...string) []api.Field {
	var l []api.Field
	for i := 0; i < len(texts); i += 2 {
		l = append(l, api.Field{Name: texts[i], Value: texts[i+1]})
	}
	return l
}

// spoil writes over bytes and the room behind them.
func spoil(b []byte) {
	for i := range b[:cap(b)] {
		b[:cap(b)][i] = '!'
	}
}

// spoilFields writes over fields and the room behind them.
func spoilFields(l []api.Field) {
	for i := range l[:cap(l)] {
		l[:cap(l)][i] = api.Field{Name: "spoilt", Value: "spoilt"}
	}
}

// sample is a framing, a most, and a text.
type sample struct {
	f    api.Frame
	most int
	s    string
}

// wrongChunks is chunked bodies that have more than ten bytes, or a byte that can't be, which is their last one.
func wrongChunks() map[string]error {
	return map[string]error{
		"x":                        api.ErrChunk,
		"\r":                       api.ErrChunk,
		"3\n":                      api.ErrChunk,
		"00000000000000001":        api.ErrChunk,
		"1;\x00":                   api.ErrChunk,
		"1\r\r":                    api.ErrChunk,
		"1\r\nab":                  api.ErrChunk,
		"3\r\nabc\n":               api.ErrChunk,
		"2\r\nab\r\r":              api.ErrChunk,
		"2\r\nab\r\nz":             api.ErrChunk,
		"b\r\n":                    api.ErrBody,
		"ffffffffffffffff\r\n":     api.ErrBody,
		"4\r\nabcd\r\n7;x\r\n":     api.ErrBody,
		"0\r\n\n":                  api.ErrField,
		"0\r\n\rx":                 api.ErrField,
		"0\r\nX ":                  api.ErrField,
		"0\r\nX: 1\r\nY\r":         api.ErrField,
		"0\r\nX: 1\r\n\r\r":        api.ErrField,
		"1\r\na\r\n0\r\nX: 1\r\n ": api.ErrField,
		"0\r\n" + strings.Repeat("a:\r\n", 64) + "b":                             api.ErrField,
		"2\r\nab\r\n0\r\nX: 1\r\na:" + strings.Repeat("x", 8185):                 api.ErrSize,
		"0\r\n" + strings.Repeat("a:"+strings.Repeat("v", 124)+"\r\n", 64) + "b": api.ErrSize,
	}
}

// wellChunks is chunked bodies of at most twelve bytes that go well.
func wellChunks() []string {
	return []string{
		"0\r\n\r\n",
		"3\r\nabc\r\n0\r\n\r\n",
		"1;x\r\n\r\r\n2 y\r\n\n0\r\n00\t\r\n\r\n",
		"a\r\n0123456789\r\n2\r\n\r\n\r\n0\r\nX: 1\r\nY:\r\n\r\n",
		"0\r\na:\r\nB: \t c \t d\t\r\n\r\n",
	}
}

// samples is bodies of every kind: too short, whole, with more behind them, and spoilt.
func samples() []sample {
	var l []sample
	for _, s := range []string{"", "a", "ab", "abc", "abcd", "abc\r\n\x00\xff0\r\n\r\n"} {
		for _, most := range []int{-1, 0, 1, 2, 3, 4, 5, 12, 13, maxLength, maxLength + 1} {
			l = append(l, sample{none, most, s}, sample{closing, most, s}, sample{chunked, most, s})
			for _, n := range []int{0, 1, 2, 3, 4, 5, 11, 12, 13, maxLength} {
				if most == -1 || n <= most {
					l = append(l, sample{length(n), most, s})
				}
			}
		}
	}
	for _, s := range wellChunks() {
		for _, most := range []int{-1, 0, 2, 3, 11, 12, maxLength + 1} {
			l = append(l, sample{chunked, most, s}, sample{chunked, most, s + "more"}, sample{chunked, most, s[:len(s)-1]})
		}
	}
	for s := range wrongChunks() {
		if len(s) < 100 {
			l = append(l, sample{chunked, 10, s}, sample{chunked, 10, s + "\r\n"}, sample{chunked, -1, s})
		}
	}
	return l
}

// maker makes texts without an order.
type maker struct{ *rand.Rand }

func newMaker(seed int64) maker { return maker{rand.New(rand.NewSource(seed))} }

func (m maker) of(pieces ...string) string { return pieces[m.Intn(len(pieces))] }

// bytes is so many bytes at most, many of them such as stand in the frame of chunks.
func (m maker) bytes(most int) string {
	var s strings.Builder
	for range m.Intn(most + 1) {
		s.WriteString(m.of("\r", "\n", "0", "a", ":", ";", " ", string([]byte{byte(m.Intn(256))})))
	}
	return s.String()
}

// chunks is a chunked body that goes well.
func (m maker) chunks() string {
	s := ""
	for range m.Intn(4) {
		s += string(chunk.Encode([]byte(m.bytes(20))))
	}
	var l []api.Field
	for range m.Intn(3) {
		l = append(l, api.Field{Name: m.of("a", "X-y", "~"), Value: m.of("", "b", "c d", "\xff")})
	}
	last, err := chunk.Last(l)
	if err != nil {
		panic(err)
	}
	return s + string(last)
}

// spoilt is a text with some bytes changed, left out, put between, or cut off.
func (m maker) spoilt(s string) string {
	b := []byte(s)
	for range m.Intn(3) {
		if len(b) == 0 {
			break
		}
		at := m.Intn(len(b))
		c := m.of("\r", "\n", " ", ":", ";", "a", "1", "0", "g", "\x00", "\xff", "\r\n")
		switch m.Intn(4) {
		case 0:
			b[at] = c[0]
		case 1:
			b = slices.Delete(b, at, at+1)
		case 2:
			b = slices.Insert(b, at, []byte(c)...)
		case 3:
			b = b[:at]
		}
	}
	return string(b)
}

// any is a body of any kind.
func (m maker) any() sample {
	most := m.Intn(40) - 1
	if m.Intn(3) == 0 {
		most = []int{-1, 1000, maxLength, maxLength + 1}[m.Intn(4)]
	}
	switch m.Intn(5) {
	case 0:
		return sample{none, most, m.bytes(5)}
	case 1:
		n := m.Intn(30)
		if most >= 0 {
			n = min(n, most)
		}
		return sample{length(n), most, m.bytes(40)}
	case 2:
		return sample{closing, most, m.bytes(40)}
	}
	return sample{chunked, most, m.spoilt(m.chunks()) + m.of("", "x", "\r\n")}
}

// cut is a text in pieces, some of them empty.
func (m maker) cut(s string) []string {
	var pieces []string
	for s != "" {
		n := m.Intn(min(len(s), 12) + 1)
		pieces = append(pieces, s[:n])
		s = s[n:]
	}
	return append(pieces, "")
}
