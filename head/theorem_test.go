package head

import (
	"bytes"
	"slices"
	"strconv"
	"strings"
	"testing"
	"turnstile/api"
	"unsafe"
)

// HD5: every cut into two feeds, and into three of short heads, of heads that go well, that are spoilt, too large, or end too early.
func TestEveryCut(t *testing.T) {
	for _, g := range both {
		texts := slices.Clone(g.well)
		for _, s := range g.well {
			for _, at := range []int{0, 3, 4, 8, 10, len(s) / 2, len(s) - 3, len(s) - 1} {
				for _, wrong := range []string{"\n", "\x00", " ", "\r"} {
					texts = append(texts, s[:at]+wrong+s[at:])
				}
				texts = append(texts, s[:at])
			}
			texts = append(texts, s+"body\n")
		}
		for _, s := range texts {
			for _, most := range []int{1, 20, max(len(s)-1, 1), 200} {
				want := g.of(s, most)
				for i := range len(s) + 1 {
					g.check(t, want, most, s[:i], s[i:])
				}
				if len(s) > 45 {
					continue
				}
				for i := range len(s) + 1 {
					for j := i; j <= len(s); j++ {
						g.check(t, want, most, s[:i], s[i:j], s[j:])
					}
				}
			}
		}
	}
}

// HD1, HD2, HD5: any heads, spoilt or not, however cut, with any most, held against the patterns.
func TestAnyHeads(t *testing.T) {
	m := newMaker(2)
	for _, g := range both {
		well, wrong := 0, map[error]int{}
		for range 30000 {
			s := m.spoilt(m.head(g)) + m.row(1, "x", "\r\n", "\n")
			most := 1000
			if m.Intn(3) == 0 {
				most = 1 + m.Intn(len(s)+2)
			}
			want := g.of(s, most)
			g.check(t, want, most, s)
			g.check(t, want, most, m.cut(s)...)
			g.checkParse(t, want, most, s)
			if want.whole {
				well++
			}
			wrong[want.err]++
		}
		if well < 5000 || wrong[api.ErrLine] < 2000 || wrong[api.ErrField] < 1000 || wrong[api.ErrSize] < 2000 || len(wrong) != 4 {
			t.Errorf("%s: %d heads, errors %v", g.name, well, wrong)
		}
	}
}

// HD5: every short text of some bytes.
func TestEveryShortText(t *testing.T) {
	const some = "a:\r\n \t\x80"
	for _, g := range both {
		first := strings.SplitAfter(g.well[0], "\r\n")[0]
		for _, ahead := range []string{"", first, first + "a:b", first[:len(first)-2], first[:4]} {
			row := []string{""}
			for range 4 {
				var longer []string
				for _, s := range row {
					for i := range some {
						longer = append(longer, s+some[i:i+1])
					}
				}
				for _, s := range longer {
					g.checkAll(t, ahead+s, 100)
				}
				row = longer
			}
		}
	}
}

// writtenFields is fields as layer 10 writes them, and the end of a head.
func writtenFields(l []api.Field) string {
	s := ""
	for _, f := range l {
		s += f.Name + ": " + f.Value + "\r\n"
	}
	return s + "\r\n"
}

// written is a head as layer 10 writes it.
func (a answer) written(g grammar) string {
	if g.name == "request" {
		return a.request.Method + " " + a.request.Target + " HTTP/1." + strconv.Itoa(a.request.Minor) + "\r\n" + writtenFields(a.request.Fields)
	}
	return "HTTP/1." + strconv.Itoa(a.response.Minor) + " " + strconv.Itoa(a.response.Status) + " " + a.response.Reason + "\r\n" + writtenFields(a.response.Fields)
}

// HD5: what is read, written as it stands, is read as the same, and nothing is left over.
func TestReadOfWritten(t *testing.T) {
	m := newMaker(3)
	for _, g := range both {
		for i := range 20000 {
			s := m.head(g)
			if i < len(g.well) {
				s = g.well[i]
			}
			r := g.reader(t, 65536)
			n, whole, err := r.Feed([]byte(s))
			if n != len(s) || !whole || err != nil {
				t.Fatalf("Feed(%q) = %d, %v, %v", s, n, whole, err)
			}
			read := answer{whole: true}
			read.request, _ = r.Request()
			read.response, _ = r.Response()
			again := read.written(g)
			read.taken = len(again)
			g.check(t, read, len(again), again)
			g.checkParse(t, read, len(again), again)
		}
	}
}

// HD5: a written head may have more bytes than a head may have, and is read as the same where it has not.
func TestReadOfWrittenLong(t *testing.T) {
	for _, size := range []int{65534, 65535, 65536} {
		ahead := "GET / HTTP/1.1\r\na:"
		s := ahead + strings.Repeat("x", size-len(ahead)-4) + "\r\n\r\n"
		read := requests.checkAll(t, s, 65536)
		again := read.written(requests)
		if got := requests.checkAll(t, again, 65536); got.whole != (size < 65536) || got.whole && !sameRequest(got.request, read.request) {
			t.Errorf("%d bytes: %v", len(again), got.err)
		}
	}
}

// HD1: a head's values have no blanks at their ends, and its parts are of their bytes.
func TestPartsOfWhatIsRead(t *testing.T) {
	m := newMaker(4)
	for range 20000 {
		q, _, err := ParseRequest([]byte(m.spoilt(m.head(requests))), 1000)
		if err != nil {
			continue
		}
		if q.Method == "" || q.Target == "" || strings.ContainsAny(q.Method+q.Target, " \t\r\n") || q.Minor != 0 && q.Minor != 1 || len(q.Fields) > 64 {
			t.Fatalf("%+v", q)
		}
		for _, f := range q.Fields {
			if f.Name == "" || strings.ContainsAny(f.Name, " \t\r\n:") || strings.ContainsAny(f.Value, "\r\n\x00") || strings.Trim(f.Value, " \t") != f.Value {
				t.Fatalf("%+v", q)
			}
		}
	}
}

// Rule 3: bytes that were fed may be changed behind it; they are neither changed nor kept.
func TestFedBytesAreNotKept(t *testing.T) {
	for _, g := range both {
		for _, s := range append(slices.Clone(g.well), "x\x00", g.well[0]+"more") {
			want := g.of(s, 200)
			r := g.reader(t, 200)
			room := make([]byte, 7, 64)
			taken := 0
			for taken < want.taken {
				n := copy(room, s[taken:])
				room = room[:n]
				before := bytes.Clone(room[:cap(room)])
				k, _, _ := r.Feed(room)
				if !bytes.Equal(room[:cap(room)], before) {
					t.Fatalf("Feed changed %q", before)
				}
				taken += k
				for i := range room[:cap(room)] {
					room[:cap(room)][i] = '!'
				}
				room = room[:7]
			}
			g.checkHead(t, r, want)
			b := []byte(s)
			q, _, _ := ParseRequest(b, 200)
			p, _, _ := ParseResponse(b, 200)
			if string(b) != s {
				t.Fatalf("Parse changed %q", s)
			}
			clear(b)
			if !sameRequest(q, want.request) || !sameResponse(p, want.response) {
				t.Errorf("%q became %+v, %+v", s, q, p)
			}
		}
	}
}

// Rule 3: what was handed out is its own, spare room too: changing it changes no other answer.
func TestHeadsAreTheirOwn(t *testing.T) {
	spoil := func(l []api.Field) {
		l = l[:cap(l)]
		for i := range l {
			l[i] = api.Field{Name: "spoilt"}
		}
	}
	for _, g := range both {
		for _, s := range g.well {
			want := g.of(s, 200)
			r := g.reader(t, 200)
			r.Feed([]byte(s))
			for range 3 {
				q, _ := r.Request()
				q2, _ := r.Request()
				spoil(q.Fields)
				p, _ := r.Response()
				p2, _ := r.Response()
				spoil(p.Fields)
				if !sameRequest(q2, want.request) || !sameResponse(p2, want.response) {
					t.Fatalf("%q became %+v, %+v", s, q2, p2)
				}
				g.checkHead(t, r, want)
			}
		}
	}
}

// Rule 4: readers that are fed in turns have nothing in common.
func TestReadersInTurns(t *testing.T) {
	m := newMaker(5)
	for range 2000 {
		g, h := both[m.Intn(2)], both[m.Intn(2)]
		one, two := m.head(g), m.spoilt(m.head(h))
		a, b := g.reader(t, 300), h.reader(t, 300)
		for i := range max(len(one), len(two)) {
			a.Feed([]byte(one[min(i, len(one)):min(i+1, len(one))]))
			b.Feed([]byte(two[min(i, len(two)):min(i+1, len(two))]))
		}
		g.checkHead(t, a, g.of(one, 300))
		h.checkHead(t, b, h.of(two, 300))
		if t.Failed() {
			t.Fatalf("%q and %q", one, two)
		}
	}
}

// within tells whether a text stands in the memory of another.
func within(part, whole string) bool {
	if part == "" || whole == "" {
		return false
	}
	from := uintptr(unsafe.Pointer(unsafe.StringData(whole)))
	at := uintptr(unsafe.Pointer(unsafe.StringData(part)))
	return at >= from && at < from+uintptr(len(whole))
}

// Rule 3: fields stay as they were, and no answer is a piece of them.
func TestFieldsStay(t *testing.T) {
	l := make([]api.Field, 0, 8)
	for _, name := range []string{"Host", "a", "A", "Connection"} {
		l = append(l, api.Field{Name: strings.Clone(name), Value: strings.Clone("h:80")})
	}
	before := slices.Clone(l[:cap(l)])
	values := Values(l, "a")
	value, _ := One(l, "Host")
	host, port, _ := Host(api.Request{Minor: 1, Fields: l})
	Has(l, "connection", "h:80")
	Keep(1, l)
	if !slices.Equal(l[:cap(l)], before) {
		t.Errorf("%q became %q", before, l[:cap(l)])
	}
	for _, f := range l {
		for _, answer := range append(values, value, host, port) {
			if within(answer, f.Value) {
				t.Errorf("%q stands in the memory of the fields", answer)
			}
		}
	}
	if !slices.Equal(values, []string{"h:80", "h:80"}) || value != "h:80" || host != "h" || port != "80" {
		t.Errorf("%q, %q, %q, %q", values, value, host, port)
	}
	other := Values(l, "a")
	for i := range values[:cap(values)] {
		values[:cap(values)][i] = "spoilt"
	}
	if !slices.Equal(other, []string{"h:80", "h:80"}) || !slices.Equal(l, before[:len(l)]) {
		t.Errorf("Values became %q", other)
	}
}

// Rule 1: a nil reader, which the chapter does not speak of, and any bytes: nothing panics.
func TestNothingPanics(t *testing.T) {
	var r *Reader
	if n, whole, err := r.Feed([]byte("GET")); n != 0 || whole || err != api.ErrArg || r.Len() != 0 {
		t.Errorf("a nil reader's Feed = %d, %v, %v, Len %d", n, whole, err, r.Len())
	}
	if _, err := r.Request(); err != api.ErrNone {
		t.Errorf("a nil reader's Request: %v", err)
	}
	if _, err := r.Response(); err != api.ErrNone {
		t.Errorf("a nil reader's Response: %v", err)
	}
	m := newMaker(6)
	for range 20000 {
		b := make([]byte, m.Intn(40))
		m.Read(b)
		for _, g := range both {
			g.checkAll(t, m.head(g)[:m.Intn(16)]+string(b), 1+m.Intn(60))
		}
		l := fieldsOf(string(b), string(b), "Host", string(b))
		Values(l, string(b))
		One(l, string(b))
		Has(l, string(b), string(b))
		Host(api.Request{Minor: m.Intn(5) - 2, Fields: l})
		Keep(m.Intn(5)-2, l)
	}
}
