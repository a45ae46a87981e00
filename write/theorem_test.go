package write

import (
	"bytes"
	"math"
	"slices"
	"strconv"
	"strings"
	"testing"
	"turnstile/api"
	"turnstile/head"
)

// checkReadRequest reads what was written: the same head, and nothing is left over, also where more stands behind it.
func checkReadRequest(t *testing.T, q api.Request, b []byte) {
	t.Helper()
	for _, behind := range []string{"", "body", "\r\n", "GET / HTTP/1.1\r\n\r\n"} {
		if got, n, err := head.ParseRequest(append(bytes.Clone(b), behind...), len(b)); !sameRequest(got, q) || n != len(b) || err != nil {
			t.Fatalf("%q is read as %+v, %d, %v, not %+v", short(string(b)), got, n, err, q)
		}
	}
}

// checkReadResponse is as checkReadRequest.
func checkReadResponse(t *testing.T, p api.Response, b []byte) {
	t.Helper()
	for _, behind := range []string{"", "body", "\r\n", "HTTP/1.1 200 OK\r\n\r\n"} {
		if got, n, err := head.ParseResponse(append(bytes.Clone(b), behind...), len(b)); !sameResponse(got, p) || n != len(b) || err != nil {
			t.Fatalf("%q is read as %+v, %d, %v, not %+v", short(string(b)), got, n, err, p)
		}
	}
}

// WR5: what is written is read as the same head, of any heads.
func TestReadOfWritten(t *testing.T) {
	m := newMaker(3)
	requests, responses := 0, 0
	for range 40000 {
		q, p := m.request(), m.response()
		if b, err := Request(q); err == nil {
			checkReadRequest(t, q, b)
			requests++
		}
		if b, err := Response(p); err == nil && p.Status <= 599 {
			checkReadResponse(t, p, b)
			responses++
		}
	}
	if requests < 10000 || responses < 10000 {
		t.Errorf("%d requests, %d responses", requests, responses)
	}
}

// WR5: each byte that may be written, in each part and at each place of it, is read as it is.
func TestReadOfEveryByte(t *testing.T) {
	for c := range 256 {
		for _, s := range []string{one(c), one(c) + "a", "a" + one(c), "a" + one(c) + "b"} {
			for _, q := range []api.Request{{Method: s, Target: "/"}, {Method: "G", Target: s, Minor: 1}, {Method: "G", Target: "/", Fields: fieldsOf(s, "v", "n", "")}, {Method: "G", Target: "/", Fields: fieldsOf("n", s, s, "")}, {Method: "G", Target: "/", Fields: fieldsOf("n", s)}} {
				if b, err := Request(q); err == nil {
					checkReadRequest(t, q, b)
				}
			}
			for _, p := range []api.Response{{Status: 100, Reason: s}, {Status: 200, Reason: s, Minor: 1, Fields: fieldsOf(s, "v")}, {Status: 599, Fields: fieldsOf("n", s)}} {
				if b, err := Response(p); err == nil {
					checkReadResponse(t, p, b)
				}
			}
		}
	}
}

// WR5: every status up to 599 is read as it is, and a reader takes none above.
func TestReadOfEveryStatus(t *testing.T) {
	for status := 100; status <= 999; status++ {
		p := api.Response{Status: status, Reason: "x", Minor: 1}
		b, err := Response(p)
		if err != nil {
			t.Fatalf("status %d: %v", status, err)
		}
		if status <= 599 {
			checkReadResponse(t, p, b)
		} else if _, _, err := head.ParseResponse(b, 1000); err != api.ErrLine {
			t.Errorf("status %d is read: %v", status, err)
		}
	}
}

// WR5: heads of MaxHead bytes, and of MaxFields fields.
func TestReadOfLarge(t *testing.T) {
	for _, n := range []int{65535, 65536} {
		queries, answers := sized(n)
		for _, q := range queries {
			b, err := Request(q)
			if err != nil || len(b) != n {
				t.Fatalf("a request of %d bytes: %d, %v", n, len(b), err)
			}
			checkReadRequest(t, q, b)
		}
		for _, p := range answers {
			b, err := Response(p)
			if err != nil || len(b) != n {
				t.Fatalf("a response of %d bytes: %d, %v", n, len(b), err)
			}
			if p.Status <= 599 {
				checkReadResponse(t, p, b)
			}
		}
	}
}

// WR5: the gateway's own responses are read as they are, with the body behind them.
func TestReadOfLocal(t *testing.T) {
	for status := range reasons() {
		for minor := range 2 {
			for _, last := range []bool{false, true} {
				p, body, err := Local(status, minor, last)
				if err != nil {
					continue
				}
				b, err := Response(p)
				if err != nil {
					t.Fatalf("%+v: %v", p, err)
				}
				checkReadResponse(t, p, b)
				if length, err := head.One(p.Fields, "content-length"); length != strconv.Itoa(len(body)) || err != nil {
					t.Errorf("%+v has %d bytes", p, len(body))
				}
				if head.Has(p.Fields, "connection", "close") != last {
					t.Errorf("%+v, last %v", p, last)
				}
			}
		}
	}
}

// HD5: what is read, written as it stands, is read as the same.
func TestWrittenOfRead(t *testing.T) {
	for _, s := range []string{"GET / HTTP/1.1\r\nHost: a\r\n\r\n", "M * HTTP/1.0\r\n\r\n", "M-1 ! HTTP/1.1\r\na:\r\nB:c\r\nd: \t e \t f\t\r\n~: \r\nX:y:z,\xff\r\n\r\n"} {
		q, _, err := head.ParseRequest([]byte(s), 1000)
		if err != nil {
			t.Fatalf("%q: %v", s, err)
		}
		b, err := Request(q)
		if err != nil {
			t.Fatalf("%+v: %v", q, err)
		}
		checkReadRequest(t, q, b)
	}
	for _, s := range []string{"HTTP/1.1 200 OK\r\nA:b\r\n\r\n", "HTTP/1.0 100 \r\n\r\n", "HTTP/1.1 599  a\tb\xe9 \r\na:\r\nB:c\r\nd: \t e \t f\t\r\n\r\n"} {
		p, _, err := head.ParseResponse([]byte(s), 1000)
		if err != nil {
			t.Fatalf("%q: %v", s, err)
		}
		b, err := Response(p)
		if err != nil {
			t.Fatalf("%+v: %v", p, err)
		}
		checkReadResponse(t, p, b)
	}
}

// someFields is lists of fields that are easily taken for one another, were they not kept apart.
func someFields() [][]api.Field {
	lists := [][]api.Field{nil}
	for _, name := range []string{"a", "A", "aa", "b"} {
		for _, value := range []string{"", "a", "b", ":", ": a", "a b", "a  b", "a\tb", "b: a", "\xff"} {
			lists = append(lists, fieldsOf(name, value), fieldsOf(name, value, "a", ""), fieldsOf("a", "", name, value), fieldsOf("b", "a", name, value))
		}
	}
	slices.SortFunc(lists, func(a, b []api.Field) int {
		return slices.CompareFunc(a, b, func(f, g api.Field) int { return strings.Compare(f.Name+"\n"+f.Value, g.Name+"\n"+g.Value) })
	})
	return slices.CompactFunc(lists, slices.Equal)
}

// WR5: two unlike heads are never written alike, requests, responses, and one of each, statuses above 599 too.
func TestUnlikeHeads(t *testing.T) {
	seen := map[string]bool{}
	note := func(b []byte, err error) {
		if err != nil || seen[string(b)] {
			t.Fatalf("%q, %v was there", b, err)
		}
		seen[string(b)] = true
	}
	for _, l := range someFields() {
		for minor := range 2 {
			for _, method := range []string{"a", "A", "aa", "HTTP", "1"} {
				for _, target := range []string{"/", "//", "a", "A", "HTTP/1.1", "a:", ":"} {
					note(Request(api.Request{Method: method, Target: target, Minor: minor, Fields: l}))
				}
			}
			for _, status := range []int{100, 101, 110, 200, 599, 600, 999} {
				for _, reason := range []string{"", " ", "  ", "\t", "a", "a ", " a", "A", "100", "HTTP/1.1"} {
					note(Response(api.Response{Status: status, Reason: reason, Minor: minor, Fields: l}))
				}
			}
		}
	}
	if len(seen) < 20000 {
		t.Errorf("%d heads", len(seen))
	}
}

// WR5, rule 3: heads stay as they were, with the room behind their fields, and what is written is its own.
func TestHeadsStay(t *testing.T) {
	for n := range 4 {
		l := roomy(n, 2, 3)
		before := slices.Clone(l[:cap(l)])
		for range 2 {
			b, _ := Request(api.Request{Method: "GET", Target: "/", Minor: 1, Fields: l})
			c, _ := Response(api.Response{Status: 200, Reason: "OK", Fields: l})
			other, _ := Request(api.Request{Method: "GET", Target: "/", Minor: 1, Fields: l})
			want := string(b)
			clear(other[:cap(other)])
			clear(c[:cap(c)])
			if !slices.Equal(l[:cap(l)], before) || string(b) != want || !strings.HasPrefix(want, "GET / HTTP/1.1\r\n") {
				t.Fatalf("%q became %q, and %q became %q", before, l[:cap(l)], want, b)
			}
		}
	}
}

// Rules 1, 4: any texts and numbers: nothing panics, and the same is answered again.
func TestNothingPanics(t *testing.T) {
	m := newMaker(4)
	numbers := []int{0, 1, -1, 2, 100, 200, 404, 599, 600, 999, 1000, math.MinInt, math.MaxInt}
	for range 20000 {
		text := func() string {
			b := make([]byte, m.Intn(6))
			m.Read(b)
			return string(b)
		}
		number := func() int { return numbers[m.Intn(len(numbers))] }
		l := fieldsOf(text(), text(), "a", text(), text(), "a")[:m.Intn(4)]
		q := api.Request{Method: text(), Target: text(), Minor: number(), Fields: l}
		p := api.Response{Status: number(), Reason: text(), Minor: number(), Fields: l}
		for range 2 {
			anyRequest(t, q)
			anyResponse(t, p)
		}
		checkCalls(t, l, text(), text())
		Local(number(), number(), m.Intn(2) == 0)
		Reason(number())
	}
}
