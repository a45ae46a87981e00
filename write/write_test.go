package write

import (
	"math"
	"slices"
	"strconv"
	"strings"
	"testing"
	"turnstile/api"
)

// WR1: heads as the chapter tells them, its example among them.
func TestWrittenHeads(t *testing.T) {
	checkRequest(t, api.Request{Method: "GET", Target: "/", Minor: 1, Fields: fieldsOf("Host", "a")}, "GET / HTTP/1.1\r\nHost: a\r\n\r\n", nil)
	checkRequest(t, api.Request{Method: "m", Target: "*"}, "m * HTTP/1.0\r\n\r\n", nil)
	checkRequest(t, api.Request{Method: "OPTIONS", Target: "http://h:80/%20?a=b", Minor: 0, Fields: fieldsOf("x", "", "HOST", "b c", "x", "\xff\t\x80", "~", ":")}, "OPTIONS http://h:80/%20?a=b HTTP/1.0\r\nx: \r\nHOST: b c\r\nx: \xff\t\x80\r\n~: :\r\n\r\n", nil)
	checkResponse(t, api.Response{Status: 200, Reason: "OK", Minor: 1, Fields: fieldsOf("Content-Length", "0")}, "HTTP/1.1 200 OK\r\nContent-Length: 0\r\n\r\n", nil)
	checkResponse(t, api.Response{Status: 204}, "HTTP/1.0 204 \r\n\r\n", nil)
	checkResponse(t, api.Response{Status: 999, Reason: " a\tb  ", Minor: 1, Fields: fieldsOf("b", "1", "a", "2", "b", "1")}, "HTTP/1.1 999  a\tb  \r\nb: 1\r\na: 2\r\nb: 1\r\n\r\n", nil)
	for _, none := range [][]api.Field{nil, {}, fieldsOf("a", "b")[:0]} {
		checkRequest(t, api.Request{Method: "GET", Target: "/", Minor: 1, Fields: none}, "GET / HTTP/1.1\r\n\r\n", nil)
		checkResponse(t, api.Response{Status: 404, Reason: "Not Found", Minor: 1, Fields: none}, "HTTP/1.1 404 Not Found\r\n\r\n", nil)
	}
}

// WR1: a method, a target and a reason that are none, or that are at their edge.
func TestFirstLines(t *testing.T) {
	for _, method := range []string{"", " ", "G T", " GET", "GET ", "GET\t", "G:T", "GET/", "G\"T", "(", "é", "\x7f", "\x00", "GET\r\n", "A B HTTP/1.1\r\nx: y\r\n\r\nGET"} {
		checkRequest(t, api.Request{Method: method, Target: "/", Minor: 1}, "", api.ErrLine)
	}
	for _, target := range []string{"", " ", "/ ", " /", "/a b", "\t", "/\x1f", "/\x7f", "\x80", "/é", "/\xff", "/\x00", "/\r\n", "/ HTTP/1.1\r\nx: y\r\n\r\nGET /"} {
		checkRequest(t, api.Request{Method: "GET", Target: target, Minor: 1}, "", api.ErrLine)
	}
	for _, target := range []string{"!", "~", "not-a-target", "//", "/\"<>\\^`{|}", "/%", "a:80", "*"} {
		checkRequest(t, api.Request{Method: "GET", Target: target, Minor: 1}, "GET "+target+" HTTP/1.1\r\n\r\n", nil)
	}
	for _, reason := range []string{"", " ", "\t", " \t ", "OK", " OK", "OK\t", "a  b\tc", "\x80", "\xff", "é", "~!", ":"} {
		checkResponse(t, api.Response{Status: 200, Reason: reason, Minor: 1}, "HTTP/1.1 200 "+reason+"\r\n\r\n", nil)
	}
	for _, reason := range []string{"\r", "\n", "\r\n", "OK\r\n", "a\r\nb: c", "\x00", "\x1f", "\x7f", "O\x08K", "\x0b", "\xff\x7f"} {
		checkResponse(t, api.Response{Status: 200, Reason: reason, Minor: 1}, "", api.ErrLine)
	}
}

// WR1: each byte, alone and at each place, of all parts that are texts.
func TestEveryByte(t *testing.T) {
	for c := range 256 {
		for _, s := range []string{one(c), one(c) + "a", "a" + one(c), "a" + one(c) + "b", one(c) + one(c)} {
			anyRequest(t, api.Request{Method: s, Target: "/", Minor: 1})
			anyRequest(t, api.Request{Method: "GET", Target: s})
			anyResponse(t, api.Response{Status: 200, Reason: s})
			for _, l := range [][]api.Field{fieldsOf(s, "v"), fieldsOf("n", s), fieldsOf("a", "b", s, ""), fieldsOf("a", "", "b", s, "c", "d")} {
				anyRequest(t, api.Request{Method: "GET", Target: "/", Fields: l})
				anyResponse(t, api.Response{Status: 200, Minor: 1, Fields: l})
			}
		}
	}
}

// WR1: of each class just these bytes go.
func TestHowManyBytesGo(t *testing.T) {
	var methods, targets, reasons, names, values int
	count := func(n *int, err error) {
		if err == nil {
			*n++
		}
	}
	for c := range 256 {
		_, err := Request(api.Request{Method: one(c), Target: "/"})
		count(&methods, err)
		_, err = Request(api.Request{Method: "GET", Target: one(c)})
		count(&targets, err)
		_, err = Response(api.Response{Status: 200, Reason: one(c)})
		count(&reasons, err)
		_, err = Response(api.Response{Status: 200, Fields: fieldsOf(one(c), "")})
		count(&names, err)
		_, err = Response(api.Response{Status: 200, Fields: fieldsOf("a", one(c))})
		count(&values, err)
	}
	if methods != 77 || targets != 94 || reasons != 224 || names != 77 || values != 222 {
		t.Errorf("%d, %d, %d, %d, %d bytes go", methods, targets, reasons, names, values)
	}
}

// WR1: a Minor is 0 or 1.
func TestMinors(t *testing.T) {
	for _, minor := range []int{0, 1} {
		digit := strconv.Itoa(minor)
		checkRequest(t, api.Request{Method: "GET", Target: "/", Minor: minor}, "GET / HTTP/1."+digit+"\r\n\r\n", nil)
		checkResponse(t, api.Response{Status: 200, Minor: minor}, "HTTP/1."+digit+" 200 \r\n\r\n", nil)
	}
	for _, minor := range []int{-1, 2, 3, 9, 10, 11, 256, 257, 1 << 32, 1<<32 + 1, math.MinInt, math.MinInt + 1, math.MaxInt} {
		checkRequest(t, api.Request{Method: "GET", Target: "/", Minor: minor}, "", api.ErrLine)
		checkResponse(t, api.Response{Status: 200, Minor: minor}, "", api.ErrLine)
	}
}

// WR1: a Status is from 100 to 999, and stands in its three digits.
func TestStatuses(t *testing.T) {
	for status := -1100; status < 11100; status++ {
		if status >= 100 && status <= 999 {
			checkResponse(t, api.Response{Status: status, Reason: "x", Minor: 1}, "HTTP/1.1 "+strconv.Itoa(status)+" x\r\n\r\n", nil)
		} else {
			checkResponse(t, api.Response{Status: status, Reason: "x", Minor: 1}, "", api.ErrLine)
		}
	}
	for _, status := range []int{math.MinInt, math.MaxInt, 1<<32 + 200, 1<<16 + 200, -1 << 32} {
		checkResponse(t, api.Response{Status: status}, "", api.ErrLine)
	}
}

// checkFields writes fields in both kinds of heads.
func checkFields(t *testing.T, l []api.Field, want string, err error) {
	t.Helper()
	request, response := "GET / HTTP/1.1\r\n"+want+"\r\n", "HTTP/1.0 200 OK\r\n"+want+"\r\n"
	if err != nil {
		request, response = "", ""
	}
	checkRequest(t, api.Request{Method: "GET", Target: "/", Minor: 1, Fields: l}, request, err)
	checkResponse(t, api.Response{Status: 200, Reason: "OK", Fields: l}, response, err)
}

// WR1: names and values of fields, whichever field they are of.
func TestFieldLines(t *testing.T) {
	for _, name := range []string{"", " ", "a b", " a", "a ", "a\t", ":", "a:", ":a", "a:b", "\r\n", "a\r\nb", "é", "\xff", "\x00", "(", "a/b", "\"a\"", "a=b", "@", "[", "{"} {
		for at := range 3 {
			l := fieldsOf("a", "1", "b", "2", "c", "3")
			l[at].Name = name
			checkFields(t, l, "", api.ErrField)
		}
	}
	for _, value := range []string{" ", "\t", " \t", " a", "\ta", "a ", "a\t", " a ", "a b ", "\x80 ", " \xff", "\r", "\n", "\r\n", "a\rb", "a\nb", "a\r\n b", "a\r\n\r\n", "\x00", "a\x00b", "\x7f", "a\x7fb", "\x1f", "\x0b"} {
		for at := range 3 {
			l := fieldsOf("a", "1", "b", "2", "c", "3")
			l[at].Value = value
			checkFields(t, l, "", api.ErrField)
		}
	}
	for _, value := range []string{"", "a", "a b", "a\tb", "a \t b", "\x80", "\xff", "\xa0", "a\x80", "é", ":", ": a", ",,", "\"a\"", "!", "~"} {
		checkFields(t, fieldsOf("x", value), "x: "+value+"\r\n", nil)
		checkFields(t, fieldsOf("x", value, "Y", value), "x: "+value+"\r\nY: "+value+"\r\n", nil)
	}
}

// WR1: MaxFields fields, and no more.
func TestHowManyFields(t *testing.T) {
	for n := range 70 {
		l := slices.Repeat(fieldsOf("a", "b"), n)
		if n <= 64 {
			checkFields(t, l, strings.Repeat("a: b\r\n", n), nil)
		} else {
			checkFields(t, l, "", api.ErrField)
		}
	}
	for _, n := range []int{128, 256, 320, 20000} {
		checkFields(t, slices.Repeat(fieldsOf("a", "b"), n), "", api.ErrField)
	}
}

// WR1: of more faults than one the line's is told ahead of the fields', and that ahead of the size.
func TestWhichFaultIsFirst(t *testing.T) {
	long := strings.Repeat("x", 70000)
	wrong := [][]api.Field{fieldsOf("", "v"), fieldsOf("n", " "), fieldsOf("n", "v", "n", "\n"), fieldsOf("n", long, "a b", ""), fieldsOf("n", long+" "), fieldsOf(long+":", ""), slices.Repeat(fieldsOf("a", "b"), 65), slices.Repeat(fieldsOf("a", long[:2000]), 65)}
	large := fieldsOf("n", long)
	for _, q := range []api.Request{{Method: "", Target: "/"}, {Method: "GET", Target: ""}, {Method: "GET", Target: "/", Minor: 2}, {Method: long + " ", Target: "/"}, {Method: "GET", Target: long + " "}, {Method: "", Target: "", Minor: -1}} {
		for _, l := range append(wrong, large) {
			q.Fields = l
			checkRequest(t, q, "", api.ErrLine)
		}
	}
	for _, p := range []api.Response{{Status: 99}, {Status: 1000}, {Status: 200, Reason: "\n"}, {Status: 200, Minor: -1}, {Status: 200, Reason: long + "\x7f"}, {Reason: "\r"}} {
		for _, l := range append(wrong, large) {
			p.Fields = l
			checkResponse(t, p, "", api.ErrLine)
		}
	}
	for _, l := range wrong {
		checkRequest(t, api.Request{Method: "GET", Target: "/", Fields: l}, "", api.ErrField)
		checkRequest(t, api.Request{Method: long, Target: "/", Fields: l}, "", api.ErrField)
		checkRequest(t, api.Request{Method: "GET", Target: long, Fields: l}, "", api.ErrField)
		checkResponse(t, api.Response{Status: 200, Fields: l}, "", api.ErrField)
		checkResponse(t, api.Response{Status: 200, Reason: long, Fields: l}, "", api.ErrField)
	}
	checkFields(t, large, "", api.ErrSize)
}

// sized is heads of both kinds that have so many bytes, whichever part is the long one.
func sized(n int) ([]api.Request, []api.Response) {
	x := func(least int) string { return strings.Repeat("x", n-least) }
	many := slices.Repeat(fieldsOf("a", strings.Repeat("v", 1000)), 63)
	queries := []api.Request{
		{Method: x(len(" / HTTP/1.1\r\n\r\n")), Target: "/", Minor: 1},
		{Method: "GET", Target: x(len("GET  HTTP/1.0\r\n\r\n"))},
		{Method: "GET", Target: "/", Fields: fieldsOf(x(len("GET / HTTP/1.0\r\n: \r\n\r\n")), "")},
		{Method: "GET", Target: "/", Fields: fieldsOf("a", x(len("GET / HTTP/1.0\r\na: \r\n\r\n")))},
		{Method: "GET", Target: "/", Fields: fieldsOf("a", "b", "c", x(len("GET / HTTP/1.0\r\na: b\r\nc: \r\nd: \r\n\r\n")), "d", "")},
		{Method: "GET", Target: "/", Fields: append(many, api.Field{Name: "b", Value: x(len("GET / HTTP/1.0\r\nb: \r\n\r\n") + 63*1005)})},
	}
	answers := []api.Response{
		{Status: 200, Reason: x(len("HTTP/1.1 200 \r\n\r\n")), Minor: 1},
		{Status: 999, Fields: fieldsOf("a", x(len("HTTP/1.0 999 \r\na: \r\n\r\n")))},
		{Status: 200, Reason: "OK", Fields: fieldsOf(x(len("HTTP/1.0 200 OK\r\n: b\r\nc: d\r\n\r\n")), "b", "c", "d")},
		{Status: 200, Fields: append(many, api.Field{Name: "b", Value: x(len("HTTP/1.0 200 \r\nb: \r\n\r\n") + 63*1005)})},
	}
	return queries, answers
}

// WR1: MaxHead bytes, and no more.
func TestSizes(t *testing.T) {
	for n := 65530; n < 65543; n++ {
		queries, answers := sized(n)
		var wantErr error
		if n > 65536 {
			wantErr = api.ErrSize
		}
		for i, q := range queries {
			if s, err := anyRequest(t, q); err != wantErr || err == nil && len(s) != n {
				t.Errorf("request %d of %d bytes: %d, %v", i, n, len(s), err)
			}
		}
		for i, p := range answers {
			if s, err := anyResponse(t, p); err != wantErr || err == nil && len(s) != n {
				t.Errorf("response %d of %d bytes: %d, %v", i, n, len(s), err)
			}
		}
	}
	for _, n := range []int{70000, 1 << 17, 1<<17 + 30, 1 << 20} {
		queries, answers := sized(n)
		for _, q := range queries {
			checkRequest(t, q, "", api.ErrSize)
		}
		for _, p := range answers {
			checkResponse(t, p, "", api.ErrSize)
		}
	}
}

// WR1: any heads, held against the patterns.
func TestAnyHeads(t *testing.T) {
	m := newMaker(1)
	requests, responses := map[error]int{}, map[error]int{}
	for range 40000 {
		_, err := anyRequest(t, m.request())
		requests[err]++
		_, err = anyResponse(t, m.response())
		responses[err]++
		if t.Failed() {
			t.FailNow()
		}
	}
	for _, count := range []map[error]int{requests, responses} {
		if count[nil] < 10000 || count[api.ErrLine] < 4000 || count[api.ErrField] < 4000 || len(count) != 3 {
			t.Errorf("errors %v", count)
		}
	}
}
