package hops

import (
	"math"
	"slices"
	"strings"
	"testing"
	"turnstile/api"
	"turnstile/write"
)

// ok is a response of Minor 1.
func ok(status int, l []api.Field) api.Response {
	return api.Response{Status: status, Reason: "Why", Minor: 1, Fields: l}
}

// via is what the gateway adds to each response of Minor 1, and more.
func via(more ...string) []api.Field {
	return append(fieldsOf("Via", "1.1 turnstile"), fieldsOf(more...)...)
}

// HP4: of each status, framing and minor, with last and without.
func TestResponse(t *testing.T) {
	for _, status := range []int{100, 101, 199, 200, 203, 204, 205, 299, 304, 404, 599, 999, 99, 0, -1, 1000, 1204, -204, -100, math.MaxInt, math.MinInt} {
		bare := status >= 100 && status < 200 || status == 204
		for _, f := range []api.Frame{none, closing, length(0), length(1), length(maxLength), length(-1), chunked, {Kind: 4, Length: 1}, {Kind: -1, Length: 1}} {
			tells := []string{}
			switch {
			case bare:
			case f.Kind == 1:
				tells = []string{"Content-Length", map[int]string{-1: "-1", 0: "0", 1: "1", maxLength: "1099511627776"}[f.Length]}
			case f.Kind == 2:
				tells = []string{"Transfer-Encoding", "chunked"}
			}
			for _, minor := range []int{0, 1, 2, -1} {
				p := ok(status, fieldsOf("A", "1", "TE", "x", "Content-Length", "a", "B", "2"))
				want := append(fieldsOf("A", "1", "B", "2", "Via", "1.1 turnstile"), fieldsOf(tells...)...)
				checkResponse(t, p, f, minor, false, want, nil)
				checkResponse(t, p, f, minor, true, append(want, fieldsOf("Connection", "close")...), nil)
			}
		}
	}
}

// HP4: Via tells the version in which the response came, whatever the one is in which it goes on.
func TestResponseMinor(t *testing.T) {
	for _, came := range []int{0, 1, 2, -1, math.MaxInt} {
		value := "1.0 turnstile"
		if came == 1 {
			value = "1.1 turnstile"
		}
		for _, minor := range []int{0, 1, 2, math.MinInt} {
			p := api.Response{Status: 200, Reason: "", Minor: came, Fields: fieldsOf("Via", "1.1 b")}
			checkResponse(t, p, length(3), minor, false, fieldsOf("Via", "1.1 b", "Via", value, "Content-Length", "3"), nil)
		}
	}
}

// HP4: hop-by-hop fields and framing fields go no further; Expect and X-Forwarded-For do, of a response.
func TestResponseLeavesOut(t *testing.T) {
	for _, name := range append(slices.Clone(hopNames), "Content-Length") {
		for _, n := range []string{name, lower(name), upper(name), turned(name)} {
			checkResponse(t, ok(200, fieldsOf("A", "1", n, "5", "B", "2", n, "5")), closing, 1, false, append(fieldsOf("A", "1", "B", "2"), via()...), nil)
			checkResponse(t, ok(200, fieldsOf(n, "5", "A", "1", n, "6")), chunked, 0, true, append(fieldsOf("A", "1"), via("Transfer-Encoding", "chunked", "Connection", "close")...), nil)
			checkResponse(t, ok(204, fieldsOf(n, "5", "A", "1")), length(5), 0, false, append(fieldsOf("A", "1"), via()...), nil)
		}
	}
	l := fieldsOf("Expect", "1", "X-Forwarded-For", "2", "Host", "3")
	checkResponse(t, ok(200, l), closing, 1, false, append(slices.Clone(l), via()...), nil)
	p := ok(200, fieldsOf("Connection", "Via, Host, X-A, connection, Content-Length", "Via", "1.1 b", "Host", "c", "X-A", "1", "X-B", "2", "Content-Length", "5"))
	checkResponse(t, p, length(5), 1, false, append(fieldsOf("Host", "c", "X-B", "2"), via("Content-Length", "5")...), nil)
	checkResponse(t, ok(200, nil), none, 1, false, via(), nil)
	checkResponse(t, ok(200, []api.Field{}), none, 1, true, via("Connection", "close"), nil)
}

// HP4: of a framing of nothing the one length that was there stays, as it was, with its name.
func TestResponseKeepsLength(t *testing.T) {
	digits := "123456789012345"
	for _, status := range []int{200, 304, 404, 205, 99, 600} {
		for _, name := range []string{"Content-Length", "content-length", "CONTENT-LENGTH", "cONTENT-lENGTH"} {
			for i := range 15 {
				checkResponse(t, ok(status, fieldsOf(name, digits[i:], "A", "1")), none, 1, false, append(fieldsOf("A", "1"), via(name, digits[i:])...), nil)
				checkResponse(t, ok(status, fieldsOf("A", "1", name, strings.Repeat("0", i+1))), none, 0, true, append(fieldsOf("A", "1"), via(name, strings.Repeat("0", i+1), "Connection", "close")...), nil)
			}
			checkResponse(t, ok(status, fieldsOf(name, "5")), api.Frame{Kind: 0, Length: 9}, 1, false, via(name, "5"), nil)
			checkResponse(t, ok(status, fieldsOf(name, "5", "Connection", "x, content-Length")), none, 1, false, via(), nil)
			checkResponse(t, ok(status, fieldsOf(name, "5", "Transfer-Encoding", "chunked")), none, 1, false, via(name, "5"), nil)
			for _, f := range []api.Frame{closing, {Kind: 4}, {Kind: -1}} {
				checkResponse(t, ok(status, fieldsOf(name, "5")), f, 1, false, via(), nil)
			}
			checkResponse(t, ok(status, fieldsOf(name, "5")), length(6), 1, false, via("Content-Length", "6"), nil)
			checkResponse(t, ok(status, fieldsOf(name, "5")), chunked, 1, false, via("Transfer-Encoding", "chunked"), nil)
			for _, bare := range []int{100, 150, 199, 204} {
				checkResponse(t, ok(bare, fieldsOf(name, "5")), none, 1, false, via(), nil)
			}
		}
	}
}

// HP4: what is not one length, of 1 to 15 digits, does not stay.
func TestResponseLeavesOutLengths(t *testing.T) {
	for _, value := range []string{"", "1234567890123456", strings.Repeat("0", 16), strings.Repeat("1", 1000), "+1", "-1", " 1", "1 ", "\t1", "1\t", "1 1", "1a", "a", "0x1", "1,1", "5, 5", "1.", "1e3", "1\n", "１", "1\x00", "/", ":"} {
		checkResponse(t, ok(304, fieldsOf("A", "1", "Content-Length", value, "B", "2")), none, 1, false, append(fieldsOf("A", "1", "B", "2"), via()...), nil)
		checkResponse(t, ok(304, fieldsOf("Content-Length", value, "content-length", "5")), none, 1, false, via(), nil)
		checkResponse(t, ok(304, fieldsOf("content-length", "5", "Content-Length", value)), none, 1, false, via(), nil)
	}
	checkResponse(t, ok(200, fieldsOf("Content-Length", "5", "Content-Length", "5")), none, 1, false, via(), nil)
	checkResponse(t, ok(200, fieldsOf("Content-Length", "5", "CONTENT-LENGTH", "6", "content-length", "5")), none, 1, false, via(), nil)
	checkResponse(t, ok(200, fieldsOf("Content-Lengths", "5")), none, 1, false, fieldsOf("Content-Lengths", "5", "Via", "1.1 turnstile"), nil)
	for c := range 256 {
		value := string([]byte{byte(c)})
		var want []api.Field
		if c >= '0' && c <= '9' {
			want = fieldsOf("Content-Length", value)
		}
		checkResponse(t, ok(304, fieldsOf("Content-Length", value)), none, 1, false, append(via(), want...), nil)
	}
}

// HP4: at most MaxFields fields go on; those that do not are not counted.
func TestResponseOfManyFields(t *testing.T) {
	dropped := append(some(100, "TE"), fieldsOf("Connection", "X-A", "X-A", "1", "Content-Length", "1", "Content-Length", "1", "Transfer-Encoding", "chunked")...)
	for _, ahead := range [][]api.Field{nil, dropped} {
		room := map[bool]int{false: 63, true: 62}
		for last, n := range room {
			end := []string{}
			if last {
				end = []string{"Connection", "close"}
			}
			checkResponse(t, ok(200, append(slices.Clone(ahead), some(n, "X")...)), closing, 1, last, append(some(n, "X"), via(end...)...), nil)
			checkResponse(t, ok(200, append(slices.Clone(ahead), some(n+1, "X")...)), closing, 1, last, nil, api.ErrField)
			checkResponse(t, ok(200, append(slices.Clone(ahead), some(n-1, "X")...)), chunked, 1, last, append(some(n-1, "X"), via(append([]string{"Transfer-Encoding", "chunked"}, end...)...)...), nil)
			checkResponse(t, ok(200, append(slices.Clone(ahead), some(n, "X")...)), length(5), 1, last, nil, api.ErrField)
			checkResponse(t, ok(204, append(slices.Clone(ahead), some(n, "X")...)), length(5), 1, last, append(some(n, "X"), via(end...)...), nil)
			checkResponse(t, ok(200, append(fieldsOf("Content-Length", "5"), some(n-1, "X")...)), none, 1, last, append(some(n-1, "X"), via(append([]string{"Content-Length", "5"}, end...)...)...), nil)
			checkResponse(t, ok(200, append(fieldsOf("Content-Length", "5"), some(n, "X")...)), none, 1, last, nil, api.ErrField)
			checkResponse(t, ok(200, append(fieldsOf("Content-Length", "+5"), some(n, "X")...)), none, 1, last, append(some(n, "X"), via(end...)...), nil)
			checkResponse(t, ok(200, some(2000, "X")), closing, 1, last, nil, api.ErrField)
		}
	}
}

// HP4: a head just as great as may be written, and one byte more.
func TestResponseOfGreatHead(t *testing.T) {
	for _, end := range [][]string{nil, {"Connection", "close"}} {
		b, err := write.Response(ok(200, append(fieldsOf("X", ""), via(end...)...)))
		if err != nil {
			t.Fatal(err)
		}
		n := maxHead - len(b)
		last := end != nil
		least, most := strings.Repeat("x", n), strings.Repeat("x", n+1)
		checkResponse(t, ok(200, fieldsOf("X", least)), closing, 1, last, append(fieldsOf("X", least), via(end...)...), nil)
		checkResponse(t, ok(200, fieldsOf("X", most)), closing, 1, last, nil, api.ErrSize)
		checkResponse(t, ok(200, fieldsOf("X", least)), length(0), 1, last, nil, api.ErrSize)
		checkResponse(t, ok(200, fieldsOf("X", least)), chunked, 1, last, nil, api.ErrSize)
		checkResponse(t, ok(204, fieldsOf("X", least)), chunked, 1, last, append(fieldsOf("X", least), via(end...)...), nil)
		checkResponse(t, ok(200, fieldsOf("Trailer", most+most, "X", least, "Connection", most)), closing, 0, last, append(fieldsOf("X", least), via(end...)...), nil)
		checkResponse(t, ok(200, fieldsOf("Content-Length", "5", "X", least)), none, 1, last, nil, api.ErrSize)
		p := ok(200, fieldsOf("X", least))
		p.Reason += "x"
		checkResponse(t, p, closing, 1, last, nil, api.ErrSize)
	}
}

// HP4: too many fields are told ahead of a head that is too large; what can't be written at all is told by neither.
func TestResponseErrorsInOrder(t *testing.T) {
	great := strings.Repeat("x", maxHead)
	checkResponse(t, ok(200, append(some(63, "X"), fieldsOf("Y", great)...)), closing, 1, false, nil, api.ErrField)
	checkResponse(t, ok(200, append(some(62, "X"), fieldsOf("Y", great)...)), closing, 1, false, nil, api.ErrSize)
	checkResponse(t, ok(200, append(some(62, "X"), fieldsOf("Y", great)...)), closing, 1, true, nil, api.ErrField)
	for _, l := range [][]api.Field{fieldsOf("Y", great, "a b", "1"), fieldsOf("Y", great+" "), fieldsOf("", great)} {
		checkResponse(t, ok(200, l), closing, 1, false, append(slices.Clone(l), via()...), nil)
	}
	l := fieldsOf("Y", great)
	for _, p := range []api.Response{ok(99, l), ok(1000, l), {Status: 200, Reason: "\n", Minor: 1, Fields: l}} {
		checkResponse(t, p, closing, 1, false, append(slices.Clone(l), via()...), nil)
	}
	checkResponse(t, ok(200, l), closing, 2, false, append(slices.Clone(l), via()...), nil)
	checkResponse(t, ok(200, l), closing, -1, false, append(slices.Clone(l), via()...), nil)
	checkResponse(t, ok(-1, some(64, "a b")), closing, 7, false, nil, api.ErrField)
}
