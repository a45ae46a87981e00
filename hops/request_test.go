package hops

import (
	"math"
	"slices"
	"strings"
	"testing"
	"turnstile/api"
	"turnstile/write"
)

// get is a GET of Minor 1.
func get(l []api.Field) api.Request {
	return api.Request{Method: "GET", Target: "/", Minor: 1, Fields: l}
}

// added is what the gateway adds to a request of Minor 1 from client 7.
func added(more ...string) []api.Field {
	return append(fieldsOf("X-Forwarded-For", "7", "Via", "1.1 turnstile"), fieldsOf(more...)...)
}

// The chapter's examples.
func TestExamples(t *testing.T) {
	checkStrip(t, fieldsOf("Connection", "close, X-A", "X-A", "1", "X-B", "2"), fieldsOf("X-B", "2"))
	q := api.Request{Method: "GET", Target: "/", Minor: 0, Fields: fieldsOf("Host", "a", "TE", "trailers")}
	checkRequest(t, q, "7", 0, fieldsOf("Host", "a", "X-Forwarded-For", "7", "Via", "1.0 turnstile"), nil)
}

// HP3: what goes on, and what is added, in its order.
func TestRequest(t *testing.T) {
	checkRequest(t, get(nil), "7", 0, added(), nil)
	checkRequest(t, get([]api.Field{}), "7", 0, added(), nil)
	checkRequest(t, get(fieldsOf("Host", "a", "X-A", "1", "x-a", "2", "X-A", "")), "7", 0, append(fieldsOf("Host", "a", "X-A", "1", "x-a", "2", "X-A", ""), added()...), nil)
	for _, minor := range []int{0, 1, 2, -1, math.MaxInt} {
		q := api.Request{Method: "OPTIONS", Target: "*", Minor: minor, Fields: fieldsOf("Host", "a")}
		via := "1.0 turnstile"
		if minor == 1 {
			via = "1.1 turnstile"
		}
		checkRequest(t, q, "x", 3, fieldsOf("Host", "a", "X-Forwarded-For", "x", "Via", via, "Content-Length", "3"), nil)
	}
}

// HP3: hop-by-hop fields, Expect and framing fields go no further.
func TestRequestLeavesOut(t *testing.T) {
	for _, name := range append(slices.Clone(hopNames), "Expect", "Content-Length") {
		for _, n := range []string{name, lower(name), upper(name), turned(name)} {
			checkRequest(t, get(fieldsOf("A", "1", n, "5", "B", "2", n, "5")), "7", 0, append(fieldsOf("A", "1", "B", "2"), added()...), nil)
			checkRequest(t, get(fieldsOf(n, "5")), "7", 5, added("Content-Length", "5"), nil)
			checkRequest(t, get(fieldsOf(n+"s", "5", "X-"+n, "6")), "7", 0, append(fieldsOf(n+"s", "5", "X-"+n, "6"), added()...), nil)
		}
	}
	q := get(fieldsOf("Connection", "Via, x-forwarded-for, Expect, content-length, Host, connection, X-A", "Host", "a", "Via", "1.1 b", "X-Forwarded-For", "5", "X-A", "1", "X-B", "2"))
	checkRequest(t, q, "7", 0, append(fieldsOf("Host", "a", "X-B", "2"), added()...), nil)
}

// HP3: clients and Vias that were there stand ahead of what is added.
func TestRequestFromAnotherGateway(t *testing.T) {
	q := get(fieldsOf("X-Forwarded-For", "5", "Via", "1.0 b", "Host", "a", "x-forwarded-for", "6", "via", "1.1 c"))
	checkRequest(t, q, "7", 0, fieldsOf("X-Forwarded-For", "5, 7", "Via", "1.0 b", "Host", "a", "via", "1.1 c", "Via", "1.1 turnstile"), nil)
	q = get(fieldsOf("x-forwarded-for", "", "Host", "a", "X-Forwarded-For", "6"))
	checkRequest(t, q, "", 0, fieldsOf("X-Forwarded-For", "", "Host", "a", "Via", "1.1 turnstile"), nil)
}

// HP3: a length is told where it is above 0, and of POST, PUT and PATCH also where it is 0.
func TestRequestLength(t *testing.T) {
	for _, method := range []string{"POST", "PUT", "PATCH", "GET", "HEAD", "DELETE", "OPTIONS", "post", "Post", "put", "patch", "POSTS", "POS", "XPUT", "PUT ", "", "a b"} {
		for _, target := range []string{"/", "*", "", "a b"} {
			tells := slices.Contains([]string{"POST", "PUT", "PATCH"}, method)
			q := api.Request{Method: method, Target: target, Minor: 1, Fields: fieldsOf("content-length", "5")}
			checkRequest(t, q, "7", -1, added(), nil)
			checkRequest(t, q, "7", math.MinInt, added(), nil)
			if tells {
				checkRequest(t, q, "7", 0, added("Content-Length", "0"), nil)
			} else {
				checkRequest(t, q, "7", 0, added(), nil)
			}
			checkRequest(t, q, "7", 1, added("Content-Length", "1"), nil)
			checkRequest(t, q, "7", maxLength+1, added("Content-Length", "1099511627777"), nil)
			checkRequest(t, q, "7", math.MaxInt, added("Content-Length", "9223372036854775807"), nil)
		}
	}
}

// HP3: at most MaxFields fields go on; those that do not are not counted.
func TestRequestOfManyFields(t *testing.T) {
	dropped := append(some(100, "TE"), fieldsOf("Connection", "X-A", "X-A", "1", "Expect", "x", "Content-Length", "1", "Transfer-Encoding", "chunked")...)
	for _, ahead := range [][]api.Field{nil, dropped} {
		checkRequest(t, get(append(slices.Clone(ahead), some(62, "X")...)), "7", 0, append(some(62, "X"), added()...), nil)
		checkRequest(t, get(append(slices.Clone(ahead), some(63, "X")...)), "7", 0, nil, api.ErrField)
		checkRequest(t, get(append(slices.Clone(ahead), some(61, "X")...)), "7", 1, append(some(61, "X"), added("Content-Length", "1")...), nil)
		checkRequest(t, get(append(slices.Clone(ahead), some(62, "X")...)), "7", 1, nil, api.ErrField)
		checkRequest(t, get(append(slices.Clone(ahead), some(64, "X")...)), "7", 0, nil, api.ErrField)
		checkRequest(t, get(append(slices.Clone(ahead), some(1000, "X")...)), "7", 0, nil, api.ErrField)
	}
	// A client that stands there already takes no more room.
	checkRequest(t, get(append(fieldsOf("x-forwarded-for", "5"), some(62, "X")...)), "7", 0, slices.Concat(fieldsOf("X-Forwarded-For", "5, 7"), some(62, "X"), fieldsOf("Via", "1.1 turnstile")), nil)
	checkRequest(t, get(append(fieldsOf("x-forwarded-for", "5"), some(63, "X")...)), "7", 0, nil, api.ErrField)
	checkRequest(t, get(append(some(10, "x-forwarded-for"), some(62, "X")...)), "7", 0, slices.Concat(fieldsOf("X-Forwarded-For", "1, 7"), some(62, "X"), fieldsOf("Via", "1.1 turnstile")), nil)
}

// requestRoom is how many bytes a head of a GET has room for behind what the gateway adds to it, but for a field's name and the bytes around its value.
func requestRoom(t *testing.T, name string) int {
	t.Helper()
	q := get(append(fieldsOf(name, ""), added()...))
	b, err := write.Request(q)
	if err != nil {
		t.Fatal(err)
	}
	return maxHead - len(b)
}

// HP3: a head just as great as may be written, and one byte more.
func TestRequestOfGreatHead(t *testing.T) {
	n := requestRoom(t, "X")
	least, most := strings.Repeat("x", n), strings.Repeat("x", n+1)
	checkRequest(t, get(fieldsOf("X", least)), "7", 0, append(fieldsOf("X", least), added()...), nil)
	checkRequest(t, get(fieldsOf("X", most)), "7", 0, nil, api.ErrSize)
	checkRequest(t, get(fieldsOf("X", least)), "77", 0, nil, api.ErrSize)
	checkRequest(t, get(fieldsOf("X", least)), "7", 1, nil, api.ErrSize)
	checkRequest(t, get(fieldsOf("TE", most+most, "X", least, "Connection", most)), "7", 0, append(fieldsOf("X", least), added()...), nil)
	q := get(fieldsOf("X", least))
	q.Target = "/a"
	checkRequest(t, q, "7", 0, nil, api.ErrSize)
	q = get(nil)
	q.Target = "/" + strings.Repeat("x", maxHead)
	checkRequest(t, q, "7", 0, nil, api.ErrSize)
	checkRequest(t, get(nil), strings.Repeat("7", maxHead), 0, nil, api.ErrSize)
}

// HP3: too many fields are told ahead of a head that is too large; what can't be written at all is told by neither.
func TestRequestErrorsInOrder(t *testing.T) {
	great := strings.Repeat("x", maxHead)
	checkRequest(t, get(append(some(62, "X"), fieldsOf("Y", great)...)), "7", 0, nil, api.ErrField)
	checkRequest(t, get(append(some(61, "X"), fieldsOf("Y", great)...)), "7", 0, nil, api.ErrSize)
	l := fieldsOf("Y", great, "a b", "1")
	checkRequest(t, get(l), "7", 0, append(slices.Clone(l), added()...), nil)
	l = fieldsOf("Y", great+" ")
	checkRequest(t, get(l), "7", 0, append(slices.Clone(l), added()...), nil)
	q := api.Request{Method: "G T", Target: "/", Minor: 1, Fields: fieldsOf("Y", great)}
	checkRequest(t, q, "7", 0, append(fieldsOf("Y", great), added()...), nil)
	q = api.Request{Method: "GET", Target: great + " ", Minor: 1}
	checkRequest(t, q, "7", 0, added(), nil)
	q = api.Request{Minor: 9}
	checkRequest(t, q, "\r\n", 0, fieldsOf("X-Forwarded-For", "\r\n", "Via", "1.0 turnstile"), nil)
	q = api.Request{Method: "", Target: great, Minor: 1, Fields: some(63, "a b")}
	checkRequest(t, q, great, 0, nil, api.ErrField)
}
