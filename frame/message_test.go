package frame

import (
	"math"
	"slices"
	"testing"
	"turnstile/api"
)

// request is a request with those fields.
func request(minor int, l []api.Field) api.Request {
	return api.Request{Method: "POST", Target: "/", Minor: minor, Fields: l}
}

// response is a response with those fields.
func response(status, minor int, l []api.Field) api.Response {
	return api.Response{Status: status, Reason: "OK", Minor: minor, Fields: l}
}

// wrongFields is fields of which no framing can be told, whatever the minor.
func wrongFields() [][]api.Field {
	return [][]api.Field{
		lengths(""), lengths(","), lengths("x"), lengths("+5"), lengths("5,6"), lengths("5", "6"), lengths("5", ""), lengths("1099511627777"),
		codings(""), codings(" , "), codings("gzip"), codings("gzip, chunked"), codings("chunked, gzip"), codings("chunked", "chunked"),
		fieldsOf("Content-Length", "5", "Transfer-Encoding", "chunked"),
		fieldsOf("Transfer-Encoding", "chunked", "Content-Length", "5"),
		fieldsOf("transfer-encoding", "chunked", "a", "b", "CONTENT-LENGTH", "0"),
		fieldsOf("Content-Length", "0", "Transfer-Encoding", "chunked"),
		fieldsOf("Content-Length", "", "Transfer-Encoding", "chunked"),
		fieldsOf("Content-Length", "x", "Transfer-Encoding", "chunked"),
		fieldsOf("Content-Length", "5", "Transfer-Encoding", ""),
		fieldsOf("Content-Length", "5", "Transfer-Encoding", "gzip"),
		fieldsOf("Content-Length", "5,6", "Transfer-Encoding", "chunked,chunked"),
		fieldsOf("Host", "a", "Transfer-Encoding", "", "Content-Length", ""),
	}
}

// FR2: the framings of requests, a length 0 as against none, in both minors.
func TestRequest(t *testing.T) {
	for minor := range 2 {
		checkRequest(t, request(minor, nil), api.Frame{Kind: 0}, nil)
		checkRequest(t, request(minor, []api.Field{}), api.Frame{Kind: 0}, nil)
		checkRequest(t, request(minor, fieldsOf("Host", "a", "Connection", "close")), api.Frame{Kind: 0}, nil)
		checkRequest(t, request(minor, lengths("0")), api.Frame{Kind: 1, Length: 0}, nil)
		checkRequest(t, request(minor, lengths("5")), api.Frame{Kind: 1, Length: 5}, nil)
		checkRequest(t, request(minor, lengths("5, 05", "5")), api.Frame{Kind: 1, Length: 5}, nil)
		checkRequest(t, request(minor, fieldsOf("Host", "a", "content-length", "1099511627776")), api.Frame{Kind: 1, Length: greatest}, nil)
		for _, l := range wrongFields() {
			checkRequest(t, request(minor, l), api.Frame{}, api.ErrFrame)
		}
	}
	checkRequest(t, request(1, codings("chunked")), api.Frame{Kind: 2}, nil)
	checkRequest(t, request(1, codings("", " Chunked ")), api.Frame{Kind: 2}, nil)
	checkRequest(t, request(1, fieldsOf("Host", "a", "TRANSFER-ENCODING", "CHUNKED", "b", "c")), api.Frame{Kind: 2}, nil)
	checkRequest(t, request(0, codings("chunked")), api.Frame{}, api.ErrFrame)
	checkRequest(t, request(0, fieldsOf("a", "b", "transfer-encoding", "Chunked")), api.Frame{}, api.ErrFrame)
}

// FR2: neither the method nor the target tells of a body.
func TestRequestOfAnyMethod(t *testing.T) {
	for _, method := range []string{"", "GET", "HEAD", "POST", "TRACE", "CONNECT", "get", "a b", "\r\n"} {
		for _, target := range []string{"", "/", "*", "\x00"} {
			q := api.Request{Method: method, Target: target, Minor: 1}
			checkRequest(t, q, api.Frame{}, nil)
			q.Fields = lengths("9")
			checkRequest(t, q, api.Frame{Kind: 1, Length: 9}, nil)
			q.Fields = codings("chunked")
			checkRequest(t, q, api.Frame{Kind: 2}, nil)
			q.Fields = lengths("9", "8")
			checkRequest(t, q, api.Frame{}, api.ErrFrame)
		}
	}
}

// FR3: the framings of responses that may have a body.
func TestResponse(t *testing.T) {
	for _, method := range []string{"GET", "", "head", "Head", "HEAd", "HEAD ", " HEAD", "HEADER", "CONNECT", "POST"} {
		for _, status := range []int{0, 99, 200, 203, 205, 206, 301, 303, 305, 404, 500, 599, 600, 999, 1000, -1, -100, -204, -304} {
			for minor := range 2 {
				checkResponse(t, method, response(status, minor, nil), api.Frame{Kind: 3}, nil)
				checkResponse(t, method, response(status, minor, fieldsOf("Host", "5")), api.Frame{Kind: 3}, nil)
				checkResponse(t, method, response(status, minor, lengths("0")), api.Frame{Kind: 1}, nil)
				checkResponse(t, method, response(status, minor, lengths("5", "5")), api.Frame{Kind: 1, Length: 5}, nil)
				for _, l := range wrongFields() {
					checkResponse(t, method, response(status, minor, l), api.Frame{}, api.ErrFrame)
				}
			}
			checkResponse(t, method, response(status, 1, codings("chunked")), api.Frame{Kind: 2}, nil)
			checkResponse(t, method, response(status, 1, codings("CHUNKED,", "")), api.Frame{Kind: 2}, nil)
			checkResponse(t, method, response(status, 0, codings("chunked")), api.Frame{}, api.ErrFrame)
		}
	}
}

// FR3: a response without a body has none, whatever its fields tell.
func TestResponseWithoutBody(t *testing.T) {
	lists := append(wrongFields(), nil, lengths("9"), lengths("0"), codings("chunked"), fieldsOf("a", "b"))
	for _, l := range lists {
		for minor := range 2 {
			for _, status := range []int{0, 99, 100, 200, 204, 303, 304, 404, 599, 1000, -1} {
				checkResponse(t, "HEAD", response(status, minor, l), api.Frame{}, nil)
			}
			for _, method := range []string{"GET", "HEAD", "head", "", "POST"} {
				for _, status := range []int{100, 101, 150, 199, 204, 304} {
					checkResponse(t, method, response(status, minor, l), api.Frame{}, nil)
				}
			}
		}
	}
}

// FR3: every status, and some that are one but for bits that are too high.
func TestEveryStatus(t *testing.T) {
	statuses := []int{math.MinInt, math.MaxInt, 1<<32 + 204, 1<<32 + 100, 1<<16 + 304, 256 + 204, -1000}
	for status := -400; status <= 1100; status++ {
		statuses = append(statuses, status)
	}
	for _, status := range statuses {
		without := status >= 100 && status < 200 || slices.Contains([]int{204, 304}, status)
		for _, method := range []string{"GET", "head"} {
			if without {
				checkResponse(t, method, response(status, 1, lengths("9")), api.Frame{}, nil)
				checkResponse(t, method, response(status, 1, lengths("x")), api.Frame{}, nil)
				continue
			}
			checkResponse(t, method, response(status, 1, lengths("9")), api.Frame{Kind: 1, Length: 9}, nil)
			checkResponse(t, method, response(status, 1, lengths("x")), api.Frame{}, api.ErrFrame)
			checkResponse(t, method, response(status, 1, nil), api.Frame{Kind: 3}, nil)
		}
	}
}

// FR2, FR3: a coding is refused in Minor 0, and in no other.
func TestMinors(t *testing.T) {
	for _, minor := range []int{1, 2, 9, -1, 1 << 32, math.MinInt, math.MaxInt} {
		checkRequest(t, request(minor, codings("chunked")), api.Frame{Kind: 2}, nil)
		checkResponse(t, "GET", response(200, minor, codings("chunked")), api.Frame{Kind: 2}, nil)
		checkRequest(t, request(minor, lengths("5")), api.Frame{Kind: 1, Length: 5}, nil)
		checkResponse(t, "GET", response(200, minor, nil), api.Frame{Kind: 3}, nil)
	}
}

// FR1 to FR4: every list of up to four fields out of a few, in their orders.
func TestEveryShortList(t *testing.T) {
	few := fieldsOf("Content-Length", "5", "content-length", "05,5", "Content-Length", "6", "Content-Length", "", "Transfer-Encoding", "chunked", "TRANSFER-ENCODING", "", "Transfer-Encoding", "gzip", "a", "5")
	lists := [][]api.Field{nil}
	for range 4 {
		var longer [][]api.Field
		for _, l := range lists {
			for _, f := range few {
				longer = append(longer, append(slices.Clone(l), f))
			}
		}
		for _, l := range longer {
			checkAll(t, l)
		}
		lists = longer
	}
}

// FR1 to FR4: any fields.
func TestAnyFields(t *testing.T) {
	m := newMaker(1)
	for range 30000 {
		checkAll(t, m.fields(6))
	}
}
