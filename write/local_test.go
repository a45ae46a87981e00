package write

import (
	"fmt"
	"math"
	"slices"
	"strconv"
	"testing"
	"turnstile/api"
)

// reasons is the statuses that have words, and these.
func reasons() map[int]string {
	return map[int]string{
		200: "OK", 400: "Bad Request", 401: "Unauthorized", 403: "Forbidden", 404: "Not Found", 413: "Content Too Large",
		417: "Expectation Failed", 429: "Too Many Requests", 431: "Request Header Fields Too Large",
		502: "Bad Gateway", 503: "Service Unavailable", 504: "Gateway Timeout",
	}
}

// farStatuses is numbers that are no statuses, of which some are one but for bits that are too high.
func farStatuses() []int {
	return []int{math.MinInt, math.MaxInt, 1<<32 + 200, 1<<32 + 404, 1<<16 + 404, 1<<8 + 404, -404, -200, 4040, 40400}
}

// WR3: the words of each status that is named, and of no other.
func TestReason(t *testing.T) {
	for status := -2000; status < 3000; status++ {
		if got, want := Reason(status), reasons()[status]; got != want {
			t.Errorf("Reason(%d) = %q, not %q", status, got, want)
		}
	}
	for _, status := range farStatuses() {
		if got := Reason(status); got != "" {
			t.Errorf("Reason(%d) = %q", status, got)
		}
	}
}

func checkLocal(t *testing.T, status, minor int, last bool, want api.Response, body string, wantErr error) {
	t.Helper()
	if p, b, err := Local(status, minor, last); !sameResponse(p, want) || string(b) != body || err != wantErr {
		t.Errorf("Local(%d, %d, %v) = %+v, %q, %v, not %+v, %q, %v", status, minor, last, p, b, err, want, body, wantErr)
	}
}

// WR4: the gateway's own responses as the chapter tells them, its example among them.
func TestLocalExamples(t *testing.T) {
	checkLocal(t, 404, 1, true, api.Response{Status: 404, Reason: "Not Found", Minor: 1, Fields: fieldsOf("Content-Type", "text/plain", "Content-Length", "14", "Connection", "close")}, "404 Not Found\n", nil)
	checkLocal(t, 404, 0, false, api.Response{Status: 404, Reason: "Not Found", Fields: fieldsOf("Content-Type", "text/plain", "Content-Length", "14")}, "404 Not Found\n", nil)
	checkLocal(t, 431, 1, false, api.Response{Status: 431, Reason: "Request Header Fields Too Large", Minor: 1, Fields: fieldsOf("Content-Type", "text/plain", "Content-Length", "36")}, "431 Request Header Fields Too Large\n", nil)
	checkLocal(t, 200, 1, true, api.Response{}, "", api.ErrLine)
	checkLocal(t, 404, 2, true, api.Response{}, "", api.ErrLine)
	checkLocal(t, 405, 1, false, api.Response{}, "", api.ErrLine)
}

// WR4: every status, with every minor, last or not.
func TestLocal(t *testing.T) {
	statuses := farStatuses()
	for status := -1100; status < 1300; status++ {
		statuses = append(statuses, status)
	}
	well := 0
	for _, status := range statuses {
		for _, minor := range []int{0, 1, -1, 2, 10, 1 << 32, 1<<32 + 1, math.MinInt, math.MaxInt} {
			for _, last := range []bool{false, true} {
				reason := reasons()[status]
				if status == 200 || reason == "" || minor != 0 && minor != 1 {
					checkLocal(t, status, minor, last, api.Response{}, "", api.ErrLine)
					continue
				}
				body := fmt.Sprintf("%d %s\n", status, reason)
				want := api.Response{Status: status, Reason: reason, Minor: minor, Fields: fieldsOf("Content-Type", "text/plain", "Content-Length", strconv.Itoa(len(body)))}
				if last {
					want.Fields = append(want.Fields, api.Field{Name: "Connection", Value: "close"})
				}
				checkLocal(t, status, minor, last, want, body, nil)
				well++
			}
		}
	}
	if well != 11*2*2 {
		t.Errorf("%d local responses", well)
	}
}

// Rule 3: what was handed out is its own, spare room too.
func TestLocalsAreTheirOwn(t *testing.T) {
	for _, last := range []bool{false, true} {
		p, body, _ := Local(503, 1, last)
		other, otherBody, _ := Local(503, 1, last)
		fields, text := slices.Clone(p.Fields), string(body)
		spoil(other.Fields)
		clear(otherBody[:cap(otherBody)])
		checkLocal(t, 503, 1, last, api.Response{Status: 503, Reason: "Service Unavailable", Minor: 1, Fields: fields}, text, nil)
		if !slices.Equal(p.Fields, fields) || string(body) != text {
			t.Errorf("a response became %q, %q", p.Fields, body)
		}
	}
}
