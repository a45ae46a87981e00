package hops

import (
	"math"
	"strings"
	"turnstile/api"
	"turnstile/chars"
	"turnstile/write"
)

// mostDigits is how many digits a length may have that is handed on as it was: a number of so many is held by whoever reads it.
const mostDigits = 15

// Request is what goes on to a backend.
func Request(q api.Request, client string, length int) (api.Request, error) {
	l := Framing(write.Del(Strip(q.Fields), "Expect"), api.Frame{})
	l = Via(Forwarded(l, client), q.Minor)
	if tellsLength(q.Method, length) {
		l = write.Add(l, contentLength, chars.Text(length))
	}
	on := api.Request{Method: strings.Clone(q.Method), Target: strings.Clone(q.Target), Minor: 1, Fields: l}
	_, err := write.Request(on)
	if err := tooGreat(l, err); err != nil {
		return api.Request{}, err
	}
	return on, nil
}

// tellsLength tells whether a request tells its length: also one of 0, if its method has a body for the most part.
func tellsLength(method string, length int) bool {
	switch method {
	case "POST", "PUT", "PATCH":
		return length >= 0
	}
	return length > 0
}

// tooGreat is the error of fields that are too many, or of a head that is too large, where write answers so of it. What else can't be written is no matter of what goes from hop to hop.
func tooGreat(l []api.Field, written error) error {
	switch {
	case len(l) > api.MaxFields:
		return api.ErrField
	case written == api.ErrSize:
		return api.ErrSize
	}
	return nil
}

// Response is what goes on to a client.
func Response(p api.Response, f api.Frame, minor int, last bool) (api.Response, error) {
	ends := Strip(p.Fields)
	l := Via(Framing(ends, api.Frame{}), p.Minor)
	switch {
	case bare(p.Status):
	case f.Kind == api.FrameNone:
		if own, ok := ownLength(ends); ok {
			l = write.Add(l, own.Name, own.Value)
		}
	default:
		l = Framing(l, f)
	}
	if last {
		l = write.Add(l, connection, "close")
	}
	on := api.Response{Status: p.Status, Reason: strings.Clone(p.Reason), Minor: minor, Fields: l}
	_, err := write.Response(on)
	if err := tooGreat(l, err); err != nil {
		return api.Response{}, err
	}
	return on, nil
}

// bare tells whether a response of a status has neither a body nor the length of one.
func bare(status int) bool { return status >= 100 && status <= 199 || status == 204 }

// ownLength is the one Content-Length of fields, if it is one alone and tells a number: of a head that tells how long a body would have been.
func ownLength(l []api.Field) (api.Field, bool) {
	var own api.Field
	lengths := 0
	for _, f := range l {
		if chars.Same(f.Name, contentLength) {
			own = f
			lengths++
		}
	}
	if lengths != 1 || !isLength(own.Value) {
		return api.Field{}, false
	}
	return own, true
}

// isLength tells whether a text is digits, of which there are not too many.
func isLength(s string) bool {
	_, err := chars.Decimal(s, math.MaxInt)
	return err == nil && len(s) <= mostDigits
}
