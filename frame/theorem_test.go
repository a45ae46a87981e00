package frame

import (
	"math"
	"slices"
	"testing"
	"turnstile/api"
	"turnstile/head"
	"turnstile/write"
)

// checkFramed frames fields, and reads how they are framed.
func checkFramed(t *testing.T, l []api.Field, f api.Frame) {
	t.Helper()
	fields, err := Fields(l, f)
	if err != nil {
		t.Fatalf("Fields(%s, %+v): %v", short(l), f, err)
	}
	if f.Kind != api.FrameClose {
		checkRequest(t, request(1, fields), f, nil)
	}
	if f.Kind != api.FrameNone {
		checkResponse(t, "GET", response(200, 1, fields), f, nil)
	}
	again, err := Fields(fields, f)
	if !slices.Equal(again, fields) || err != nil {
		t.Errorf("%s framed again by %+v: %s, %v", short(fields), f, short(again), err)
	}
	if t.Failed() {
		t.FailNow()
	}
}

// goodFrames is framings that can be.
func goodFrames() []api.Frame {
	frames := []api.Frame{{Kind: 0}, {Kind: 2}, {Kind: 3}}
	for _, n := range []int{0, 1, 5, 9, 10, 99, 100, 65536, math.MaxInt32, math.MaxUint32, math.MaxUint32 + 1, greatest - 1, greatest} {
		frames = append(frames, api.Frame{Kind: 1, Length: n})
	}
	return frames
}

// FR5: what Fields frames is read as framed so, whatever the fields told ahead of it.
func TestFramedIsReadSo(t *testing.T) {
	m := newMaker(2)
	lists := append(wrongFields(), nil, fieldsOf("Host", "a"), lengths("5"), codings("chunked"))
	for range 5000 {
		lists = append(lists, m.fields(8))
	}
	for _, l := range lists {
		for _, f := range goodFrames() {
			checkFramed(t, l, f)
		}
	}
}

// FR5: many lengths.
func TestLengthsAreReadSo(t *testing.T) {
	for n := range 5000 {
		checkFramed(t, lengths("9"), api.Frame{Kind: 1, Length: n})
		checkFramed(t, codings("x"), api.Frame{Kind: 1, Length: greatest - n})
		checkFramed(t, nil, api.Frame{Kind: 1, Length: n * 219902325})
	}
}

// FR5, P4: framed, written, and read again as a head, it is framed so still.
func TestFramedOverTheWire(t *testing.T) {
	for _, l := range [][]api.Field{nil, fieldsOf("Host", "a"), fieldsOf("Host", "a", "content-length", "5", "x", "", "Transfer-Encoding", "gzip")} {
		for _, f := range goodFrames() {
			fields, _ := Fields(l, f)
			b, err := write.Request(request(1, fields))
			if err != nil {
				t.Fatalf("%s: %v", short(fields), err)
			}
			q, _, err := head.ParseRequest(b, len(b))
			if err != nil {
				t.Fatalf("%q: %v", b, err)
			}
			if f.Kind != api.FrameClose {
				checkRequest(t, q, f, nil)
			}
		}
	}
}

// A message with both names, in heads as they come, is refused (P4).
func TestSmuggling(t *testing.T) {
	for _, s := range []string{
		"POST / HTTP/1.1\r\nHost: x\r\nContent-Length: 1\r\nTransfer-Encoding: chunked\r\n\r\n",
		"POST / HTTP/1.1\r\nHost: x\r\ntransfer-encoding:\tchunked\r\ncontent-length:0\r\n\r\n",
		"POST / HTTP/1.1\r\nHost: x\r\nTransfer-Encoding: chunked\r\nTransfer-Encoding: identity\r\n\r\n",
		"POST / HTTP/1.1\r\nHost: x\r\nTransfer-Encoding: xchunked\r\n\r\n",
		"POST / HTTP/1.1\r\nHost: x\r\nTransfer-Encoding:\r\n\r\n",
		"POST / HTTP/1.0\r\nHost: x\r\nTransfer-Encoding: chunked\r\n\r\n",
		"POST / HTTP/1.1\r\nHost: x\r\nContent-Length: 5\r\nContent-Length: 6\r\n\r\n",
		"POST / HTTP/1.1\r\nHost: x\r\nContent-Length: 5 5\r\n\r\n",
		"POST / HTTP/1.1\r\nHost: x\r\nContent-Length:\r\n\r\n",
	} {
		q, _, err := head.ParseRequest([]byte(s), len(s))
		if err != nil {
			t.Fatalf("%q: %v", s, err)
		}
		checkRequest(t, q, api.Frame{}, api.ErrFrame)
	}
}

// Rules 3, 4: what was handed in stays as it was, with its room, and the same is answered again.
func TestArgumentsStay(t *testing.T) {
	m := newMaker(3)
	for range 2000 {
		l := m.fields(8)
		l = l[:m.Intn(len(l)+1)]
		before := slices.Clone(l[:cap(l)])
		for range 2 {
			checkAll(t, l)
		}
		if !slices.Equal(l[:cap(l)], before) {
			t.Fatalf("%q became %q", before, l[:cap(l)])
		}
	}
}

// Rule 1: any texts and numbers: nothing panics.
func TestNothingPanics(t *testing.T) {
	m := newMaker(4)
	text := func() string {
		b := make([]byte, m.Intn(6))
		m.Read(b)
		return string(b)
	}
	numbers := []int{0, 1, 2, 3, 4, -1, 100, 204, greatest, greatest + 1, math.MinInt, math.MaxInt}
	number := func() int { return numbers[m.Intn(len(numbers))] }
	for range 20000 {
		l := fieldsOf("Content-Length", text(), "Transfer-Encoding", text(), text(), text())[m.Intn(3):]
		n, has, err := ofLength(l)
		checkLength(t, l, n, has, err)
		is, err := ofChunked(l)
		checkChunked(t, l, is, err)
		minor := number()
		f, err := ofMessage(minor, l, api.Frame{})
		checkRequest(t, api.Request{Method: text(), Target: text(), Minor: minor, Fields: l}, f, err)
		p := api.Response{Status: number(), Reason: text(), Minor: minor, Fields: l}
		f, err = ofResponse("x", p)
		checkResponse(t, "x", p, f, err)
		f = api.Frame{Kind: number(), Length: number()}
		want, err := ofFields(l, f)
		checkFields(t, l, f, want, err)
	}
}
