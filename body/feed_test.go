package body

import (
	"fmt"
	"math"
	"strings"
	"testing"
	"turnstile/api"
	"turnstile/chunk"
)

// BD2: the chapter's examples.
func TestExamples(t *testing.T) {
	checkEnds(t, length(3), 10, "abcd", 3, "abc")
	checkEnds(t, length(3), -1, "abcd", 3, "abc")
	checkFault(t, closing, 2, "abc", 3, api.ErrBody, "ab")
}

// BD2: fewer bytes than the length, just so many, and more.
func TestLengths(t *testing.T) {
	all := strings.Repeat("ab\r\n0\r\n\x00\xff", 10)
	for n := 1; n < 60; n++ {
		for _, most := range []int{n, n + 1, -1, math.MaxInt} {
			checkBegun(t, length(n), most, "", "")
			checkBegun(t, length(n), most, all[:n-1], all[:n-1])
			checkEnds(t, length(n), most, all[:n], n, all[:n])
			checkEnds(t, length(n), most, all[:n+1], n, all[:n])
			checkEnds(t, length(n), most, all, n, all[:n])
		}
	}
	checkBegun(t, length(maxLength), maxLength, all, all)
	checkBegun(t, length(maxLength), -1, all, all)
}

// BD2: every byte is one of a body.
func TestEveryByte(t *testing.T) {
	var b []byte
	for c := range 256 {
		b = append(b, byte(c))
	}
	all := string(b)
	checkEnds(t, length(256), -1, all+all, 256, all)
	checkBegun(t, closing, 256, all, all)
	checkEnds(t, chunked, 256, "100\r\n"+all+"\r\n0\r\n\r\n", 268, all)
}

// BD2: bodies that end with the connection: fewer bytes than most, just so many, and more.
func TestClosing(t *testing.T) {
	all := strings.Repeat("ab\r\n0\r\n\x00\xff", 10)
	for most := range 60 {
		checkBegun(t, closing, most, "", "")
		checkBegun(t, closing, most, all[:max(most-1, 0)], all[:max(most-1, 0)])
		checkBegun(t, closing, most, all[:most], all[:most])
		checkFault(t, closing, most, all[:most+1], most+1, api.ErrBody, all[:most])
		checkFault(t, closing, most, all, most+1, api.ErrBody, all[:most])
	}
	for _, most := range []int{-1, maxLength, maxLength + 1, math.MaxInt} {
		checkBegun(t, closing, most, all, all)
	}
	checkFault(t, closing, 0, "a", 1, api.ErrBody, "")
	checkFault(t, closing, 0, "abc", 1, api.ErrBody, "")
}

// BD2: much at once, and piece by piece.
func TestMuch(t *testing.T) {
	all := strings.Repeat("0123456789\r\n\x00", 100000)
	n := len(all)
	coded := string(chunk.Encode([]byte(all))) + "0\r\n\r\n"
	for _, x := range []sample{
		{length(n), -1, all}, {length(n - 1), n, all}, {length(n + 1), -1, all}, {length(maxLength), -1, all},
		{closing, -1, all}, {closing, n, all}, {closing, n - 1, all}, {chunked, n, coded}, {chunked, n - 1, coded}, {chunked, -1, coded + all},
	} {
		want := of(x.f, x.most, x.s)
		checkFeed(t, newReader(t, x.f, x.most), []byte(x.s), answer{}, want)
		checkWhole(t, x.f, x.most, x.s, want)
		r := newReader(t, x.f, x.most)
		var told strings.Builder
		taken := 0
		for at := 0; at < len(x.s); at += 4099 {
			n, body, _, _ := r.Feed([]byte(x.s[at:min(at+4099, len(x.s))]))
			taken += n
			told.Write(body)
		}
		if taken != want.taken || told.String() != want.body {
			t.Errorf("%v, most %d: %d, %d bytes, not %d, %d", x.f, x.most, taken, told.Len(), want.taken, len(want.body))
		}
		checkFeed(t, r, nil, want, want)
	}
}

// BD2, BD3: chunked bodies, with trailers, and with bytes left over.
func TestChunked(t *testing.T) {
	checkEnds(t, chunked, -1, "0\r\n\r\n", 5, "")
	checkEnds(t, chunked, 0, "0\r\n\r\nGET", 5, "")
	checkEnds(t, chunked, 10, "3\r\nabc\r\n0\r\n\r\nX", 13, "abc")
	checkEnds(t, chunked, 10, "2;x\r\nab\r\n1\r\nc\r\n0\r\nX: 1\r\ny:\r\n\r\nmore", 30, "abc", "X", "1", "y", "")
	checkEnds(t, chunked, 3, "3\r\nabc\r\n0\r\nContent-Length: 5\r\n\r\n", 32, "abc", "Content-Length", "5")
	checkBegun(t, chunked, 100, "5;x\r\nab", "ab")
	checkBegun(t, chunked, 100, "", "")
	checkBegun(t, chunked, 100, "1\r\na\r\n0\r\nX: 1\r\n\r", "a")
}

// BD2: each error of layer 12's reader, and its byte.
func TestWrongChunks(t *testing.T) {
	told := map[error]int{}
	for s, err := range wrongChunks() {
		got := check(t, chunked, 10, s)
		if got.err != err || got.taken != len(s) {
			t.Errorf("%q: %v", short(s), got)
		}
		check(t, chunked, 10, s+"more")
		check(t, chunked, 10, s[:len(s)-1], s[len(s)-1:], "more")
		checkWhole(t, chunked, 10, s, got)
		told[err]++
	}
	if len(told) != 4 {
		t.Errorf("errors %v", told)
	}
	checkFault(t, chunked, 10, "3\nabc", 2, api.ErrChunk, "")
	checkFault(t, chunked, 10, "1\r\nab", 5, api.ErrChunk, "a")
	checkFault(t, chunked, 2, "3\r\nabc", 3, api.ErrBody, "")
	checkFault(t, chunked, 4, "2\r\nab\r\n3\r\ncde", 10, api.ErrBody, "ab")
	checkFault(t, chunked, 2, "1\r\na\r\n0\r\nX: 1\r\ny\r\n", 17, api.ErrField, "a")
	checkFault(t, chunked, 2, "1\r\na\r\n0\r\nX:"+strings.Repeat("v", 8191), 8202, api.ErrSize, "a")
}

// BD2: a chunked body of just most bytes, and of one more.
func TestMostOfChunks(t *testing.T) {
	for most := range 30 {
		exact := strings.Repeat("x", most)
		one := string(chunk.Encode([]byte(exact)))
		row := strings.Repeat("1\r\nx\r\n", most)
		checkEnds(t, chunked, most, one+"0\r\n\r\n", len(one)+5, exact)
		checkEnds(t, chunked, most, row+"0\r\n\r\n", len(row)+5, exact)
		checkFault(t, chunked, most, row+"1\r\nx", len(row)+3, api.ErrBody, exact)
		more := fmt.Sprintf("%x\r\n", most+1)
		checkFault(t, chunked, most, more+exact+"x", len(more), api.ErrBody, "")
	}
}

// BD2: a chunked body has at most MaxLength bytes, if most is -1, or above that.
func TestGreatestMostOfChunks(t *testing.T) {
	for _, most := range []int{-1, maxLength, maxLength + 1, 1 << 41, math.MaxInt} {
		checkBegun(t, chunked, most, "10000000000\r\nabc", "abc")
		checkFault(t, chunked, most, "10000000001\r\nabc", 13, api.ErrBody, "")
		checkBegun(t, chunked, most, "1\r\nx\r\nffffffffff\r\n", "x")
		checkFault(t, chunked, most, "1\r\nx\r\n10000000000\r\n", 19, api.ErrBody, "x")
		checkFault(t, chunked, most, "ffffffffffffffff\r\n", 18, api.ErrBody, "")
		checkEnds(t, chunked, most, "1\r\nx\r\n0\r\nA: b\r\n\r\n", 17, "x", "A", "b")
	}
	checkFault(t, chunked, maxLength-1, "10000000000\r\n", 13, api.ErrBody, "")
}

// BD2: no bytes, and nil, change nothing, wherever they come.
func TestNoBytes(t *testing.T) {
	for _, x := range samples() {
		r := newReader(t, x.f, x.most)
		for i := range len(x.s) + 1 {
			now := of(x.f, x.most, x.s[:i])
			checkFeed(t, r, nil, now, now)
			checkFeed(t, r, []byte{}, now, now)
			checkFeed(t, r, []byte(x.s)[i:i], now, now)
			if i < len(x.s) {
				checkFeed(t, r, []byte{x.s[i]}, now, of(x.f, x.most, x.s[:i+1]))
			}
		}
		if t.Failed() {
			t.Fatalf("%v, most %d, %q", x.f, x.most, x.s)
		}
	}
}

// BD2: behind a whole body nothing is taken.
func TestBehindAWholeBody(t *testing.T) {
	for _, x := range []sample{{none, 0, ""}, {length(0), -1, ""}, {length(1), 1, "a"}, {length(5), -1, "0\r\n\r\n"}} {
		r := newReader(t, x.f, x.most)
		end := answer{taken: len(x.s), body: x.s, done: true}
		checkFeed(t, r, []byte(x.s+"more"), answer{}, end)
		checkStays(t, r, end)
	}
	for _, s := range wellChunks() {
		r := newReader(t, chunked, 12)
		end := of(chunked, 12, s)
		if !end.done || end.taken != len(s) {
			t.Fatalf("%q: %v", s, end)
		}
		checkFeed(t, r, []byte(s+"more"), answer{}, end)
		checkStays(t, r, end)
	}
}

// BD2: behind an error nothing is taken, and it is told again.
func TestBehindAnError(t *testing.T) {
	for s, err := range wrongChunks() {
		r := newReader(t, chunked, 10)
		end := of(chunked, 10, s)
		if end.err != err || end.taken != len(s) {
			t.Fatalf("%q: %v", short(s), end)
		}
		checkFeed(t, r, []byte(s+"more"), answer{}, end)
		checkStays(t, r, end)
	}
	for most, all := range []string{"x", "ax", "abx", "abcx"} {
		r := newReader(t, closing, most)
		end := answer{taken: most + 1, body: all[:most], err: api.ErrBody}
		checkFeed(t, r, []byte(all+"more"), answer{}, end)
		checkStays(t, r, end)
	}
}
