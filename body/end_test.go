package body

import (
	"slices"
	"testing"
	"turnstile/api"
)

// checkEnded feeds a text, and ends: what is answered then, what is told behind it, and that it stays so.
func checkEnded(t *testing.T, x sample, want answer) {
	t.Helper()
	r := newReader(t, x.f, x.most)
	r.Feed([]byte(x.s))
	checkEnd(t, r, want)
	checkStays(t, r, want)
	checkEnd(t, r, want)
	if t.Failed() {
		t.Fatalf("%v, most %d, %q", x.f, x.most, short(x.s))
	}
}

// BD3: the end of a body that is whole from the begin on.
func TestEndOfNone(t *testing.T) {
	for _, f := range []api.Frame{none, length(0)} {
		for _, most := range []int{-1, 0, 1, maxLength} {
			checkEnded(t, sample{f, most, ""}, answer{done: true})
			checkEnded(t, sample{f, most, "abc"}, answer{done: true})
			// Without a feed ahead.
			r := newReader(t, f, most)
			checkEnd(t, r, answer{done: true})
			checkStays(t, r, answer{done: true})
		}
	}
}

// BD3: the end of a body of a length at its begin, in its midst, and behind it.
func TestEndOfLengths(t *testing.T) {
	for _, most := range []int{-1, 3, 4, maxLength} {
		checkEnded(t, sample{length(3), most, ""}, answer{err: api.ErrEnd})
		checkEnded(t, sample{length(3), most, "a"}, answer{body: "a", err: api.ErrEnd})
		checkEnded(t, sample{length(3), most, "ab"}, answer{body: "ab", err: api.ErrEnd})
		checkEnded(t, sample{length(3), most, "abc"}, answer{body: "abc", done: true})
		checkEnded(t, sample{length(3), most, "abcd"}, answer{body: "abc", done: true})
	}
	checkEnded(t, sample{length(maxLength), -1, "abc"}, answer{body: "abc", err: api.ErrEnd})
	r := newReader(t, length(1), 1)
	checkEnd(t, r, answer{err: api.ErrEnd})
	checkStays(t, r, answer{err: api.ErrEnd})
}

// BD3: the end makes a FrameClose whole, unless there was an error.
func TestEndOfClosing(t *testing.T) {
	for _, most := range []int{-1, 3, 4, maxLength, maxLength + 1} {
		for _, s := range []string{"", "a", "abc"} {
			checkEnded(t, sample{closing, most, s}, answer{body: s, done: true})
		}
	}
	checkEnded(t, sample{closing, 0, ""}, answer{done: true})
	checkEnded(t, sample{closing, 0, "a"}, answer{err: api.ErrBody})
	checkEnded(t, sample{closing, 2, "abc"}, answer{body: "ab", err: api.ErrBody})
	checkEnded(t, sample{closing, 2, "abcdef"}, answer{body: "ab", err: api.ErrBody})
	r := newReader(t, closing, 9)
	checkEnd(t, r, answer{done: true})
	checkStays(t, r, answer{done: true})
}

// BD3: the end of a chunked body at its begin, in its midst, and behind it.
func TestEndOfChunks(t *testing.T) {
	const s = "2\r\nab\r\n1;x\r\nc\r\n0\r\nX: 1\r\nY:2\r\n\r\n"
	for i := range len(s) {
		body := ""
		for at, c := range map[int]string{4: "a", 5: "ab", 13: "abc"} {
			if i >= at && len(c) > len(body) {
				body = c
			}
		}
		checkEnded(t, sample{chunked, -1, s[:i]}, answer{body: body, err: api.ErrEnd})
	}
	for _, more := range []string{"", "x", "0\r\n\r\n"} {
		checkEnded(t, sample{chunked, 3, s + more}, answer{body: "abc", trailers: fieldsOf("X", "1", "Y", "2"), done: true})
	}
	r := newReader(t, chunked, 9)
	checkEnd(t, r, answer{err: api.ErrEnd})
	checkStays(t, r, answer{err: api.ErrEnd})
}

// BD3: an error that was there stays.
func TestEndBehindErrors(t *testing.T) {
	for s, err := range wrongChunks() {
		checkEnded(t, sample{chunked, 10, s}, answer{body: of(chunked, 10, s).body, err: err})
	}
}

// BD3: what a reader tells behind each byte of each kind.
func TestSteps(t *testing.T) {
	const s = "2\r\nab\r\n1;x\r\nc\r\n0\r\nX: 1\r\nY:2\r\n\r\n"
	r := newReader(t, chunked, 3)
	for i := range len(s) {
		at := i + 1
		n := 0
		for _, from := range []int{4, 5, 13} {
			if at >= from {
				n++
			}
		}
		_, _, done, err := r.Feed([]byte{s[i]})
		if done != (at == 31) || err != nil || r.Done() != done || r.Len() != n || !done && len(r.Trailers()) != 0 {
			t.Errorf("behind byte %d: %v, %v; %v, %d, %q", at, done, err, r.Done(), r.Len(), r.Trailers())
		}
	}
	if !r.Done() || !slices.Equal(r.Trailers(), fieldsOf("X", "1", "Y", "2")) {
		t.Errorf("%v, %q", r.Done(), r.Trailers())
	}
	ofLength, ofClose := newReader(t, length(4), -1), newReader(t, closing, 4)
	for i := range 6 {
		ofLength.Feed([]byte("x"))
		ofClose.Feed([]byte("x"))
		if ofLength.Done() != (i >= 3) || ofLength.Len() != min(i+1, 4) || ofClose.Done() || ofClose.Len() != min(i+1, 4) {
			t.Errorf("behind byte %d: %v, %d; %v, %d", i+1, ofLength.Done(), ofLength.Len(), ofClose.Done(), ofClose.Len())
		}
		if ofLength.Trailers() != nil || ofClose.Trailers() != nil {
			t.Errorf("trailers %q, %q", ofLength.Trailers(), ofClose.Trailers())
		}
	}
}

// BD3: trailers of which a later line spoils the body are not told.
func TestTrailersOfSpoiltBodies(t *testing.T) {
	for _, s := range []string{"0\r\nX: 1\r\n ", "0\r\nX: 1\r\n\n", "0\r\nX: 1\r\nY: 2\r\nz\r", "0\r\nX: 1\r\n\rx"} {
		r := newReader(t, chunked, 10)
		_, _, done, err := r.Feed([]byte(s))
		if done || err != api.ErrField || len(r.Trailers()) != 0 {
			t.Errorf("%q: %v, %v, %q", s, done, err, r.Trailers())
		}
	}
}

// BD3: an end in the midst of every sample, wherever it comes.
func TestEndEverywhere(t *testing.T) {
	for _, x := range samples() {
		for i := range len(x.s) + 1 {
			check(t, x.f, x.most, x.s[:i])
			check(t, x.f, x.most, singles(x.s[:i])...)
		}
	}
}

// BD4: a body that is not whole with the end is ErrEnd, and one that is spoilt Feed's error; nothing is told beside it.
func TestWhole(t *testing.T) {
	for _, x := range []struct {
		sample
		body  string
		taken int
		err   error
	}{
		{sample{none, -1, "abc"}, "", 0, nil},
		{sample{none, 0, ""}, "", 0, nil},
		{sample{length(0), 0, "abc"}, "", 0, nil},
		{sample{length(3), -1, "abcd"}, "abc", 3, nil},
		{sample{length(3), 3, "abc"}, "abc", 3, nil},
		{sample{length(3), 3, "ab"}, "", 0, api.ErrEnd},
		{sample{length(3), -1, ""}, "", 0, api.ErrEnd},
		{sample{length(3), 2, "abc"}, "", 0, api.ErrBody},
		{sample{length(-1), 2, "abc"}, "", 0, api.ErrArg},
		{sample{length(3), -2, "abc"}, "", 0, api.ErrArg},
		{sample{closing, -1, "abc"}, "abc", 3, nil},
		{sample{closing, 3, "abc"}, "abc", 3, nil},
		{sample{closing, 0, ""}, "", 0, nil},
		{sample{closing, 2, "abc"}, "", 0, api.ErrBody},
		{sample{closing, 0, "a"}, "", 0, api.ErrBody},
		{sample{chunked, 3, "3\r\nabc\r\n0\r\nX: 1\r\n\r\nmore"}, "abc", 19, nil},
		{sample{chunked, -1, "0\r\n\r\n"}, "", 5, nil},
		{sample{chunked, 3, "3\r\nabc\r\n0\r\nX: 1\r\n\r"}, "", 0, api.ErrEnd},
		{sample{chunked, 3, ""}, "", 0, api.ErrEnd},
		{sample{chunked, 3, "3\r\nabc\n"}, "", 0, api.ErrChunk},
		{sample{chunked, 2, "3\r\nabc\r\n"}, "", 0, api.ErrBody},
		{sample{chunked, 3, "3\r\nabc\r\n0\r\nX\r\n\r\n"}, "", 0, api.ErrField},
	} {
		body, n, err := Whole(x.f, x.most, []byte(x.s))
		if string(body) != x.body || n != x.taken || err != x.err {
			t.Errorf("Whole(%v, %d, %q) = %q, %d, %v, not %q, %d, %v", x.f, x.most, x.s, body, n, err, x.body, x.taken, x.err)
		}
	}
	for _, x := range samples() {
		checkWhole(t, x.f, x.most, x.s, of(x.f, x.most, x.s))
		for i := range x.s {
			checkWhole(t, x.f, x.most, x.s[:i], of(x.f, x.most, x.s[:i]))
		}
	}
}
