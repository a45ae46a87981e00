package chunk

import (
	"bytes"
	"math"
	"slices"
	"strings"
	"testing"
	"turnstile/api"
)

// CK1: a body has from 0 to MaxLength bytes at most.
func TestNew(t *testing.T) {
	for _, most := range []int{0, 1, 2, 10, 1 << 20, 1<<40 - 1, 1 << 40} {
		r := newReader(t, most)
		checkReader(t, r, answer{})
	}
	for _, most := range []int{-1, -2, 1<<40 + 1, 1 << 41, math.MinInt, math.MaxInt} {
		if r, err := New(most); r != nil || err != api.ErrArg {
			t.Errorf("New(%d) = %v, %v", most, r, err)
		}
		if body, trailers, n, err := Whole([]byte("0\r\n\r\n"), most); body != nil || trailers != nil || n != 0 || err != api.ErrArg {
			t.Errorf("Whole(.., %d) = %q, %q, %d, %v", most, body, trailers, n, err)
		}
	}
}

// CK1, CK2, CK4: the chapter's examples.
func TestExamples(t *testing.T) {
	checkEnds(t, 10, "3\r\nabc\r\n0\r\n\r\nX", 13, "abc")
	checkBegun(t, 100, "5;x\r\nab", "ab")
	checkFault(t, 10, "3\nabc", 2, api.ErrChunk, "")
	checkFault(t, 10, "g", 1, api.ErrChunk, "")
	checkFault(t, 2, "3\r\n", 3, api.ErrBody, "")
}

// CK1: bodies that go well.
func TestBodies(t *testing.T) {
	checkEnds(t, 0, "0\r\n\r\n", 5, "")
	checkEnds(t, 0, "00;x\r\n\r\n0\r\n\r\n", 8, "")
	checkEnds(t, 1<<40, "1\r\na\r\n2\r\nbc\r\n0\r\n\r\n", 18, "abc")
	checkEnds(t, 9, "5\r\n\r\n0\r\n\r\n4\r\n\r\n\r\n\r\n0\r\n\r\n", 24, "\r\n0\r\n\r\n\r\n")
	checkEnds(t, 3, "3\r\n\x00\xff\x7f\r\n0\r\n\r\n", 13, "\x00\xff\x7f")
	checkEnds(t, 5, "1\r\na\r\n0\r\nX: 1\r\ny:\r\n\r\nGET / HTTP/1.1", 21, "a", "X", "1", "y", "")
	all := ""
	for c := range 256 {
		all += one(c)
	}
	checkEnds(t, 256, "100\r\n"+all+"\r\n0\r\n\r\n", 268, all)
	long := strings.Repeat("abc\r\n", 1000)
	checkEnds(t, 10000, "1388;long\r\n"+long+"\r\n1388\r\n"+long+"\r\n0\r\n\r\n", 10026, long+long)
}

// CK1: bodies that are at no end yet.
func TestBegins(t *testing.T) {
	checkBegun(t, 0, "", "")
	checkBegun(t, 0, "0", "")
	checkBegun(t, 9, "1", "")
	checkBegun(t, 9, "ffffffffffffffff", "")
	checkBegun(t, 9, "ffffffffffffffff;", "")
	checkBegun(t, 9, "ffffffffffffffff\r", "")
	checkBegun(t, 9, "1\r\n", "")
	checkBegun(t, 9, "1\r\na", "a")
	checkBegun(t, 9, "1\r\na\r", "a")
	checkBegun(t, 9, "1\r\na\r\n", "a")
	checkBegun(t, 9, "1\r\na\r\n0", "a")
	checkBegun(t, 9, "0\r\n", "")
	checkBegun(t, 9, "0\r\n\r", "")
	checkBegun(t, 9, "0\r\nX", "")
	checkBegun(t, 9, "0\r\nX:", "")
	checkBegun(t, 9, "0\r\nX: 1\r", "")
	checkBegun(t, 9, "0\r\nX: 1\r\n", "", "X", "1")
	checkBegun(t, 9, "0\r\nX: 1\r\nY:2\r", "", "X", "1")
	checkBegun(t, 9, "0\r\nX: 1\r\n\r", "", "X", "1")
	checkBegun(t, 1<<40, "10000000000\r\nabc", "abc")
}

// CK1: no bytes, and nil, change nothing, wherever they come.
func TestNoBytes(t *testing.T) {
	for _, s := range append(well(), "1\r\nabc", "0\r\nx\r\n", "9\r\n") {
		r := newReader(t, 8+3*len(s))
		for i := range len(s) + 1 {
			now := of(s[:i], 8+3*len(s))
			checkFeed(t, r, nil, now, now)
			checkFeed(t, r, []byte{}, now, now)
			if i < len(s) {
				checkFeed(t, r, []byte(s[i:i+1]), now, of(s[:i+1], 8+3*len(s)))
			}
		}
	}
}

// CK1: behind the end nothing is taken.
func TestBehindTheEnd(t *testing.T) {
	for _, s := range well() {
		r := newReader(t, 100)
		end := of(s, 100)
		checkFeed(t, r, []byte(s+"more"), answer{}, end)
		for _, more := range []string{"", "x", s, "\r\n", "0\r\n\r\n", "\x00"} {
			checkFeed(t, r, []byte(more), end, end)
		}
		checkFeed(t, r, nil, end, end)
		if !end.done || end.taken != len(s) {
			t.Errorf("%q: %v", s, end)
		}
	}
}

// CK1: behind an error nothing is taken, and it is told again.
func TestBehindAnError(t *testing.T) {
	for s, err := range map[string]error{
		"x": api.ErrChunk, "1\r\nab": api.ErrChunk, "1\r\na\n": api.ErrChunk, "4\r\nabcd\r\n7\r\n": api.ErrBody,
		"1\r\na\r\n0\r\nX: 1\r\n ": api.ErrField, "0\r\nX: 1\r\nY\r": api.ErrField, "0\r\n\rx": api.ErrField,
		"2\r\nab\r\n0\r\nX: 1\r\na:" + strings.Repeat("x", 8185): api.ErrSize,
	} {
		r := newReader(t, 10)
		end := of(s, 10)
		checkFeed(t, r, []byte(s+"more"), answer{}, end)
		for _, more := range []string{"", "x", "0\r\n\r\n", "\r\n", "\n", ":", s} {
			checkFeed(t, r, []byte(more), end, end)
		}
		checkFeed(t, r, nil, end, end)
		if end.err != err || end.taken != len(s) {
			t.Errorf("%q: %v", short(s), end)
		}
	}
}

// CK3: what a reader tells behind each byte.
func TestSteps(t *testing.T) {
	const s = "2\r\nab\r\n1;x\r\nc\r\n0\r\nX: 1\r\nY:2\r\n\r\n"
	r := newReader(t, 3)
	for i := range len(s) {
		at := i + 1
		length, whole := 0, 0
		for _, from := range []int{4, 5, 13} {
			if at >= from {
				length++
			}
		}
		for _, from := range []int{24, 29} {
			if at >= from {
				whole++
			}
		}
		n, _, done, err := r.Feed([]byte{s[i]})
		if n != 1 || done != (at == 31) || err != nil || r.Done() != done || r.Len() != length || !slices.Equal(r.Trailers(), fieldsOf("X", "1", "Y", "2")[:whole]) {
			t.Errorf("behind byte %d: %d, %v, %v; %v, %d, %q", at, n, done, err, r.Done(), r.Len(), r.Trailers())
		}
	}
	if len(s) != 31 {
		t.Errorf("%d bytes", len(s))
	}
}

// CK3: a nil Reader.
func TestNilReader(t *testing.T) {
	var r *Reader
	for _, b := range [][]byte{nil, {}, []byte("0\r\n\r\n")} {
		if n, body, done, err := r.Feed(b); n != 0 || body != nil || done || err != api.ErrArg {
			t.Errorf("Feed(%q) = %d, %q, %v, %v", b, n, body, done, err)
		}
	}
	if r.Done() || r.Len() != 0 || r.Trailers() != nil || r.Clone() != nil {
		t.Errorf("%v, %d, %q, %v", r.Done(), r.Len(), r.Trailers(), r.Clone())
	}
}

// checkClones clones a reader of a text at a place; then both go on in turns, a byte each, the one with the rest, the other with something else, and so does one that was cloned from the clone.
func checkClones(t *testing.T, s string, at int, others ...string) {
	t.Helper()
	const most = 60
	r := newReader(t, most)
	r.Feed([]byte(s[:at]))
	first := r.Clone()
	readers, rests := []*Reader{r}, []string{s[at:]}
	for _, rest := range others {
		readers, rests = append(readers, first.Clone()), append(rests, rest)
	}
	readers, rests = append(readers, first), append(rests, "")
	for i := range len(s) + 50 {
		for k, rest := range rests {
			if i < len(rest) {
				checkFeed(t, readers[k], []byte{rest[i]}, of(s[:at]+rest[:i], most), of(s[:at]+rest[:i+1], most))
			}
		}
	}
	for k, rest := range rests {
		checkReader(t, readers[k], of(s[:at]+rest, most))
	}
	if t.Failed() {
		t.Fatalf("%q, cloned behind %d bytes", s, at)
	}
}

// CK3: a clone goes on apart from its reader, wherever it is made.
func TestClones(t *testing.T) {
	texts := append(well(), "12;abc\r\n0123456789abcdefgh\r\n3\r\nxyz\r\n0\r\nName: value\r\nOther: one\r\nThird: 3\r\n\r\n", "1\r\nx\r\n0\r\na: b\r\n c", "5\r\nabcdef")
	for _, s := range texts {
		for at := range len(s) + 1 {
			checkClones(t, s, at, "1\r\nQ\r\n0\r\n\r\n", "ZZZZ", "zz: zz\r\nyy:yy\r\n\r\n", "\r\n\r\n", "\nQ:q\r\nR:r\r\n\r\n")
		}
	}
}

// CK3: a clone has the most of its reader, its error and its end.
func TestClonesTellTheSame(t *testing.T) {
	for _, s := range append(well(), "x", "1\r\nab", "0\r\nx: y\r\n ", "3\r\nabc\r\n8\r\n", "ffffffffffffffff\r") {
		r := newReader(t, 100)
		r.Feed([]byte(s))
		want := of(s, 100)
		c := r.Clone()
		if c == r {
			t.Errorf("%q: the clone is the reader", s)
		}
		checkReader(t, c, want)
		checkFeed(t, c, []byte("\n1\r\nabc"), want, of(s+"\n1\r\nabc", 100))
		checkFeed(t, r, nil, want, want)
	}
}

// Rule 3: bytes that were fed may be changed behind it; they are neither changed nor kept, nor are they handed out.
func TestFedBytesAreNotKept(t *testing.T) {
	for _, s := range append(well(), "1\r\nab", "0\r\nabc: def\r\nx") {
		for size := 1; size < 9; size++ {
			r := newReader(t, 100)
			room := make([]byte, size, 64)
			told := ""
			var bodies [][]byte
			for at := 0; at < len(s); at += size {
				piece := room[:copy(room, s[at:])]
				before := bytes.Clone(room[:cap(room)])
				_, body, _, _ := r.Feed(piece)
				if !bytes.Equal(room[:cap(room)], before) {
					t.Fatalf("Feed changed %q", before)
				}
				for i := range room[:cap(room)] {
					room[:cap(room)][i] = '!'
				}
				told += string(body)
				bodies = append(bodies, body)
			}
			want := of(s, 100)
			checkReader(t, r, want)
			if told != want.body || string(bytes.Join(bodies, nil)) != want.body {
				t.Errorf("%q became %q, %q", want.body, told, bodies)
			}
		}
	}
}

// spoil writes over bytes and the room behind them.
func spoil(b []byte) {
	for i := range b[:cap(b)] {
		b[:cap(b)][i] = '!'
	}
}

// spoilFields writes over fields and the room behind them.
func spoilFields(l []api.Field) {
	for i := range l[:cap(l)] {
		l[:cap(l)][i] = api.Field{Name: "spoilt", Value: "spoilt"}
	}
}

// Rule 3: what was handed out is its own, spare room too: changing it changes neither the reader nor the bytes that were fed.
func TestAnswersAreNewMemory(t *testing.T) {
	for _, s := range append(well(), "1\r\nab", "0\r\nabc: def\r\nx:y\r\nz:\r\n ") {
		r := newReader(t, 100)
		for i := range len(s) {
			fed := make([]byte, 1, 16)
			fed[0] = s[i]
			before, now := of(s[:i], 100), of(s[:i+1], 100)
			_, body, _, _ := r.Feed(fed)
			if string(body) != now.body[len(before.body):] {
				t.Errorf("%q: %q", s[:i+1], body)
			}
			spoil(body)
			if i < now.taken && fed[0] != s[i] {
				t.Errorf("%q shares its memory with what was fed", body)
			}
			c := r.Clone()
			other := r.Trailers()
			spoilFields(r.Trailers())
			spoilFields(append(r.Trailers(), api.Field{Name: "more"}))
			spoilFields(c.Trailers())
			checkReader(t, r, now)
			checkReader(t, c, now)
			if !slices.Equal(other, now.trailers) {
				t.Errorf("Trailers became %q", other)
			}
		}
		b := []byte(s)
		body, trailers, _, _ := Whole(b, 100)
		again, others, _, _ := Whole(b, 100)
		spoil(body)
		spoilFields(trailers)
		if string(b) != s {
			t.Errorf("%q became %q", s, b)
		}
		spoil(b)
		if want := of(s, 100); want.done && (string(again) != want.body || !slices.Equal(others, want.trailers)) {
			t.Errorf("%q: %q, %q", s, again, others)
		}
	}
}
