package body

import (
	"bytes"
	"math"
	"slices"
	"testing"
	"turnstile/api"
)

// BD5: every cut into two feeds, and into three of short texts.
func TestEveryCut(t *testing.T) {
	for _, x := range samples() {
		checkAll(t, x.f, x.most, x.s)
		for i := range len(x.s) + 1 {
			check(t, x.f, x.most, x.s[:i], x.s[i:])
			check(t, x.f, x.most, "", x.s[:i], "", x.s[i:], "")
			for j := i; j <= len(x.s) && len(x.s) < 20; j++ {
				check(t, x.f, x.most, x.s[:i], x.s[i:j], x.s[j:])
			}
		}
	}
}

// BD5: every cut into feeds of a short text, however many.
func TestAllCuts(t *testing.T) {
	for _, x := range []sample{
		{length(9), 9, "abcdefghijk"}, {length(12), -1, "abcdefghijk"}, {none, -1, "abcd"}, {closing, 9, "abcdefghijk"}, {closing, -1, "abcdefghijk"},
		{chunked, 2, "2\r\nab\r\n0\r\n\r\n"}, {chunked, 1, "1\r\na\r\n1\r\nb"}, {chunked, 0, "0\r\na:\r\n\r\nx"}, {chunked, 9, "1\r\nabc\r\n"},
	} {
		for cuts := range 1 << (len(x.s) - 1) {
			var pieces []string
			from := 0
			for i := 1; i <= len(x.s); i++ {
				if i == len(x.s) || cuts&(1<<(i-1)) != 0 {
					pieces = append(pieces, x.s[from:i])
					from = i
				}
			}
			check(t, x.f, x.most, pieces...)
		}
	}
}

// BD1 to BD5: any bodies, spoilt or not, however cut, with any most.
func TestAnyBodies(t *testing.T) {
	m := newMaker(1)
	whole, ends := 0, map[error]int{}
	for range 40000 {
		x := m.any()
		want := check(t, x.f, x.most, x.s)
		check(t, x.f, x.most, m.cut(x.s)...)
		checkWhole(t, x.f, x.most, x.s, want)
		if end := ended(x.f, want); end.done {
			whole++
		} else {
			ends[end.err]++
		}
	}
	if whole < 10000 || len(ends) != 4 || ends[api.ErrBody] < 1000 || ends[api.ErrEnd] < 1000 || ends[api.ErrChunk] < 1000 || ends[api.ErrField] < 100 {
		t.Errorf("%d whole bodies, errors %v", whole, ends)
	}
}

// BD2: never more than most bytes are told, nor than a length tells.
func TestNeverMoreThanMost(t *testing.T) {
	m := newMaker(2)
	for range 10000 {
		x := m.any()
		r := newReader(t, x.f, x.most)
		told := 0
		for range 8 {
			_, body, _, _ := r.Feed([]byte(m.of(m.chunks(), m.bytes(9), "1\r\nx\r\n", x.s)))
			told += len(body)
		}
		if x.most >= 0 && told > x.most || x.f.Kind == 1 && told > x.f.Length || r.Len() != told {
			t.Fatalf("%v, most %d: %d bytes, Len %d", x.f, x.most, told, r.Len())
		}
	}
}

// Rule 3: bytes that were fed may be changed behind it; they are neither changed nor kept, nor are they handed out.
func TestFedBytesAreNotKept(t *testing.T) {
	for _, x := range samples() {
		want := of(x.f, x.most, x.s)
		for _, size := range []int{1, 2, 3, 7, 40} {
			r := newReader(t, x.f, x.most)
			room := make([]byte, size, 64)
			var bodies [][]byte
			for at := 0; at < len(x.s); at += size {
				piece := room[:copy(room, x.s[at:])]
				before := bytes.Clone(room[:cap(room)])
				_, body, _, _ := r.Feed(piece)
				if !bytes.Equal(room[:cap(room)], before) {
					t.Fatalf("Feed changed %q", before)
				}
				spoil(room)
				bodies = append(bodies, body)
			}
			checkFeed(t, r, nil, want, want)
			checkEnd(t, r, ended(x.f, want))
			if told := string(bytes.Join(bodies, nil)); told != want.body {
				t.Errorf("%v, %q: %q became %q", x.f, x.s, want.body, told)
			}
		}
	}
}

// Rule 3: what was handed out is its own, spare room too: changing it changes neither the reader nor the bytes that were fed.
func TestAnswersAreNewMemory(t *testing.T) {
	for _, x := range samples() {
		want := of(x.f, x.most, x.s)
		for _, size := range []int{1, 3, 40} {
			r := newReader(t, x.f, x.most)
			for at := 0; at < len(x.s); at += size {
				text := x.s[at:min(at+size, len(x.s))]
				fed := append(make([]byte, 0, 64), text...)
				_, body, _, _ := r.Feed(fed)
				spoil(body)
				spoil(append(body, 'x'))
				if string(fed) != text || !bytes.Equal(fed[len(fed):cap(fed)], make([]byte, cap(fed)-len(fed))) {
					t.Fatalf("%q became %q", text, fed[:cap(fed)])
				}
			}
			other := r.Trailers()
			spoilFields(r.Trailers())
			spoilFields(append(r.Trailers(), api.Field{Name: "more"}))
			checkReader(t, r, want)
			if !slices.Equal(other, want.trailers) {
				t.Errorf("Trailers became %q", other)
			}
		}
		checkWholeIsNew(t, x)
	}
}

// checkWholeIsNew writes over what Whole answers, and over what it was given.
func checkWholeIsNew(t *testing.T, x sample) {
	t.Helper()
	b := append(make([]byte, 0, 64), x.s...)
	body, _, err := Whole(x.f, x.most, b)
	again, _, _ := Whole(x.f, x.most, b)
	spoil(body)
	if string(b) != x.s || !bytes.Equal(b[len(b):cap(b)], make([]byte, cap(b)-len(b))) {
		t.Errorf("%q became %q", x.s, b[:cap(b)])
	}
	spoil(b)
	if err == nil && string(again) != of(x.f, x.most, x.s).body {
		t.Errorf("%v, %q: %q", x.f, x.s, again)
	}
}

// Rule 4: readers that are fed in turns have nothing in common.
func TestReadersInTurns(t *testing.T) {
	m := newMaker(3)
	for range 5000 {
		one, two := m.any(), m.any()
		a, b := newReader(t, one.f, one.most), newReader(t, two.f, two.most)
		for i := range max(len(one.s), len(two.s)) {
			a.Feed([]byte(one.s[min(i, len(one.s)):min(i+1, len(one.s))]))
			b.Feed([]byte(two.s[min(i, len(two.s)):min(i+1, len(two.s))]))
		}
		checkReader(t, a, of(one.f, one.most, one.s))
		checkEnd(t, a, ended(one.f, of(one.f, one.most, one.s)))
		checkReader(t, b, of(two.f, two.most, two.s))
		if t.Failed() {
			t.Fatalf("%v, %q and %v, %q", one.f, one.s, two.f, two.s)
		}
	}
}

// Rule 1: whatever is given, nothing panics: any framing, any most, and a Reader that no call answered.
func TestNothingPanics(t *testing.T) {
	numbers := []int{math.MinInt, -maxLength, -2, -1, 0, 1, 2, 3, 4, 5, maxLength, maxLength + 1, math.MaxInt}
	for _, kind := range numbers {
		for _, n := range numbers {
			for _, most := range numbers {
				f := api.Frame{Kind: kind, Length: n}
				for _, b := range [][]byte{nil, {}, []byte("a"), []byte("0\r\n\r\n"), make([]byte, 300)} {
					Whole(f, most, b)
				}
				if r, err := New(f, most); (r == nil) != (err != nil) {
					t.Errorf("New(%v, %d) = %v, %v", f, most, r, err)
				}
			}
		}
	}
	var zero Reader
	zero.Feed([]byte("abc"))
	zero.End()
	zero.Trailers()
	var r *Reader
	if n, body, done, err := r.Feed([]byte("abc")); n != 0 || body != nil || done || err != api.ErrArg {
		t.Errorf("nil: Feed = %d, %q, %v, %v", n, body, done, err)
	}
	if r.End() != api.ErrArg || r.Done() || r.Len() != 0 || r.Trailers() != nil {
		t.Errorf("nil: %v, %v, %d, %q", r.End(), r.Done(), r.Len(), r.Trailers())
	}
}
