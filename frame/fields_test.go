package frame

import (
	"math"
	"slices"
	"strings"
	"testing"
	"turnstile/api"
	"unsafe"
)

// FR4: what stands behind the others, of each kind.
func TestFields(t *testing.T) {
	a := fieldsOf("Host", "a", "b", "c")
	lists := [][]api.Field{
		a,
		fieldsOf("Host", "a", "Content-Length", "9", "b", "c"),
		fieldsOf("Transfer-Encoding", "chunked", "Host", "a", "b", "c"),
		fieldsOf("Host", "a", "b", "c", "content-length", "x"),
		fieldsOf("CONTENT-LENGTH", "", "Host", "a", "tRANSFER-eNCODING", "gzip", "Content-Length", "5,6", "b", "c", "Transfer-Encoding", "", "Transfer-Encoding", "chunked"),
	}
	for _, l := range lists {
		checkFields(t, l, api.Frame{Kind: 0}, a, nil)
		checkFields(t, l, api.Frame{Kind: 3}, a, nil)
		checkFields(t, l, api.Frame{Kind: 2}, fieldsOf("Host", "a", "b", "c", "Transfer-Encoding", "chunked"), nil)
		checkFields(t, l, api.Frame{Kind: 1}, fieldsOf("Host", "a", "b", "c", "Content-Length", "0"), nil)
		checkFields(t, l, api.Frame{Kind: 1, Length: 1}, fieldsOf("Host", "a", "b", "c", "Content-Length", "1"), nil)
		checkFields(t, l, api.Frame{Kind: 1, Length: 120}, fieldsOf("Host", "a", "b", "c", "Content-Length", "120"), nil)
		checkFields(t, l, api.Frame{Kind: 1, Length: greatest}, fieldsOf("Host", "a", "b", "c", "Content-Length", "1099511627776"), nil)
	}
}

// FR4: lists of which nothing stays, or in which nothing stands.
func TestFieldsOfNone(t *testing.T) {
	for _, l := range [][]api.Field{nil, {}, lengths("5"), lengths("5", "6"), codings("chunked"), codings("", "x"), append(lengths(""), codings("")...)} {
		checkFields(t, l, api.Frame{}, nil, nil)
		checkFields(t, l, api.Frame{Kind: 3}, nil, nil)
		checkFields(t, l, api.Frame{Kind: 1, Length: 7}, lengths("7"), nil)
		checkFields(t, l, api.Frame{Kind: 2}, codings("chunked"), nil)
	}
}

// FR4: names that are nearly one of both stay, in their order and as they are, twins too.
func TestFieldsThatStay(t *testing.T) {
	l := fieldsOf("Content-Lengt", "1", "Content-Length ", "2", "Content_Length", "3", "", "4", "Transfer-Encodin", "5", "TransferEncoding", "6", "a", "7", "a", "7", "A", " \r\n", "Trailer", "x", "TE", "trailers", "\xff:", "\x00", "Content-Encoding", "gzip", "Connection", "Content-Length", "Transfer\u2010Encoding", "8")
	for _, f := range []api.Frame{{}, {Kind: 3}} {
		checkFields(t, l, f, l, nil)
	}
	checkFields(t, l, api.Frame{Kind: 2}, append(slices.Clone(l), codings("chunked")...), nil)
	many := slices.Repeat(fieldsOf("a", "1", "Content-Length", "5", "b", "2", "transfer-encoding", "x"), 1000)
	checkFields(t, many, api.Frame{Kind: 1, Length: 3}, append(slices.Repeat(fieldsOf("a", "1", "b", "2"), 1000), lengths("3")...), nil)
}

// FR4: framings that can't be, with fields that are right and fields that are wrong.
func TestFieldsOfWrongFrames(t *testing.T) {
	far := []int{-1, 4, 5, 255, 256, 257, -256, 1 << 32, 1<<32 + 1, math.MinInt, math.MaxInt}
	for _, l := range [][]api.Field{nil, fieldsOf("a", "b"), lengths("5"), codings("x")} {
		for _, kind := range far {
			for _, length := range []int{0, 1, greatest, -1, greatest + 1} {
				checkFields(t, l, api.Frame{Kind: kind, Length: length}, nil, api.ErrArg)
			}
		}
		for _, length := range []int{-1, -5, greatest + 1, 1 << 41, math.MinInt, math.MaxInt} {
			for kind := range 4 {
				checkFields(t, l, api.Frame{Kind: kind, Length: length}, nil, api.ErrArg)
			}
		}
		for _, kind := range []int{0, 2, 3} {
			for _, length := range []int{1, 2, greatest, greatest - 1} {
				checkFields(t, l, api.Frame{Kind: kind, Length: length}, nil, api.ErrArg)
			}
		}
	}
}

// roomy is n fields, of which those of a set of places are of a framing, with so much room behind them, in which others stand.
func roomy(n, places, room int) []api.Field {
	var l []api.Field
	for i := range n + room {
		f := api.Field{Name: strings.Clone("b"), Value: strings.Repeat("v", i+1)}
		if places>>i&1 == 1 {
			f.Name = []string{"Content-Length", "transfer-encoding"}[i%2]
		}
		l = append(l, f)
	}
	return slices.Clip(l)[:n]
}

// spoil changes fields, and the room behind them.
func spoil(l []api.Field) {
	for i := range l[:cap(l)] {
		l[:cap(l)][i] = api.Field{Name: "spoilt", Value: "spoilt"}
	}
}

// FR4, rule 3: fields stay as they were, and so does the room behind them; what is answered is new memory, its room too, also where nothing was left out.
func TestFieldsAreNewMemory(t *testing.T) {
	for n := range 6 {
		for places := range 1 << n {
			for room := range 4 {
				for kind := range 4 {
					f := api.Frame{Kind: kind}
					l := roomy(n, places, room)
					before := slices.Clone(l[:cap(l)])
					got, _ := Fields(l, f)
					again, _ := Fields(l, f)
					spoil(got)
					spoil(append(got, api.Field{Name: "more"}))
					if !slices.Equal(l[:cap(l)], before) {
						t.Fatalf("%q became %q", before, l[:cap(l)])
					}
					want, _ := ofFields(before[:n], f)
					spoil(l)
					if !slices.Equal(again, want) {
						t.Fatalf("%q, %d: %q, not %q", before, kind, again, want)
					}
				}
			}
		}
	}
}

// within tells whether a text stands in the memory of another.
func within(part, whole string) bool {
	if part == "" || whole == "" {
		return false
	}
	from := uintptr(unsafe.Pointer(unsafe.StringData(whole)))
	at := uintptr(unsafe.Pointer(unsafe.StringData(part)))
	return at >= from && at < from+uintptr(len(whole))
}

// Rule 3: no text that is answered is a piece of one that was handed in.
func TestTextsAreNewMemory(t *testing.T) {
	l := fieldsOf(strings.Repeat("n", 3), strings.Repeat("v", 3), "Content-Length", "5", strings.Repeat("m", 3), strings.Repeat("w", 3))
	for kind := range 4 {
		got, _ := Fields(l, api.Frame{Kind: kind})
		for _, f := range got[:2] {
			for _, g := range l {
				if within(f.Name, g.Name) || within(f.Value, g.Value) {
					t.Errorf("%q stands in the memory of %q", f, g)
				}
			}
		}
	}
}
