package chunk

import (
	"fmt"
	"slices"
	"strings"
	"testing"
	"turnstile/api"
)

// rest is what makes a whole body of a chunk's size line that tells 0.
const rest = "\r\n\r\n"

// CK2: a size has 1 to 16 digits.
func TestSizes(t *testing.T) {
	for digits, n := range map[string]int{"1": 1, "9": 9, "a": 10, "A": 10, "f": 15, "F": 15, "10": 16, "1f": 31, "1F": 31, "fF": 255, "Ff": 255, "0A": 10, "00000000000000aB": 171, "0000000000000001": 1, "100": 256} {
		b := strings.Repeat("x", n)
		checkEnds(t, n, digits+"\r\n"+b+"\r\n0"+rest, len(digits)+n+9, b)
		checkFault(t, n-1, digits+"\r\n"+b, len(digits)+2, api.ErrBody, "")
	}
	for n := range 16 {
		noughts := strings.Repeat("0", n+1)
		checkEnds(t, 0, noughts+rest, n+5, "")
		checkEnds(t, 1, noughts[:n]+"1\r\nx\r\n"+noughts+rest, 2*n+11, "x")
	}
	for _, digits := range []string{"00000000000000000", "0000000000000000f", "00000000000000001", "11111111111111111", "ffffffffffffffff0"} {
		checkFault(t, 10, digits+"\r\n", 17, api.ErrChunk, "")
		checkFault(t, 10, "1\r\nx\r\n"+digits, 23, api.ErrChunk, "x")
	}
	for _, text := range []string{"\r\n", "\n", ";", ";x\r\n", " 1\r\n", "\t", "-1", "+1", "x1", "g", "G", "/", ":", "@", "`", "\x00", "\xff", "é"} {
		checkFault(t, 10, text, 1, api.ErrChunk, "")
		checkFault(t, 10, "1\r\nx\r\n"+text, 7, api.ErrChunk, "x")
	}
	for _, text := range []string{"0x1", "1.", "1g", "1G", "1/", "1:", "1@", "1`", "1,", "1\x00", "1\x80", "1\n", "1=", "1\"", "1\x0b"} {
		checkFault(t, 10, text, 2, api.ErrChunk, "")
	}
}

// CK2: each byte at the begin of a size, in it, behind as many digits as may be, and behind it.
func TestEveryByteInSizes(t *testing.T) {
	var first, later, last int
	for c := range 256 {
		for _, ahead := range []string{"", "0", "00", strings.Repeat("0", 15), strings.Repeat("0", 16)} {
			checkAll(t, 300, ahead+one(c)+"\r\nx")
			checkAll(t, 300, "2\r\nab\r\n"+ahead+one(c)+rest)
		}
		for ahead, count := range map[string]*int{"": &first, "0": &later, "0000000000000000": &last} {
			if _, _, _, err := newReader(t, 300).Feed([]byte(ahead + one(c))); err == nil {
				*count++
			}
		}
	}
	if first != 22 || later != 26 || last != 4 {
		t.Errorf("%d, %d, %d bytes go", first, later, last)
	}
}

// CK2: a size of which the number is greater than any body may have.
func TestGreatSizes(t *testing.T) {
	for _, digits := range []string{"ffffffffffffffff", "8000000000000000", "8000000000000001", "7fffffffffffffff", "7FFFFFFFFFFFFFFF", "fffffffffffffffe", "1000000000000000", "0100000000000000", "100000000", "10000000000", "ffffffff"} {
		for _, most := range []int{0, 1, 1 << 20} {
			checkFault(t, most, digits+"\r\nabc", len(digits)+2, api.ErrBody, "")
			checkFault(t, most+1, "1\r\nx\r\n"+digits+";y\r\n", len(digits)+10, api.ErrBody, "x")
		}
	}
	checkFault(t, 1<<40, "10000000001\r\n", 13, api.ErrBody, "")
	checkBegun(t, 1<<40, "10000000000\r\n", "")
	checkBegun(t, 1<<40, "1\r\nx\r\nffffffffff\r\n", "x")
	checkFault(t, 1<<40, "1\r\nx\r\n10000000000\r\n", 19, api.ErrBody, "x")
	checkFault(t, 1<<40-1, "10000000000\r\n", 13, api.ErrBody, "")
}

// CK2: a body of most bytes, and of one more, in one chunk and in several.
func TestMost(t *testing.T) {
	for most := range 40 {
		exact, more := strings.Repeat("x", most), fmt.Sprintf("%x", most+1)
		checkFault(t, most, more+"\r\n"+exact+"y", len(more)+2, api.ErrBody, "")
		checkEnds(t, most, string(Encode([]byte(exact)))+"0"+rest, len(Encode([]byte(exact)))+5, exact)
		row := strings.Repeat("1\r\nx\r\n", most)
		checkEnds(t, most, row+"0"+rest, len(row)+5, exact)
		checkFault(t, most, row+"1\r\nx", len(row)+3, api.ErrBody, exact)
		checkFault(t, most, row+"01;z\r\nx", len(row)+6, api.ErrBody, exact)
		if most > 1 {
			two := "1\r\nx\r\n" + fmt.Sprintf("%x", most-1) + "\r\n" + exact[1:] + "\r\n"
			checkEnds(t, most, two+"0"+rest, len(two)+5, exact)
			checkFault(t, most, two+more+"\r\n", len(two)+len(more)+2, api.ErrBody, exact)
			checkFault(t, most-1, two, len(two)-len(exact[1:])-2, api.ErrBody, "x")
		}
	}
	checkFault(t, 0, "1\r\n", 3, api.ErrBody, "")
	checkFault(t, 0, "1\n", 2, api.ErrChunk, "")
	checkFault(t, 0, "1\r\r", 3, api.ErrChunk, "")
}

// CK2: extensions of 1 to 256 bytes.
func TestExtensions(t *testing.T) {
	for _, first := range []string{";", " ", "\t"} {
		for n := range 260 {
			extension := first + strings.Repeat("e", n)
			if n <= 255 {
				checkEnds(t, 1, "0"+extension+rest, n+6, "")
				checkEnds(t, 1, "1"+extension+"\r\nx\r\n00"+extension+rest, 2*n+14, "x")
			} else {
				checkFault(t, 1, "0"+extension+rest, 258, api.ErrChunk, "")
				checkFault(t, 1, "1\r\nx\r\n0000"+extension+rest, 267, api.ErrChunk, "x")
			}
		}
		for _, more := range []string{";", " ", "\t", "; a = \"b;c\" ", "\xff\x80", "x=\\\"", "1", "::", " \t \t", "é"} {
			checkEnds(t, 1, "0"+first+more+rest, len(more)+6, "")
		}
		for _, wrong := range []string{"\n", "\x00", "\x7f", "\x1f", "\x0b", "\r\r", "\rx", "\r;"} {
			checkFault(t, 1, "0"+first+wrong+"\n\r\n", 2+len(wrong), api.ErrChunk, "")
			checkFault(t, 1, "0"+first+"ab"+wrong+"\n\r\n", 4+len(wrong), api.ErrChunk, "")
		}
		full := "0" + first + strings.Repeat("\x80", 255)
		for c := range 256 {
			checkAll(t, 9, "0"+first+one(c)+rest)
			checkAll(t, 9, "0"+first+"x"+one(c)+"y"+rest)
			checkAll(t, 9, full+one(c)+"\n\r\n")
			checkAll(t, 9, full[:256]+one(c)+rest)
		}
	}
}

// CK2: an extension goes on with the bytes of a value and 13, and, when it is full, with 13 alone.
func TestHowManyBytesGoInExtensions(t *testing.T) {
	for n, want := range map[int]int{0: 225, 1: 225, 254: 225, 255: 1} {
		goes := 0
		for c := range 256 {
			if _, _, _, err := newReader(t, 9).Feed([]byte("1;" + strings.Repeat("x", n) + one(c))); err == nil {
				goes++
			}
		}
		if goes != want {
			t.Errorf("behind %d bytes %d go", n, goes)
		}
	}
}

// CK2: where a line's end must stand, each byte but its own spoils the body.
func TestLineEnds(t *testing.T) {
	places := []struct {
		ahead string
		must  byte
		err   error
		body  string
		told  []string
	}{
		{"0\r", '\n', api.ErrChunk, "", nil},
		{"3;x\r", '\n', api.ErrChunk, "", nil},
		{"9\r", '\n', api.ErrChunk, "", nil},
		{"1\r\na", '\r', api.ErrChunk, "a", nil},
		{"2\r\n\r\n", '\r', api.ErrChunk, "\r\n", nil},
		{"1\r\na\r", '\n', api.ErrChunk, "a", nil},
		{"0\r\n\r", '\n', api.ErrField, "", nil},
		{"1\r\na\r\n0\r\nX:y\r", '\n', api.ErrField, "a", nil},
		{"0\r\nX:y\r\nZ:\r", '\n', api.ErrField, "", []string{"X", "y"}},
		{"0\r\nX:y\r\n\r", '\n', api.ErrField, "", []string{"X", "y"}},
	}
	for _, p := range places {
		for c := range 256 {
			if byte(c) != p.must {
				checkFault(t, 8, p.ahead+one(c)+"\n", len(p.ahead)+1, p.err, p.body, p.told...)
			} else if _, _, _, err := newReader(t, 9).Feed([]byte(p.ahead + one(c))); err != nil {
				t.Errorf("%q: %v", p.ahead+one(c), err)
			}
		}
	}
}

// CK2: a bare 10 never ends a line.
func TestBareTen(t *testing.T) {
	checkFault(t, 9, "0\n", 2, api.ErrChunk, "")
	checkFault(t, 9, "0;x\n", 4, api.ErrChunk, "")
	checkFault(t, 9, "1\r\na\n", 5, api.ErrChunk, "a")
	checkFault(t, 9, "0\r\n\n", 4, api.ErrField, "")
	checkFault(t, 9, "0\r\nX\n", 5, api.ErrField, "")
	checkFault(t, 9, "0\r\nX:\n", 6, api.ErrField, "")
	checkFault(t, 9, "0\r\nX:y\n", 7, api.ErrField, "")
	checkFault(t, 9, "0\r\nX:y\r\n\n", 9, api.ErrField, "", "X", "y")
}

// CK1, CK2: trailers that go well, with blanks around their values.
func TestTrailers(t *testing.T) {
	checkEnds(t, 0, "0\r\nX:1\r\n\r\n", 10, "", "X", "1")
	checkEnds(t, 0, "0\r\nX:\r\n\r\n", 9, "", "X", "")
	checkEnds(t, 0, "0\r\nX: \t \r\n\r\n", 12, "", "X", "")
	checkEnds(t, 0, "0\r\nX:\t a b\t c \t\r\nX: 2\r\nx:3\r\n\r\n", 30, "", "X", "a b\t c", "X", "2", "x", "3")
	checkEnds(t, 0, "0\r\n"+tokenBytes+":::\r\n\r\n", 87, "", tokenBytes, "::")
	checkEnds(t, 0, "0\r\nX:\x80\xff~ !\r\n\r\n", 14, "", "X", "\x80\xff~ !")
	checkEnds(t, 0, "0\r\nContent-Length: 5\r\nTransfer-Encoding: chunked\r\n\r\n", 52, "", "Content-Length", "5", "Transfer-Encoding", "chunked")
}

// CK2: trailers that are none, and the byte at which it shows.
func TestWrongTrailers(t *testing.T) {
	for line, at := range map[string]int{
		"x\r\n": 2, "abc\r\n": 4, ":\r\n": 1, ": v\r\n": 1, " x: 1\r\n": 1, "\tx: 1\r\n": 1, "x : 1\r\n": 2, "x\t: 1\r\n": 2, "x y: 1\r\n": 2,
		"\n": 1, "x\n": 2, "x:\n": 3, "x:a\n": 4, "x:\r\r": 4, "x:a\r ": 5, "\r\r": 2, "\rx": 2, "\r:": 2, "x:\x00": 3, "x:a\x7f": 4, "x:a\x1f": 4, "x:a\x0b": 4,
		"(x): 1\r\n": 1, "x/y: 1\r\n": 2, "é: 1\r\n": 1, "\x00": 1, "x\x00:": 2, "x\x80:": 2, "\"x\": 1": 1, "x@:": 2, "x=1": 2, "x;": 2,
	} {
		checkFault(t, 9, "0\r\n"+line, 3+at, api.ErrField, "")
		checkFault(t, 9, "1\r\nz\r\n00;e\r\n"+line, 12+at, api.ErrField, "z")
		checkFault(t, 9, "0\r\nA: 1\r\nB:2\r\n"+line, 14+at, api.ErrField, "", "A", "1", "B", "2")
	}
}

// CK2: each byte at each place of a trailer's line.
func TestEveryByteInTrailers(t *testing.T) {
	var first, name, value int
	for c := range 256 {
		for _, ahead := range []string{"", "x", "x:", "x: ", "x:y", "x:y ", "x:y\r", "x:y\r\n", "x:y\r\n\r", "x:y\r\nz"} {
			checkAll(t, 9, "0\r\n"+ahead+one(c))
			checkAll(t, 9, "0\r\n"+ahead+one(c)+":\r\n\r\n")
			checkAll(t, 9, "0\r\n"+ahead+one(c)+"\r\n\r\n")
		}
		for ahead, count := range map[string]*int{"": &first, "x": &name, "x:": &value} {
			if _, _, _, err := newReader(t, 9).Feed([]byte("0\r\n" + ahead + one(c))); err == nil {
				*count++
			}
		}
	}
	if first != 78 || name != 78 || value != 225 {
		t.Errorf("%d, %d, %d bytes go", first, name, value)
	}
}

// CK2: MaxFields trailers, and no more: the first byte of one more is the wrong one, whatever it is.
func TestHowManyTrailers(t *testing.T) {
	for n := range 70 {
		l := slices.Repeat([]string{"a", "b"}, n)
		s := "0\r\n" + strings.Repeat("a: b\r\n", n) + "\r\n"
		if n <= 64 {
			checkEnds(t, 0, s, len(s), "", l...)
		} else {
			checkFault(t, 0, s, 3+64*6+1, api.ErrField, "", l[:128]...)
		}
	}
	full := "0\r\n" + strings.Repeat("a:\r\n", 64)
	for c := range 256 {
		if c != '\r' {
			checkFault(t, 0, full+one(c)+":\r\n\r\n", len(full)+1, api.ErrField, "", slices.Repeat([]string{"a", ""}, 64)...)
		}
	}
	checkFault(t, 0, full+"\rx", len(full)+2, api.ErrField, "", slices.Repeat([]string{"a", ""}, 64)...)
}

// trailersOf is trailers' lines of so many bytes in all: so many short ones, and a long one.
func trailersOf(bytes, short int) (string, []string) {
	var l []string
	lines := ""
	for range short {
		l = append(l, "a", "b")
		lines += "a: b\r\n"
	}
	value := strings.Repeat("v", bytes-len(lines)-len("x:\r\n"))
	return lines + "x:" + value + "\r\n", append(l, "x", value)
}

// checkOnce holds a text that is too long for a byte a feed.
func checkOnce(t *testing.T, s string, want answer) {
	t.Helper()
	got := check(t, 9, s)
	for _, size := range []int{1, 1000, 8195} {
		r := newReader(t, 9)
		taken, told := 0, ""
		for at := 0; at < len(s); at += size {
			n, body, _, _ := r.Feed([]byte(s[at:min(at+size, len(s))]))
			taken += n
			told += string(body)
		}
		if taken != want.taken || told != want.body {
			t.Errorf("%q in pieces of %d bytes: %d, %q", short(s), size, taken, told)
		}
		checkFeed(t, r, nil, want, want)
	}
	checkWhole(t, 9, s, want)
	if !got.same(want) {
		t.Errorf("%q: %v, not %v", short(s), got, want)
	}
}

// CK2: trailers of 8,192 bytes, and of more: byte 8,193 is the wrong one, whatever it is, where it is not the last line's end.
func TestLongTrailers(t *testing.T) {
	for _, begin := range []string{"0\r\n", "1;x\r\nz\r\n00\t\r\n"} {
		body := of(begin, 9).body
		for _, few := range []int{0, 1, 30, 63} {
			for n := 8185; n < 8200; n++ {
				lines, l := trailersOf(n, few)
				s := begin + lines + "\r\nmore"
				if n <= 8192 {
					checkOnce(t, s, answer{taken: len(s) - 4, body: body, trailers: fieldsOf(l...), done: true})
				} else {
					checkOnce(t, s, answer{taken: len(begin) + 8193, body: body, trailers: fieldsOf(l[:2*few]...), err: api.ErrSize})
				}
			}
		}
	}
	for _, n := range []int{8192, 9000, 1 << 16} {
		checkOnce(t, "0\r\n"+strings.Repeat("n", n), answerOf(min(3+n, 8196), n))
		checkOnce(t, "0\r\nn:"+strings.Repeat(" ", n-2), answerOf(min(3+n, 8196), n))
		checkOnce(t, "0\r\nn:"+strings.Repeat("v", n-2), answerOf(min(3+n, 8196), n))
	}
}

// answerOf is that of one trailer's line of so many bytes that has no end.
func answerOf(taken, n int) answer {
	if n > 8192 {
		return answer{taken: taken, err: api.ErrSize}
	}
	return answer{taken: taken}
}

// CK2: what byte 8,193 is doesn't count, but for the 13 of the last line's end.
func TestEveryByteBehindLongTrailers(t *testing.T) {
	lines, l := trailersOf(8192, 2)
	many, all := trailersOf(8192, 63)
	for c := range 256 {
		size := answer{taken: 3 + 8193, err: api.ErrSize}
		checkAtOnce(t, "0\r\n"+strings.Repeat("n", 8192)+one(c), size)
		checkAtOnce(t, "0\r\nn:"+strings.Repeat("v", 8190)+one(c), size)
		checkAtOnce(t, "0\r\nn:"+strings.Repeat("v", 8189)+"\r"+one(c), size)
		checkAtOnce(t, "0\r\na: b\r\nn:"+strings.Repeat("v", 8184)+one(c)+"\r\n", answer{taken: 3 + 8193, trailers: fieldsOf("a", "b"), err: api.ErrSize})
		ends := answer{taken: 3 + 8193, trailers: fieldsOf(l...)}
		full := answer{taken: 3 + 8193, trailers: fieldsOf(all...)}
		if c != '\r' {
			ends.err, full.err = api.ErrSize, api.ErrSize
		}
		checkAtOnce(t, "0\r\n"+lines+one(c), ends)
		checkAtOnce(t, "0\r\n"+many+one(c), full)
		last := answer{taken: 3 + 8194, trailers: fieldsOf(l...), done: c == '\n'}
		if !last.done {
			last.err = api.ErrField
		}
		checkAtOnce(t, "0\r\n"+lines+"\r"+one(c), last)
	}
}

// checkAtOnce holds a long text in two feeds, cut ahead of its last byte.
func checkAtOnce(t *testing.T, s string, want answer) {
	t.Helper()
	if got := check(t, 9, s[:len(s)-1], s[len(s)-1:]); !got.same(want) {
		t.Fatalf("%q: %v, not %v", short(s), got, want)
	}
}
