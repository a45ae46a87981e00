package chunk

import (
	"bytes"
	"fmt"
	"slices"
	"strings"
	"testing"
	"turnstile/api"
)

// CK4: a chunk's size stands in small digits, without noughts ahead; of no bytes there is no chunk.
func TestEncode(t *testing.T) {
	for _, none := range [][]byte{nil, {}, []byte("abc")[:0]} {
		if got := Encode(none); len(got) != 0 {
			t.Errorf("Encode(%q) = %q", none, got)
		}
	}
	for n, size := range map[int]string{1: "1", 9: "9", 10: "a", 15: "f", 16: "10", 17: "11", 26: "1a", 171: "ab", 255: "ff", 256: "100", 4095: "fff", 4096: "1000", 65535: "ffff", 65536: "10000", 703710: "abcde"} {
		b := strings.Repeat("x", n)
		if got := string(Encode([]byte(b))); got != size+"\r\n"+b+"\r\n" {
			t.Errorf("Encode of %d bytes = %q", n, short(got))
		}
	}
	for n := 1; n < 2000; n++ {
		b := newMaker(int64(n)).bytes(n) + "\r"
		if got := string(Encode([]byte(b))); got != fmt.Sprintf("%x\r\n%s\r\n", len(b), b) {
			t.Errorf("Encode(%q) = %q", b, got)
		}
	}
	for c := range 256 {
		if got := string(Encode([]byte{byte(c)})); got != "1\r\n"+one(c)+"\r\n" {
			t.Errorf("Encode of byte %d = %q", c, got)
		}
	}
}

func checkLast(t *testing.T, l []api.Field, want string, wantErr error) {
	t.Helper()
	got, err := Last(l)
	if string(got) != want || err != wantErr || err != nil && got != nil {
		t.Errorf("Last(%s) = %q, %v, not %q, %v", short(fmt.Sprintf("%q", l)), short(string(got)), err, short(want), wantErr)
	}
}

// CK4: the last chunk, with fields that may be written.
func TestLast(t *testing.T) {
	for _, none := range [][]api.Field{nil, {}, fieldsOf("a", "b")[:0]} {
		checkLast(t, none, "0\r\n\r\n", nil)
	}
	checkLast(t, fieldsOf("X", "1"), "0\r\nX: 1\r\n\r\n", nil)
	checkLast(t, fieldsOf("X", ""), "0\r\nX: \r\n\r\n", nil)
	checkLast(t, fieldsOf("b", "1", "A", "2", "b", "1"), "0\r\nb: 1\r\nA: 2\r\nb: 1\r\n\r\n", nil)
	checkLast(t, fieldsOf(tokenBytes, "a \t b", "~", ":"), "0\r\n"+tokenBytes+": a \t b\r\n~: :\r\n\r\n", nil)
	for _, value := range []string{"", "a", "a b", "a\tb", "\x80", "\xff", "\xa0", "é", ":", ": a", ",,", "\"a\"", "!", "~"} {
		checkLast(t, fieldsOf("x", value), "0\r\nx: "+value+"\r\n\r\n", nil)
		checkLast(t, fieldsOf("x", value, "Y", value), "0\r\nx: "+value+"\r\nY: "+value+"\r\n\r\n", nil)
	}
}

// CK4: names and values that may not be written, whichever field they are of.
func TestLastOfWrongFields(t *testing.T) {
	for at := range 3 {
		for _, name := range []string{"", " ", "a b", " a", "a ", "a\t", ":", "a:", ":a", "a:b", "\r\n", "a\r\nb", "é", "\xff", "\x00", "(", "a/b", "\"a\"", "a=b", "@", "[", "{"} {
			l := fieldsOf("a", "1", "b", "2", "c", "3")
			l[at].Name = name
			checkLast(t, l, "", api.ErrField)
		}
		for _, value := range []string{" ", "\t", " \t", " a", "\ta", "a ", "a\t", " a ", "\x80 ", " \xff", "\r", "\n", "\r\n", "a\rb", "a\nb", "a\r\n b", "a\r\n\r\n", "\x00", "a\x00b", "\x7f", "a\x7fb", "\x1f", "\x0b"} {
			l := fieldsOf("a", "1", "b", "2", "c", "3")
			l[at].Value = value
			checkLast(t, l, "", api.ErrField)
		}
	}
}

// CK4: each byte in a name and in a value.
func TestLastOfEveryByte(t *testing.T) {
	names, values := 0, 0
	for c := range 256 {
		for _, s := range []string{one(c), one(c) + "a", "a" + one(c), "a" + one(c) + "b"} {
			name, value := fieldsOf(s, "v"), fieldsOf("n", s)
			if tokenByte(byte(c)) {
				checkLast(t, name, "0\r\n"+s+": v\r\n\r\n", nil)
				names++
			} else {
				checkLast(t, name, "", api.ErrField)
			}
			if valueByte(byte(c)) && strings.Trim(s, " \t") == s {
				checkLast(t, value, "0\r\nn: "+s+"\r\n\r\n", nil)
				values++
			} else {
				checkLast(t, value, "", api.ErrField)
			}
		}
	}
	if names != 4*77 || values != 4*222+2 {
		t.Errorf("%d names and %d values may be written", names, values)
	}
}

// CK4: MaxFields fields, and no more.
func TestLastOfManyFields(t *testing.T) {
	for n := range 70 {
		l := slices.Repeat(fieldsOf("a", "b"), n)
		if n <= 64 {
			checkLast(t, l, "0\r\n"+strings.Repeat("a: b\r\n", n)+"\r\n", nil)
		} else {
			checkLast(t, l, "", api.ErrField)
		}
	}
	checkLast(t, slices.Repeat(fieldsOf("a", "b"), 20000), "", api.ErrField)
}

// linesOf is fields of which the lines have so many bytes, and these lines.
func linesOf(n, few int, name bool) ([]api.Field, string) {
	l := slices.Repeat(fieldsOf("a", "b"), few)
	long := strings.Repeat("x", n-6*few-5)
	last := api.Field{Name: "n", Value: long}
	if name {
		last = api.Field{Name: long, Value: "v"}
	}
	return append(l, last), strings.Repeat("a: b\r\n", few) + last.Name + ": " + last.Value + "\r\n"
}

// CK4: lines of 8,192 bytes, and no more.
func TestLastOfLongLines(t *testing.T) {
	for _, few := range []int{0, 1, 30, 63} {
		for _, name := range []bool{false, true} {
			for n := 8186; n < 8200; n++ {
				l, lines := linesOf(n, few, name)
				if len(lines) != n {
					t.Fatalf("%d bytes, not %d", len(lines), n)
				}
				if n <= 8192 {
					checkLast(t, l, "0\r\n"+lines+"\r\n", nil)
				} else {
					checkLast(t, l, "", api.ErrSize)
				}
			}
			for _, n := range []int{10000, 65536, 1 << 20} {
				l, _ := linesOf(n, few, name)
				checkLast(t, l, "", api.ErrSize)
			}
		}
	}
	checkLast(t, slices.Repeat(fieldsOf("a", strings.Repeat("v", 123)), 64), "0\r\n"+strings.Repeat("a: "+strings.Repeat("v", 123)+"\r\n", 64)+"\r\n", nil)
	checkLast(t, slices.Repeat(fieldsOf("a", strings.Repeat("v", 124)), 64), "", api.ErrSize)
}

// CK4: of fields that are wrong in both ways ErrField is told.
func TestLastOfBothFaults(t *testing.T) {
	long := strings.Repeat("x", 9000)
	checkLast(t, fieldsOf("a", long), "", api.ErrSize)
	for _, l := range [][]api.Field{fieldsOf("a", long, "b", " "), fieldsOf("", long), fieldsOf("a", long+" "), fieldsOf("a", long, "", ""), fieldsOf(long+":", ""), slices.Repeat(fieldsOf("a", long), 65)} {
		checkLast(t, l, "", api.ErrField)
	}
}

// CK4: bodies that are whole, with bytes left over, with an error, and at no end.
func TestWhole(t *testing.T) {
	checkWhole(t, 3, "3\r\nabc\r\n0\r\nX: 1\r\n\r\n", answer{taken: 19, body: "abc", trailers: fieldsOf("X", "1"), done: true})
	checkWhole(t, 3, "0\r\n\r\n0\r\n\r\n", answer{taken: 5, done: true})
	checkWhole(t, 9, "3\r\nabc\r\n0\r\n\r\n\r\n", answer{taken: 13, body: "abc", done: true})
	checkWhole(t, 9, "3\r\nabc\r\n0\r\nX: 1\r\nY", answer{taken: 18, err: api.ErrChunk})
	checkWhole(t, 9, "3\r\nabc\r\n0\r\nX: 1\r\nY:\n", answer{taken: 20, err: api.ErrField})
	checkWhole(t, 9, "3\r\nabcd\r\n", answer{taken: 7, err: api.ErrChunk})
	checkWhole(t, 2, "3\r\nabcd\r\n", answer{taken: 3, err: api.ErrBody})
	for _, none := range []string{"", "3", "3\r", "3\r\n", "3\r\na", "3\r\nabc", "3\r\nabc\r", "3\r\nabc\r\n", "3\r\nabc\r\n0\r\n\r", "0\r\nX: 1", "0\r\nX: 1\r\n"} {
		checkWhole(t, 9, none, answer{taken: len(none), err: api.ErrChunk})
	}
	if body, trailers, n, err := Whole(nil, 9); body != nil || trailers != nil || n != 0 || err != api.ErrChunk {
		t.Errorf("Whole(nil, 9) = %q, %q, %d, %v", body, trailers, n, err)
	}
}

// Rule 2: beside an error nothing is told but how many bytes were taken.
func TestWholeBesideErrors(t *testing.T) {
	for _, s := range []string{"3\r\nabc\r\n0\r\nX: 1\r\n", "3\r\nabc\r\nx", "3\r\nabc\r\n0\r\nX: 1\r\nY\r", "3\r\nabc\r\n9\r\n", "3\r\nabc\r\n0\r\nX: 1\r\nY:" + strings.Repeat("y", 9000)} {
		if body, trailers, n, err := Whole([]byte(s), 9); body != nil || trailers != nil || n == 0 || err == nil {
			t.Errorf("Whole(%q, 9) = %q, %q, %d, %v", short(s), body, trailers, n, err)
		}
	}
}

// Rule 3: what is encoded stays as it was, and what is answered is new memory, its room too.
func TestEncodedIsNewMemory(t *testing.T) {
	for n := range 300 {
		room := bytes.Repeat([]byte("ab"), n)
		b := room[:n]
		got, again := Encode(b), Encode(b)
		want := string(got)
		spoil(got)
		spoil(append(got, '!'))
		if string(room) != strings.Repeat("ab", n) || string(again) != want {
			t.Errorf("%d bytes became %q, %q", n, room, again)
		}
		spoil(b)
		if string(again) != want {
			t.Errorf("Encode shares its memory with its argument: %q", again)
		}
	}
	l := slices.Repeat(fieldsOf("a", "b"), 8)[:4]
	before := slices.Clone(l[:cap(l)])
	got, _ := Last(l)
	again, _ := Last(l)
	spoil(got)
	spoil(append(got, '!'))
	if string(again) != "0\r\n"+strings.Repeat("a: b\r\n", 4)+"\r\n" || !slices.Equal(l[:cap(l)], before) {
		t.Errorf("%q, %q", again, l[:cap(l)])
	}
	none, _ := Last(nil)
	spoil(none)
	checkLast(t, nil, "0\r\n\r\n", nil)
}
