package frame

import (
	"slices"
	"strconv"
	"strings"
	"testing"
	"turnstile/api"
)

// FR1, the chapter's examples.
func TestExamples(t *testing.T) {
	checkLength(t, lengths("5, 5"), 5, true, nil)
	for _, value := range []string{"5, 6", "+5", ""} {
		checkLength(t, lengths(value), 0, false, api.ErrForm)
	}
	both := fieldsOf("Content-Length", "5", "Transfer-Encoding", "chunked")
	checkRequest(t, api.Request{Method: "POST", Target: "/", Minor: 1, Fields: both}, api.Frame{}, api.ErrFrame)
	checkResponse(t, "GET", api.Response{Status: 200, Minor: 1, Fields: both}, api.Frame{}, api.ErrFrame)
	checkResponse(t, "HEAD", api.Response{Status: 200, Minor: 1, Fields: lengths("9")}, api.Frame{Kind: api.FrameNone}, nil)
}

// FR1: no field of the name is no length, whatever else stands there; a length of 0 is one.
func TestNoLength(t *testing.T) {
	for _, l := range [][]api.Field{nil, {}, fieldsOf("Host", "5"), fieldsOf("Length", "5", "Content", "5"), codings("5"), fieldsOf("", "5")} {
		checkLength(t, l, 0, false, nil)
	}
	checkLength(t, lengths("0"), 0, true, nil)
	for _, name := range []string{"Content-Lengt", "Content-Lengthh", "Content-Length ", " Content-Length", "Content_Length", "Content Length", "ContentLength", "Content-Length:", "X-Content-Length", "Content-Length\x00", "Content\u2010Length"} {
		checkLength(t, fieldsOf(name, "5"), 0, false, nil)
		checkLength(t, fieldsOf(name, "x", "Content-Length", "6", name, ""), 6, true, nil)
	}
}

// FR1: the same number, however often, over one field and several, written in one way or another.
func TestLength(t *testing.T) {
	for _, values := range [][]string{{"5"}, {"05"}, {"00000005"}, {" 5"}, {"5\t"}, {"5,"}, {",5"}, {", ,5 ,\t,"}, {"5,5"}, {"5 , 5,05"}, {"5", "5"}, {"5", "005", " 5 ,5"}, {"5,5,5", "5"}, {strings.Repeat("5,", 1000)}, slices.Repeat([]string{"5"}, 1000), {strings.Repeat("0", 5000) + "5"}} {
		checkLength(t, lengths(values...), 5, true, nil)
	}
	for _, values := range [][]string{{"0"}, {"00"}, {"0,0"}, {"0", "00"}, {strings.Repeat("0", 5000)}} {
		checkLength(t, lengths(values...), 0, true, nil)
	}
	for n := range 3000 {
		checkLength(t, lengths(strconv.Itoa(n)), n, true, nil)
		checkLength(t, lengths(strconv.Itoa(n), "0"+strconv.Itoa(n)), n, true, nil)
	}
}

// FR1: up to MaxLength, and not one more.
func TestGreatLength(t *testing.T) {
	for _, value := range []string{"1099511627776", "01099511627776", "1099511627776, 1099511627776", strings.Repeat("0", 40) + "1099511627776"} {
		checkLength(t, lengths(value), greatest, true, nil)
	}
	checkLength(t, lengths("1099511627775"), greatest-1, true, nil)
	for _, value := range []string{
		"1099511627777", "01099511627777", "10995116277760", "2199023255552", "9999999999999",
		"4294967296000000", "9223372036854775807", "9223372036854775808", "18446744073709551615", "18446744073709551616", "18446744073709551621",
		"36893488147419103237", strings.Repeat("9", 500), "1" + strings.Repeat("0", 5000),
	} {
		checkLength(t, lengths(value), 0, false, api.ErrForm)
		checkLength(t, lengths("5", value), 0, false, api.ErrForm)
		checkLength(t, lengths(value, value), 0, false, api.ErrForm)
		checkLength(t, lengths(value+",5"), 0, false, api.ErrForm)
	}
}

// FR1: values that are no numbers, alone and beside one that is.
func TestWrongLength(t *testing.T) {
	for _, value := range []string{"", " ", "\t", ",", ", ,", " ,\t, "} {
		checkLength(t, lengths(value), 0, false, api.ErrForm)
		checkLength(t, lengths(value, "5"), 0, false, api.ErrForm)
		checkLength(t, lengths("5", value), 0, false, api.ErrForm)
		checkLength(t, lengths("5", value, "5"), 0, false, api.ErrForm)
		checkLength(t, lengths(value, value), 0, false, api.ErrForm)
		checkLength(t, lengths("0", value), 0, false, api.ErrForm)
	}
	for _, value := range []string{
		"+5", "-5", "-0", "--5", "5-", "5+", "a", "5a", "a5", "0x5", "5e0", "5.0", "5.", ".5", "5 5", "5\t5", "5 ,5 5", "5;5", "5_0", "1_000", "\"5\"", "'5'",
		"5\r\n", "\n5", "5\x00", "\x005", "5\x0b", "\u00a05", "\u0665", "\uff15", "\xff", "5,6", "6,5", "5,5,6", "05,06", "0,1", "5,a", "a,5", "5,,+5", "5,-5", "chunked", "none", "5, 5, 5, 4",
	} {
		checkLength(t, lengths(value), 0, false, api.ErrForm)
		checkLength(t, lengths(value, "5"), 0, false, api.ErrForm)
		checkLength(t, lengths("5", value), 0, false, api.ErrForm)
	}
	for _, values := range [][]string{{"5", "6"}, {"6", "5"}, {"5", "5", "6"}, {"5,5", "5", "5,6"}, {"0", "1"}, {"0", "5"}, {"5", "0"}, {"1099511627776", "1099511627775"}, {"4294967301", "5"}} {
		checkLength(t, lengths(values...), 0, false, api.ErrForm)
	}
}

// FR1: every byte ahead of a digit, behind it, and between two.
func TestEveryByteOfLength(t *testing.T) {
	for c := range 256 {
		b := string([]byte{byte(c)})
		for _, value := range []string{b, b + "5", "5" + b, "5" + b + "5"} {
			checkAll(t, lengths(value))
		}
		for _, value := range []string{b, b + "chunked", "chunked" + b, "chunked" + b + "chunked", "chun" + b + "ed", "chun" + b + "ked"} {
			checkAll(t, codings(value))
		}
	}
}

// FR1: the place among others, and the size of the name's letters.
func TestPlaces(t *testing.T) {
	for _, name := range []string{"Content-Length", "content-length", "CONTENT-LENGTH", "cONTENT-lENGTH", "Content-lengtH"} {
		for _, l := range [][]api.Field{fieldsOf(name, "7"), fieldsOf(name, "7", "a", "1", "b", "2"), fieldsOf("a", "1", name, "7", "b", "2"), fieldsOf("a", "1", "b", "2", name, "7"), fieldsOf(name, "7", "a", "1", "Content-Length", "7")} {
			checkLength(t, l, 7, true, nil)
			checkChunked(t, l, false, nil)
		}
		checkLength(t, fieldsOf("content-length", "7", "a", "1", name, "8"), 0, false, api.ErrForm)
	}
	for _, name := range []string{"Transfer-Encoding", "transfer-encoding", "TRANSFER-ENCODING", "tRANSFER-eNCODING", "Transfer-encodinG"} {
		for _, l := range [][]api.Field{fieldsOf(name, "chunked"), fieldsOf(name, "chunked", "a", "1"), fieldsOf("a", "1", name, "chunked", "b", "2"), fieldsOf("a", "1", "b", "2", name, "chunked")} {
			checkChunked(t, l, true, nil)
			checkLength(t, l, 0, false, nil)
		}
		checkChunked(t, fieldsOf("transfer-encoding", "chunked", "a", "1", name, "gzip"), false, api.ErrForm)
	}
}

// FR1: the one coding that is taken, and how it may be written.
func TestChunked(t *testing.T) {
	for _, l := range [][]api.Field{nil, {}, fieldsOf("Host", "chunked"), fieldsOf("Encoding", "chunked", "Transfer", "x"), lengths("chunked"), fieldsOf("TE", "chunked"), fieldsOf("Content-Encoding", "chunked"), fieldsOf("Transfer-Encoding ", "chunked"), fieldsOf("Transfer_Encoding", "gzip"), fieldsOf("Transfer-Encodin", "gzip")} {
		checkChunked(t, l, false, nil)
	}
	for _, values := range [][]string{{"chunked"}, {"CHUNKED"}, {"Chunked"}, {"cHuNkEd"}, {" chunked"}, {"chunked\t"}, {"chunked,"}, {",chunked"}, {", ,\tchunked ,,"}, {"", "chunked"}, {"chunked", ""}, {" , ", "Chunked", ","}} {
		checkChunked(t, codings(values...), true, nil)
	}
	for _, values := range [][]string{
		{""}, {" "}, {"\t"}, {","}, {", ,"}, {"", ""}, {",", " "}, {"gzip"}, {"identity"}, {"gzip, chunked"}, {"chunked, gzip"}, {"gzip", "chunked"}, {"chunked", "gzip"},
		{"chunked, chunked"}, {"chunked,CHUNKED"}, {"chunked", "chunked"}, {"chunked", "", "chunked"}, {"chunked", "Chunked", "chunked"}, {"chunked, identity"}, {"identity", "chunked"},
		{"chunke"}, {"chunkedd"}, {"xchunked"}, {"chunk ed"}, {"chunked chunked"}, {"chunked;q=1"}, {"chunked; a=b"}, {"\"chunked\""}, {"'chunked'"}, {"chunked."}, {"chunked\r\n"}, {"\nchunked"}, {"\x0bchunked"}, {"chunked\x00"}, {"\u00a0chunked"}, {"chun\u212aed"}, {"chun,ked"}, {"x"}, {"5"}, {"\xff"},
	} {
		checkChunked(t, codings(values...), false, api.ErrForm)
	}
}

// FR1: every row of a few pieces as a value, in one field and cut over two.
func TestEveryShortValue(t *testing.T) {
	for n := range 6 {
		for _, value := range rows(n, "5", "6", "0", ",", " ", "+") {
			checkLengthAgain(t, lengths(value))
			for at := range len(value) {
				checkLengthAgain(t, lengths(value[:at], value[at:]))
			}
		}
		for _, value := range rows(n, "chunked", "CHUNKED", ",", " ", "x") {
			checkChunkedAgain(t, codings(value))
			checkChunkedAgain(t, codings(value, "chunked"))
			checkChunkedAgain(t, codings(value, ""))
			checkChunkedAgain(t, codings("x", value))
		}
	}
}

func checkLengthAgain(t *testing.T, l []api.Field) {
	t.Helper()
	n, has, err := ofLength(l)
	checkLength(t, l, n, has, err)
	if t.Failed() {
		t.FailNow()
	}
}

func checkChunkedAgain(t *testing.T, l []api.Field) {
	t.Helper()
	is, err := ofChunked(l)
	checkChunked(t, l, is, err)
	if t.Failed() {
		t.FailNow()
	}
}
