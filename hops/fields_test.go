package hops

import (
	"math"
	"slices"
	"strings"
	"testing"
	"turnstile/api"
)

// HP1: the names that Connection names, in small letters, each once, in the order in which they come first.
func TestNamed(t *testing.T) {
	checkNamed(t, nil)
	checkNamed(t, []api.Field{})
	checkNamed(t, fieldsOf("X-A", "1", "Keep-Alive", "close", "Host", "a"))
	for _, value := range []string{"", " ", "\t", ",", ",,", " , ,\t,"} {
		checkNamed(t, fieldsOf("Connection", value))
	}
	checkNamed(t, fieldsOf("Connection", "close"), "close")
	checkNamed(t, fieldsOf("Connection", "X-B, close,x-a"), "x-b", "close", "x-a")
	checkNamed(t, fieldsOf("Connection", " ,\tX-B ,, , X-A\t,"), "x-b", "x-a")
	checkNamed(t, fieldsOf("Connection", "X-B, X-A, x-b, X-a, x-A, X-C"), "x-b", "x-a", "x-c")
	checkNamed(t, fieldsOf("CONNECTION", "X-B", "x-b", "X-D", "connection", "X-A, x-B", "cOnnectioN", "x-a, X-C"), "x-b", "x-a", "x-c")
	checkNamed(t, fieldsOf("Connection", "Connection, Host, HOST, Content-Length, Transfer-Encoding, Via"), "connection", "host", "content-length", "transfer-encoding", "via")
	checkNamed(t, fieldsOf("Connection", "a b, \"x, y\", Ä, \xff, K, {"), "a b", "\"x", "y\"", "Ä", "\xff", "k", "{")
	checkNamed(t, fieldsOf("Connection", "a\r\n,\va"), "a\r\n", "\va")
	checkNamed(t, fieldsOf("Proxy-Connection", "X-A", "Connection ", "X-B", " Connection", "X-C", "Connections", "X-D", "Connectio", "X-E", "", "X-F"))
}

// HP1: of ever more names each is told once, in the order in which they come first.
func TestManyNames(t *testing.T) {
	var want []string
	var l []api.Field
	for i := range 3000 {
		want = append(want, "x-"+strings.Repeat("a", i%7)+strings.Repeat("b", i/7))
		l = append(l, fieldsOf("Connection", upper(want[i])+", "+want[i/2])...)
	}
	checkNamed(t, l, want...)
}

// HP1: each of the nine goes no further, in letters of any size.
func TestEachHopByHopName(t *testing.T) {
	for _, name := range []string{"Connection", "Keep-Alive", "Proxy-Connection", "Proxy-Authenticate", "Proxy-Authorization", "TE", "Trailer", "Transfer-Encoding", "Upgrade"} {
		for _, n := range []string{name, lower(name), upper(name), turned(name), name[:1] + upper(name[1:])} {
			checkStrip(t, fieldsOf(n, "x"), nil)
			checkStrip(t, fieldsOf("X-A", "1", n, "x", "X-B", "2"), fieldsOf("X-A", "1", "X-B", "2"))
			checkStrip(t, fieldsOf(n, "x", n, "", "X-A", "1", turned(n), "y"), fieldsOf("X-A", "1"))
		}
		for _, n := range []string{name + "x", "x" + name, name + "-", "-" + name, name[1:], name[:len(name)-1], name + " ", " " + name, name + ":", name + name, name + "\x00"} {
			checkStrip(t, fieldsOf(n, "x", turned(n), "y"), fieldsOf(n, "x", turned(n), "y"))
		}
	}
}

// HP1: what is near to one of the nine names by other bits than the size of a letter is another name.
func TestNamesOfOtherBits(t *testing.T) {
	for _, name := range hopNames {
		for i := range len(name) {
			for c := range 256 {
				n := name[:i] + string([]byte{byte(c)}) + name[i+1:]
				l := fieldsOf(n, "x")
				if lower(n) == lower(name) {
					checkStrip(t, l, nil)
				} else {
					checkStrip(t, l, l)
				}
			}
		}
	}
}

// HP1: what Connection names goes no further, wherever it stands.
func TestStripOfNamed(t *testing.T) {
	checkStrip(t, nil, nil)
	checkStrip(t, []api.Field{}, nil)
	checkStrip(t, fieldsOf("X-A", "1", "x-a", "2", "", "", "a b", "\r\n"), fieldsOf("X-A", "1", "x-a", "2", "", "", "a b", "\r\n"))
	checkStrip(t, fieldsOf("Connection", "close, X-A", "X-A", "1", "X-B", "2"), fieldsOf("X-B", "2"))
	checkStrip(t, fieldsOf("X-A", "1", "X-B", "2", "x-a", "3", "Connection", "x-A"), fieldsOf("X-B", "2"))
	checkStrip(t, fieldsOf("X-A", "1", "Connection", "X-A", "X-B", "2", "Connection", "X-B", "X-C", "3"), fieldsOf("X-C", "3"))
	checkStrip(t, fieldsOf("X-A", "1", "connection", " ,, x-a\t,", "CONNECTION", "", "X-B", "2"), fieldsOf("X-B", "2"))
	checkStrip(t, fieldsOf("X-A", "1", "Connection", "", "X-B", "2"), fieldsOf("X-A", "1", "X-B", "2"))
	checkStrip(t, fieldsOf("Connection", "X-A, x-a, X-a", "X-A", "1", "X-AA", "2", "X-", "3"), fieldsOf("X-AA", "2", "X-", "3"))
	checkStrip(t, fieldsOf("Connection", "Connection", "X-A", "1"), fieldsOf("X-A", "1"))
	checkStrip(t, fieldsOf("Connection", "Content-Length, transfer-encoding", "Content-Length", "1", "Transfer-Encoding", "chunked", "X-A", "1"), fieldsOf("X-A", "1"))
	checkStrip(t, fieldsOf("Connection", "via, x-forwarded-for, expect", "Via", "1.1 a", "X-Forwarded-For", "1", "Expect", "100-continue", "X-A", "1"), fieldsOf("X-A", "1"))
	checkStrip(t, fieldsOf("Connection", "X-None", "X-A", "1"), fieldsOf("X-A", "1"))
	checkStrip(t, fieldsOf("Content-Length", "1", "Via", "1.1 a", "X-Forwarded-For", "1", "Expect", "100-continue"), fieldsOf("Content-Length", "1", "Via", "1.1 a", "X-Forwarded-For", "1", "Expect", "100-continue"))
	checkStrip(t, fieldsOf("Connection", "a b, Ä", "a B", "1", "ä", "2", "Ä", "3"), fieldsOf("ä", "2"))
	checkStrip(t, fieldsOf("Connection", "X-A X-B", "X-A", "1", "X-B", "2"), fieldsOf("X-A", "1", "X-B", "2"))
	checkStrip(t, fieldsOf("Connection", " , ", "", "1"), fieldsOf("", "1"))
	checkStrip(t, fieldsOf("Proxy-Connection", "X-A", "Keep-Alive", "X-A", "X-A", "1"), fieldsOf("X-A", "1"))
}

// HP1: Host stays, whatever names it; what is near to it does not.
func TestHostStays(t *testing.T) {
	for _, named := range []string{"Host", "host", "HOST", "hOST", "close, Host, X-A", "host, Host"} {
		for _, name := range []string{"Host", "host", "HOST", "hOsT"} {
			checkStrip(t, fieldsOf("Connection", named, name, "a"), fieldsOf(name, "a"))
			checkStrip(t, fieldsOf(name, "a", "Connection", named, name, "b"), fieldsOf(name, "a", name, "b"))
		}
	}
	checkStrip(t, fieldsOf("Connection", "Hosts, X-Host, Hos, ost", "Host", "a", "Hosts", "1", "X-Host", "2", "Hos", "3", "ost", "4"), fieldsOf("Host", "a"))
}

// HP1: without framing fields, and with those of a framing behind all others.
func TestFraming(t *testing.T) {
	lists := [][]api.Field{
		nil, {}, fieldsOf("X-A", "1", "Host", "a", "", ""),
		fieldsOf("Content-Length", "5"), fieldsOf("Transfer-Encoding", "chunked"),
		fieldsOf("content-length", "5", "X-A", "1", "TRANSFER-ENCODING", "gzip", "X-B", "2", "Content-LENGTH", ""),
		fieldsOf("X-A", "1", "tRANSFER-eNCODING", "chunked", "Content-Length", "1", "Content-Length", "1"),
		fieldsOf("Content-Lengths", "1", "X-Content-Length", "2", "Transfer-Encoding ", "3", "ransfer-Encoding", "4", "Content-Type", "5", "Content-Length ", "6"),
		fieldsOf("Connection", "Content-Length, X-A", "Content-Length", "5", "X-A", "1", "TE", "x"),
	}
	frames := []api.Frame{none, length(0), length(1), length(maxLength), length(math.MaxInt), length(-1), length(math.MinInt), chunked, closing, {Kind: 0, Length: 5}, {Kind: 2, Length: 5}, {Kind: 3, Length: 5}, {Kind: 4, Length: 5}, {Kind: -1}}
	for _, l := range lists {
		for _, f := range frames {
			checkFields(t, "Framing", Framing(l, f), ofFraming(l, f))
		}
	}
	l := fieldsOf("Transfer-Encoding", "gzip", "X-A", "1", "content-length", "7", "X-B", "2")
	checkFields(t, "FrameNone", Framing(l, none), fieldsOf("X-A", "1", "X-B", "2"))
	checkFields(t, "FrameClose", Framing(l, closing), fieldsOf("X-A", "1", "X-B", "2"))
	checkFields(t, "FrameChunked", Framing(l, chunked), fieldsOf("X-A", "1", "X-B", "2", "Transfer-Encoding", "chunked"))
	checkFields(t, "FrameLength 0", Framing(l, length(0)), fieldsOf("X-A", "1", "X-B", "2", "Content-Length", "0"))
	checkFields(t, "FrameLength 1", Framing(nil, length(1)), fieldsOf("Content-Length", "1"))
	checkFields(t, "the greatest length", Framing(l, length(maxLength)), fieldsOf("X-A", "1", "X-B", "2", "Content-Length", "1099511627776"))
}

// HP2: one more Via, the last, whatever stands ahead of it.
func TestVia(t *testing.T) {
	for _, l := range [][]api.Field{nil, {}, fieldsOf("X-A", "1"), fieldsOf("Via", "1.1 other", "X-A", "1"), fieldsOf("via", "", "VIA", "1.0 turnstile", "Via", "1.1 turnstile"), some(64, "X")} {
		for _, minor := range []int{0, 1, 2, 9, 10, 11, -1, math.MaxInt, math.MinInt} {
			want := "1.0 turnstile"
			if minor == 1 {
				want = "1.1 turnstile"
			}
			checkFields(t, "Via", Via(l, minor), append(slices.Clone(l), api.Field{Name: "Via", Value: want}))
		}
	}
}

// HP2: one more client, behind those of the first such field, in one field.
func TestForwarded(t *testing.T) {
	checkFields(t, "of none", Forwarded(nil, "7"), fieldsOf("X-Forwarded-For", "7"))
	checkFields(t, "of none", Forwarded([]api.Field{}, "7"), fieldsOf("X-Forwarded-For", "7"))
	checkFields(t, "of others", Forwarded(fieldsOf("A", "1", "X-Forwarded-Fo", "2", "X-Forwarded-Fors", "3", "B", "4"), "7"), fieldsOf("A", "1", "X-Forwarded-Fo", "2", "X-Forwarded-Fors", "3", "B", "4", "X-Forwarded-For", "7"))
	checkFields(t, "of one", Forwarded(fieldsOf("A", "1", "X-Forwarded-For", "5", "B", "2"), "7"), fieldsOf("A", "1", "X-Forwarded-For", "5, 7", "B", "2"))
	checkFields(t, "of other letters", Forwarded(fieldsOf("A", "1", "x-FORWARDED-for", "5, 6", "B", "2"), "7"), fieldsOf("A", "1", "X-Forwarded-For", "5, 6, 7", "B", "2"))
	checkFields(t, "of an empty one", Forwarded(fieldsOf("x-forwarded-for", "", "B", "2"), "7"), fieldsOf("X-Forwarded-For", "7", "B", "2"))
	checkFields(t, "of two", Forwarded(fieldsOf("A", "1", "x-forwarded-for", "5", "B", "2", "X-FORWARDED-FOR", "6", "C", "3"), "7"), fieldsOf("A", "1", "X-Forwarded-For", "5, 7", "B", "2", "C", "3"))
	checkFields(t, "of two, the first empty", Forwarded(fieldsOf("x-forwarded-for", "", "B", "2", "X-Forwarded-For", "6", "C", "3"), "7"), fieldsOf("X-Forwarded-For", "7", "B", "2", "C", "3"))
	checkFields(t, "of two, the second empty", Forwarded(fieldsOf("X-Forwarded-For", "5", "X-Forwarded-For", ""), "7"), fieldsOf("X-Forwarded-For", "5, 7"))
	checkFields(t, "of a blank", Forwarded(fieldsOf("X-Forwarded-For", " "), "7"), fieldsOf("X-Forwarded-For", " , 7"))
	checkFields(t, "an empty client", Forwarded(nil, ""), fieldsOf("X-Forwarded-For", ""))
	checkFields(t, "an empty client", Forwarded(fieldsOf("A", "1", "X-Forwarded-For", "5"), ""), fieldsOf("A", "1", "X-Forwarded-For", "5, "))
	checkFields(t, "an empty client", Forwarded(fieldsOf("X-Forwarded-For", ""), ""), fieldsOf("X-Forwarded-For", ""))
	checkFields(t, "any client", Forwarded(fieldsOf("X-Forwarded-For", "a\r\n"), "\x00, b"), fieldsOf("X-Forwarded-For", "a\r\n, \x00, b"))
	checkFields(t, "again", Forwarded(Forwarded(Forwarded(nil, "5"), "6"), "7"), fieldsOf("X-Forwarded-For", "5, 6, 7"))
}
