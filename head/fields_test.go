package head

import (
	"fmt"
	"math"
	"slices"
	"strconv"
	"strings"
	"testing"
	"turnstile/api"
)

// fieldsOf is fields out of names and values, one behind the other.
func fieldsOf(texts ...string) []api.Field {
	var l []api.Field
	for i := 0; i < len(texts); i += 2 {
		l = append(l, api.Field{Name: texts[i], Value: texts[i+1]})
	}
	return l
}

func checkValues(t *testing.T, l []api.Field, name string, want ...string) {
	t.Helper()
	if got := Values(l, name); !slices.Equal(got, want) {
		t.Errorf("Values(%q, %q) = %q, not %q", l, name, got, want)
	}
	one, oneErr := "", error(api.ErrTwice)
	switch len(want) {
	case 0:
		oneErr = api.ErrNone
	case 1:
		one, oneErr = want[0], nil
	}
	if got, err := One(l, name); got != one || err != oneErr {
		t.Errorf("One(%q, %q) = %q, %v, not %q, %v", l, name, got, err, one, oneErr)
	}
}

// HD3: none, one and more fields of a name, in great and small letters, in their order and as they stand.
func TestValues(t *testing.T) {
	l := fieldsOf("a", "1", "Bc", "2", "A", "3", "b", "", "bC", " 4\t", "a-b", "5", "BC", "2", "", "6", "c ", "7", "É", "8", "[", "9", "K", "10", "@", "11")
	checkValues(t, l, "a", "1", "3")
	checkValues(t, l, "A", "1", "3")
	checkValues(t, l, "bc", "2", " 4\t", "2")
	checkValues(t, l, "BC", "2", " 4\t", "2")
	checkValues(t, l, "b", "")
	checkValues(t, l, "B", "")
	checkValues(t, l, "A-B", "5")
	checkValues(t, l, "a_b")
	checkValues(t, l, "", "6")
	checkValues(t, l, "c")
	checkValues(t, l, "C ", "7")
	checkValues(t, l, " c ")
	checkValues(t, l, "É", "8")
	checkValues(t, l, "é")
	checkValues(t, l, "[", "9")
	checkValues(t, l, "{")
	checkValues(t, l, "`")
	checkValues(t, l, "k", "10")
	checkValues(t, l, "\u212a") // the sign of kelvin, a small k in other alphabets' eyes
	checkValues(t, l, "d")
	checkValues(t, nil, "a")
	checkValues(t, nil, "")
	checkValues(t, []api.Field{}, "a")
	checkValues(t, fieldsOf("a", ""), "a", "")
	checkValues(t, fieldsOf("a", "", "a", ""), "A", "", "")
	checkValues(t, slices.Repeat(fieldsOf("x", "y"), 1000), "X", slices.Repeat([]string{"y"}, 1000)...)
}

// HD3: names of one byte: those that are the same are it but for the size of letters.
func TestEveryNameOfOneByte(t *testing.T) {
	for c := range 256 {
		for d := range 256 {
			want := c == d || (c|32) == (d|32) && (c|32) >= 'a' && (c|32) <= 'z'
			l := fieldsOf("x"+one(c), "close", "y", "x"+one(c))
			if got := len(Values(l, "x"+one(d))) == 1; got != want {
				t.Errorf("names %d and %d: %v", c, d, got)
			}
			if got := Has(l, "x"+one(d), "CLOSE"); got != want {
				t.Errorf("Has of names %d and %d: %v", c, d, got)
			}
			// A byte that ends an element or is none of its own is no byte of it.
			if c != ',' && c != ' ' && c != '\t' {
				if got := Has(l, "Y", "x"+one(d)); got != want {
					t.Errorf("elements %d and %d: %v", c, d, got)
				}
			}
		}
	}
}

// HD3: elements of lists, in great and small letters, in any of the fields, with empty ones between.
func TestHas(t *testing.T) {
	l := fieldsOf("Connection", "Keep-Alive, close", "TE", "", "te", " ,, \t,", "TE", ",trailers , b c,", "x", "a;q=1,\"b,c\"", "connection", "Upgrade")
	for _, yes := range [][2]string{
		{"connection", "close"}, {"CONNECTION", "CLOSE"}, {"Connection", "cLoSe"}, {"Connection", "keep-alive"}, {"Connection", "upgrade"}, {"te", "trailers"}, {"TE", "Trailers"}, {"te", "B C"}, {"X", "A;Q=1"}, {"x", "\"b"}, {"x", "C\""},
	} {
		if !Has(l, yes[0], yes[1]) {
			t.Errorf("Has(%q) is false", yes)
		}
	}
	for _, no := range [][2]string{
		{"connection", ""}, {"te", ""}, {"te", " "}, {"te", ","}, {"connection", "clos"}, {"connection", "closed"}, {"connection", "lose"}, {"connection", " close"}, {"connection", "close "}, {"connection", "Keep-Alive, close"}, {"connection", "keep"}, {"connection", "alive"},
		{"te", "b"}, {"te", "b  c"}, {"te", "close"}, {"x", "b,c"}, {"x", "\"b,c\""}, {"x", "a"}, {"y", "close"}, {"", ""}, {"", "close"}, {"connection", "trailers"}, {"Connectio", "close"}, {"connection ", "close"},
	} {
		if Has(l, no[0], no[1]) {
			t.Errorf("Has(%q) is true", no)
		}
	}
	if Has(nil, "a", "a") || Has(nil, "", "") || Has(fieldsOf("", ""), "", "") || !Has(fieldsOf("", "\tx "), "", "X") {
		t.Error("Has of no fields, or of no name")
	}
}

func checkHost(t *testing.T, q api.Request, host, port string, wantErr error) {
	t.Helper()
	if gotHost, gotPort, err := Host(q); gotHost != host || gotPort != port || err != wantErr {
		t.Errorf("Host(%+v) = %q, %q, %v, not %q, %q, %v", q, gotHost, gotPort, err, host, port, wantErr)
	}
}

// ofHost is a request with one host.
func ofHost(minor int, value string) api.Request {
	return api.Request{Method: "GET", Target: "/", Minor: minor, Fields: fieldsOf("a", "b", "hOst", value, "Hos", "x", "Host-", "y")}
}

// HD3: none, one and two hosts, of both minors.
func TestHowManyHosts(t *testing.T) {
	for minor, none := range map[int]error{0: nil, 1: api.ErrNone} {
		checkHost(t, api.Request{Minor: minor}, "", "", none)
		checkHost(t, api.Request{Minor: minor, Fields: fieldsOf("Hos", "a", "Hosts", "b", "", "c", "Host ", "d")}, "", "", none)
		checkHost(t, api.Request{Minor: minor, Target: "http://h/", Fields: fieldsOf("X", "a")}, "", "", none)
		checkHost(t, ofHost(minor, "a"), "a", "", nil)
		for _, values := range [][2]string{{"a", "a"}, {"a", "b"}, {"", ""}, {"a", ""}, {"", "a"}, {"a b", "c"}, {"a:x", "a"}} {
			checkHost(t, api.Request{Minor: minor, Fields: fieldsOf("Host", values[0], "Host", values[1])}, "", "", api.ErrTwice)
			checkHost(t, api.Request{Minor: minor, Fields: fieldsOf("host", values[0], "x", "y", "HOST", values[1])}, "", "", api.ErrTwice)
		}
		checkHost(t, api.Request{Minor: minor, Fields: fieldsOf("host", "a", "host", "a", "host", "a")}, "", "", api.ErrTwice)
	}
}

// HD3: hosts that have the form, as they stand, and texts that have it not.
func TestHosts(t *testing.T) {
	for _, minor := range []int{0, 1} {
		for value, want := range map[string][2]string{
			"a": {"a", ""}, "A.b-C_9": {"A.b-C_9", ""}, "example.com:80": {"example.com", "80"}, "a:": {"a", ""}, "a:0": {"a", "0"}, "a:65535": {"a", "65535"}, "a:00080": {"a", "00080"}, "a:0000000000000000000000065535": {"a", "0000000000000000000000065535"},
			"a:" + strings.Repeat("0", 60000): {"a", strings.Repeat("0", 60000)}, strings.Repeat("a", 60000) + ":1": {strings.Repeat("a", 60000), "1"},
			"-": {"-", ""}, ".": {".", ""}, "_": {"_", ""}, "..": {"..", ""}, "-._:9": {"-._", "9"}, "127.0.0.1:8080": {"127.0.0.1", "8080"}, "0": {"0", ""}, "80:80": {"80", "80"},
		} {
			checkHost(t, ofHost(minor, value), want[0], want[1], nil)
		}
		for _, value := range []string{
			"", " ", "\t", " a", "a ", "a b", "a\t", ":", ":80", "::", "a::", "a:80:", "a:80:80", "a::80", "a:65536", "a:65540", "a:70000", "a:99999", "a:100000", "a:0065536", "a:18446744073709551616", "a:18446744073709551696", "a:" + strings.Repeat("9", 60000), "a:" + strings.Repeat("0", 60000) + "65536",
			"a:x", "a:8x", "a:x8", "a:-1", "a:+1", "a: 80", "a:80 ", "a:8 0", "a:0x50", "a:1.0", "a:８", "a,b", "a/", "a/b", "http://a", "u@a", "[::1]", "[::1]:80", "a%41", "*", "*.a", "é", "a\x00", "\xff", "a;b", "a=b", "a~", "a!", "a+b", "a?b", "a#b", "a\\b", "a:é",
		} {
			checkHost(t, ofHost(minor, value), "", "", api.ErrForm)
		}
	}
}

// HD3: every byte in a host and in a port, at its beginning, in it and at its end.
func TestEveryByteOfAHost(t *testing.T) {
	for c := range 256 {
		inHost := c >= '0' && c <= '9' || c >= 'a' && c <= 'z' || c >= 'A' && c <= 'Z' || c == '-' || c == '.' || c == '_'
		inPort := c >= '0' && c <= '9'
		for _, ends := range [][2]string{{"", ""}, {"a", ""}, {"", "1"}, {"a", "b"}} {
			host := ends[0] + one(c) + ends[1]
			for _, behind := range []string{"", ":", ":80"} {
				switch {
				case inHost:
					checkHost(t, ofHost(1, host+behind), host, strings.TrimPrefix(behind, ":"), nil)
				case c == ':' && ends[0] == "a" && ends[1] == "" && behind == "":
					checkHost(t, ofHost(1, host), "a", "", nil)
				default:
					checkHost(t, ofHost(1, host+behind), "", "", api.ErrForm)
				}
			}
		}
		for _, ends := range [][2]string{{"", ""}, {"1", ""}, {"", "2"}, {"1", "2"}} {
			port := ends[0] + one(c) + ends[1]
			if inPort {
				checkHost(t, ofHost(1, "a.b:"+port), "a.b", port, nil)
			} else {
				checkHost(t, ofHost(1, "a.b:"+port), "", "", api.ErrForm)
			}
		}
	}
}

// HD3: every number around the greatest port, with and without noughts.
func TestPorts(t *testing.T) {
	for n := range 70000 {
		if n > 200 && n < 65000 {
			continue
		}
		for _, digits := range []string{"%d", "%05d", "%09d"} {
			port := fmt.Sprintf(digits, n)
			if n <= 65535 {
				checkHost(t, ofHost(0, "h:"+port), "h", port, nil)
			} else {
				checkHost(t, ofHost(0, "h:"+port), "", "", api.ErrForm)
			}
		}
	}
	for _, n := range []uint64{1 << 16, 1 << 17, 1 << 31, 1 << 32, 1<<32 + 80, 1 << 63, 1<<63 + 80, math.MaxUint64} {
		checkHost(t, ofHost(1, "h:"+strconv.FormatUint(n, 10)), "", "", api.ErrForm)
	}
}

// HD4: close in any size of letters, alone, in a list, in a second field, and as a part of a longer word.
func TestKeep(t *testing.T) {
	for _, l := range [][]api.Field{
		fieldsOf("Connection", "close"), fieldsOf("connection", "CLOSE"), fieldsOf("CONNECTION", "cLoSe"), fieldsOf("Connection", "keep-alive, close"), fieldsOf("Connection", "close, keep-alive"), fieldsOf("Connection", ",,\tClose ,"), fieldsOf("Connection", "  close\t"),
		fieldsOf("Connection", "keep-alive", "a", "b", "connection", "close"), fieldsOf("Connection", "", "Connection", "x", "Connection", "y,close"), fieldsOf("Connection", "close", "Connection", "keep-alive"), fieldsOf("Connection", "close,close"),
	} {
		if Keep(1, l) || Keep(0, l) {
			t.Errorf("Keep of %q", l)
		}
	}
	for _, l := range [][]api.Field{
		nil, {}, fieldsOf("Connection", ""), fieldsOf("Connection", ","), fieldsOf("Connection", "keep-alive"), fieldsOf("Connection", "closed"), fieldsOf("Connection", "enclose"), fieldsOf("Connection", "clos"), fieldsOf("Connection", "close-it"), fieldsOf("Connection", "x close"), fieldsOf("Connection", "close x"),
		fieldsOf("Connection", "close;x"), fieldsOf("Connection", "\"close\""), fieldsOf("Connection", "cl,ose"), fieldsOf("Connection", "c lose"), fieldsOf("Connection", "upgrade, closes"), fieldsOf("Connections", "close"), fieldsOf("Proxy-Connection", "close"), fieldsOf("", "close"), fieldsOf("close", "Connection"),
		fieldsOf("Keep-Alive", "close"), fieldsOf("Connection", "cloſe"),
	} {
		if !Keep(1, l) {
			t.Errorf("Keep(1) of %q is false", l)
		}
		if Keep(0, l) {
			t.Errorf("Keep(0) of %q is true", l)
		}
	}
}

// HD3, HD4: any fields, held against the words of the chapter, which are written down a second time by the library.
func TestFieldsAny(t *testing.T) {
	m := newMaker(1)
	for range 50000 {
		var l []api.Field
		for range m.Intn(6) {
			l = append(l, api.Field{Name: m.of("a", "A", "Host", "host", "HOST", "Connection", "connection", "é"), Value: m.row(5, "close", "CLOSE", "a", "B", ",", ", ", " ", "\t", ":", "80", "é", "65535", "0", ".", "-", "_", "é")})
		}
		name, element := m.of("a", "A", "hOST", "cONNECTION", "é", "b"), m.of("a", "b", "Close", "", "é", "close a", "80", "A,B")
		var values []string
		has := false
		for _, f := range l {
			if strings.EqualFold(f.Name, name) {
				values = append(values, f.Value)
				for _, e := range strings.Split(f.Value, ",") {
					e = strings.Trim(e, " \t")
					has = has || e != "" && strings.EqualFold(e, element)
				}
			}
		}
		checkValues(t, l, name, values...)
		if got := Has(l, name, element); got != has {
			t.Fatalf("Has(%q, %q, %q) = %v", l, name, element, got)
		}
		if got := Keep(1, l); got == Has(l, "connection", "CLOSE") {
			t.Fatalf("Keep(1, %q) = %v", l, got)
		}
		host, port, err := hostOf(Values(l, "Host"))
		checkHost(t, api.Request{Minor: 1, Fields: l}, host, port, err)
		if err == api.ErrNone {
			err = nil
		}
		checkHost(t, api.Request{Fields: l}, host, port, err)
	}
}

// hostOf is what Host of Minor 1 is to answer of the values.
func hostOf(values []string) (string, string, error) {
	if len(values) == 0 {
		return "", "", api.ErrNone
	}
	if len(values) > 1 {
		return "", "", api.ErrTwice
	}
	host, port, _ := strings.Cut(values[0], ":")
	if host == "" || strings.Trim(host, "ABCDEFGHIJKLMNOPQRSTUVWXYZabcdefghijklmnopqrstuvwxyz0123456789-._") != "" {
		return "", "", api.ErrForm
	}
	if n, err := strconv.ParseUint("0"+port, 10, 64); strings.Trim(port, "0123456789") != "" || err != nil || n > 65535 {
		return "", "", api.ErrForm
	}
	return host, port, nil
}
