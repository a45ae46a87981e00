package head

import (
	"fmt"
	"math"
	"strings"
	"testing"
	"turnstile/api"
)

// The chapter's examples.
func TestTold(t *testing.T) {
	a := lines("GET / HTTP/1.1", "Host: a")
	told := api.Request{Method: "GET", Target: "/", Minor: 1, Fields: []api.Field{{Name: "Host", Value: "a"}}}
	if q, n, err := ParseRequest([]byte(a), 100); !sameRequest(q, told) || n != 27 || err != nil {
		t.Errorf("ParseRequest = %+v, %d, %v", q, n, err)
	}
	requests.check(t, answer{taken: 27, whole: true, request: told}, 100, a)
	requests.check(t, answer{taken: 21, err: api.ErrField}, 100, lines("GET / HTTP/1.1", "Host : a"))
	requests.check(t, answer{taken: 5, err: api.ErrLine}, 100, lines("GET  / HTTP/1.1"))
}

// HD1, HD2: most from 1 to MaxHead, and no other.
func TestMost(t *testing.T) {
	for _, most := range []int{math.MinInt, -65536, -2, -1, 0, 65537, 65538, 1 << 20, 1 << 32, 1<<32 + 1, math.MaxInt} {
		for name, make := range map[string]func(int) (*Reader, error){"NewRequest": NewRequest, "NewResponse": NewResponse} {
			if r, err := make(most); r != nil || err != api.ErrArg {
				t.Errorf("%s(%d) = %v, %v", name, most, r, err)
			}
		}
		for _, s := range []string{"", "\n", wellRequests()[0], wellResponses()[0]} {
			if q, n, err := ParseRequest([]byte(s), most); !sameRequest(q, api.Request{}) || n != 0 || err != api.ErrArg {
				t.Errorf("ParseRequest(%q, %d) = %+v, %d, %v", s, most, q, n, err)
			}
			if p, n, err := ParseResponse([]byte(s), most); !sameResponse(p, api.Response{}) || n != 0 || err != api.ErrArg {
				t.Errorf("ParseResponse(%q, %d) = %+v, %d, %v", s, most, p, n, err)
			}
		}
	}
	for _, g := range both {
		for _, most := range []int{1, 2, 27, 65535, 65536} {
			if n := g.reader(t, most).Len(); n != 0 {
				t.Errorf("a new reader has taken %d", n)
			}
			for _, s := range g.well {
				g.checkAll(t, s, most)
			}
			g.checkAll(t, "", most)
			g.checkAll(t, "\n", most)
		}
	}
}

// HD1: ordinary requests, told by their parts.
func TestRequests(t *testing.T) {
	for s, want := range map[string]api.Request{
		lines("GET / HTTP/1.1"):      {Method: "GET", Target: "/", Minor: 1},
		lines("GET / HTTP/1.0"):      {Method: "GET", Target: "/"},
		lines("get x HTTP/1.1"):      {Method: "get", Target: "x", Minor: 1},
		lines("! ~ HTTP/1.1"):        {Method: "!", Target: "~", Minor: 1},
		lines("A HTTP/1.1 HTTP/1.0"): {Method: "A", Target: "HTTP/1.1"},
		lines("HTTP 200 HTTP/1.1"):   {Method: "HTTP", Target: "200", Minor: 1},
		lines("POST http://H:80/a?b=%20#c\"<>\\^`{|} HTTP/1.1", "Host: h", "host:i", "HOST:\tj\t"): {
			Method: "POST", Target: "http://H:80/a?b=%20#c\"<>\\^`{|}", Minor: 1, Fields: []api.Field{{Name: "Host", Value: "h"}, {Name: "host", Value: "i"}, {Name: "HOST", Value: "j"}},
		},
		lines("OPTIONS * HTTP/1.1", "a:", "b: ", "c:\t \t", "d::", "e: : ", "f: g\t h ,  i \t"): {
			Method: "OPTIONS", Target: "*", Minor: 1, Fields: []api.Field{{Name: "a"}, {Name: "b"}, {Name: "c"}, {Name: "d", Value: ":"}, {Name: "e", Value: ":"}, {Name: "f", Value: "g\t h ,  i"}},
		},
		lines("X y HTTP/1.0", "!#$%&'*+-.^_`|~0: \x80\xff é", "GET:HTTP/1.1"): {
			Method: "X", Target: "y", Fields: []api.Field{{Name: "!#$%&'*+-.^_`|~0", Value: "\x80\xff é"}, {Name: "GET", Value: "HTTP/1.1"}},
		},
	} {
		want := answer{taken: len(s), whole: true, request: want}
		requests.check(t, want, 65536, s)
		requests.check(t, want, len(s), singles(s)...)
		requests.checkParse(t, want, len(s), s)
	}
}

// HD1: ordinary responses; the words of a status stand as they are, with their blanks.
func TestResponses(t *testing.T) {
	for s, want := range map[string]api.Response{
		lines("HTTP/1.1 200 OK"):                     {Status: 200, Reason: "OK", Minor: 1},
		lines("HTTP/1.0 100 "):                       {Status: 100},
		lines("HTTP/1.1 599  "):                      {Status: 599, Reason: " ", Minor: 1},
		lines("HTTP/1.1 404 Not Found"):              {Status: 404, Reason: "Not Found", Minor: 1},
		lines("HTTP/1.1 500 \t a\tb  c \t"):          {Status: 500, Reason: "\t a\tb  c \t", Minor: 1},
		lines("HTTP/1.1 304 \x80\xff\xc3\xa9", "a:"): {Status: 304, Reason: "\x80\xffé", Minor: 1, Fields: []api.Field{{Name: "a"}}},
		lines("HTTP/1.0 200 200 HTTP/1.1", "Set-Cookie: a", "set-cookie: b", "x:  \t y z\t "): {
			Status: 200, Reason: "200 HTTP/1.1", Fields: []api.Field{{Name: "Set-Cookie", Value: "a"}, {Name: "set-cookie", Value: "b"}, {Name: "x", Value: "y z"}},
		},
	} {
		want := answer{taken: len(s), whole: true, response: want}
		responses.check(t, want, 65536, s)
		responses.check(t, want, len(s), singles(s)...)
		responses.checkParse(t, want, len(s), s)
	}
}

// spoil checks where a text is spoilt: behind good, by its first byte that comes then.
func (g grammar) spoil(t *testing.T, good, rest string, err error) {
	t.Helper()
	want := answer{taken: len(good) + 1, err: err}
	for _, s := range []string{good + rest, good + rest[:1]} {
		g.check(t, want, 65536, s)
		g.check(t, want, 65536, good, s[len(good):], "", "more")
		g.check(t, want, 65536, singles(s)...)
		g.checkParse(t, want, 65536, s)
	}
	g.check(t, answer{taken: len(good)}, 65536, good)
	g.checkParse(t, answer{taken: len(good)}, 65536, good)
}

// HD1: wrong request lines, cut ahead of the byte that spoils them.
func TestWrongRequestLines(t *testing.T) {
	for _, s := range []string{
		"|\r\nGET / HTTP/1.1", "|\nGET / HTTP/1.1", "| GET / HTTP/1.1", "|\tGET / HTTP/1.1", "|(GET) / HTTP/1.1", "G|:T / HTTP/1.1", "G|\"", "|\x00", "|\x7f", "|\x80", "GE|é / HTTP/1.1",
		"GET|\t/ HTTP/1.1", "GET|\r\n", "GET|\n", "GET | / HTTP/1.1",
		"GET |\t/ HTTP/1.1", "GET |\r\n", "GET |\n", "GET |\x7f", "GET |\xc3\xa9 HTTP/1.1", "GET | HTTP/1.1",
		"GET /|\r\n", "GET /|\n", "GET /|\tHTTP/1.1", "GET /|\x00", "GET /|\xff HTTP/1.1",
		"GET / | HTTP/1.1", "GET / |\tHTTP/1.1", "GET / |a HTTP/1.1", "GET / |\r\n", "GET / |http/1.1", "GET / |hTTP/1.1", "GET / H|tTP/1.1", "GET / HT|tP/1.1", "GET / HTT|p/1.1", "GET / HTTP|-1.1", "GET / HTTP/|/1.1",
		"GET / HTTP/|0.9", "GET / HTTP/|2.0", "GET / HTTP/|01.1", "GET / HTTP/1|,1", "GET / HTTP/1|\r\n", "GET / HTTP/1.|2", "GET / HTTP/1.|9", "GET / HTTP/1.|/", "GET / HTTP/1.|\r\n", "GET / HTTP/1.1|0", "GET / HTTP/1.0|0", "GET / HTTP/1.1|1",
		"GET / HTTP/1.1| \r\n", "GET / HTTP/1.1|\t\r\n", "GET / HTTP/1.1|\n", "GET / HTTP/1.1\r|\r\n", "GET / HTTP/1.1\r| \n", "GET / HTTP/1.1\r|a", "GET / HTTP/1.0\r|\x00", "GET / HTTP/1.1\r|:",
		"HTTP|/1.1 200 OK",
	} {
		good, rest, _ := strings.Cut(s, "|")
		requests.spoil(t, good, rest, api.ErrLine)
	}
}

// HD1: wrong status lines, cut ahead of the byte that spoils them.
func TestWrongStatusLines(t *testing.T) {
	for _, s := range []string{
		"|\r\nHTTP/1.1 200 OK", "|\n", "| HTTP/1.1 200 OK", "|\tHTTP/1.1 200 OK", "|http/1.1 200 OK", "H|ttp/1.1 200 OK", "HTTP/|2 200", "HTTP/|2.0 200 OK", "HTTP/|0.9 200 OK", "HTTP/1.|2 200 OK", "HTTP/1.1|1 200 OK", "HTTP/1.1|\t200 OK",
		"HTTP/1.1|\r\n", "HTTP/1.1|\n", "HTTP/1.1 | 200 OK", "HTTP/1.1 |\t200 OK", "HTTP/1.1 |\r\n", "HTTP/1.1 |OK", "HTTP/1.1 |-1", "HTTP/1.1 |+200", "HTTP/1.1 |000 a", "HTTP/1.1 |099 a", "HTTP/1.1 |99 a", "HTTP/1.1 |600 a", "HTTP/1.1 |999 a", "HTTP/1.1 |700 a",
		"HTTP/1.1 1|\r\n", "HTTP/1.1 1| ", "HTTP/1.1 10| OK", "HTTP/1.1 20|\r\n", "HTTP/1.1 2|x0 OK", "HTTP/1.1 20|x OK", "HTTP/1.1 200|0 OK", "HTTP/1.1 599|9", "HTTP/1.1 200|\r\n", "HTTP/1.1 200|\n", "HTTP/1.1 200|\tOK", "HTTP/1.1 200|OK", "HTTP/1.1 200|.1 OK",
		"HTTP/1.1 200 |\n", "HTTP/1.1 200 |\x00", "HTTP/1.1 200 O|\x7f", "HTTP/1.1 200 OK|\n", "HTTP/1.1 200 OK\r|\r\n", "HTTP/1.1 200 OK\r| ", "HTTP/1.1 200 O\r|K\r\n", "HTTP/1.1 200 \r|O", "HTTP/1.1 200 a|\x1f",
		"|GET / HTTP/1.1", "H|EAD / HTTP/1.1",
	} {
		good, rest, _ := strings.Cut(s, "|")
		responses.spoil(t, good, rest, api.ErrLine)
	}
}

// HD1: wrong field lines of both kinds of heads, first ones and later ones, cut ahead of the byte that spoils them.
func TestWrongFieldLines(t *testing.T) {
	for _, s := range []string{
		"|:", "|: a", "| a: b", "|\ta: b", "| \r\n", "|\t\r\n", "|\n", "|\x00", "|\x7f", "|\x80", "|\"a\": b", "|(", "|/", "|@", "|[", "|{a", "|,",
		"a|\r\n", "a|\n", "a| : b", "a|\t: b", "a| b: c", "a|\xe9: b", "a|=b", "a|;", "a|\x00: b", "Host| : a",
		"a:|\x00", "a:|\x1f", "a:|\x7f", "a:|\n", "a: |\n", "a: b|\n", "a: b|\x08c", "a: b|\x0bc", "a: b\t|\x0c",
		"a:\r|a", "a:\r|\r\n", "a: b\r| ", "a: b\r|\r\n", "a: b\r|\t\n", "a: b\r|:", "a: b\r|c\r\n", "a: b\r|\x00",
		"a: b\r\n| c\r\n", "a: b\r\n|\tc\r\n", "a: b\r\n| \r\n", "a: b\r\n|:", "a: b\r\n|\n", "a: b\r\n\r|\r\n", "a: b\r\n\r| \n", "\r|\r\n", "\r|a: b", "\r| ", "\r|:", "\r|\x00",
	} {
		good, rest, _ := strings.Cut(s, "|")
		for _, ahead := range []string{"", "x:\r\n", "y: z \r\nY:z\r\n"} {
			requests.spoil(t, "GET / HTTP/1.1\r\n"+ahead+good, rest, api.ErrField)
			requests.spoil(t, "GET / HTTP/1.0\r\n"+ahead+good, rest, api.ErrField)
			responses.spoil(t, "HTTP/1.1 200 OK\r\n"+ahead+good, rest, api.ErrField)
			responses.spoil(t, "HTTP/1.0 404 \r\n"+ahead+good, rest, api.ErrField)
		}
	}
}

// HD1: every byte at every place, for the one that stands there and between, and heads that end there.
func TestEveryByteAtEveryPlace(t *testing.T) {
	for _, g := range both {
		for _, s := range g.well {
			for at := range len(s) + 1 {
				g.checkAll(t, s[:at], 200)
				for c := range 256 {
					g.checkAll(t, s[:at]+one(c)+s[at:], 200)
					if at < len(s) {
						g.checkAll(t, s[:at]+one(c)+s[at+1:], 200)
					}
				}
			}
		}
	}
}

// HD1: a byte left out or doubled, and two left out, at every place.
func TestBytesLeftOut(t *testing.T) {
	for _, g := range both {
		for _, s := range g.well {
			for at := range len(s) {
				g.checkAll(t, s[:at]+s[at+1:], 200)
				g.checkAll(t, s[:at+1]+s[at:], 200)
				g.checkAll(t, s[:at]+s[min(at+2, len(s)):], 200)
			}
		}
	}
}

// HD1: a byte 13 without a 10, and a 10 without a 13, at every place: each is an error at that byte or the one behind it.
func TestBareEnds(t *testing.T) {
	for _, g := range both {
		for _, s := range g.well {
			for at := range len(s) {
				for bare, later := range map[string]int{"\n": 1, "\r\r": 2, "\ra": 2, "\r ": 2, "\r\x00": 2} {
					if at > 0 && s[at-1] == '\r' || s[at] == '\r' || bare == "\n" && s[at] == '\n' {
						continue
					}
					got := g.checkAll(t, s[:at]+bare+s[at:], 200)
					if got.err == nil || got.taken < at+1 || got.taken > at+later {
						t.Errorf("%q at %d of %q: %d, %v", bare, at, s, got.taken, got.err)
					}
				}
			}
			if got := g.checkAll(t, strings.ReplaceAll(s, "\r\n", "\n"), 200); got.err != api.ErrLine || got.taken != strings.Index(s, "\r\n")+1 {
				t.Errorf("%q with bare ends: %d, %v", s, got.taken, got.err)
			}
		}
	}
}

// HD1: every version of two digits, and http in every size of letters.
func TestVersions(t *testing.T) {
	for version := range 100 {
		for _, s := range []string{"GET / HTTP/%d.%d\r\n\r\n", "HTTP/%d.%d 200 \r\n\r\n"} {
			g := requests
			if strings.HasPrefix(s, "HTTP") {
				g = responses
			}
			got := g.checkAll(t, fmt.Sprintf(s, version/10, version%10), 100)
			if got.whole != (version == 10 || version == 11) || got.whole && got.request.Minor+got.response.Minor != version-10 {
				t.Errorf("version %d: %+v", version, got)
			}
		}
	}
	for bits := range 16 {
		word := []byte("HTTP")
		for i := range word {
			if bits>>i&1 == 1 {
				word[i] += 32
			}
		}
		got := requests.checkAll(t, "GET / "+string(word)+"/1.1\r\n\r\n", 100)
		if got.whole != (bits == 0) {
			t.Errorf("%s: %+v", word, got)
		}
		got = responses.checkAll(t, string(word)+"/1.1 200 \r\n\r\n", 100)
		if got.whole != (bits == 0) {
			t.Errorf("%s: %+v", word, got)
		}
	}
}

// HD1: every number up to 6000 as a status, with and without noughts ahead.
func TestStatuses(t *testing.T) {
	for status := range 6001 {
		for _, digits := range []string{"%d", "%03d", "%04d"} {
			text := fmt.Sprintf(digits, status)
			s := lines("HTTP/1.1 " + text + " words")
			right := len(text) == 3 && status >= 100 && status <= 599
			got := responses.of(s, 100)
			responses.check(t, got, 100, s)
			if got.whole != right || right && got.response.Status != status || !right && got.err != api.ErrLine {
				t.Errorf("status %s: %+v", text, got)
			}
		}
	}
}

// HD1: feeds behind a whole head take nothing, and so do those behind an error.
func TestFeedsBehind(t *testing.T) {
	for _, g := range both {
		for _, s := range append([]string{"\n", "G", "H", "HTTP/1.1 700", "GET  ", g.well[0][:len(g.well[0])-1] + "x", g.well[0][:18] + " "}, g.well...) {
			for _, most := range []int{1, 10, len(s), 1000} {
				want := g.of(s, most)
				pieces := []string{"", s, "", "a", s, "\r\n\r\n", "\n", "\x00", "", strings.Repeat("x", 70000)}
				if !want.whole && want.err == nil {
					continue
				}
				g.check(t, want, most, pieces...)
				g.check(t, want, most, append(singles(s), pieces...)...)
			}
		}
	}
}

// HD1: the empty feed, ahead of a head, in it and behind it, changes nothing.
func TestEmptyFeeds(t *testing.T) {
	for _, g := range both {
		r := g.reader(t, 100)
		for _, b := range [][]byte{nil, {}} {
			if n, whole, err := r.Feed(b); n != 0 || whole || err != nil || r.Len() != 0 {
				t.Errorf("Feed of nothing = %d, %v, %v, Len %d", n, whole, err, r.Len())
			}
		}
		for _, s := range g.well {
			pieces := []string{"", ""}
			for _, piece := range singles(s) {
				pieces = append(pieces, piece, "")
			}
			g.check(t, g.of(s, 100), 100, pieces...)
		}
	}
}

// HD1, HD2: what stands behind a head is not taken, whatever it is.
func TestBytesBehind(t *testing.T) {
	for _, g := range both {
		for _, s := range g.well {
			want := g.of(s, len(s))
			for _, behind := range []string{"a", "\r\n", "\n", "\x00", " ", ":", s, "body\r\n\r\n", strings.Repeat("x", 70000)} {
				g.check(t, want, len(s), s+behind)
				g.check(t, want, 65536, s+behind, behind)
				g.check(t, want, 65536, s[:len(s)-1], "\n"+behind, behind)
				g.checkParse(t, want, len(s), s+behind)
			}
			for c := range 256 {
				g.check(t, want, len(s), s+one(c), one(c))
			}
		}
	}
}

// HD1: every most, with heads that go well and that are spoilt: at the byte too many ErrSize, whatever is wrong with it.
func TestEveryMost(t *testing.T) {
	for _, g := range both {
		for _, s := range g.well {
			for most := 1; most < len(s)+3; most++ {
				got := g.checkAll(t, s, most)
				if most < len(s) && (got.taken != most+1 || got.err != api.ErrSize) || most >= len(s) && !got.whole {
					t.Errorf("%q with most %d: %+v", s, most, got)
				}
				for _, wrong := range []string{"\n", "\x00", "\r", "\x7f"} {
					bad := s[:min(most, len(s)-1)]
					if strings.HasSuffix(bad, "\r") && wrong == "\n" {
						continue
					}
					if got := g.checkAll(t, bad+wrong+"a", most); got.taken != len(bad)+1 && wrong != "\r" || most < len(s) && got.err != api.ErrSize {
						t.Errorf("%q with most %d: %+v", bad+wrong, most, got)
					}
				}
			}
		}
	}
}

// HD1: an error one byte ahead of the one too many is no ErrSize.
func TestErrorAheadOfSize(t *testing.T) {
	requests.check(t, answer{taken: 5, err: api.ErrLine}, 5, "GET  /")
	requests.check(t, answer{taken: 5, err: api.ErrSize}, 4, "GET  /")
	responses.check(t, answer{taken: 10, err: api.ErrLine}, 10, "HTTP/1.1 600")
	responses.check(t, answer{taken: 10, err: api.ErrSize}, 9, "HTTP/1.1 600")
	requests.check(t, answer{taken: 17, err: api.ErrField}, 17, "GET / HTTP/1.1\r\n a")
	requests.check(t, answer{taken: 17, err: api.ErrSize}, 16, "GET / HTTP/1.1\r\n a")
	requests.check(t, answer{taken: 16}, 16, "GET / HTTP/1.1\r\n")
}

// HD1: heads of MaxHead bytes and of one more, by each part that can be long.
func TestLongParts(t *testing.T) {
	long := func(form string, size int) string {
		return fmt.Sprintf(form, strings.Repeat("x", size-len(form)+2))
	}
	for _, form := range []string{"%s / HTTP/1.1\r\n\r\n", "GET %s HTTP/1.1\r\n\r\n", "GET / HTTP/1.1\r\n%s:\r\n\r\n", "GET / HTTP/1.1\r\na:%s\r\n\r\n", "GET / HTTP/1.1\r\na: b\r\nc: %s \r\nd:e\r\n\r\n", "HTTP/1.1 200 %s\r\n\r\n", "HTTP/1.1 200 \r\na:\t%s\r\n\r\n"} {
		g := requests
		if strings.HasPrefix(form, "HTTP") {
			g = responses
		}
		for _, size := range []int{1000, 65535, 65536, 65537, 65538} {
			s := long(form, size)
			got := g.checkAll(t, s, 65536)
			if len(s) != size || got.whole != (size <= 65536) || got.taken != min(size, 65537) {
				t.Errorf("%q of %d bytes: %d, %v, %v", form, size, got.taken, got.whole, got.err)
			}
			g.checkAll(t, s, size-1000+1)
		}
	}
	blanks := strings.Repeat(" \t", 30000)
	s := lines("GET / HTTP/1.1", "a:"+blanks, "b:c"+blanks)
	if got := requests.checkAll(t, s, 65536); got.err != api.ErrSize {
		t.Errorf("%d blanks: %v", len(s), got.err)
	}
	got := requests.checkAll(t, lines("GET / HTTP/1.1", "a:"+blanks, "b: c "), 65536)
	if !got.whole || got.request.Fields[0].Value != "" || got.request.Fields[1].Value != "c" {
		t.Errorf("a value of blanks: %v", got.err)
	}
}

// HD1: MaxFields fields and more, with each kind of end, and with the size wrong at the same byte, ahead of it and behind it.
func TestManyFields(t *testing.T) {
	for _, g := range both {
		first := strings.SplitAfter(g.well[0], "\r\n")[0]
		for _, line := range []string{"a:\r\n", "Name: a value \r\n"} {
			for _, count := range []int{0, 1, 2, 63, 64, 65, 66, 100} {
				s := first + strings.Repeat(line, count) + "\r\n"
				at := len(first) + 65*len(line) // with the 10 that makes one too many
				got := g.checkAll(t, s, 65536)
				if count <= 64 && (!got.whole || len(got.request.Fields)+len(got.response.Fields) != count) || count > 64 && (got.taken != at || got.err != api.ErrSize) {
					t.Errorf("%d fields: %d, %v, %v", count, got.taken, got.whole, got.err)
				}
				for most := max(1, at-3); most <= at+3; most++ {
					g.checkAll(t, s, most)
				}
			}
			s := first + strings.Repeat(line, 64)
			at := len(s) + len(line)
			for rest, want := range map[string]answer{
				line[:len(line)-1]:        {taken: at - 1},
				line:                      {taken: at, err: api.ErrSize},
				line + "\x00":             {taken: at, err: api.ErrSize},
				line[:len(line)-1] + "x":  {taken: at, err: api.ErrField},
				line[:len(line)-1] + "\r": {taken: at, err: api.ErrField},
				line[:len(line)-2] + "\n": {taken: at - 1, err: api.ErrField},
				"\r":                      {taken: len(s) + 1},
				"\rx":                     {taken: len(s) + 2, err: api.ErrField},
				" ":                       {taken: len(s) + 1, err: api.ErrField},
				":":                       {taken: len(s) + 1, err: api.ErrField},
			} {
				g.check(t, want, 65536, s+rest)
				g.check(t, want, 65536, s, rest)
				g.check(t, want, 65536, singles(s+rest)...)
				if want.err != nil {
					g.check(t, answer{taken: want.taken, err: api.ErrSize}, want.taken-1, s+rest)
					g.check(t, want, want.taken, s+rest)
				}
			}
		}
	}
}

// HD1: a reader of one kind has no head of the other, and neither kind reads the other's.
func TestOtherKind(t *testing.T) {
	for _, g := range both {
		for _, s := range append(wellRequests(), wellResponses()...) {
			g.checkAll(t, s, 200)
		}
	}
	q, _ := NewRequest(100)
	q.Feed([]byte(wellRequests()[0]))
	if p, err := q.Response(); !sameResponse(p, api.Response{}) || err != api.ErrNone {
		t.Errorf("Response of a request: %+v, %v", p, err)
	}
	p, _ := NewResponse(100)
	p.Feed([]byte(wellResponses()[0]))
	if q, err := p.Request(); !sameRequest(q, api.Request{}) || err != api.ErrNone {
		t.Errorf("Request of a response: %+v, %v", q, err)
	}
}

// HD2: a text that ends at any place ahead of a head's end; one that is spoilt, too large, or goes on.
func TestParse(t *testing.T) {
	for _, g := range both {
		for _, s := range g.well {
			for at := range len(s) {
				g.checkParse(t, answer{taken: at}, 200, s[:at])
				g.checkParse(t, answer{taken: at}, max(at, 1), s[:at])
				if at > 1 {
					g.checkParse(t, answer{taken: at, err: api.ErrSize}, at-1, s[:at])
				}
			}
			g.checkParse(t, g.of(s, 200), 200, s)
			g.checkParse(t, g.of(s, 200), len(s), s+"x")
		}
		g.checkParse(t, answer{}, 1, "")
		g.checkParse(t, answer{taken: 1, err: api.ErrLine}, 1, "\r\n\r\n")
	}
	requests.checkParse(t, answer{taken: 4, err: api.ErrLine}, 100, "GET\r")
	requests.checkParse(t, answer{taken: 17, err: api.ErrField}, 100, "GET / HTTP/1.1\r\n:")
	responses.checkParse(t, answer{taken: 19, err: api.ErrField}, 100, "HTTP/1.1 200 OK\r\na b: c\r\n\r\n")
}
