package host

import (
	"strings"
	"testing"
	"turnstile/api"
)

// HT1: a host comes back in small letters, and what is none is refused.
func TestCanon(t *testing.T) {
	for host, want := range map[string]string{
		"a": "a", "A": "a", "Z": "z", "0": "0", "-": "-", "_": "_", "a.b": "a.b", "A.b.C": "a.b.c", "-.-": "-.-", "_a._b": "_a._b", "a-": "a-", "-a": "-a",
		"WWW.Example.COM": "www.example.com", "127.0.0.1": "127.0.0.1", "1": "1", "x--Y.Z__9": "x--y.z__9", "a.b.c.d.e.f": "a.b.c.d.e.f", "00.00": "00.00",
		"ABCDEFGHIJKLMNOPQRSTUVWXYZ": "abcdefghijklmnopqrstuvwxyz", "abcdefghijklmnopqrstuvwxyz0123456789-_": "abcdefghijklmnopqrstuvwxyz0123456789-_",
	} {
		checkHost(t, host, want)
		checkHost(t, want, want)
	}
	for _, host := range []string{
		"", ".", "..", "a.", ".a", "a..b", ".a.b", "a.b.", "a...b", "...", "a..", "..a",
		"*", "*.a", "a.*", "a.*.b", "*.*", "a*", "*a", "a.b*", "**", "a.**",
		" ", "a ", " a", "a b", "a\t", "a\n", "a\r\n", "\x00", "a\x00", "a.\x00", "\x7f", "\x80", "\xff", "é", "a.é", "ä.b", "\u212a", "\u017f",
		"a:80", "a:", ":", ":80", "[::1]", "a/b", "a@b", "a%20", "a,b", "a+b", "a!", "a~b", "http://a", "a?b", "a#b", "a;b", "a=b", "a`b", "{a}", "(a)", "a'b", "a\"b", "a\\b", "a^b", "a|b", "a$b", "a&b",
	} {
		checkHost(t, host, "")
	}
}

// HT1: each byte as a label, at its begin, in its midst and at its end, in hosts and in patterns.
func TestEachByte(t *testing.T) {
	for c := range 256 {
		x := string([]byte{byte(c)})
		plain := '0' <= c && c <= '9' || 'A' <= c && c <= 'Z' || 'a' <= c && c <= 'z' || c == '-' || c == '_'
		for _, form := range []string{"%", "%.a", "a.%", "a.%.b", "%a", "a%", "b.%a", "b.a%", "%a.b", "a%.b", "%%"} {
			s := strings.ReplaceAll(form, "%", x)
			want := ""
			if plain {
				want = strings.ToLower(s)
			}
			checkHost(t, s, want)
			alone := c == '*' && !strings.Contains(form, "%a") && !strings.Contains(form, "a%") && form != "%%"
			checkPattern(t, s, plain || alone)
		}
		// A dot parts a label in two of which both are labels.
		for _, form := range []string{"a%a", "b.a%a", "a%a.b"} {
			s := strings.ReplaceAll(form, "%", x)
			want := ""
			if plain || c == '.' {
				want = strings.ToLower(s)
			}
			checkHost(t, s, want)
			checkPattern(t, s, want != "")
		}
		checkPattern(t, "*"+x, false)
		checkPattern(t, x+"*", false)
		checkPattern(t, "*"+x+"*", c == '.')
		checkPattern(t, "*."+x, plain || c == '*')
	}
}

// HT1: a pattern is a host, in which labels may be stars, or the empty text.
func TestCheck(t *testing.T) {
	for _, p := range []string{
		"", "*", "*.*", "*.*.*", "*.a", "a.*", "a.*.b", "*.a.*", "*.b.c", "a.*.c", "A.*.C", "*.*.c", "a", "A", "a.b", "0.*", "-.*", "*._", "WWW.*.com", "*.example.COM",
		strings.Repeat("a", 63), "*." + strings.Repeat("a", 63), strings.Repeat("Z", 63) + ".*",
	} {
		checkPattern(t, p, true)
	}
	for _, p := range []string{
		".", "..", "*.", ".*", "*..*", "*..a", "a..*", ".*.a", "*.a.", "**", "***", "*a", "a*", "a*b", "*.a*", "*.**", "*a.b", "a.*b", "a.b*", "a.b*.c",
		" ", "* ", " *", "*.a b", "*.\x00", "*.\x7f", "*.\x80", "*.\xff", "*.é", "é.*", "*:80", "*.a:80", "a/*", "*.a/", "*@a", "*,a", "*.?", "?", "*\n", "*.a\n",
		strings.Repeat("a", 64), "*." + strings.Repeat("a", 64), strings.Repeat("a", 64) + ".*", "*." + strings.Repeat("*", 63),
	} {
		checkPattern(t, p, false)
	}
}

// HT1: at most 253 bytes, and at most 63 of a label.
func TestSizes(t *testing.T) {
	for n := 1; n <= 63; n++ {
		s := strings.Repeat("L", n)
		for _, form := range []string{"%", "%.a", "a.%", "a.%.b", "%.%"} {
			h := strings.ReplaceAll(form, "%", s)
			checkHost(t, h, strings.ToLower(h))
			checkPattern(t, h, true)
			checkPattern(t, h+".*", true)
		}
	}
	for _, n := range []int{64, 65, 100, 127, 128, 192, 253, 254, 1 << 20} {
		s := strings.Repeat("l", n)
		for _, form := range []string{"%", "%.a", "a.%", "a.%.b"} {
			h := strings.ReplaceAll(form, "%", s)
			checkHost(t, h, "")
			checkPattern(t, h, false)
			checkPattern(t, "*."+h, false)
		}
	}
	for n := 1; n <= 300; n++ {
		h := sized(n)
		if len(h) != n {
			t.Fatal(n, h)
		}
		want := h
		if n > 253 {
			want = ""
		}
		checkHost(t, h, want)
		checkPattern(t, h, n <= 253)
		if n > 2 {
			checkPattern(t, "*."+sized(n-2), n <= 253)
			checkPattern(t, sized(n-2)+".*", n <= 253)
		}
	}
	for _, label := range []string{"a", "0", "_"} {
		checkHost(t, dotted(label, 127), dotted(label, 127))
		checkHost(t, dotted(label, 128), "")
		checkHost(t, dotted(label, 126)+"."+label+label, "")
		checkHost(t, dotted(label, 125)+"."+label+label+label, dotted(label, 125)+"."+label+label+label)
	}
	checkPattern(t, dotted("*", 127), true)
	checkPattern(t, dotted("*", 128), false)
	checkPattern(t, dotted("*", 127)+".", false)
	checkHost(t, dotted("a", 1<<19), "")
	checkPattern(t, dotted("*", 1<<19), false)
}

// HT1: every short text as a host and as a pattern.
func TestEachShortText(t *testing.T) {
	hosts := 0
	for _, s := range texts("a.*-B:\x80", 6) {
		want, err := ofCanon(s)
		if err == nil {
			hosts++
		}
		checkHost(t, s, want)
		checkPattern(t, s, isPattern(s))
	}
	if n := len(those(texts("a.*-B", 6), isPattern)); hosts < 1500 || n < 2000 {
		t.Errorf("only %d hosts and %d patterns", hosts, n)
	}
}

// HT1: a pattern fits, where it has as many labels, and each is a star or the host's.
func TestFits(t *testing.T) {
	for _, c := range []struct {
		pattern string
		fits    []string
		not     []string
	}{
		{"", []string{"a", "A", "a.b", "0", "-", sized(253), dotted("a", 127)}, nil},
		{"a", []string{"a", "A"}, []string{"b", "aa", "a.a", "a-", "_"}},
		{"AbC", []string{"abc", "ABC", "aBc"}, []string{"ab", "abcd", "a.b.c"}},
		{"*", []string{"a", "b", "Z", "0", "-", "_", strings.Repeat("x", 63)}, []string{"a.b", "a.b.c"}},
		{"*.*", []string{"a.b", "A.B"}, []string{"a", "a.b.c"}},
		{"*.b", []string{"a.b", "b.b", "A.B", "x-_.b"}, []string{"b", "a.b.b", "b.a", "a.bb", "a.c"}},
		{"a.*", []string{"a.b", "a.a", "A.X"}, []string{"a", "a.b.c", "b.a", "aa.b"}},
		{"*.b.c", []string{"a.b.c", "A.B.C", "b.b.c"}, []string{"b.c", "a.a.b.c", "a.b", "a.c.b", "a.b.d", "a.x.c"}},
		{"a.*.c", []string{"a.b.c", "a.x.C", "A.A.C"}, []string{"a.c", "a.b.b.c", "b.b.c", "a.b.a"}},
		{"a.b.*", []string{"a.b.c", "a.B.x"}, []string{"a.b", "a.b.c.d", "b.b.c", "a.a.c"}},
		{"*.b.*", []string{"a.b.c", "b.B.b"}, []string{"a.a.b", "b.a.a", "b", "a.b"}},
		{"a.b.c", []string{"a.b.c", "A.B.C", "a.b.C"}, []string{"c.b.a", "a.b", "b.c", "a.b.c.d", "x.a.b.c", "a.b.cc", "ab.c", "abc"}},
		{"a_b", []string{"a_b", "A_B"}, []string{"a-b", "a.b"}},
		{"00", []string{"00"}, []string{"0", "000", "0.0"}},
		{dotted("*", 127), []string{dotted("a", 127)}, []string{dotted("a", 126), dotted("a", 1)}},
		{"*." + dotted("a", 126), []string{dotted("a", 127), "b." + dotted("A", 126)}, []string{dotted("a", 126), dotted("a", 126) + ".b"}},
		{sized(253), []string{sized(253), strings.ToUpper(sized(253))}, []string{sized(252), "a"}},
	} {
		for _, h := range c.fits {
			checkFits(t, c.pattern, h, true, nil)
		}
		for _, h := range c.not {
			checkFits(t, c.pattern, h, false, nil)
		}
	}
}

// wrongHosts and wrongPatterns are none, each for a reason of its own.
var (
	wrongHosts    = []string{"", ".", "a.", ".a", "a..b", "*", "*.a", "a*", "a b", "a:80", "\x00", "a\xff", "é", strings.Repeat("a", 64), sized(254)}
	wrongPatterns = []string{".", "a.", ".a", "a..b", "**", "a*", "*.", "a b", "*:80", "\x00", "*.\xff", "é", strings.Repeat("a", 64), sized(254), dotted("*", 128)}
)

// HT1: what is no pattern, or no host, fits nothing.
func TestNoFits(t *testing.T) {
	for _, h := range wrongHosts {
		for _, p := range []string{"", "*", "a", "*.a", "a.b"} {
			checkFits(t, p, h, false, api.ErrForm)
		}
		for _, p := range wrongPatterns {
			checkFits(t, p, h, false, api.ErrForm)
		}
	}
	for _, p := range wrongPatterns {
		for _, h := range []string{"a", "a.b", "A.B.C", sized(253)} {
			checkFits(t, p, h, false, api.ErrForm)
		}
	}
}

// HT1: of two that fit, the first label from the last one on that is plain but in one tells which goes ahead; the empty pattern goes behind all.
func TestBeats(t *testing.T) {
	for _, c := range []struct{ ahead, behind, host string }{
		{"a", "*", "a"}, {"a", "", "a"}, {"*", "", "a"}, {"A", "*", "a"}, {"a", "*", "A"},
		{"a.b", "*.b", "a.b"}, {"a.b", "a.*", "a.b"}, {"a.b", "*.*", "a.b"}, {"a.b", "", "a.b"}, {"*.b", "a.*", "a.b"}, {"*.b", "*.*", "a.b"}, {"a.*", "*.*", "a.b"}, {"*.*", "", "a.b"}, {"*.B", "A.*", "a.b"},
		{"*.b.c", "a.*.c", "a.b.c"}, {"*.b.c", "a.b.*", "a.b.c"}, {"a.*.c", "a.b.*", "a.b.c"}, {"*.*.c", "a.b.*", "a.b.c"}, {"*.b.*", "a.*.*", "a.b.c"}, {"a.*.*", "*.*.*", "a.b.c"},
		{"a.b.c", "*.b.c", "a.b.c"}, {"a.b.c", "a.*.c", "a.b.c"}, {"a.b.c", "a.b.*", "a.b.c"}, {"a.*.c", "*.*.c", "a.b.c"}, {"*.b.c", "*.*.c", "a.b.c"}, {"a.b.*", "*.b.*", "a.b.c"}, {"a.b.*", "a.*.*", "a.b.c"},
		{"*.*.*", "", "a.b.c"}, {"a.*.c", "", "a.b.c"}, {"*.B.c", "a.*.C", "A.b.C"},
		{"*.*.*.d", "a.b.c.*", "a.b.c.d"}, {"*.*.c.*", "a.b.*.*", "a.b.c.d"}, {"*.b.c.*", "a.*.c.*", "a.b.c.d"}, {"a.*.c.d", "*.*.c.d", "a.b.c.d"},
		{dotted("*", 126) + ".a", dotted("a", 126) + ".*", dotted("a", 127)}, {"a." + dotted("*", 126), dotted("*", 127), dotted("a", 127)}, {dotted("a", 127), "*." + dotted("a", 126), dotted("a", 127)}, {dotted("*", 127), "", dotted("a", 127)},
		{dotted("*", 62) + "." + dotted("a", 65), dotted("a", 62) + ".*." + dotted("a", 64), dotted("a", 127)}, {dotted("*", 64) + "." + dotted("a", 63), dotted("a", 64) + ".*." + dotted("a", 62), dotted("a", 127)},
	} {
		checkBeats(t, c.ahead, c.behind, c.host, true, nil)
		checkBeats(t, c.behind, c.ahead, c.host, false, nil)
	}
	for _, c := range []struct{ pattern, other, host string }{
		{"", "", "a"}, {"", "", "a.b.c"}, {"*", "*", "a"}, {"a", "a", "a"}, {"a", "A", "a"}, {"a", "A", "A"}, {"A.b", "a.B", "a.b"}, {"*.b", "*.B", "a.b"}, {"a.*.c", "A.*.C", "a.b.c"}, {"*.*", "*.*", "a.b"}, {"a.b.c", "A.B.C", "a.B.c"},
	} {
		checkBeats(t, c.pattern, c.other, c.host, false, nil)
		checkBeats(t, c.other, c.pattern, c.host, false, nil)
	}
}

// HT1: what is none is told ahead of what does not fit.
func TestBeatsNot(t *testing.T) {
	for _, bad := range wrongPatterns {
		for _, other := range []string{"a", "*", "", "b", "a.b", bad} {
			for _, h := range []string{"a", "A", "a.b", "b.b", "", "*", "a..b"} {
				checkBeats(t, bad, other, h, false, api.ErrForm)
				checkBeats(t, other, bad, h, false, api.ErrForm)
			}
		}
	}
	for _, bad := range wrongHosts {
		for _, a := range []string{"a", "*", "", "b", "a.b"} {
			for _, b := range []string{"a", "*", "", "b", "*.b"} {
				checkBeats(t, a, b, bad, false, api.ErrForm)
			}
		}
	}
	for _, c := range []struct{ fits, not, host string }{
		{"a", "b", "a"}, {"*", "b", "a"}, {"", "b", "a"}, {"a", "*.a", "a"}, {"*", "*.*", "a"}, {"", "*.*", "a"}, {"a.b", "a", "a.b"}, {"*.b", "*", "a.b"}, {"a.*", "b.*", "a.b"}, {"*.b.c", "b.c", "a.b.c"}, {"*.b.c", "*.*.b.c", "a.b.c"}, {"", "a.b.d", "A.b.c"},
	} {
		checkBeats(t, c.fits, c.not, c.host, false, api.ErrNone)
		checkBeats(t, c.not, c.fits, c.host, false, api.ErrNone)
		checkBeats(t, c.not, c.not, c.host, false, api.ErrNone)
	}
	checkBeats(t, "b", "*.*", "a", false, api.ErrNone)
}
