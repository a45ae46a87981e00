package trie

import (
	"fmt"
	"strings"
	"testing"
	"turnstile/api"
)

// TR1: patterns, by what their segments are.
func TestCheck(t *testing.T) {
	for _, p := range []string{
		"/", "//", "///", "/a", "/a/", "/a//b", "//a", "/.", "/..", "/%2F", "/{}?#[]@", "/a=1;b=2", "/-", "/~!",
		"/:a", "/*a", "/:a/", "//:a", "/a/:b", "/a/*b", "/:a/*b", "/a/:b/c/:d/*e", "/:a/:b/:c", "//*a", "/:a//*b",
		"/a:", "/a*", "/a:b", "/a*b", "/a:b/c*d", "/a::", "/a**", "/ab:*", "/-:a",
		"/:*", "/**", "/:**", "/:*a", "/***", "/:!#$%&'*+-.^_`|~09AZaz", "/*!#$%&'*+-.^_`|~09AZaz", "/:0", "/*-",
	} {
		checkPattern(t, p, true)
	}
	for _, p := range []string{
		"", "a", "a/", ":a", "*a", "*", ":", " /", " /a", "\x00/", "\\a", "%2Fa", "a/b",
		"/:", "/*", "/:/a", "/a/:", "/a/*", "/*/", "/:/", "/::", "/:::", "/*:", "/::a", "/*:a", "/:a:", "/:a:b", "/*a:b",
		"/*a/", "/*a/b", "/*a/*b", "/*a/:b", "/a/*b/c", "/a/*b/", "/:a/*b/:c", "/*a//",
		"/:a b", "/*a b", "/: a", "/:a ", "/:a=", "/:(a)", "/:{a}", "/:a@", "/*a,b", "/:\"", "/:a\\", "/:a[", "/*?", "/:a;",
		"/ ", "/a b", "/a ", "/a/ ", "/a\t", "/\x00", "/a\x00", "/\x7f", "/\x80", "/\xff", "/é", "/:é", "/*é", "/a\n", "/a\r\n", "/\x1f", "/a/b/\x7f/c",
	} {
		checkPattern(t, p, false)
	}
}

// TR1: no token stands twice, be it of parameters or of the rest; letters of another size, and plain segments, are others.
func TestTokensTwice(t *testing.T) {
	for _, p := range []string{"/:a/:a", "/:a/*a", "/:a/b/:a", "/:a/:b/:a", "/:b/:a/:c/*a", "/a/:a/:a", "/:*/**", "/:a//*a", "/:abc/:abd/:abc"} {
		checkPattern(t, p, false)
	}
	for _, p := range []string{"/:a/:A", "/:id/*ID", "/:Id/:iD/:ID/*id", "/:a/:ab", "/:ab/:a/:b", "/a/:a", "/:a/a", "/a/a", "/a/*a", "/:a/a:a", "/:a/a*a", "/:a/:aa/*aaa", "/:*/***", "//:a//"} {
		checkPattern(t, p, true)
	}
}

// TR1: each byte in a plain segment, at its begin, in its midst and at its end, and in a token.
func TestEachByte(t *testing.T) {
	token := func(c int) bool {
		return '0' <= c && c <= '9' || 'A' <= c && c <= 'Z' || 'a' <= c && c <= 'z' || strings.IndexByte("!#$%&'*+-.^_`|~", byte(c)) >= 0
	}
	for c := range 256 {
		x := string([]byte{byte(c)})
		visible := c > 32 && c < 127
		// A slash parts a segment in two of which both may be.
		for _, p := range []string{"/a%s", "/a%sa", "/a/b%s/c", "/:x/a%s", "/a%s/*x"} {
			checkPattern(t, strings.Replace(p, "%s", x, 1), visible)
		}
		for _, p := range []string{"/%s", "/%s/a", "/a/%s"} {
			checkPattern(t, strings.Replace(p, "%s", x, 1), visible && c != ':' && c != '*')
		}
		// Behind one of the two bytes stands a token, which may also begin with the second.
		checkPattern(t, "/"+x+"a", visible)
		for _, p := range []string{"/:%s", "/:%s/a", "/a/:%s", "/*%s", "/a/*%s"} {
			checkPattern(t, strings.Replace(p, "%s", x, 1), token(c))
		}
		for _, p := range []string{"/:a%s", "/:a%sa", "/:a%s/b"} {
			checkPattern(t, strings.Replace(p, "%s", x, 1), token(c) || c == '/')
		}
		for _, p := range []string{"/*a%s", "/*a%sa", "/b/*a%sa"} {
			checkPattern(t, strings.Replace(p, "%s", x, 1), token(c))
		}
		checkPattern(t, x+"a", c == '/')
		checkPattern(t, x, c == '/')
	}
}

// TR1: every short text.
func TestEachShortPattern(t *testing.T) {
	for _, s := range texts("/:*aA \x80", 6) {
		checkPattern(t, s, ofCheck(s))
	}
	if n := len(lawful(texts("/:*aA", 6))); n < 2000 {
		t.Errorf("only %d of the texts are patterns", n)
	}
}

// rows is so many segments, of which each parameter has a token of its own.
func rows(n int, form string) string {
	var b strings.Builder
	for i := range n {
		if strings.Contains(form, "%d") {
			fmt.Fprintf(&b, form, i)
		} else {
			b.WriteString(form)
		}
	}
	return b.String()
}

// TR1: at most 256 bytes, and at most MaxSegments segments.
func TestSizesOfPatterns(t *testing.T) {
	if api.MaxSegments != maxSegments {
		t.Fatal(api.MaxSegments)
	}
	for _, ahead := range []string{"/", "/:", "/*", "/a/", "/a/:b/*"} {
		for _, n := range []int{250, 255, 256} {
			checkPattern(t, ahead+strings.Repeat("x", n-len(ahead)), true)
		}
		for _, n := range []int{257, 258, 300, 512, 1 << 16} {
			checkPattern(t, ahead+strings.Repeat("x", n-len(ahead)), false)
		}
	}
	for _, form := range []string{"/", "/a", "/:%d", "/a:"} {
		for n := 1; n <= 64; n++ {
			checkPattern(t, rows(n, form), true)
		}
		for n := 65; n <= 70; n++ {
			checkPattern(t, rows(n, form), false)
		}
		checkPattern(t, rows(63, form)+"/*all", true)
		checkPattern(t, rows(64, form)+"/*all", false)
		checkPattern(t, rows(63, form)+"/", true)
		checkPattern(t, rows(64, form)+"/", false)
	}
	checkPattern(t, rows(64, "/aaa"), true)
	checkPattern(t, rows(64, "/aaa")+"a", false)
	checkPattern(t, rows(63, "/aaa")+"/aaaa", false)
	checkPattern(t, rows(100, "/"), false)
	checkPattern(t, rows(256, "/"), false)
}

// TR1: plain segments fit those that are the same.
func TestFitsPlain(t *testing.T) {
	checkFits(t, "/", "/", true)
	checkFits(t, "/", "//", false)
	checkFits(t, "/", "/a", false)
	checkFits(t, "//", "//", true)
	checkFits(t, "//", "/", false)
	checkFits(t, "//", "///", false)
	checkFits(t, "/a", "/a", true)
	checkFits(t, "/a", "/", false)
	checkFits(t, "/a", "/a/", false)
	checkFits(t, "/a", "//a", false)
	checkFits(t, "/a", "/A", false)
	checkFits(t, "/a", "/ab", false)
	checkFits(t, "/ab", "/a", false)
	checkFits(t, "/a/", "/a/", true)
	checkFits(t, "/a/", "/a", false)
	checkFits(t, "/a/", "/a/b", false)
	checkFits(t, "/a/", "/a//", false)
	checkFits(t, "/a/b", "/a/b", true)
	checkFits(t, "/a/b", "/b/a", false)
	checkFits(t, "/a/b", "/a/b/c", false)
	checkFits(t, "/a/b/c", "/a/b", false)
	checkFits(t, "/a//b", "/a//b", true)
	checkFits(t, "/a//b", "/a/b", false)
	checkFits(t, "/%61", "/a", false)
	checkFits(t, "/a", "/%61", false)
	checkFits(t, "/a/../b", "/b", false)
	checkFits(t, "/a*b", "/axb", false)
	checkFits(t, "/a*b", "/a*b", true)
	checkFits(t, "/a:b", "/a:b", true)
	checkFits(t, "/a:b", "/ac", false)
	checkFits(t, "/a", "/a\x00", false)
	checkFits(t, "/a", "/a ", false)
	checkFits(t, "/a?x=1", "/a", false)
	checkFits(t, "/a?x=1", "/a?x=1", true)
	checkFits(t, rows(64, "/a"), rows(64, "/a"), true)
	checkFits(t, rows(64, "/a"), rows(65, "/a"), false)
	checkFits(t, rows(64, "/a"), rows(63, "/a"), false)
}

// TR1: a parameter fits each segment but the empty one; parameters come in their order.
func TestFitsParameters(t *testing.T) {
	checkFits(t, "/:a", "/x", true, fieldsOf("a", "x")...)
	checkFits(t, "/:a", "/", false)
	checkFits(t, "/:a", "//", false)
	checkFits(t, "/:a", "/x/", false)
	checkFits(t, "/:a", "//x", false)
	checkFits(t, "/:a", "/x/y", false)
	checkFits(t, "/:a/", "/x/", true, fieldsOf("a", "x")...)
	checkFits(t, "/:a/", "/x", false)
	checkFits(t, "/:a/", "/x/y", false)
	checkFits(t, "/:a/", "//", false)
	checkFits(t, "/x/:a", "/x/y", true, fieldsOf("a", "y")...)
	checkFits(t, "/x/:a", "/x/", false)
	checkFits(t, "/x/:a", "/x", false)
	checkFits(t, "/x/:a", "/y/x", false)
	checkFits(t, "/:a/x", "/y/x", true, fieldsOf("a", "y")...)
	checkFits(t, "/:a/x", "//x", false)
	checkFits(t, "/:a/x", "/y/y", false)
	checkFits(t, "/:a/:b", "/x/y", true, fieldsOf("a", "x", "b", "y")...)
	checkFits(t, "/:b/:a", "/x/y", true, fieldsOf("b", "x", "a", "y")...)
	checkFits(t, "/:a/:A", "/x/y", true, fieldsOf("a", "x", "A", "y")...)
	checkFits(t, "/:a/:b", "//y", false)
	checkFits(t, "/:a/:b", "/x/", false)
	checkFits(t, "/:c/m/:b/n/:a", "/x/m/y/n/z", true, fieldsOf("c", "x", "b", "y", "a", "z")...)
	checkFits(t, "/:c/m/:b/n/:a", "/x/m/y/n/", false)
	checkFits(t, "/:c/m/:b/n/:a", "/x/m/y/m/z", false)
	for _, s := range []string{":", "*", ":a", "*a", " ", "\x00", "\xff", "é", "%2F", ".", "..", "a b", strings.Repeat("x", 100000)} {
		checkFits(t, "/:a", "/"+s, true, fieldsOf("a", s)...)
		checkFits(t, "/p/:a/q", "/p/"+s+"/q", true, fieldsOf("a", s)...)
	}
	var want []api.Field
	for i := range 64 {
		want = append(want, fieldsOf(fmt.Sprint(i), fmt.Sprint("v", i))...)
	}
	checkFits(t, rows(64, "/:%d"), rows(64, "/v%d"), true, want...)
	checkFits(t, rows(64, "/:%d"), rows(65, "/v%d"), false)
	checkFits(t, rows(63, "/:%d"), rows(64, "/v%d"), false)
}

// TR1: the rest is one segment at least, which may be empty.
func TestFitsRest(t *testing.T) {
	checkFits(t, "/*r", "/", true, fieldsOf("r", "")...)
	checkFits(t, "/*r", "/x", true, fieldsOf("r", "x")...)
	checkFits(t, "/*r", "/x/", true, fieldsOf("r", "x/")...)
	checkFits(t, "/*r", "//", true, fieldsOf("r", "/")...)
	checkFits(t, "/*r", "///", true, fieldsOf("r", "//")...)
	checkFits(t, "/*r", "//x", true, fieldsOf("r", "/x")...)
	checkFits(t, "/*r", "/x/y/z", true, fieldsOf("r", "x/y/z")...)
	checkFits(t, "/a/*r", "/a", false)
	checkFits(t, "/a/*r", "/a/", true, fieldsOf("r", "")...)
	checkFits(t, "/a/*r", "/a//", true, fieldsOf("r", "/")...)
	checkFits(t, "/a/*r", "/a/x", true, fieldsOf("r", "x")...)
	checkFits(t, "/a/*r", "/a/x/y//", true, fieldsOf("r", "x/y//")...)
	checkFits(t, "/a/*r", "/b/x", false)
	checkFits(t, "/a/*r", "/", false)
	checkFits(t, "/a/*r", "//a", false)
	checkFits(t, "//*r", "/", false)
	checkFits(t, "//*r", "//", true, fieldsOf("r", "")...)
	checkFits(t, "//*r", "//x/y", true, fieldsOf("r", "x/y")...)
	checkFits(t, "//*r", "/x/y", false)
	checkFits(t, "/:a/*r", "/x", false)
	checkFits(t, "/:a/*r", "/x/", true, fieldsOf("a", "x", "r", "")...)
	checkFits(t, "/:a/*r", "/x/y/z", true, fieldsOf("a", "x", "r", "y/z")...)
	checkFits(t, "/:a/*r", "//y", false)
	checkFits(t, "/:b/m/:a/*r", "/x/m/y/z/:/*", true, fieldsOf("b", "x", "a", "y", "r", "z/:/*")...)
	checkFits(t, "/:b/m/:a/*r", "/x/m//z", false)
	checkFits(t, "/*r", "/\x00\xff é", true, fieldsOf("r", "\x00\xff é")...)
	checkFits(t, rows(63, "/a")+"/*r", rows(63, "/a"), false)
	checkFits(t, rows(63, "/a")+"/*r", rows(63, "/a")+"/", true, fieldsOf("r", "")...)
	checkFits(t, rows(63, "/a")+"/*r", rows(100, "/a"), true, fieldsOf("r", rows(37, "/a")[1:])...)
	long := strings.Repeat("/x", 1<<19)
	checkFits(t, "/*r", long, true, fieldsOf("r", long[1:])...)
	checkFits(t, "/x/:y/*r", long, true, fieldsOf("y", "x", "r", long[5:])...)
	checkFits(t, "/x/x/:y", long, false)
}

// TR1: what is no pattern, or no path, fits nothing.
func TestNoFits(t *testing.T) {
	noPaths := []string{"", "a", "a/", "a/b", " /", "\x00/a", "*", ":a", "\\", "%2F", "http://a/", "\xff"}
	noPatterns := []string{"", "a", "/:", "/*", "/*a/b", "/:a/:a", "/a b", "/\x80", strings.Repeat("/", 65), "/" + strings.Repeat("a", 256)}
	for _, path := range noPaths {
		for _, pattern := range []string{"/", "/a", "/:a", "/*a"} {
			checkNoFits(t, pattern, path)
		}
		for _, pattern := range noPatterns {
			checkNoFits(t, pattern, path)
		}
	}
	for _, pattern := range noPatterns {
		for _, path := range []string{"/", "/a", "/:", "/*", "/a b", pattern, "/" + pattern} {
			checkNoFits(t, pattern, path)
		}
	}
}

// TR1: of two that fit, the first segment of another kind tells which one is better.
func TestBeats(t *testing.T) {
	for _, c := range []struct{ better, worse, path string }{
		{"/a", "/:x", "/a"}, {"/a", "/*x", "/a"}, {"/:x", "/*x", "/a"}, {"/", "/*x", "/"}, {"//", "/*x", "//"}, {"//", "//*x", "//"},
		{"/a/b", "/:x/b", "/a/b"}, {"/a/b", "/a/:x", "/a/b"}, {"/a/b", "/:x/:y", "/a/b"}, {"/a/b", "/a/*x", "/a/b"}, {"/a/b", "/*x", "/a/b"},
		{"/a/:x", "/:x/b", "/a/b"}, {"/a/:x", "/:y/:x", "/a/b"}, {"/a/*x", "/:x/b", "/a/b"}, {"/a/*x", "/*x", "/a/b"}, {"/a/*x", "/:y/*x", "/a/b"},
		{"/:x/b", "/:x/:y", "/a/b"}, {"/:x/b", "/:x/*y", "/a/b"}, {"/:x/b", "/*y", "/a/b"}, {"/:x/:y", "/:y/*x", "/a/b"}, {"/:x/*y", "/*y", "/a/b"},
		{"/a/b/:z", "/a/:y/c", "/a/b/c"}, {"/a/b/*z", "/a/:y/c", "/a/b/c"}, {"/a/:y/:z", "/:x/b/c", "/a/b/c"}, {"/a/:y/c", "/a/:y/:z", "/a/b/c"}, {"/a/:y/*z", "/a/*y", "/a/b/c"},
		{"/:x/b/*z", "/:x/:y/c", "/a/b/c"}, {"/:x/b/:z", "/:x/b/*z", "/a/b/c"}, {"/:x/:y/c", "/:x/*y", "/a/b/c"}, {"/:x/:y/:z", "/:x/:y/*z", "/a/b/c"},
		{"/a/", "/:x/", "/a/"}, {"/a/", "/a/*x", "/a/"}, {"/:x/", "/:x/*y", "/a/"}, {"/a/*x", "/:x/", "/a/"},
		{rows(63, "/a") + "/:x", rows(63, "/a") + "/*x", rows(64, "/a")}, {rows(64, "/a"), rows(63, "/a") + "/:x", rows(64, "/a")}, {"/a/*x", rows(64, "/:%d"), rows(64, "/a")},
	} {
		checkBeats(t, c.better, c.worse, c.path, true, nil)
		checkBeats(t, c.worse, c.better, c.path, false, nil)
	}
	for _, c := range []struct{ pattern, other, path string }{
		{"/", "/", "/"}, {"/a", "/a", "/a"}, {"/:x", "/:x", "/a"}, {"/:x", "/:y", "/a"}, {"/*x", "/*y", "/a/b"}, {"/a/:x/*y", "/a/:y/*x", "/a/b/c"}, {"/*x", "/*x", "/"},
	} {
		checkBeats(t, c.pattern, c.other, c.path, false, nil)
		checkBeats(t, c.other, c.pattern, c.path, false, nil)
	}
}

// TR1: what is none is told ahead of what does not fit.
func TestBeatsNot(t *testing.T) {
	good, other, path := "/a", "/b", "/a"
	for _, bad := range []string{"", "a", "/:", "/*", "/*a/b", "/:a/:a", "/a b", "/\xff", "/" + strings.Repeat("a", 256), rows(65, "/a")} {
		checkBeats(t, bad, good, path, false, api.ErrForm)
		checkBeats(t, good, bad, path, false, api.ErrForm)
		checkBeats(t, bad, bad, path, false, api.ErrForm)
		checkBeats(t, bad, other, path, false, api.ErrForm)
		checkBeats(t, other, bad, path, false, api.ErrForm)
		checkBeats(t, bad, good, "a", false, api.ErrForm)
		checkBeats(t, other, bad, "", false, api.ErrForm)
	}
	for _, bad := range []string{"", "a", "a/", " /a", "\x00", "*"} {
		checkBeats(t, good, good, bad, false, api.ErrForm)
		checkBeats(t, good, other, bad, false, api.ErrForm)
		checkBeats(t, "/*x", "/:x", bad, false, api.ErrForm)
	}
	checkBeats(t, good, other, path, false, api.ErrNone)
	checkBeats(t, other, good, path, false, api.ErrNone)
	checkBeats(t, other, other, path, false, api.ErrNone)
	checkBeats(t, "/:x", "/*x", "/", false, api.ErrNone)
	checkBeats(t, "/*x", "/:x", "/", false, api.ErrNone)
	checkBeats(t, "/:x", "/:x", "/", false, api.ErrNone)
	checkBeats(t, "/a/*x", "/a", "/a", false, api.ErrNone)
	checkBeats(t, "/a", "/a/*x", "/a", false, api.ErrNone)
	checkBeats(t, "/a", "/:x", "/a/b", false, api.ErrNone)
}
