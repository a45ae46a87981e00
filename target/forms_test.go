package target

import (
	"strings"
	"testing"
	"turnstile/api"
)

// The chapter's examples.
func TestTold(t *testing.T) {
	checkNormal(t, "/a/./b/../%7ec%2f", "/a/~c%2F", nil)
	checkNormal(t, "/..", "", api.ErrTarget)
	checkNormal(t, "/a/..", "/", nil)
	checkNormal(t, "//a", "//a", nil)
	checkSegments(t, "/a%20b/", []string{"a b", ""}, nil)
	checkParse(t, "http://H:80?x", Target{Form: FormAbsolute, Host: "h:80", Path: "/", Query: "x", HasQuery: true}, nil)
	checkPairs(t, "a=1&b&=c+d", []api.Field{{Name: "a", Value: "1"}, {Name: "b"}, {Value: "c d"}}, nil)
}

// TA1: the numbers of the forms are part of the document.
func TestNumbersOfForms(t *testing.T) {
	if FormOrigin != 1 || FormAbsolute != 2 || FormStar != 3 {
		t.Error("a form has another number")
	}
}

// TA1: ordinary targets of each form, with and without a query.
func TestParse(t *testing.T) {
	for s, want := range map[string]Target{
		"/":                      {Form: 1, Path: "/"},
		"//":                     {Form: 1, Path: "//"},
		"/a/b":                   {Form: 1, Path: "/a/b"},
		"/?":                     {Form: 1, Path: "/", HasQuery: true},
		"/a?b=c":                 {Form: 1, Path: "/a", Query: "b=c", HasQuery: true},
		"/a?b?c":                 {Form: 1, Path: "/a", Query: "b?c", HasQuery: true},
		"/??":                    {Form: 1, Path: "/", Query: "?", HasQuery: true},
		"/a?/b/../c":             {Form: 1, Path: "/a", Query: "/b/../c", HasQuery: true},
		"/a?*":                   {Form: 1, Path: "/a", Query: "*", HasQuery: true},
		"/*":                     {Form: 1, Path: "/*"},
		"/a/../%2E%2e/%41?%41+":  {Form: 1, Path: "/a/../%2E%2e/%41", Query: "%41+", HasQuery: true},
		"/http://h":              {Form: 1, Path: "/http://h"},
		"//h/a":                  {Form: 1, Path: "//h/a"},
		"*":                      {Form: 3},
		"http://h":               {Form: 2, Host: "h", Path: "/"},
		"http://h/":              {Form: 2, Host: "h", Path: "/"},
		"http://h//":             {Form: 2, Host: "h", Path: "//"},
		"http://h?":              {Form: 2, Host: "h", Path: "/", HasQuery: true},
		"http://h/?":             {Form: 2, Host: "h", Path: "/", HasQuery: true},
		"http://h?x":             {Form: 2, Host: "h", Path: "/", Query: "x", HasQuery: true},
		"http://h/?x":            {Form: 2, Host: "h", Path: "/", Query: "x", HasQuery: true},
		"http://h??":             {Form: 2, Host: "h", Path: "/", Query: "?", HasQuery: true},
		"http://h?/a":            {Form: 2, Host: "h", Path: "/", Query: "/a", HasQuery: true},
		"http://h?a/b?c":         {Form: 2, Host: "h", Path: "/", Query: "a/b?c", HasQuery: true},
		"http://h/a?b/c?d":       {Form: 2, Host: "h", Path: "/a", Query: "b/c?d", HasQuery: true},
		"http://H:80/A?B":        {Form: 2, Host: "h:80", Path: "/A", Query: "B", HasQuery: true},
		"http://A-b.C_d.E:443":   {Form: 2, Host: "a-b.c_d.e:443", Path: "/"},
		"http://10.0.0.1:8080/x": {Form: 2, Host: "10.0.0.1:8080", Path: "/x"},
		"http://:":               {Form: 2, Host: ":", Path: "/"},
		"http://:80":             {Form: 2, Host: ":80", Path: "/"},
		"http://h:":              {Form: 2, Host: "h:", Path: "/"},
		"http://h:x":             {Form: 2, Host: "h:x", Path: "/"},
		"http://::1":             {Form: 2, Host: "::1", Path: "/"},
		"http://..":              {Form: 2, Host: "..", Path: "/"},
		"http://-/*":             {Form: 2, Host: "-", Path: "/*"},
		"http://http://h":        {Form: 2, Host: "http:", Path: "//h"},
	} {
		checkParse(t, s, want, nil)
	}
}

// TA1: what has no form, each for one fault.
func TestParseNoForm(t *testing.T) {
	for _, s := range []string{
		"", "a", "a/b", "?", "?a", "/a#b", "/a?b#c", "#", " ", " /", "/ ", "/a b", "/a?b c", "/\r\n", "/a\x00", "\x00", ".", "..", "%2F", "%2fa",
		"**", "*/", "*?", "*?a", "/*#", "* ", " *", "*\x00", "%2a", "%2A",
		"http", "http:", "http:/", "http://", "http:///", "http:///a", "http://?", "http://?a", "http://*", "http:/h", "http:h", "http//h", "http:\\\\h", "ttp://h", "xhttp://h", " http://h",
		"https://h", "https://a/", "ftp://h/", "ws://h", "h:80", "h:80/", "example.com:443",
	} {
		checkNoTarget(t, s)
	}
	for _, s := range []string{
		"http://h#", "http://h/#", "http://h?#", "http://h a", "http://h/a b", "http://h? ", "http://u@h/", "http://u:p@h", "http://[::1]/", "http://h%41/", "http://%41", "http://h*", "http://h,i",
		"http://h;", "http://h!", "http://h~", "http://h+", "http://hé/", "http://h\\a", "http://h/%00", "http://h/%7f", "http://h/%", "http://h?%", "http://h/%4?", "http://h*?a", "http://h\x00",
	} {
		checkNoTarget(t, s)
	}
}

// TA1: http in small and great letters, each way; other letters that look alike are none.
func TestScheme(t *testing.T) {
	for bits := range 16 {
		scheme := []byte("http")
		for i := range scheme {
			if bits>>i&1 == 1 {
				scheme[i] -= 32
			}
		}
		checkParse(t, string(scheme)+"://h/a?b", Target{Form: 2, Host: "h", Path: "/a", Query: "b", HasQuery: true}, nil)
		checkNoTarget(t, string(scheme)+":///a")
	}
	for i := range "http://" {
		for c := range 256 {
			s := []byte("http://h")
			s[i] = byte(c)
			if strings.EqualFold(string(s), "http://h") {
				checkParse(t, string(s), Target{Form: 2, Host: "h", Path: "/"}, nil)
			} else if s[0] != '/' {
				checkNoTarget(t, string(s))
			}
		}
	}
}

// TA1: hosts of 1 byte, of 255 and of 256, with and without something behind them.
func TestSizeOfHost(t *testing.T) {
	for _, size := range []int{0, 1, 2, 254, 255, 256, 257, 1000} {
		host := strings.Repeat("H", size)
		for behind, want := range map[string]Target{
			"":        {Path: "/"},
			"/":       {Path: "/"},
			"/a":      {Path: "/a"},
			"?b":      {Path: "/", Query: "b", HasQuery: true},
			"/a?b?/c": {Path: "/a", Query: "b?/c", HasQuery: true},
		} {
			want.Form, want.Host = FormAbsolute, strings.Repeat("h", size)
			text := "http://" + want.Host + strings.TrimSuffix(want.Path, "/")
			if want.HasQuery {
				text += "?" + want.Query
			}
			if size < 1 || size > 255 {
				checkNoTarget(t, "http://"+host+behind)
				checkText(t, want, "", api.ErrTarget)
				continue
			}
			checkParse(t, "http://"+host+behind, want, nil)
			checkText(t, want, text, nil)
		}
	}
	port := strings.Repeat("h", 252) + ":80"
	checkParse(t, "http://"+port+"/", Target{Form: 2, Host: port, Path: "/"}, nil)
	checkNoTarget(t, "http://h"+port+"/")
}

// TA1: every byte in a host, at its beginning, in it and at its end.
func TestEveryByteInHost(t *testing.T) {
	for c := range 256 {
		for _, ends := range [][2]string{{"", ""}, {"a", ""}, {"", "b"}, {"a", "b"}} {
			host := ends[0] + one(c) + ends[1]
			want := Target{Form: 2, Host: strings.ToLower(host), Path: "/"}
			switch {
			case has(hostS, byte(c)):
				checkParse(t, "http://"+host, want, nil)
				checkParse(t, "http://"+host+"/", want, nil)
				checkText(t, Target{Form: 2, Host: host, Path: "/"}, textOf(host), errOf(host))
			case c != '/' && c != '?':
				checkNoTarget(t, "http://"+host)
				checkNoTarget(t, "http://"+host+"/")
				checkText(t, Target{Form: 2, Host: host, Path: "/"}, "", api.ErrTarget)
			default:
				checkText(t, Target{Form: 2, Host: host, Path: "/"}, "", api.ErrTarget)
			}
		}
	}
}

// textOf and errOf are what Text answers of a host: no text has one with great letters.
func textOf(host string) string {
	if host != strings.ToLower(host) {
		return ""
	}
	return "http://" + host
}

func errOf(host string) error {
	if host != strings.ToLower(host) {
		return api.ErrTarget
	}
	return nil
}

// TA1: every byte in a path and in a query, of both forms that have them.
func TestEveryByteInPathAndQuery(t *testing.T) {
	for c := range 256 {
		for _, ends := range [][2]string{{"", ""}, {"a", ""}, {"", "b"}, {"a/", "/b"}} {
			part := ends[0] + one(c) + ends[1]
			inPath := has(pathS+"/", byte(c))
			inQuery := has(pathS+"/?", byte(c))
			for ahead, form := range map[string]Target{"": {Form: 1}, "HTTP://H": {Form: 2, Host: "h"}} {
				want := form
				want.Path = "/" + part
				if inPath {
					checkParse(t, ahead+"/"+part, want, nil)
				} else if c != '?' {
					checkNoTarget(t, ahead+"/"+part)
				}
				want = form
				want.Path, want.Query, want.HasQuery = "/x", part, true
				if inQuery {
					checkParse(t, ahead+"/x?"+part, want, nil)
				} else {
					checkNoTarget(t, ahead+"/x?"+part)
				}
			}
		}
	}
}

// TA1: the code of every byte, with small and great digits: those below 32 and 127 are none in a path, all are in a query; no host has any.
func TestEveryCode(t *testing.T) {
	for c := range 256 {
		for _, code := range []string{smallCode(c), greatCode(c)} {
			for ahead, form := range map[string]Target{"": {Form: 1}, "http://h": {Form: 2, Host: "h"}} {
				want := form
				want.Path = "/a" + code + "b"
				if c < 32 || c == 127 {
					checkNoTarget(t, ahead+want.Path)
					checkNoTarget(t, ahead+"/"+code)
					checkText(t, want, "", api.ErrTarget)
				} else {
					checkParse(t, ahead+want.Path, want, nil)
					checkText(t, want, ahead+want.Path, nil)
				}
				want = form
				want.Path, want.Query, want.HasQuery = "/a", code, true
				checkParse(t, ahead+"/a?"+code, want, nil)
				checkText(t, want, ahead+"/a?"+code, nil)
			}
			checkNoTarget(t, "http://"+code+"/")
			checkNoTarget(t, "http://h"+code)
			checkNoTarget(t, code)
		}
	}
}

// TA1: a % at the end, with one digit, and with each byte that is no digit at both places.
func TestNoCodes(t *testing.T) {
	for _, wrong := range []string{"%", "%4", "%a", "%F", "%%", "%%41", "%4%41", "%%4", "%-1", "%+4", "% 4", "%4 ", "%u0041", "%x41", "%é", "%41%"} {
		for _, ahead := range []string{"/", "/a", "/a/", "/?", "/a?b", "http://h/", "http://h?", "http://h/a?b"} {
			checkNoTarget(t, ahead+wrong)
		}
	}
	for c := range 256 {
		digit := has("0123456789abcdefABCDEF", byte(c))
		for _, code := range []string{"%4" + one(c), "%" + one(c) + "4"} {
			if digit && code != "%04" && code != "%14" {
				checkParse(t, "/"+code, Target{Form: 1, Path: "/" + code}, nil)
			} else {
				checkNoTarget(t, "/"+code)
			}
			if digit {
				checkParse(t, "/?"+code, Target{Form: 1, Path: "/", Query: code, HasQuery: true}, nil)
			} else {
				checkNoTarget(t, "/?"+code)
			}
		}
	}
}

// TA1: MaxHead bytes, and one more, of each form; ErrLong comes ahead of ErrTarget.
func TestSizeOfTarget(t *testing.T) {
	for _, ahead := range []string{"/", "/a?", "http://h/", "http://h?", "*", "x", "/%"} {
		for _, size := range []int{65535, 65536} {
			s := ahead + strings.Repeat("a", size-len(ahead))
			want, err := parsed(s)
			checkParse(t, s, want, err)
			if err == nil {
				checkText(t, want, s, nil)
			}
		}
		for _, size := range []int{65537, 65538, 200000} {
			checkParse(t, ahead+strings.Repeat("a", size-len(ahead)), Target{}, api.ErrLong)
		}
	}
	checkParse(t, strings.Repeat("*", 65536), Target{}, api.ErrTarget)
	checkParse(t, strings.Repeat("\x00", 65537), Target{}, api.ErrLong)
}

// TA1: Text of ordinary parts is the shortest text that has them.
func TestText(t *testing.T) {
	for want, x := range map[string]Target{
		"/":             {Form: 1, Path: "/"},
		"/?":            {Form: 1, Path: "/", HasQuery: true},
		"/a?b?":         {Form: 1, Path: "/a", Query: "b?", HasQuery: true},
		"//":            {Form: 1, Path: "//"},
		"/a/..":         {Form: 1, Path: "/a/.."},
		"/%7e":          {Form: 1, Path: "/%7e"},
		"*":             {Form: 3},
		"http://h":      {Form: 2, Host: "h", Path: "/"},
		"http://h//":    {Form: 2, Host: "h", Path: "//"},
		"http://h?":     {Form: 2, Host: "h", Path: "/", HasQuery: true},
		"http://h?x":    {Form: 2, Host: "h", Path: "/", Query: "x", HasQuery: true},
		"http://h?/":    {Form: 2, Host: "h", Path: "/", Query: "/", HasQuery: true},
		"http://h/a":    {Form: 2, Host: "h", Path: "/a"},
		"http://h/./":   {Form: 2, Host: "h", Path: "/./"},
		"http://h:1/A?": {Form: 2, Host: "h:1", Path: "/A", HasQuery: true},
	} {
		checkText(t, x, want, nil)
	}
}

// TA1: Text of parts that no text has.
func TestTextOfNoParts(t *testing.T) {
	for _, form := range []int{0, -1, 4, 5, 100, 1 << 32, 1<<32 + 1, 1<<63 - 1, -1 << 63} {
		for _, x := range []Target{{}, {Path: "/"}, {Host: "h", Path: "/"}, {Path: "/", HasQuery: true}, {Path: "*"}} {
			x.Form = form
			checkText(t, x, "", api.ErrTarget)
		}
	}
	for _, x := range []Target{
		{Form: 1}, {Form: 1, Path: "a"}, {Form: 1, Path: "*"}, {Form: 1, Path: "?"}, {Form: 1, Path: "/?"}, {Form: 1, Path: "/?", HasQuery: true}, {Form: 1, Path: "/a?b"}, {Form: 1, Path: "/ "},
		{Form: 1, Path: "/%"}, {Form: 1, Path: "/%00"}, {Form: 1, Path: "/%7F"}, {Form: 1, Path: "/\x80"}, {Form: 1, Path: "http://h/"}, {Form: 1, Path: "/#"},
		{Form: 1, Host: "h", Path: "/"}, {Form: 1, Host: "h"}, {Form: 1, Path: "/", Query: "x"}, {Form: 1, Path: "/a", Query: "?"}, {Form: 1, HasQuery: true}, {Form: 1, Query: "/", HasQuery: true},
		{Form: 1, Path: "/", Query: "#", HasQuery: true}, {Form: 1, Path: "/", Query: "%", HasQuery: true}, {Form: 1, Path: "/", Query: " ", HasQuery: true}, {Form: 1, Path: "/%4", Query: "1", HasQuery: true},
		{Form: 2}, {Form: 2, Path: "/"}, {Form: 2, Path: "/h"}, {Form: 2, Path: "h"}, {Form: 2, Path: "h/"}, {Form: 2, Host: "h"}, {Form: 2, Host: "h", HasQuery: true}, {Form: 2, Host: "h", Path: "a"}, {Form: 2, Host: "h", Path: ":80/"},
		{Form: 2, Host: "h", Path: "?"}, {Form: 2, Host: "h", Path: "/?"}, {Form: 2, Host: "h", Path: "?a"}, {Form: 2, Host: "H", Path: "/"}, {Form: 2, Host: "hosT", Path: "/"}, {Form: 2, Host: "h/", Path: "/"},
		{Form: 2, Host: "h/a", Path: "/"}, {Form: 2, Host: "h?", Path: "/"}, {Form: 2, Host: "h?a", Path: "/", HasQuery: true}, {Form: 2, Host: "u@h", Path: "/"}, {Form: 2, Host: "é", Path: "/"}, {Form: 2, Host: "http://h", Path: "/"},
		{Form: 2, Host: "h", Path: "/", Query: "x"}, {Form: 2, Host: "h", Path: "/a", Query: "x"}, {Form: 2, Host: "h", Path: "/%1f"}, {Form: 2, Host: "h", Path: "/", Query: "\xff", HasQuery: true},
		{Form: 3, Host: "h"}, {Form: 3, Path: "/"}, {Form: 3, Path: "*"}, {Form: 3, Query: "x"}, {Form: 3, HasQuery: true}, {Form: 3, Query: "x", HasQuery: true}, {Form: 3, Host: "h", Path: "/"},
	} {
		checkText(t, x, "", api.ErrTarget)
	}
}

// TA1: Text of parts whose shortest text has MaxHead bytes, and one more: that is ErrTarget, for no text that Parse takes has them.
func TestSizeOfText(t *testing.T) {
	for _, more := range []int{-1, 0, 1, 2, 100000} {
		size := 65536 + more
		path := "/" + strings.Repeat("a", size-1)
		query := strings.Repeat("b", size-2)
		behindHost := strings.Repeat("/", size-len("http://h"))
		asked := strings.Repeat("?", size-len("http://h?"))
		for want, x := range map[string]Target{
			path:                    {Form: 1, Path: path},
			"/?" + query:            {Form: 1, Path: "/", Query: query, HasQuery: true},
			"http://h" + behindHost: {Form: 2, Host: "h", Path: behindHost},
			"http://h?" + asked:     {Form: 2, Host: "h", Path: "/", Query: asked, HasQuery: true},
		} {
			if more > 0 {
				checkText(t, x, "", api.ErrTarget)
			} else {
				checkText(t, x, want, nil)
			}
		}
	}
	long := strings.Repeat("h", 70000)
	checkText(t, Target{Form: 2, Host: long, Path: "/"}, "", api.ErrTarget)
	checkText(t, Target{Form: 9, Host: long, Path: long, Query: long, HasQuery: true}, "", api.ErrTarget)
	checkText(t, Target{Form: 3, Path: long}, "", api.ErrTarget)
}

// TA1: any targets: their parts are those by the patterns, and their text is no longer than any that has these parts.
func TestTargetsAny(t *testing.T) {
	m := newMaker(1)
	forms := map[int]int{}
	for range 100000 {
		s := m.target()
		want, err := parsed(s)
		checkParse(t, s, want, err)
		forms[want.Form]++
		if err != nil {
			continue
		}
		text, err := Text(want)
		if err != nil || len(text) > len(s) {
			t.Fatalf("Text(%+v) = %q, %v, though %q has these parts", want, text, err, s)
		}
		if back, err := parsed(text); back != want || err != nil {
			t.Fatalf("Text(%+v) = %q has other parts: %+v, %v", want, text, back, err)
		}
		if want.Form == 2 && !strings.HasPrefix(text, "http://"+want.Host) {
			t.Fatalf("Text(%+v) = %q", want, text)
		}
	}
	for form := range 4 {
		if forms[form] < 1000 {
			t.Errorf("only %d of form %d", forms[form], form)
		}
	}
}

// TA1: any parts: Text answers a text that has them, or no text has: one would be of these few.
func TestTextAny(t *testing.T) {
	m := newMaker(2)
	found := 0
	for range 100000 {
		x := Target{Form: m.Intn(5), HasQuery: m.Intn(2) == 0}
		if m.Intn(2) == 0 {
			x.Host = m.host()
		}
		if m.Intn(2) == 0 {
			x.Path = m.path()
		} else {
			x.Path = m.row(1, "/", "*")
		}
		if m.Intn(2) == 0 {
			x.Query = m.query()
		}
		want := ""
		for _, s := range []string{"*", x.Path, x.Path + "?" + x.Query, "http://" + x.Host + x.Path, "http://" + x.Host + x.Path + "?" + x.Query, "http://" + x.Host, "http://" + x.Host + "?" + x.Query} {
			if read, err := parsed(s); err == nil && read == x && (want == "" || len(s) < len(want)) {
				want = s
			}
		}
		if want == "" {
			checkText(t, x, "", api.ErrTarget)
			continue
		}
		found++
		checkText(t, x, want, nil)
	}
	if found < 5000 {
		t.Errorf("only %d parts have a text", found)
	}
}
