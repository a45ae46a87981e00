package target

import (
	"slices"
	"strings"
	"testing"
	"turnstile/api"
	"unsafe"
)

// TA5: Normal of Normal is it, and it has no dot segment and no code of an unreserved byte, and is a path; its segments are those of what it was made of.
func TestNormalOfNormal(t *testing.T) {
	m := newMaker(6)
	seen := 0
	for range 100000 {
		path := m.path()
		once, err := Normal(path)
		if err != nil {
			continue
		}
		seen++
		if twice, err := Normal(once); twice != once || err != nil {
			t.Fatalf("Normal(%q) = %q, and of that %q, %v", path, once, twice, err)
		}
		if !pathPattern.MatchString(once) {
			t.Fatalf("Normal(%q) = %q is no path", path, once)
		}
		for _, segment := range strings.Split(once, "/") {
			if segment == "." || segment == ".." {
				t.Fatalf("Normal(%q) = %q has a dot segment", path, once)
			}
		}
		for _, code := range codePattern.FindAllString(once, -1) {
			if plain, _ := Decode(code); has(unreservedS, plain[0]) || code != strings.ToUpper(code) {
				t.Fatalf("Normal(%q) = %q has the code %s", path, once, code)
			}
		}
		of, err1 := Segments(path)
		ofNormal, err2 := Segments(once)
		if !slices.Equal(of, ofNormal) || err1 != err2 {
			t.Fatalf("%q has the segments %q, %v, and %q %q, %v", path, of, err1, once, ofNormal, err2)
		}
	}
	if seen < 20000 {
		t.Errorf("only %d paths", seen)
	}
}

// TA5: paths that are Normal alike have the same segments.
func TestAlikePaths(t *testing.T) {
	m := newMaker(7)
	segmentsOf := map[string][]string{}
	met := 0
	for range 200000 {
		path := "/" + m.row(4, "a", "%61", "/", "/.", "/..", "%2e", "b/", "%2f", "%2F", "!", "%21")
		n, err := Normal(path)
		if err != nil {
			continue
		}
		list, err := Segments(path)
		if err != nil {
			t.Fatalf("Segments(%q): %v", path, err)
		}
		if before, there := segmentsOf[n]; there {
			met++
			if !slices.Equal(before, list) {
				t.Fatalf("%q has the segments %q, another path with the Normal %q has %q", path, list, n, before)
			}
		}
		segmentsOf[n] = list
	}
	if met < 10000 {
		t.Errorf("only %d paths were alike", met)
	}
}

// TA5: Decode of Encode is the text, whatever bytes it has, and Encode's bytes are path bytes or codes.
func TestDecodeOfEncode(t *testing.T) {
	m := newMaker(8)
	for range 50000 {
		b := make([]byte, m.Intn(40))
		m.Read(b)
		s := string(b)
		code := Encode(s)
		if back, err := Decode(code); back != s || err != nil {
			t.Fatalf("Decode of %q = %q, %v, not %q", code, back, err, s)
		}
		if rest := codePattern.ReplaceAllString(code, ""); strings.Trim(rest, pathS) != "" {
			t.Fatalf("Encode(%q) = %q", s, code)
		}
	}
}

// TA5: Parse of Text is the parts, where there is a text.
func TestParseOfText(t *testing.T) {
	m := newMaker(9)
	for range 100000 {
		x := Target{Form: m.Intn(4), Host: m.host(), Path: m.path(), Query: m.query(), HasQuery: m.Intn(2) == 0}
		if x.Form != FormAbsolute {
			x.Host = ""
		}
		if !x.HasQuery {
			x.Query = ""
		}
		if x.Form == FormStar {
			x = Target{Form: FormStar}
		}
		s, err := Text(x)
		if err != nil {
			if _, there := parsedAs(x); there {
				t.Fatalf("Text(%+v): %v", x, err)
			}
			continue
		}
		if back, err := Parse(s); back != x || err != nil {
			t.Fatalf("Text(%+v) = %q, which is %+v, %v", x, s, back, err)
		}
	}
}

// parsedAs is a text of the parts, with its path.
func parsedAs(x Target) (string, bool) {
	s := map[int]string{1: "", 2: "http://" + x.Host, 3: "*"}[x.Form] + x.Path
	if x.HasQuery {
		s += "?" + x.Query
	}
	read, err := parsed(s)
	return s, err == nil && read == x
}

// within tells whether a text stands in the memory of another.
func within(part, whole string) bool {
	if part == "" || whole == "" {
		return false
	}
	from := uintptr(unsafe.Pointer(unsafe.StringData(whole)))
	at := uintptr(unsafe.Pointer(unsafe.StringData(part)))
	return at >= from && at < from+uintptr(len(whole))
}

// checkOwn checks that no text of an answer stands in an argument's memory.
func checkOwn(t *testing.T, call string, arguments []string, answers ...string) {
	t.Helper()
	for _, argument := range arguments {
		for _, answer := range answers {
			if within(answer, argument) {
				t.Errorf("%s: %q stands in the memory of %q", call, answer, argument)
			}
		}
	}
}

// Rule 3: no answer is a piece of what was handed in.
func TestAnswersAreTheirOwn(t *testing.T) {
	for _, s := range []string{"/", "/a", "/a/b/c", "/a?b=c", "/a/?", "/?", "http://host/path?query", "http://h", "http://h/", "http://H?x", "*", "abc", "a=b", "a=b&c=d", "a", "%41", "/%41", "a&b+", "//", "/a/.."} {
		s := strings.Clone(s)
		x, _ := Parse(s)
		checkOwn(t, "Parse", []string{s}, x.Host, x.Path, x.Query)
		text, _ := Text(x)
		checkOwn(t, "Text", []string{x.Host, x.Path, x.Query}, text)
		path, _ := Normal(s)
		checkOwn(t, "Normal", []string{s}, path)
		list, _ := Segments(s)
		checkOwn(t, "Segments", []string{s}, list...)
		plain, _ := Decode(s)
		checkOwn(t, "Decode", []string{s}, plain)
		checkOwn(t, "Encode", []string{s}, Encode(s))
		fields, _ := Pairs(s)
		for _, f := range fields {
			checkOwn(t, "Pairs", []string{s}, f.Name, f.Value)
		}
	}
	own := Target{Form: FormOrigin, Path: strings.Clone("/path"), Query: "", HasQuery: false}
	text, _ := Text(own)
	checkOwn(t, "Text", []string{own.Path}, text)
}

// Rule 3: two answers are lists of their own, spare room too.
func TestListsAreTheirOwn(t *testing.T) {
	one, _ := Segments("/a/b/c")
	two, _ := Segments("/a/b/c")
	one = one[:cap(one)]
	for i := range one {
		one[i] = "spoilt"
	}
	if !slices.Equal(two, []string{"a", "b", "c"}) {
		t.Errorf("Segments became %q", two)
	}
	first, _ := Pairs("a=1&b=2&c=3")
	second, _ := Pairs("a=1&b=2&c=3")
	first = first[:cap(first)]
	for i := range first {
		first[i] = api.Field{Name: "spoilt"}
	}
	if !slices.Equal(second, []api.Field{{Name: "a", Value: "1"}, {Name: "b", Value: "2"}, {Name: "c", Value: "3"}}) {
		t.Errorf("Pairs became %q", second)
	}
}

// Rule 3: the bytes that were handed in, as texts, stay as they were.
func TestArgumentsStay(t *testing.T) {
	m := newMaker(10)
	for range 20000 {
		bytes := []byte(m.target())
		if len(bytes) == 0 {
			continue
		}
		before := string(bytes)
		// The text is the bytes themselves, so that a write to it would show.
		s := unsafe.String(&bytes[0], len(bytes))
		x, _ := Parse(s)
		Text(x)
		Text(Target{Form: 1 + m.Intn(3), Host: s, Path: s, Query: s, HasQuery: true})
		Normal(s)
		Segments(s)
		Decode(s)
		Encode(s)
		Pairs(s)
		if string(bytes) != before {
			t.Fatalf("%q became %q", before, bytes)
		}
	}
}

// Rules 1 and 4: any bytes end, and asked twice get the same answer.
func TestAnyBytes(t *testing.T) {
	m := newMaker(11)
	for range 50000 {
		b := make([]byte, m.Intn(30))
		m.Read(b)
		s := m.row(1, "/", "http://", "*", "/a?") + string(b)
		checkAll(t, s)
		x := Target{Form: m.Intn(7) - 1, Host: string(b), Path: s, Query: string(b), HasQuery: m.Intn(2) == 0}
		one, err1 := Text(x)
		two, err2 := Text(x)
		if one != two || err1 != err2 {
			t.Fatalf("Text(%+v) = %q, %v, then %q, %v", x, one, err1, two, err2)
		}
	}
}
