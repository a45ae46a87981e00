package target

import (
	"slices"
	"strings"
	"testing"
	"turnstile/api"
)

// TA2: dot segments at the beginning, in the middle and at the end, plain and in codes.
func TestNormal(t *testing.T) {
	for path, want := range map[string]string{
		"/": "/", "//": "//", "///": "///", "/a": "/a", "/a/": "/a/", "/a/b": "/a/b", "//a//b//": "//a//b//",
		"/.": "/", "/./": "/", "/./a": "/a", "/a/.": "/a/", "/a/./": "/a/", "/a/./b": "/a/b", "/././.": "/", "/a/././b/./.": "/a/b/", "//.": "//", "/.//": "//", "/.//.": "//",
		"/a/..": "/", "/a/../": "/", "/a/../b": "/b", "/a/b/..": "/a/", "/a/b/../": "/a/", "/a/b/../c": "/a/c", "/a/b/../..": "/", "/a/b/../../": "/", "/a/b/../../c": "/c", "/a/../b/..": "/", "/a/../b/../c": "/c",
		"/a/./..": "/", "/a/.././b": "/b", "/./a/..": "/", "/a/../.": "/", "/a/../a/..": "/", "/a/b/c/../../d/../e": "/a/e",
		"//..": "/", "//../": "/", "//../a": "/a", "///..": "//", "/a//..": "/a/", "/a//../b": "/a/b", "/a//../..": "/", "/a///../../b": "/a/b", "//a/..": "//", "//a/../..": "/", "/a/..//": "//", "/a/..//..": "/",
		"/...": "/...", "/.../..": "/", "/..a": "/..a", "/a..": "/a..", "/.a": "/.a", "/a.": "/a.", "/....": "/....", "/..;": "/..;", "/.;/a": "/.;/a", "/a/..;/b": "/a/..;/b", "/.../.": "/.../", "/.a/..": "/", "/..a/..": "/",
		"/%2e": "/", "/%2E": "/", "/a/%2e%2e": "/", "/a/%2E%2e/b": "/b", "/a/.%2e/b": "/b", "/a/%2E./b": "/b", "/%2e/a": "/a", "/a/%2e%2e%2e": "/a/...", "/a/%2e%2eb": "/a/..b", "/a/b/%2e%2E/.": "/a/",
		"/%2f": "/%2F", "/%2F": "/%2F", "/a%2fb/..": "/", "/a/%2f../b": "/a/%2F../b", "/a/..%2f": "/a/..%2F", "/a/.%2F./b": "/a/.%2F./b", "/a%2f..": "/a%2F..", "/%2f/..": "/",
		"/%41%5a%61%7a%30%39%2d%2e%5f%7e": "/AZaz09-._~", "/%41%5A%61%7A%30%39%2D%2E%5F%7E": "/AZaz09-._~", "/%4a%4A": "/JJ",
		"/%21%24%26%27%28%29%2a%2b%2c%3b%3d%3a%40": "/%21%24%26%27%28%29%2A%2B%2C%3B%3D%3A%40", "/!$&'()*+,;=:@": "/!$&'()*+,;=:@",
		"/%25": "/%25", "/%2525": "/%2525", "/%252e": "/%252e", "/%25%32%65": "/%252e", "/%252e%252e": "/%252e%252e", "/a/%252E%252E": "/a/%252E%252E", "/%25%34%31": "/%2541", "/%20%80%ff%c3%a9": "/%20%80%FF%C3%A9", "/%e2%82%Ac": "/%E2%82%AC",
		"/ab%4": "!", "/%g1": "!", "/..": "!", "/../": "!", "/../a": "!", "/./..": "!", "/a/../..": "!", "/a/../../b": "!", "/a/../../b/c/d": "!", "/a/b/../../..": "!", "/../..": "!", "//../..": "!", "/%2e%2e": "!", "/%2e%2E/": "!", "/.%2e/a": "!",
		"/a/../../a/..": "!", "/./../a": "!", "/.//../..": "!",
		"": "!", "a": "!", "a/b": "!", "../a": "!", "./a": "!", ".": "!", "..": "!", "%2f": "!", "%2Fa": "!", "*": "!", "/a?b": "!", "/?": "!", "/a#": "!", "http://h/": "!", "/a b": "!", " /a": "!", "/a\x00": "!", "/é": "!", "/\xff": "!", "/%": "!", "/a%": "!",
		"/a/%00/..": "!", "/%00": "!", "/%1F": "!", "/%1f/..": "!", "/%7f": "!", "/%7F": "!", "/%0a": "!", "/../%00": "!", "/a/..?": "!",
	} {
		if want == "!" {
			checkNormal(t, path, "", api.ErrTarget)
			checkSegments(t, path, nil, api.ErrTarget)
			continue
		}
		checkNormal(t, path, want, nil)
	}
}

// TA2: the code of every byte, small and great; and every byte as it is.
func TestNormalOfEveryByte(t *testing.T) {
	for c := range 256 {
		want, err := "/a"+greatCode(c)+"b", error(nil)
		switch {
		case has(unreservedS, byte(c)):
			want = "/a" + one(c) + "b"
		case c < 32 || c == 127:
			want, err = "", api.ErrTarget
		}
		checkNormal(t, "/a"+smallCode(c)+"b", want, err)
		checkNormal(t, "/a"+greatCode(c)+"b", want, err)
		if has(pathS+"/", byte(c)) {
			checkNormal(t, "/a"+one(c)+"b", "/a"+one(c)+"b", nil)
		} else {
			checkNormal(t, "/a"+one(c)+"b", "", api.ErrTarget)
		}
	}
}

// TA2: every pair of digits, of both sizes, at both places.
func TestNormalOfEveryPairOfDigits(t *testing.T) {
	const digits = "0123456789abcdefABCDEF"
	for i := range digits {
		for j := range digits {
			checkAll(t, "/x/%"+digits[i:i+1]+digits[j:j+1])
		}
	}
}

// TA2: Normal knows no bound of its own.
func TestNormalOfLong(t *testing.T) {
	long := strings.Repeat("/a", 200000)
	checkNormal(t, long, long, nil)
	checkNormal(t, long+strings.Repeat("/..", 200000), "/", nil)
	checkNormal(t, long+strings.Repeat("/..", 200001), "", api.ErrTarget)
	checkNormal(t, long+strings.Repeat("/.", 200000), long+"/", nil)
	checkNormal(t, strings.Repeat("/a/..", 200000), "/", nil)
	checkNormal(t, "/"+strings.Repeat("%41", 100000), "/"+strings.Repeat("A", 100000), nil)
	checkNormal(t, strings.Repeat("/", 100000), strings.Repeat("/", 100000), nil)
}

// TA3: segments, decoded one by one: a code of a / cuts none.
func TestSegments(t *testing.T) {
	for path, want := range map[string][]string{
		"/": {""}, "//": {"", ""}, "/a": {"a"}, "/a/": {"a", ""}, "//a": {"", "a"}, "/a//b": {"a", "", "b"}, "/a/b/c": {"a", "b", "c"},
		"/a%20b/": {"a b", ""}, "/a%2fb/c": {"a/b", "c"}, "/%2F": {"/"}, "/a%2F..": {"a/.."}, "/%252e": {"%2e"}, "/%25": {"%"}, "/%2525": {"%25"}, "/%c3%a9/%FF": {"é", "\xff"}, "/a+b": {"a+b"}, "/%2b": {"+"}, "/%3f%23": {"?#"},
		"/.": {""}, "/a/..": {""}, "/a/../b": {"b"}, "/a/./b/.": {"a", "b", ""}, "/a/%2e%2e/b": {"b"}, "/...": {"..."}, "/%2e%2e%2e": {"..."}, "//..": {""}, "/a;b=c": {"a;b=c"},
	} {
		checkSegments(t, path, want, nil)
	}
}

// TA3: MaxSegments segments and one more, counted behind Normal.
func TestManySegments(t *testing.T) {
	for count := 1; count < 130; count++ {
		for _, segment := range []string{"", "a", "b%2f", "%20"} {
			path := strings.Repeat("/"+segment, count)
			plain, _ := Decode(segment)
			want := slices.Repeat([]string{plain}, count)
			var err error
			if count > 64 {
				want, err = nil, api.ErrLong
			}
			checkSegments(t, path, want, err)
			checkSegments(t, path+strings.Repeat("/.", 70)+"/./x/../"+segment, appended(want, plain), longer(count))
		}
	}
	checkSegments(t, strings.Repeat("/a", 64)+"/b/..", nil, api.ErrLong)
	checkSegments(t, strings.Repeat("/a", 64)+"/..", append(slices.Repeat([]string{"a"}, 63), ""), nil)
	checkSegments(t, strings.Repeat("/a/..", 1000)+"/a", []string{"a"}, nil)
	checkSegments(t, strings.Repeat("/a", 100)+strings.Repeat("/..", 99), []string{"a", ""}, nil)
	checkSegments(t, strings.Repeat("/a", 65)+"/%00", nil, api.ErrTarget)
	checkSegments(t, strings.Repeat("/a", 65)+strings.Repeat("/..", 66), nil, api.ErrTarget)
}

// appended is a list with one more, where it may have it.
func appended(list []string, more string) []string {
	if list == nil || len(list) == 64 {
		return nil
	}
	return append(slices.Clone(list), more)
}

// longer is the error of a path with one segment more.
func longer(count int) error {
	if count+1 > 64 {
		return api.ErrLong
	}
	return nil
}

// TA2, TA3: any paths, held against a pile of segments.
func TestPathsAny(t *testing.T) {
	m := newMaker(3)
	ok, wrong := 0, 0
	for range 200000 {
		path := m.path()
		want, err := normal(path)
		checkNormal(t, path, want, err)
		list, err := segments(path)
		checkSegments(t, path, list, err)
		if err == nil {
			ok++
		} else {
			wrong++
		}
	}
	if ok < 20000 || wrong < 20000 {
		t.Errorf("%d paths and %d that are none", ok, wrong)
	}
}

// TA1 to TA4: every short text of some bytes.
func TestEveryShortText(t *testing.T) {
	const bytes = "/.%2Eea?&=+"
	row := []string{""}
	for range 5 {
		var longer []string
		for _, s := range row {
			for i := range bytes {
				longer = append(longer, s+bytes[i:i+1])
			}
		}
		for _, s := range longer {
			checkAll(t, s)
			if len(s) < 5 {
				checkAll(t, "/"+s)
			}
		}
		row = longer
		if t.Failed() {
			return
		}
	}
}
