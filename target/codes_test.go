package target

import (
	"fmt"
	"net/url"
	"strings"
	"testing"
	"turnstile/api"
)

// TA3: Decode of every byte's code, alone, between others and behind itself; no byte else is changed.
func TestDecodeOfEveryByte(t *testing.T) {
	for c := range 256 {
		for _, code := range []string{smallCode(c), greatCode(c), fmt.Sprintf("%%%X%x", c>>4, c&15), fmt.Sprintf("%%%x%X", c>>4, c&15)} {
			checkDecode(t, code, one(c), nil)
			checkDecode(t, "a"+code+"b", "a"+one(c)+"b", nil)
			checkDecode(t, code+code, one(c)+one(c), nil)
			checkDecode(t, code+"41", one(c)+"41", nil)
			checkDecode(t, "%25"+code[1:], "%"+code[1:], nil)
		}
		if c != '%' {
			checkDecode(t, one(c), one(c), nil)
			checkDecode(t, "a"+one(c), "a"+one(c), nil)
			checkDecode(t, one(c)+"%41", one(c)+"A", nil)
		}
	}
}

// TA3: a % that begins no code, wherever it stands.
func TestDecodeNoCodes(t *testing.T) {
	for _, wrong := range []string{"%", "%%", "%4", "%4%", "%%41", "%4%41", "%g0", "%0g", "%G0", "%-1", "% 1", "%1 ", "%u0041", "%\x00\x00", "%é", "%41%", "%41%4"} {
		for _, ahead := range []string{"", "a", "%41", "/a/", "é", "\xff"} {
			checkDecode(t, ahead+wrong, "", api.ErrTarget)
			checkDecode(t, ahead+wrong+"zz", "", api.ErrTarget)
		}
	}
	for c := range 256 {
		if !has("0123456789abcdefABCDEF", byte(c)) {
			checkDecode(t, "%4"+one(c), "", api.ErrTarget)
			checkDecode(t, "%"+one(c)+"4", "", api.ErrTarget)
			checkDecode(t, "x%"+one(c)+one(c)+"y", "", api.ErrTarget)
		}
	}
}

// TA3: Decode is no longer than it is asked, and reads once: what comes out is not read again.
func TestDecode(t *testing.T) {
	for s, want := range map[string]string{
		"": "", "a": "a", "a b": "a b", "a+b": "a+b", "%2b": "+", "%2525": "%25", "%25%34%31": "%41", "%2541": "%41", "%e2%82%ac": "€", "%00": "\x00", "%0d%0A": "\r\n", "é%c3%a9": "éé", "?a=%26": "?a=&", "\x00%20\xff": "\x00 \xff", "#%23": "##",
	} {
		checkDecode(t, s, want, nil)
	}
	checkDecode(t, strings.Repeat("%41", 100000), strings.Repeat("A", 100000), nil)
	checkDecode(t, strings.Repeat("a", 200000)+"%", "", api.ErrTarget)
}

// TA3: Encode of every byte, alone and between others.
func TestEncodeOfEveryByte(t *testing.T) {
	for c := range 256 {
		want := greatCode(c)
		if has(unreservedS, byte(c)) {
			want = one(c)
		}
		for s, want := range map[string]string{one(c): want, "a" + one(c) + "/": "a" + want + "%2F", one(c) + one(c): want + want} {
			if got := Encode(s); got != want {
				t.Errorf("Encode(%q) = %q, not %q", s, got, want)
			}
		}
	}
	for s, want := range map[string]string{"": "", "a b": "a%20b", "a/b~": "a%2Fb~", "%41": "%2541", "%": "%25", "é": "%C3%A9", "\xff": "%FF", "+&=": "%2B%26%3D", unreservedS: unreservedS} {
		if got := Encode(s); got != want {
			t.Errorf("Encode(%q) = %q, not %q", s, got, want)
		}
	}
	if got := Encode(strings.Repeat("/", 100000)); got != strings.Repeat("%2F", 100000) {
		t.Error("Encode of a long text")
	}
}

// TA3: any texts, held against the library's codes.
func TestCodesAny(t *testing.T) {
	m := newMaker(4)
	for range 100000 {
		s := m.row(10, "a", "%", "%4", "%41", "%7e", "%fF", "\xff", "é", "+", "/", "1", "g", "A", "%00", " ")
		want, err := url.PathUnescape(s)
		if err != nil {
			want, err = "", api.ErrTarget
		}
		checkDecode(t, s, want, err)
		if plain := strings.ReplaceAll(url.QueryEscape(s), "+", "%20"); Encode(s) != plain {
			t.Errorf("Encode(%q) = %q, not %q", s, Encode(s), plain)
		}
	}
}
