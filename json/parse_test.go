package json

import (
	library "encoding/json"
	"strings"
	"testing"
	"turnstile/api"
	"unicode/utf8"
)

// JS1: the chapter's examples.
func TestParseTold(t *testing.T) {
	checkParse(t, ` {"a":[1,-0.5e3]} `, object("a", list(whole("1", 1), other("-0.5e3"))))
	checkWrong(t, `{"a":1,"\u0061":2}`, 7, api.ErrTwice)
	checkWrong(t, `[1,]`, 3, api.ErrForm)
	checkWrong(t, `01`, 1, api.ErrForm)
	checkWrong(t, `"\ud800x"`, 7, api.ErrForm)
}

// JS1: ordinary texts of every kind.
func TestParseEveryKind(t *testing.T) {
	for s, want := range map[string]api.Value{
		`null`:                         null,
		`true`:                         boolean(true),
		`false`:                        boolean(false),
		`0`:                            whole("0", 0),
		`-17`:                          whole("-17", -17),
		`3.25`:                         other("3.25"),
		`""`:                           text(""),
		`"abc"`:                        text("abc"),
		`[]`:                           list(),
		`{}`:                           object(""),
		`[[]]`:                         list(list()),
		`[{}]`:                         list(object("")),
		`{"a":{}}`:                     object("a", object("")),
		`{"":0}`:                       {Kind: api.JSONObject, Names: []string{""}, List: []api.Value{whole("0", 0)}},
		`[null,true,false,0,"",[],{}]`: list(null, boolean(true), boolean(false), whole("0", 0), text(""), list(), object("")),
		`{"b":1,"a":2,"c":3}`:          object("b a c", whole("1", 1), whole("2", 2), whole("3", 3)),
		`{"a":{"a":{"a":null}}}`:       object("a", object("a", object("a", null))),
		`[[1,2],[3,[4]],5]`:            list(list(whole("1", 1), whole("2", 2)), list(whole("3", 3), list(whole("4", 4))), whole("5", 5)),
		`{"k":[{"k":"v"},{"k":"v"}]}`:  object("k", list(object("k", text("v")), object("k", text("v")))),
	} {
		checkParse(t, s, want)
	}
}

// JS1: a text of MaxJSON bytes is read; of one more it is told, whatever stands in it.
func TestParseLength(t *testing.T) {
	long := strings.Repeat("x", api.MaxJSON-2)
	checkParse(t, `"`+long+`"`, text(long))
	checkParse(t, strings.Repeat(" ", api.MaxJSON-1)+"1", whole("1", 1))
	checkParse(t, "1"+strings.Repeat("\n", api.MaxJSON-1), whole("1", 1))
	checkWrong(t, strings.Repeat(" ", api.MaxJSON), api.MaxJSON, api.ErrForm)
	checkWrong(t, "1"+strings.Repeat(" ", api.MaxJSON-2)+"x", api.MaxJSON-1, api.ErrForm)
	for _, s := range []string{`"` + long + `x"`, "1" + strings.Repeat(" ", api.MaxJSON), strings.Repeat("[", api.MaxJSON+1), strings.Repeat("\xff", api.MaxJSON+1), strings.Repeat(" ", 3*api.MaxJSON)} {
		checkWrong(t, s, 0, api.ErrLong)
	}
}

// JS1: the empty text, and blanks alone, end too early.
func TestParseNothing(t *testing.T) {
	for _, s := range []string{"", " ", "\t", "\n", "\r", " \t\r\n ", strings.Repeat(" ", 1000)} {
		checkWrong(t, s, len(s), api.ErrForm)
	}
}

// JS1: what is a blank elsewhere is none here; each byte that begins no value is told at its place.
func TestParseFirstByte(t *testing.T) {
	for c := range 256 {
		if strings.IndexByte(" \t\r\n\"[{-0123456789ntf", byte(c)) >= 0 {
			continue
		}
		s := string([]byte{byte(c)})
		checkWrong(t, s, 0, api.ErrForm)
		checkWrong(t, " \t\r\n"+s, 4, api.ErrForm)
		if c != ']' {
			checkWrong(t, "["+s+"]", 1, api.ErrForm)
		}
		checkWrong(t, `{"a":`+s, 5, api.ErrForm)
	}
	for _, s := range []string{"\u00a0", "\u2003", "\ufeff", "\v", "\f", "\x00"} {
		checkWrong(t, s+"1", 0, api.ErrForm)
		checkWrong(t, "1"+s, 1, api.ErrForm)
	}
}

// JS1: each word cut short, with another byte at each place, and with more behind it.
func TestParseWords(t *testing.T) {
	for _, word := range []string{"null", "true", "false"} {
		for n := 1; n < len(word); n++ {
			checkWrong(t, word[:n], n, api.ErrForm)
			checkWrong(t, "["+word[:n]+"]", n+1, api.ErrForm)
			checkWrong(t, word[:n]+" "+word[n:], n, api.ErrForm)
			checkWrong(t, word[:n]+strings.ToUpper(word[n:]), n, api.ErrForm)
			checkWrong(t, word[:n]+"\x00", n, api.ErrForm)
		}
		checkWrong(t, strings.ToUpper(word), 0, api.ErrForm)
		checkWrong(t, word+word, len(word), api.ErrForm)
		checkWrong(t, word+"x", len(word), api.ErrForm)
	}
}

// JS1: what stands behind a text, but for blanks, is told at its first byte.
func TestParseBehind(t *testing.T) {
	for _, s := range []string{"null", "true", "1", `"a"`, "[]", "{}", "[1]", `{"a":1}`} {
		for _, behind := range []string{"x", "]", "}", ",", ":", `"`, "[", "{", "n", "\x00", "\xff", "é", "/", "//", "\f"} {
			checkWrong(t, s+behind, len(s), api.ErrForm)
			checkWrong(t, s+" \n"+behind, len(s)+2, api.ErrForm)
			checkWrong(t, s+" "+behind+s, len(s)+1, api.ErrForm)
		}
	}
}

// JS1: lists and objects whose parts, commas, colons and brackets are not as they should be.
func TestParseLists(t *testing.T) {
	for s, place := range map[string]int{
		"[": 1, "[1": 2, "[1,": 3, "[1, ": 4, "[,": 1, "[,]": 1, "[1,]": 3, "[1,,2]": 3, "[1 2]": 3, "[1}": 2, "[}": 1, "[1,2": 4,
		"[1:2]": 2, "]": 0, "[]]": 2, "[[]": 3, "[[],": 4, "[1;2]": 2,
		"{": 1, "{1": 1, "{,": 1, "{]": 1, `{"`: 2, `{"a`: 3, `{"a"`: 4, `{"a":`: 5, `{"a":1`: 6, `{"a":1,`: 7, `{"a":1,}`: 7, `{"a":1,,`: 7,
		`{"a"}`: 4, `{"a",`: 4, `{"a" 1}`: 5, `{"a"::1}`: 5, `{"a":}`: 5, `{"a":,`: 5, `{"a":1]`: 6, `{"a":1 "b":2}`: 7, `{"a":1:2}`: 6,
		`{null:1}`: 1, `{a:1}`: 1, `{'a':1}`: 1, `{1:1}`: 1, `{[]:1}`: 1, `{{}:1}`: 1, "}": 0, `{}}`: 2, `{"a":1}}`: 7, `{"a":{}`: 7,
	} {
		checkWrong(t, s, place, api.ErrForm)
	}
}

// JS1: depth, of lists and of objects, to MaxDepth and one deeper, and the place of the first byte too deep.
func TestParseDepth(t *testing.T) {
	ends := func(n int) string { return strings.Repeat("]", n) }
	begins := func(n int) string { return strings.Repeat("[", n) }
	checkParse(t, begins(32)+ends(32), nest(31, list()))
	checkParse(t, begins(32)+"1"+ends(32), nest(32, whole("1", 1)))
	for _, behind := range []string{"", "]", "1", "x", "]" + ends(32), begins(1000), "\xff"} {
		checkWrong(t, begins(33)+behind, 32, api.ErrDepth)
		checkWrong(t, begins(32)+"{"+behind, 32, api.ErrDepth)
	}
	member := `{"a":`
	checkParse(t, strings.Repeat(member, 31)+"{}"+strings.Repeat("}", 31), objects(31, object("")))
	checkParse(t, strings.Repeat(member, 32)+"1"+strings.Repeat("}", 32), objects(32, whole("1", 1)))
	checkWrong(t, strings.Repeat(member, 33), 32*len(member), api.ErrDepth)
	checkWrong(t, strings.Repeat(member, 32)+"[", 32*len(member), api.ErrDepth)
	checkWrong(t, strings.Repeat(member+"[", 16)+" {", 16*len(member)+17, api.ErrDepth)
	checkWrong(t, strings.Repeat(" [", 33), 65, api.ErrDepth)
}

func objects(n int, v api.Value) api.Value {
	for range n {
		v = object("a", v)
	}
	return v
}

// JS1: how deep a list is hangs on those that are open, not on those that were.
func TestParseDepthBeside(t *testing.T) {
	for _, part := range []string{"[]", "{}", `[[],{}]`, `{"a":[]}`} {
		many := "[" + strings.Repeat(part+",", 100) + part + "]"
		if v, at, err := Parse(many); err != nil || at != len(many) || len(v.List) != 101 {
			t.Errorf("Parse of %d times %q: %d, %v", 101, part, at, err)
		}
	}
	deep := strings.Repeat("[", 31) + "[],{},[]"
	checkParse(t, deep+strings.Repeat("]", 31), nest(30, list(list(), object(""), list())))
	checkWrong(t, deep+",[[", len(deep)+2, api.ErrDepth)
	checkWrong(t, deep+`,{"x":{`, len(deep)+6, api.ErrDepth)
	closed := deep + strings.Repeat("]", 20)
	checkWrong(t, closed+","+strings.Repeat("[", 22), len(closed)+22, api.ErrDepth)
}

// JS1: a name that is there already: plain, by escapes, by a pair of surrogates; told at its quotation mark.
func TestParseTwice(t *testing.T) {
	for _, c := range []struct {
		s     string
		place int
	}{
		{`{"a":1,"a":2}`, 7},
		{`{"a":1, "a":2}`, 8},
		{`{"":1,"":2}`, 6},
		{`{"a":1,"\u0061":2}`, 7},
		{`{"\u0061":1,"a":2}`, 12},
		{`{"\u0061":1,"\u0061":2}`, 12},
		{`{"\n":1,"\u000a":2}`, 8},
		{`{"\n":1,"\u000A":2}`, 8},
		{`{"/":1,"\/":2}`, 7},
		{`{"é":1,"\u00e9":2}`, 8},
		{`{"\u00e9":1,"é":2}`, 12},
		{`{"😀":1,"\ud83d\ude00":2}`, 10},
		{`{"\uD83D\uDE00":1,"\ud83d\ude00":2}`, 18},
		{`{"\u0000":1,"\u0000":2}`, 12},
		{`{"a":1,"b":2,"c":3,"b":4}`, 19},
		{`{"a":1,"b":2,"c":3,"a":4}`, 19},
		{`{"x":{"a":1,"a":2}}`, 12},
		{`[{"a":1},{"a":1,"b":0,"b":2}]`, 22},
		{`{"a":{"b":1},"a":2}`, 13},
		{`{"a":[{"a":{"a":1}}],"b":0,"a":2}`, 27},
	} {
		checkWrong(t, c.s, c.place, api.ErrTwice)
	}
}

// JS1: names that are unlike, and names of other objects, are not there already.
func TestParseNotTwice(t *testing.T) {
	for _, s := range []string{
		`{"a":1,"A":2}`, `{"a":1,"a ":2," a":3,"aa":4,"":5}`, `{"a":{"a":1},"b":{"a":2}}`, `[{"a":1},{"a":1}]`, `{"a":"a","b":"a"}`,
		`{"\u0000":1,"":2,"\u0000\u0000":3}`, `{"é":1,"e\u0301":2}`, `{"a":["a","a"]}`, `{"a":{"b":{"a":{"b":0}}}}`, `{"\\u0061":1,"a":2}`,
	} {
		if _, at, err := Parse(s); at != len(s) || err != nil {
			t.Errorf("Parse(%q) = %d, %v", s, at, err)
		}
	}
}

// JS1: many names: the last one is there already, or is not.
func TestParseManyNames(t *testing.T) {
	var b strings.Builder
	b.WriteString("{")
	for i := range 5000 {
		b.WriteString(`"` + strings.Repeat("n", i%7) + string(rune(0x4000+i)) + `":0,`)
	}
	s := b.String()
	if v, at, err := Parse(s + `"n":0}`); err != nil || at != len(s)+6 || len(v.Names) != 5001 {
		t.Errorf("Parse of many names: %d, %v", at, err)
	}
	checkWrong(t, s+`"`+string(rune(0x4000))+`":0}`, len(s), api.ErrTwice)
	checkWrong(t, s+`"nnn`+string(rune(0x4000+3))+`":0}`, len(s), api.ErrTwice)
}

// JS1: of several faults the first one is told.
func TestParseFirstTells(t *testing.T) {
	deep := strings.Repeat("[", 33)
	for _, c := range []struct {
		s     string
		place int
		err   api.Errno
	}{
		{`{"a":1,"a" x`, 7, api.ErrTwice},
		{`{"a":1,"a":` + deep, 7, api.ErrTwice},
		{`{"a":1,"a`, 9, api.ErrForm},
		{`{"a":1,"a\q":1}`, 10, api.ErrForm},
		{"{\"a\":1,\"a\xff\":1}", 9, api.ErrForm},
		{`{"a":x,"a":1}`, 5, api.ErrForm},
		{`{"a":1 "a":1}`, 7, api.ErrForm},
		{`{"a":1,"a":1,"a":1}`, 7, api.ErrTwice},
		{`{"a":1,"b":1,"b":1,"a":1}`, 13, api.ErrTwice},
		{`{"a":` + deep + `,"a":1`, 5 + 31, api.ErrDepth},
		{`{"a":{"b":1,"b":1},"a":2}`, 12, api.ErrTwice},
		{"x" + deep, 0, api.ErrForm},
		{"[1 " + deep, 3, api.ErrForm},
		{deep + `{"a":1,"a":1}`, 32, api.ErrDepth},
		{deep[:32] + "x[", 32, api.ErrForm},
		{deep[:31] + `{"a":1,"a":[`, 38, api.ErrTwice},
		{deep[:31] + `{"a":1,"b":[`, 42, api.ErrDepth},
		{deep[:31] + `{"a":1,[`, 38, api.ErrForm},
	} {
		checkWrong(t, c.s, c.place, c.err)
	}
}

// numberTexts are numbers of which something is missing or too much, and the place where that is to be seen.
var numberTexts = map[string]int{
	"-": 1, "--1": 1, "-a": 1, "- 1": 1, "-.5": 1, "+1": 0, ".5": 0, "e5": 0,
	"01": 1, "00": 1, "-01": 2, "-00": 2, "0123": 1, "0x1": 1, "0e": 2, "0.": 2,
	"1.": 2, "1.x": 2, "1.e5": 2, "1..5": 2, "1.-5": 2, "1.5.5": 3, "1. 5": 2,
	"1e": 2, "1E": 2, "1e+": 3, "1e-": 3, "1E+": 3, "1ee5": 2, "1e5e5": 3, "1e5.5": 3, "1e+-5": 3, "1e x": 2, "1e+x": 3,
	"1-": 1, "1+1": 1, "1a": 1, "1_000": 1, "1,000": 1, "1 000": 2, "-Infinity": 1, "NaN": 0, "1\x00": 1, "٣": 0, "1٣": 1,
}

// JS1: numbers that are none.
func TestParseNumbersWrong(t *testing.T) {
	for s, place := range numberTexts {
		checkWrong(t, s, place, api.ErrForm)
		checkWrong(t, " "+s, place+1, api.ErrForm)
		if s != "1,000" {
			checkWrong(t, "["+s, place+1, api.ErrForm)
			checkWrong(t, `{"a":`+s, place+5, api.ErrForm)
		}
	}
}

// JS1: numbers, of which the whole ones are ints.
func TestParseNumbers(t *testing.T) {
	for _, want := range someNumbers {
		checkParse(t, want.Text, want)
		checkParse(t, "["+want.Text+"]", list(want))
		checkParse(t, " "+want.Text+"\n", want)
		checkParse(t, `{"a":`+want.Text+`}`, object("a", want))
	}
	for text, n := range map[string]int{
		"7": 7, "-7": -7, "100": 100, "1234567890": 1234567890, "-9876543210": -9876543210, "4294967296": 1 << 32, "2147483648": 1 << 31,
		"999999999999999999": 999999999999999999, "1000000000000000000": 1000000000000000000,
		"9223372036854775806": 1<<63 - 2, "-9223372036854775807": -(1<<63 - 1),
	} {
		checkParse(t, text, whole(text, n))
	}
	for _, text := range []string{
		"9223372036854775808", "9223372036854775810", "-9223372036854775809", "10000000000000000000", "18446744073709551615", "18446744073709551616",
		"18446744073709551617", "-18446744073709551616", "99999999999999999999999", "1.0", "1e2", "1E2", "1e-2", "0.5", "-0.0", "-0e0", "0E-0",
		"0e000", "1e99999", "1.000", "123.456e+789",
	} {
		checkParse(t, text, other(text))
	}
}

// JS1: numbers of 64 bytes are read; the 65th is told, whatever it and those behind it are.
func TestParseLongNumbers(t *testing.T) {
	digits := strings.Repeat("1", 100)
	for _, s := range []string{digits[:64], "-" + digits[:63], "0." + digits[:62], digits[:32] + "." + digits[:31], "1e" + digits[:62], "1E+" + digits[:61], "-1.5e-" + digits[:58]} {
		checkParse(t, s, other(s))
		checkParse(t, "["+s+","+s+"]", list(other(s), other(s)))
		for _, more := range []string{"1", "0", "11", "1x", "1.", "1e", digits, "12\xff"} {
			checkWrong(t, s+more, 64, api.ErrForm)
			checkWrong(t, "[1,"+s+more+"]", 64+3, api.ErrForm)
		}
	}
	for _, behind := range []string{".", ".5", "e", "e5", "E+", "e-7", "x", "-", "\x00"} {
		checkWrong(t, digits[:64]+behind, 64, api.ErrForm)
	}
	for _, s := range []string{digits[:63] + ".", digits[:63] + "e", digits[:62] + "e+", "-" + digits[:62] + "."} {
		checkWrong(t, s, 64, api.ErrForm)
		checkWrong(t, s+"5", 64, api.ErrForm)
		checkWrong(t, s+"x", 64, api.ErrForm)
	}
	checkWrong(t, "0"+digits, 1, api.ErrForm)
	checkWrong(t, digits[:62]+".x"+digits, 63, api.ErrForm)
	checkParse(t, strings.Repeat(" ", 100)+"1", whole("1", 1))
}

// JS1: of every byte below 32 its place, in texts and in names; all from 32 on may stand there.
func TestParseBytes(t *testing.T) {
	for c := range 128 {
		s := string([]byte{byte(c)})
		switch {
		case c < 32:
			checkWrong(t, `"`+s+`"`, 1, api.ErrForm)
			checkWrong(t, `"ab`+s+`"`, 3, api.ErrForm)
			checkWrong(t, `{"a`+s+`":1}`, 3, api.ErrForm)
			checkWrong(t, `{"a":"b`+s+`"}`, 7, api.ErrForm)
		case c != '"' && c != '\\':
			checkParse(t, `"`+s+`"`, text(s))
			checkParse(t, `"ab`+s+s+`c"`, text("ab"+s+s+"c"))
		}
	}
	checkParse(t, "{\"\x7f\":1}", object("\x7f", whole("1", 1)))
}

// JS1: texts that end too early.
func TestParseTextsBrokenOff(t *testing.T) {
	s := `"ab\n\u00e9\ud83d\ude00é😀"`
	for n := 1; n < len(s); n++ {
		checkWrong(t, s[:n], n, api.ErrForm)
		checkWrong(t, "{"+s[:n], n+1, api.ErrForm)
	}
	checkParse(t, s, text("ab\né😀é😀"))
}

// JS1: each escape of one letter, and each that can't be, by the byte that makes it so.
func TestParseEscapes(t *testing.T) {
	known := map[byte]string{'"': "\"", '\\': "\\", '/': "/", 'b': "\x08", 'f': "\x0c", 'n': "\x0a", 'r': "\x0d", 't': "\x09"}
	for c := range 256 {
		s := `"x\` + string([]byte{byte(c)})
		if want, found := known[byte(c)]; found {
			checkParse(t, s+`y"`, text("x"+want+"y"))
			continue
		}
		if c != 'u' {
			checkWrong(t, s+`y"`, 3, api.ErrForm)
		}
	}
	checkParse(t, `"\"\\\/\b\f\n\r\t"`, text("\"\\/\b\f\n\r\t"))
	checkParse(t, `"\\u0041\\"`, text(`\u0041\`))
	checkParse(t, `{"\"\\":"\\\""}`, object(`"\`, text(`\"`)))
}

// JS1: four hexadecimal digits: each byte at each of their places.
func TestParseDigits(t *testing.T) {
	for place := range 4 {
		for c := range 256 {
			s := []byte(`"\u0000x"`)
			s[3+place] = byte(c)
			value := strings.IndexByte("0123456789abcdef", byte(c)|0x20)
			if c < '0' || value < 0 {
				checkWrong(t, string(s), 3+place, api.ErrForm)
				continue
			}
			checkParse(t, string(s), text(string(rune(value<<(12-4*place)))+"x"))
		}
	}
	for s, place := range map[string]int{`"\u"`: 3, `"\u1"`: 4, `"\u12"`: 5, `"\u123"`: 6, `"\u+123"`: 3, `"\u 123"`: 3, `"\u0x41"`: 4, `"\U0041"`: 2, `"\u{41}"`: 3, `"\u00_1"`: 5} {
		checkWrong(t, s, place, api.ErrForm)
	}
}

// JS1: every escape \u: the character, or a half of a pair that stands alone.
func TestParseEveryCode(t *testing.T) {
	m := newMaker(1)
	for c := range rune(1 << 16) {
		s := `"` + m.escapes(c) + `"`
		switch {
		case c >= 0xdc00 && c <= 0xdfff:
			checkWrong(t, s, 6, api.ErrForm)
		case c >= 0xd800 && c <= 0xdbff:
			checkWrong(t, s, 7, api.ErrForm)
		default:
			checkParse(t, s, text(string(c)))
		}
	}
}

// JS1: every character above U+FFFF by a pair.
func TestParseEveryPair(t *testing.T) {
	m := newMaker(2)
	for from := rune(0x10000); from <= 0x10ffff; from += 16 {
		s, want := `"`, ""
		for c := from; c < from+16; c++ {
			s += m.escapes(c)
			want += string(c)
		}
		checkParse(t, s+`"`, text(want))
	}
}

// JS1: a high half with what is no low one behind it: the first byte that parts from \uDC00 to \uDFFF.
func TestParseHalves(t *testing.T) {
	for rest, place := range map[string]int{
		`"`: 7, `x"`: 7, ` \udc00"`: 7, `é"`: 7, "\x00": 7, "\xff": 7, "": 7,
		`\n"`: 8, `\"`: 8, `\\udc00"`: 8, `\Udc00"`: 8, `\`: 8, `\ "`: 8,
		`\u0041"`: 9, `\ue000"`: 9, `\uEC00"`: 9, `\ucc00"`: 9, `\u"`: 9, `\u`: 9, `\ux"`: 9, `\ufc00"`: 9, `\u-c00"`: 9,
		`\ud800"`: 10, `\udbff"`: 10, `\uD900\uDC00"`: 10, `\ud7ff"`: 10, `\ud000"`: 10, `\ud"`: 10, `\ud`: 10, `\udg00"`: 10, `\udG00"`: 10,
		`\udc"`: 11, `\udcg0"`: 11, `\udf`: 11, `\uDF 0"`: 11,
		`\udc0"`: 12, `\udc0x"`: 12, `\udff`: 12,
	} {
		for _, high := range []string{"d800", "D83D", "dbff"} {
			checkWrong(t, `"\u`+high+rest, place, api.ErrForm)
			checkWrong(t, `{"\u`+high+rest, place+1, api.ErrForm)
			checkWrong(t, `["\ud83d\ude00\u`+high+rest, place+13, api.ErrForm)
		}
	}
}

// JS1: each byte at each place of the low half.
func TestParseLowHalf(t *testing.T) {
	for place, taken := range []string{`\`, "u", "dD", "cdefCDEF", "0123456789abcdefABCDEF", "0123456789abcdefABCDEF"} {
		for c := range 256 {
			s := []byte(`"\ud800\udc00"`)
			s[7+place] = byte(c)
			if strings.IndexByte(taken, byte(c)) < 0 {
				checkWrong(t, string(s), 7+place, api.ErrForm)
				continue
			}
			if v, at, err := Parse(string(s)); err != nil || at != len(s) || utf8.RuneCountInString(v.Text) != 1 {
				t.Errorf("Parse(%q) = %+v, %d, %v", s, v, at, err)
			}
		}
	}
}

// JS1: a low half that stands alone: its last digit, but a byte that is no digit ahead of it.
func TestParseLowAlone(t *testing.T) {
	for s, place := range map[string]int{
		`"\udc00"`: 6, `"\udfff"`: 6, `"\uDC00"`: 6, `"\uDFFF\uDC00"`: 6, `"\udc00\ud800"`: 6, `"ab\ude00"`: 8, `"\ud83d\ude00\ude00"`: 18,
		`"\udcx0"`: 5, `"\udc0x"`: 6, `"\udc0"`: 6, `"\udc0`: 6, `"\udc00`: 6, `{"\udc00":1}`: 7,
	} {
		checkWrong(t, s, place, api.ErrForm)
	}
}

// begun are all that UTF-8 (RFC 3629) begins with: each character, and up to three bytes of it.
func begun() map[string]int {
	all := map[string]int{}
	for c := range rune(utf8.MaxRune + 1) {
		if s := string(c); utf8.ValidRune(c) {
			for n := 1; n <= min(len(s), 3); n++ {
				all[s[:n]] = n
			}
		}
	}
	return all
}

// checkChars checks a text of these bytes, of which none is below 128 but as a character of its own.
func checkChars(t *testing.T, begun map[string]int, chars string) {
	t.Helper()
	s := `"` + chars + `"`
	for from, to := 0, 1; to <= len(chars)+1; to++ {
		piece := s[from+1 : to+1]
		switch {
		case to > len(chars) && from == len(chars):
			checkParse(t, s, text(chars))
		case utf8.ValidString(piece) && to <= len(chars):
			from = to
		case begun[piece] == 0:
			checkWrong(t, s, to, api.ErrForm)
			checkWrong(t, "{"+s+":1}", to+1, api.ErrForm)
			return
		}
	}
}

// JS1: all pairs of bytes, and three and four where those go on: the first byte that can't go on UTF-8.
func TestParseUTF8(t *testing.T) {
	begun := begun()
	edges := []byte{'A', 0x7f, 0x80, 0x81, 0x8f, 0x90, 0x9f, 0xa0, 0xbf, 0xc0, 0xc2, 0xe0, 0xed, 0xf0, 0xf4, 0xf5, 0xff}
	for first := 128; first < 256; first++ {
		checkChars(t, begun, string([]byte{byte(first)}))
		for second := 0x7f; second < 256; second++ {
			two := string([]byte{byte(first), byte(second)})
			checkChars(t, begun, two)
			for _, third := range edges {
				checkChars(t, begun, two+string([]byte{third}))
				checkChars(t, begun, two+string([]byte{third, 0xbf}))
				checkChars(t, begun, two+string([]byte{0x80, third}))
				checkChars(t, begun, two+string([]byte{0xbf, 0xbf, third}))
			}
		}
	}
}

// JS1: UTF-8 that is longer than needed, surrogates, above U+10FFFF, broken off: known ones.
func TestParseUTF8Known(t *testing.T) {
	for chars, place := range map[string]int{
		"\x80": 0, "\xbf": 0, "\xc0\x80": 0, "\xc1\xbf": 0, "\xf5\x80\x80\x80": 0, "\xfe": 0, "\xff": 0, "\xf8\x88\x80\x80\x80": 0,
		"\xe0\x80\x80": 1, "\xe0\x9f\xbf": 1, "\xf0\x80\x80\x80": 1, "\xf0\x8f\xbf\xbf": 1, "\xed\xa0\x80": 1, "\xed\xbf\xbf": 1, "\xf4\x90\x80\x80": 1,
		"\xc3": 1, "\xc3A": 1, "\xe2A": 1, "\xe2\x82": 2, "\xe2\x82A": 2, "\xf0\x9fA": 2, "\xf0\x9f\x98": 3, "\xf0\x9f\x98A": 3, "\xf0\x9f\x98\xc3": 3,
		"é\x80": 2, "😀\xbf": 4, "a\xffb": 1, "\xc3\xc3\xa9": 1, "\xe2\x82\xe2\x82\xac": 2,
		"\xc3\\n": 1, "\xe2\x82\\n": 2, "\xc3\n": 1, "\xe2\x82\x00": 2,
	} {
		checkWrong(t, `"`+chars+`"`, place+1, api.ErrForm)
		checkWrong(t, `{"`+chars+`":1}`, place+2, api.ErrForm)
		checkWrong(t, `["é`+chars+`"]`, place+4, api.ErrForm)
	}
	for _, chars := range []string{"\xe2\x82", "\xf0\x9f\x98", "\xc3"} {
		checkWrong(t, `"`+chars, 1+len(chars), api.ErrForm)
	}
	checkWrong(t, "\xc3\xa9", 0, api.ErrForm)
	checkWrong(t, "[é]", 1, api.ErrForm)
}

// JS1: the character that stands for what is none (U+FFFD) is one like others.
func TestParseReplacement(t *testing.T) {
	for _, s := range []string{`"` + "\xef\xbf\xbd" + `"`, `"\ufffd"`, `"\uFFFD"`} {
		checkParse(t, s, text("\ufffd"))
	}
	checkWrong(t, "\"\ufffd\xff\"", 4, api.ErrForm)
}

// JS1: texts of every character, as it is.
func TestParseEveryCharacter(t *testing.T) {
	for from := rune(128); from <= utf8.MaxRune; from += 64 {
		chars := ""
		for c := from; c < from+64; c++ {
			if utf8.ValidRune(c) {
				chars += string(c)
			}
		}
		checkParse(t, `"`+chars+`"`, text(chars))
	}
}

// JS1: any texts with bytes changed, left out, put between and cut off: taken as the library takes them, and told at the first byte at which those can't go on.
func TestParseAny(t *testing.T) {
	const bytes = `{}[]:,"\/ 0159-+.eEabtrufalsn` + "\n\x01\x00"
	m := newMaker(3)
	told := map[api.Errno]int{}
	for range 40000 {
		s := m.ascii(4)
		for range m.Intn(3) {
			from := m.Intn(len(s) + 1)
			to := min(len(s), from+m.Intn(2))
			put := bytes[m.Intn(len(bytes)):][:1]
			s = s[:from] + put[:m.Intn(2)] + s[to:]
		}
		if m.Intn(4) == 0 {
			s = s[:m.Intn(len(s)+1)]
		}
		_, at, err := Parse(s)
		place := firstWrong(s)
		switch {
		case err == api.ErrTwice && at < place:
			told[api.ErrTwice]++ // the library takes names that are there already
		case library.Valid([]byte(s)):
			told[0]++
			if at != len(s) || err != nil {
				t.Fatalf("Parse(%q) = %d, %v", s, at, err)
			}
		default:
			told[api.ErrForm]++
			checkWrong(t, s, place, api.ErrForm)
		}
	}
	if told[0] < 5000 || told[api.ErrForm] < 5000 || told[api.ErrTwice] > 1000 {
		t.Errorf("texts by their errors: %v", told)
	}
}

// ascii is a short text of JSON, of bytes below 128 alone, without surrogates.
func (m maker) ascii(deep int) string {
	kind := m.Intn(6)
	if deep == 0 {
		kind = m.Intn(4)
	}
	var parts []string
	for kind >= 4 && len(parts) < 2 && m.Intn(4) > 0 {
		parts = append(parts, m.ascii(deep-1))
	}
	switch kind {
	case 0:
		return []string{"null", "true", "false"}[m.Intn(3)]
	case 1:
		return []string{"0", "-0", "10", "-1.5", "2e5", "3E-07", "0.0e+0"}[m.Intn(7)]
	case 2, 3:
		return []string{`""`, `"a"`, `"\n"`, `"\u0061"`, `"\\\""`, `" b/"`}[m.Intn(6)]
	case 4:
		return m.blanks() + "[" + strings.Join(parts, ",") + "]" + m.blanks()
	}
	for i := range parts {
		parts[i] = []string{`"x`, `"y`}[i] + `"` + m.blanks() + ":" + parts[i]
	}
	return "{" + m.blanks() + strings.Join(parts, m.blanks()+",") + "}"
}
