package json

import (
	library "encoding/json"
	"math/rand"
	"reflect"
	"slices"
	"sort"
	"strings"
	"testing"
	"turnstile/api"
)

var null = api.Value{Kind: api.JSONNull}

func boolean(b bool) api.Value { return api.Value{Kind: api.JSONBool, Bool: b} }

// whole is a number without point and exponent that is an int.
func whole(text string, n int) api.Value {
	return api.Value{Kind: api.JSONNumber, Text: text, Int: n, Whole: true}
}

// other is a number that is no int.
func other(text string) api.Value { return api.Value{Kind: api.JSONNumber, Text: text} }

func text(s string) api.Value { return api.Value{Kind: api.JSONText, Text: s} }

func list(parts ...api.Value) api.Value { return api.Value{Kind: api.JSONList, List: parts} }

// object has the names one by one, and the parts.
func object(names string, parts ...api.Value) api.Value {
	return api.Value{Kind: api.JSONObject, Names: strings.Fields(names), List: parts}
}

// nest is a value in so many lists.
func nest(n int, v api.Value) api.Value {
	for range n {
		v = list(v)
	}
	return v
}

// plain is a value with nil for each empty list, in memory of its own.
func plain(v api.Value) api.Value {
	var parts []api.Value
	for _, part := range v.List {
		parts = append(parts, plain(part))
	}
	v.List = parts
	v.Names = append([]string(nil), v.Names...)
	return v
}

// alike tells whether two values are the same, without asking the package.
func alike(a, b api.Value) bool { return reflect.DeepEqual(plain(a), plain(b)) }

// short is a text that a message can hold.
func short(s string) string { return s[:min(len(s), 100)] }

func checkParse(t *testing.T, s string, want api.Value) {
	t.Helper()
	v, at, err := Parse(s)
	if !alike(v, want) || at != len(s) || err != nil {
		t.Fatalf("Parse(%q) = %+v, %d, %v, not %+v", short(s), v, at, err, want)
	}
}

// checkWrong checks the error of a text, its place, and that nothing is told beside.
func checkWrong(t *testing.T, s string, place int, want api.Errno) {
	t.Helper()
	v, at, err := Parse(s)
	if at != place || err != want {
		t.Fatalf("Parse(%q) = %d, %v, not %d, %v", short(s), at, err, place, want)
	}
	if !reflect.DeepEqual(v, api.Value{}) {
		t.Fatalf("Parse(%q): %+v beside %v", short(s), v, err)
	}
}

func checkValid(t *testing.T, v api.Value) {
	t.Helper()
	if err := Valid(v); err != nil {
		t.Fatalf("Valid(%+v) = %v", v, err)
	}
}

// checkRefused checks Valid, and that Print answers the same error and no text.
func checkRefused(t *testing.T, v api.Value, want api.Errno) {
	t.Helper()
	if err := Valid(v); err != want {
		t.Fatalf("Valid(%+v) = %v, not %v", v, err, want)
	}
	if s, err := Print(v); s != "" || err != want {
		t.Fatalf("Print(%+v) = %q, %v, not %v", v, short(s), err, want)
	}
}

func checkPrint(t *testing.T, v api.Value, want string) {
	t.Helper()
	if s, err := Print(v); s != want || err != nil {
		t.Fatalf("Print(%+v) = %q, %v, not %q", v, short(s), err, short(want))
	}
}

// maker makes values and texts without an order.
type maker struct{ *rand.Rand }

func newMaker(seed int64) maker { return maker{rand.New(rand.NewSource(seed))} }

// someNumbers are values of numbers of every form.
var someNumbers = []api.Value{
	whole("0", 0), whole("-0", 0), whole("1", 1), whole("-1", -1), whole("10", 10), whole("9223372036854775807", 1<<63-1),
	whole("-9223372036854775808", -1<<63), other("9223372036854775808"), other("-9223372036854775809"),
	other("0.0"), other("-0.0"), other("1e0"), other("1E+5"), other("12.50e-07"), other("0e0"), other("-1.5E9"),
	other(strings.Repeat("1", 64)), other("-" + strings.Repeat("9", 63)),
}

// someChars are characters of every length, the edges of each, and those that are escaped.
var someChars = []rune{
	0, 1, 8, 9, 10, 12, 13, 31, ' ', '"', '\\', '/', 'a', 'b', 'u', '{', ']', ',', ':', '~', 127, 128, 0x7ff, 0x800, 0x2028,
	0xd7ff, 0xe000, 0xfeff, 0xfffd, 0xffff, 0x10000, 0x1f600, 0x10ffff,
}

func (m maker) text() string {
	chars := make([]rune, m.Intn(5))
	for i := range chars {
		chars[i] = someChars[m.Intn(len(someChars))]
	}
	return string(chars)
}

// value is a value in which lists and objects are at most so deep.
func (m maker) value(deep int) api.Value {
	switch kind := m.Intn(8); {
	case kind == 0:
		return null
	case kind == 1:
		return boolean(m.Intn(2) == 0)
	case kind == 2:
		return someNumbers[m.Intn(len(someNumbers))]
	case kind == 3 || deep == 0:
		return text(m.text())
	case kind < 6:
		v := list()
		for range m.Intn(4) {
			v.List = append(v.List, m.value(deep-1))
		}
		return v
	}
	v := object("")
	for range m.Intn(4) {
		if name := m.text(); !slices.Contains(v.Names, name) {
			v.Names = append(v.Names, name)
			v.List = append(v.List, m.value(deep-1))
		}
	}
	return v
}

// blanks are some blanks, often none.
func (m maker) blanks() string {
	b := make([]byte, m.Intn(3)*m.Intn(3))
	for i := range b {
		b[i] = " \t\n\r"[m.Intn(4)]
	}
	return string(b)
}

// spread is a text of a value, with blanks around every part and characters as escapes here and there.
func (m maker) spread(v api.Value) string {
	s := ""
	switch v.Kind {
	case api.JSONNull:
		s = "null"
	case api.JSONBool:
		s = map[bool]string{true: "true", false: "false"}[v.Bool]
	case api.JSONNumber:
		s = v.Text
	case api.JSONText:
		s = m.quote(v.Text)
	default:
		var parts []string
		for i, part := range v.List {
			parts = append(parts, m.spread(part))
			if v.Kind == api.JSONObject {
				parts[i] = m.blanks() + m.quote(v.Names[i]) + m.blanks() + ":" + parts[i]
			}
		}
		within := strings.Join(parts, ",")
		if within == "" {
			within = m.blanks()
		}
		s = "[" + within + "]"
		if v.Kind == api.JSONObject {
			s = "{" + within + "}"
		}
	}
	return m.blanks() + s + m.blanks()
}

// quote is a text in quotation marks, of which each character is itself, where it may be, or an escape.
func (m maker) quote(s string) string {
	q := `"`
	for _, c := range s {
		short := strings.IndexRune("\"\\/\b\f\n\r\t", c)
		switch {
		case short >= 0 && m.Intn(2) == 0:
			q += `\` + `"\/bfnrt`[short:short+1]
		case c < 32 || c == '"' || c == '\\' || m.Intn(3) == 0:
			q += m.escapes(c)
		default:
			q += string(c)
		}
	}
	return q + `"`
}

// escapes is a character by one escape or two, with digits of both sizes.
func (m maker) escapes(c rune) string {
	if c >= 0x10000 {
		c -= 0x10000
		return m.escapes(0xd800+c>>10) + m.escapes(0xdc00+c&0x3ff)
	}
	digits := []string{"0123456789abcdef", "0123456789ABCDEF"}[m.Intn(2)]
	return `\u` + string([]byte{digits[c>>12], digits[c>>8&15], digits[c>>4&15], digits[c&15]})
}

// tails are what may be missing of a part that was broken off, so that brackets alone are missing behind.
var tails = []string{
	"", "0", `"`, `n"`, `0"`, `00"`, `000"`, `0000"`, ":0", `":0`, `n":0`, `0":0`, `00":0`, `000":0`, `0000":0`, `"":0`,
	"ull", "ll", "l", "rue", "ue", "e", "alse", "lse", "se",
}

// brackets are those that are missing behind a text.
func brackets(s string) string {
	var missing []byte
	quoted := false
	for i := 0; i < len(s); i++ {
		switch c := s[i]; {
		case quoted && c == '\\':
			i++
		case c == '"':
			quoted = !quoted
		case quoted:
		case c == '[' || c == '{':
			missing = append(missing, c+2)
		case (c == ']' || c == '}') && len(missing) > 0:
			missing = missing[:len(missing)-1]
		}
	}
	slices.Reverse(missing)
	return string(missing)
}

// goesOn tells whether a text can become one that the library takes.
func goesOn(s string) bool {
	missing := brackets(s)
	return slices.ContainsFunc(tails, func(tail string) bool { return library.Valid([]byte(s + tail + missing)) })
}

// firstWrong is the place of the first byte at which s can't go on: behind it nothing goes on either, so that it can be searched for.
func firstWrong(s string) int {
	return sort.Search(len(s), func(place int) bool { return !goesOn(s[:place+1]) })
}
