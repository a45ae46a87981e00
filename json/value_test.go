package json

import (
	"math"
	"slices"
	"strconv"
	"strings"
	"testing"
	"turnstile/api"
	"unicode/utf8"
)

// changes are a value's fields, each made other than zero.
var changes = map[string]func(v *api.Value){
	"Bool":  func(v *api.Value) { v.Bool = true },
	"Text":  func(v *api.Value) { v.Text = "1" },
	"Int":   func(v *api.Value) { v.Int = 1 },
	"Whole": func(v *api.Value) { v.Whole = true },
	"List":  func(v *api.Value) { v.List = []api.Value{null} },
	"Names": func(v *api.Value) { v.Names = []string{"a"} },
}

// notUTF8 are texts that are no UTF-8.
var notUTF8 = []string{
	"\x80", "\xbf", "\xff", "\xc0\x80", "\xc1\xbf", "\xe0\x80\x80", "\xe0\x9f\xbf", "\xf0\x8f\xbf\xbf", "\xed\xa0\x80", "\xed\xbf\xbf", "\xf4\x90\x80\x80",
	"\xf5\x80\x80\x80", "\xc3", "\xe2\x82", "\xf0\x9f\x98", "a\xff", "\xffa", "é\xc3", "\xed\xa0\xbd\xed\xb8\x80",
}

// JS2: values that may be, of each kind.
func TestValid(t *testing.T) {
	for _, v := range []api.Value{
		null, boolean(true), boolean(false), text(""), text("a"), text("\x00\x1f\"\\\u007f\uffff\U0010ffff"), list(), object(""),
		list(null, null), list(list(), list(list())), object("a", null), object("a b", null, object("a b", null, null)),
		{Kind: api.JSONObject, Names: []string{"", " ", "\x00", "a"}, List: []api.Value{null, null, null, null}},
	} {
		checkValid(t, v)
	}
	for _, v := range someNumbers {
		checkValid(t, v)
		checkValid(t, list(v, v))
	}
}

// JS2: of each kind a field that its Kind does not name must be zero.
func TestValidOtherFields(t *testing.T) {
	for _, c := range []struct {
		v     api.Value
		named string
	}{
		{null, ""},
		{boolean(false), "Bool"},
		{boolean(true), "Bool"},
		{other("1.5"), ""}, // of which the Text goes with Whole
		{whole("1", 1), "Text Int Whole"},
		{text(""), "Text"},
		{text("x"), "Text"},
		{list(), "List"},
		{list(null), "List"},
		{object(""), ""},
		{object("a", null), "List Names"},
	} {
		for name, change := range changes {
			v := c.v
			change(&v)
			if slices.Contains(strings.Fields(c.named), name) {
				checkValid(t, v)
				continue
			}
			checkRefused(t, v, api.ErrForm)
			checkRefused(t, list(null, v), api.ErrForm)
			checkRefused(t, object("a b", v, null), api.ErrForm)
		}
	}
}

// JS2: an empty list is nil or not: it is zero.
func TestValidEmptyLists(t *testing.T) {
	for _, v := range []api.Value{null, boolean(true), whole("1", 1), other("0.5"), text("a"), list(), list(null), object(""), object("a", null)} {
		if v.List == nil {
			v.List = []api.Value{}
		}
		if v.Names == nil {
			v.Names = make([]string, 0, 3)
		}
		checkValid(t, v)
		s, err := Print(v)
		if err != nil {
			t.Errorf("Print(%+v) = %v", v, err)
		}
		checkParse(t, s, v)
	}
}

// JS2: a Kind that is none of the six, whatever else is there.
func TestValidOtherKinds(t *testing.T) {
	for _, kind := range []int{0, 7, 8, -1, -6, 255, 256 + api.JSONNull, 1<<32 + api.JSONNull, math.MinInt, math.MaxInt} {
		v := api.Value{Kind: kind}
		checkRefused(t, v, api.ErrForm)
		checkRefused(t, list(v), api.ErrForm)
		for _, change := range changes {
			v := v
			change(&v)
			checkRefused(t, v, api.ErrForm)
		}
		// It is neither a list nor an object, so that it is not too deep.
		checkRefused(t, api.Value{Kind: kind, List: []api.Value{nest(100, null)}}, api.ErrForm)
	}
}

// JS2: numbers of which the text is none.
func TestValidNumbersWrong(t *testing.T) {
	for s := range numberTexts {
		n, err := strconv.Atoi(s)
		checkRefused(t, api.Value{Kind: api.JSONNumber, Text: s, Int: n, Whole: err == nil}, api.ErrForm)
		checkRefused(t, other(s), api.ErrForm)
	}
	for _, s := range []string{"", " ", " 1", "1 ", "1\n", "\t1.5", "null", `"1"`, "[1]", "1]", "1,", "1.5x", "1.5 ", "1e5\x00", strings.Repeat("1", 65), "1." + strings.Repeat("0", 63), "0" + strings.Repeat("1", 63)} {
		checkRefused(t, other(s), api.ErrForm)
	}
}

// JS2: numbers of which Whole or Int is not as it should be.
func TestValidWhole(t *testing.T) {
	for _, v := range someNumbers {
		turned := v
		turned.Whole = !v.Whole
		checkRefused(t, turned, api.ErrForm)
		for _, n := range []int{v.Int + 1, v.Int - 1, v.Int ^ math.MinInt, ^v.Int, 17} {
			changed := v
			changed.Int = n
			checkRefused(t, changed, api.ErrForm)
			changed.Whole = !v.Whole
			checkRefused(t, changed, api.ErrForm)
		}
	}
	for _, v := range []api.Value{
		other("1"), other("0"), other("-0"), whole("1.0", 1), whole("1e0", 1), whole("9223372036854775808", math.MaxInt), whole("9223372036854775808", math.MinInt),
		whole("-9223372036854775809", math.MinInt), {Kind: api.JSONNumber, Text: "5", Int: 5}, {Kind: api.JSONNumber, Text: "1e1", Int: 10},
		{Kind: api.JSONNumber, Text: "9223372036854775808", Int: math.MaxInt}, whole("-5", 5), whole("5", -5),
	} {
		checkRefused(t, v, api.ErrForm)
	}
}

// JS2: texts and names that are no UTF-8.
func TestValidUTF8(t *testing.T) {
	for _, s := range notUTF8 {
		checkRefused(t, text(s), api.ErrForm)
		checkRefused(t, list(null, text(s)), api.ErrForm)
		checkRefused(t, api.Value{Kind: api.JSONObject, Names: []string{s}, List: []api.Value{null}}, api.ErrForm)
		checkRefused(t, api.Value{Kind: api.JSONObject, Names: []string{"a", s}, List: []api.Value{null, null}}, api.ErrForm)
	}
}

// JS2: objects with more or fewer names than values.
func TestValidNames(t *testing.T) {
	for names := range 5 {
		for values := range 5 {
			v := object("")
			for i := range names {
				v.Names = append(v.Names, strconv.Itoa(i))
			}
			for range values {
				v.List = append(v.List, null)
			}
			if names == values {
				checkValid(t, v)
				continue
			}
			checkRefused(t, v, api.ErrForm)
			if names > 1 {
				v.Names[names-1] = v.Names[0]
				checkRefused(t, v, api.ErrForm)
			}
		}
	}
}

// JS2: a name twice, where all else may be, at every place and depth.
func TestValidTwice(t *testing.T) {
	for _, v := range []api.Value{
		object("a a", null, null),
		object("a b c b", null, null, null, null),
		object("a b c a", null, null, null, null),
		{Kind: api.JSONObject, Names: []string{"", ""}, List: []api.Value{null, null}},
		object("é é", null, null),
		object("a a a", null, null, null),
		object("a a b b", null, null, null, null),
		list(object("a a", null, null), object("b b", null, null)),
		object("a a", object("a a", null, null), null),
		object("x y", object("a", null), object("a a", null, null)),
		object("x y", object("a a", null, null), object("a", null)),
	} {
		checkRefused(t, v, api.ErrTwice)
		checkRefused(t, list(v), api.ErrTwice)
		checkRefused(t, list(null, v, text("b")), api.ErrTwice)
		checkRefused(t, object("a b", v, whole("1", 1)), api.ErrTwice)
		checkRefused(t, nest(30-Depth(v), v), api.ErrTwice)
	}
	checkValid(t, object("a A aa", null, null, null))
	checkValid(t, list(object("a", null), object("a", null)))
	checkValid(t, object("a b", object("a b", null, null), object("a b", null, null)))
}

// JS2: a name twice beside another fault, wherever that stands, is not told.
func TestValidTwiceBesideOthers(t *testing.T) {
	wrong := []api.Value{{}, {Kind: 7}, other("01"), text("\xff"), {Kind: api.JSONNull, Int: 1}, object("a"), object("", null), object("a a", null), whole("1", 2)}
	for _, w := range wrong {
		for _, v := range []api.Value{
			object("a a", w, null),
			object("a a", null, w),
			object("a b b", w, null, null),
			object("a a b", null, null, w),
			object("a a", list(list(w)), null),
			object("a a", null, list(list(null, w))),
			list(object("a a", null, null), w),
			list(w, object("a a", null, null)),
			list(object("a a", null, null), null, list(object("x", w))),
			list(list(object("x", w)), null, object("a a", null, null)),
			object("x y", object("a a", null, null), w),
			object("x y", w, object("a a", null, null)),
		} {
			checkRefused(t, v, api.ErrForm)
		}
	}
	for _, v := range []api.Value{
		{Kind: api.JSONObject, Names: []string{"\xff", "\xff"}, List: []api.Value{null, null}},
		{Kind: api.JSONObject, Names: []string{"a", "a", "\xff"}, List: []api.Value{null, null, null}},
		{Kind: api.JSONObject, Names: []string{"a", "a"}, List: []api.Value{null, null}, Text: "x"},
		{Kind: api.JSONObject, Names: []string{"a", "a"}, List: []api.Value{null}},
		{Kind: api.JSONObject, Names: []string{"a", "a"}},
		{Kind: api.JSONList, Names: []string{"a", "a"}, List: []api.Value{null, null}},
		{Kind: api.JSONText, Names: []string{"a", "a"}},
	} {
		checkRefused(t, v, api.ErrForm)
	}
}

// JS2: no deeper than MaxDepth; one deeper is told ahead of all other faults.
func TestValidDepth(t *testing.T) {
	checkValid(t, nest(31, list()))
	checkValid(t, nest(32, null))
	checkValid(t, objects(31, object("")))
	checkValid(t, objects(32, null))
	wrong := []api.Value{null, {}, text("\xff"), other("x"), object("a a", null, null), {Kind: 9, Text: "x"}}
	for _, w := range wrong {
		for _, deep := range []api.Value{nest(33, w), nest(32, list()), nest(32, object("")), objects(33, w), nest(1000, w), nest(20, objects(20, w))} {
			checkRefused(t, deep, api.ErrDepth)
			checkRefused(t, list(w, deep), api.ErrDepth)
			checkRefused(t, list(deep, w), api.ErrDepth)
			checkRefused(t, list(list(w), list(w, deep), w), api.ErrDepth)
			checkRefused(t, object("a a", w, deep), api.ErrDepth)
			checkRefused(t, object("a a b", deep, w), api.ErrDepth)
			checkRefused(t, api.Value{Kind: api.JSONList, List: []api.Value{deep}, Text: "x"}, api.ErrDepth)
		}
		checkRefused(t, nest(29, list(list(), object("\xff", w))), api.ErrForm)
	}
	checkRefused(t, nest(31, object("a a", null, null)), api.ErrTwice)
	// What stands in a value that is no list and no object is in no list.
	checkRefused(t, api.Value{Kind: api.JSONText, List: []api.Value{nest(100, null)}}, api.ErrForm)
	checkRefused(t, nest(32, api.Value{Kind: api.JSONText, List: []api.Value{nest(100, null)}}), api.ErrForm)
}

// JS2: texts without blanks, in the order of the parts.
func TestPrint(t *testing.T) {
	for want, v := range map[string]api.Value{
		"null": null, "true": boolean(true), "false": boolean(false), "[]": list(), "{}": object(""),
		"-0": whole("-0", 0), "1E+05": other("1E+05"), "12": whole("12", 12),
		`""`: text(""), `"a b"`: text("a b"), `"\u0001\"\\"`: text("\x01\"\\"),
		"[null]": list(null), "[[],{}]": list(list(), object("")), "[1,2,3]": list(whole("1", 1), whole("2", 2), whole("3", 3)),
		`{"a":null}`: object("a", null), `{"b":1,"a":[true,{"c":"d"}]}`: object("b a", whole("1", 1), list(boolean(true), object("c", text("d")))),
		`{"":false}`:          {Kind: api.JSONObject, Names: []string{""}, List: []api.Value{boolean(false)}},
		`{"\n":"é😀","\"":""}`: {Kind: api.JSONObject, Names: []string{"\n", "\""}, List: []api.Value{text("é😀"), text("")}},
	} {
		checkPrint(t, v, want)
	}
	for _, v := range someNumbers {
		checkPrint(t, v, v.Text)
	}
}

// JS2: a text that would have MaxJSON bytes, and one more.
func TestPrintLength(t *testing.T) {
	long := func(n int) string { return strings.Repeat("x", n) }
	checkPrint(t, text(long(api.MaxJSON-2)), `"`+long(api.MaxJSON-2)+`"`)
	for _, v := range []api.Value{
		text(long(api.MaxJSON - 2)),
		text(strings.Repeat("\n", api.MaxJSON/2-1)),
		text(strings.Repeat("\x00", (api.MaxJSON-2)/6)),
		list(text(long(api.MaxJSON - 4))),
		list(null, text(long(api.MaxJSON-4-5))),
		list(text(long(api.MaxJSON-4-5)), null),
		object("a", text(long(api.MaxJSON-8))),
		{Kind: api.JSONObject, Names: []string{long(api.MaxJSON - 9)}, List: []api.Value{null}},
		{Kind: api.JSONObject, Names: []string{long(api.MaxJSON - 9 - 11), "abc"}, List: []api.Value{null, null}},
		list(slices.Repeat([]api.Value{null, text("xx")}, api.MaxJSON/10)...),
	} {
		s, err := Print(v)
		if room := api.MaxJSON - len(s); err != nil || room < 0 || room > 5 {
			t.Fatalf("Print of a long value: %d bytes, %v", len(s), err)
		}
		checkParse(t, s, v)
		checkTooLong(t, v, api.MaxJSON-len(s))
	}
}

// checkTooLong checks a value whose last part takes all the room that is left, and one more byte.
func checkTooLong(t *testing.T, v api.Value, room int) {
	t.Helper()
	v = plain(v)
	last := &v
	for len(last.List) > 0 {
		last = &last.List[len(last.List)-1]
	}
	if last.Kind != api.JSONText {
		*last = text("ab") // as long as null
	}
	last.Text += strings.Repeat("y", room)
	if s, err := Print(v); err != nil || len(s) != api.MaxJSON {
		t.Fatalf("Print of a value as long as may be: %d bytes, %v", len(s), err)
	}
	for range 3 {
		last.Text += "y"
		if s, err := Print(v); s != "" || err != api.ErrLong {
			t.Fatalf("Print of a value that is too long: %d bytes, %v", len(s), err)
		}
		checkValid(t, v)
	}
}

// JS2: values that are much too long, of which each kind is the part that is too long.
func TestPrintTooLong(t *testing.T) {
	long := strings.Repeat("x", 3*api.MaxJSON)
	half := strings.Repeat("x", api.MaxJSON/2)
	for _, v := range []api.Value{
		text(long), list(text(long), null), list(null, text(long)), object("a", text(long)),
		{Kind: api.JSONObject, Names: []string{long}, List: []api.Value{null}},
		{Kind: api.JSONObject, Names: []string{"a", long}, List: []api.Value{null, list(text(half))}},
		list(text(half), text(half)), list(text(half), text(long), text("a")), text(strings.Repeat("\x00", api.MaxJSON/4)),
		list(slices.Repeat([]api.Value{null}, api.MaxJSON)...), list(slices.Repeat([]api.Value{list()}, api.MaxJSON/3+1)...),
		list(slices.Repeat([]api.Value{whole("12345", 12345)}, api.MaxJSON/6+1)...),
		list(slices.Repeat([]api.Value{boolean(false)}, api.MaxJSON/6+1)...),
	} {
		checkValid(t, v)
		if s, err := Print(v); s != "" || err != api.ErrLong {
			t.Errorf("Print of a value of kind %d with %d parts: %d bytes, %v", v.Kind, len(v.List), len(s), err)
		}
	}
	wrong := list(text(long), text("\xff"))
	checkRefused(t, wrong, api.ErrForm)
}

// JS3: Quote of every byte below 128, alone and among others.
func TestQuoteEveryByte(t *testing.T) {
	known := map[int]string{'"': `\"`, '\\': `\\`, '\n': `\n`, '\r': `\r`, '\t': `\t`}
	for c := range 128 {
		s := string([]byte{byte(c)})
		want, found := known[c]
		if !found {
			want = s
		}
		if !found && c < 32 {
			want = `\u00` + string([]byte{"01"[c/16], "0123456789abcdef"[c%16]})
		}
		for _, around := range []string{"", "a", "é"} {
			if got, err := Quote(around + s + s + around); got != `"`+around+want+want+around+`"` || err != nil {
				t.Errorf("Quote of %q: %q, %v", s, got, err)
			}
		}
	}
}

// JS3: the first and the last byte below 32, some between, and what is no escape here though it is elsewhere.
func TestQuoteKnown(t *testing.T) {
	for s, want := range map[string]string{
		"": `""`, "a/b": `"a/b"`, "\x00": `"\u0000"`, "\x08\x0c": `"\u0008\u000c"`, "\x0b": `"\u000b"`, "\x1f": `"\u001f"`, "\x7f": "\"\x7f\"",
		"<>&'": `"<>&'"`, "\u2028\u2029\u0080\ufeff": "\"\u2028\u2029\u0080\ufeff\"", "\x01\"\\": `"\u0001\"\\"`, "é😀": `"é😀"`, "\r\n\t": `"\r\n\t"`, `\u0041`: `"\\u0041"`,
	} {
		if got, err := Quote(s); got != want || err != nil {
			t.Errorf("Quote(%q) = %q, %v, not %q", s, got, err, want)
		}
	}
}

// JS3: Quote of what is no UTF-8.
func TestQuoteWrong(t *testing.T) {
	for _, s := range notUTF8 {
		for _, around := range []string{"", "a", "é", "\n"} {
			if got, err := Quote(around + s + around); got != "" || err != api.ErrForm {
				t.Errorf("Quote(%q) = %q, %v", around+s+around, got, err)
			}
		}
	}
	for first := range 256 {
		for second := range 256 {
			s := string([]byte{byte(first), byte(second)})
			if _, err := Quote(s); (err == nil) != utf8.ValidString(s) {
				t.Errorf("Quote(%q): %v", s, err)
			}
		}
	}
}

// JS3: Quote knows no longest text.
func TestQuoteLong(t *testing.T) {
	s := strings.Repeat("\x1f", api.MaxJSON)
	if got, err := Quote(s); got != `"`+strings.Repeat(`\u001f`, api.MaxJSON)+`"` || err != nil {
		t.Errorf("Quote of a long text: %d bytes, %v", len(got), err)
	}
}

// checkSame checks Same both ways round, and of values in lists and objects.
func checkSame(t *testing.T, a, b api.Value, want bool) {
	t.Helper()
	for _, c := range [][2]api.Value{{a, b}, {b, a}, {list(a), list(b)}, {list(null, a), list(null, b)}, {list(a, null), list(b, null)}, {object("x y", null, a), object("x y", null, b)}} {
		if Same(c[0], c[1]) != want {
			t.Fatalf("Same(%+v, %+v) is %v", c[0], c[1], !want)
		}
	}
}

// JS3: Same of values that part in one field only, whatever their Kind names.
func TestSameFields(t *testing.T) {
	for _, v := range []api.Value{{}, null, boolean(false), other("2"), text("a"), list(), object(""), {Kind: 9}, {Kind: api.JSONText, Text: "x", Int: 7, Names: []string{"n"}}} {
		checkSame(t, v, plain(v), true)
		for name, change := range changes {
			changed := plain(v)
			change(&changed)
			checkSame(t, v, changed, false)
			again := plain(v)
			change(&again)
			checkSame(t, again, changed, true)
			if name == "Int" {
				again.Int = math.MinInt
				checkSame(t, again, changed, false)
			}
		}
		changed := plain(v)
		changed.Kind++
		checkSame(t, v, changed, false)
	}
}

// JS3: Same of lists and names: their number, their order, each part.
func TestSameLists(t *testing.T) {
	unlike := []api.Value{
		list(), list(null), list(null, null), list(boolean(true), null), list(null, boolean(true)), list(list()), list(list(), list()), list(list(null)),
		object(""), object("a", null), object("b", null), object("a b", null, null), object("b a", null, null), object("A", null), object("a", boolean(false)),
		object("a b", null, boolean(true)), object("a b", boolean(true), null), object("a"), object("", null), object("aa", null), object("a a", null, null),
		object("a", object("a", null)), object("a", object("b", null)), whole("1", 1), other("1.0"), other("1e0"), text("1"), text(""), text("a"), {},
		{Kind: api.JSONObject, Names: []string{""}, List: []api.Value{null}},
	}
	for i, a := range unlike {
		for j, b := range unlike {
			checkSame(t, a, b, i == j)
			checkSame(t, plain(a), b, i == j)
		}
	}
}

// JS3: empty lists are alike, nil or not, at every depth.
func TestSameEmpty(t *testing.T) {
	nilLists := api.Value{Kind: api.JSONObject}
	empty := api.Value{Kind: api.JSONObject, List: []api.Value{}, Names: []string{}}
	roomy := api.Value{Kind: api.JSONObject, List: make([]api.Value, 0, 5), Names: make([]string, 0, 5)}
	for _, a := range []api.Value{nilLists, empty, roomy} {
		for _, b := range []api.Value{nilLists, empty, roomy} {
			checkSame(t, a, b, true)
			checkSame(t, nest(5, a), nest(5, b), true)
		}
		checkSame(t, a, api.Value{Kind: api.JSONList}, false)
	}
}

// JS3: Same of values as deep as a program may be given.
func TestSameDeep(t *testing.T) {
	a, b := nest(1<<16, null), nest(1<<16, null)
	if !Same(a, b) || Same(a, nest(1<<16, text(""))) || Same(a, nest(1<<16-1, null)) {
		t.Error("Same of deep values")
	}
}

// JS3: how deep values of each kind are nested.
func TestDepth(t *testing.T) {
	for _, c := range []struct {
		v    api.Value
		want int
	}{
		{null, 0}, {boolean(true), 0}, {whole("1", 1), 0}, {text("[[]]"), 0}, {api.Value{}, 0}, {list(), 1}, {object(""), 1}, {list(null), 1}, {object("a", null), 1},
		{list(list()), 2}, {list(null, list(), null), 2}, {list(list(list()), list()), 3}, {list(list(), list(list())), 3}, {object("a", list(object(""))), 3},
		{list(list(list(null)), null, list(list(list(list())))), 5}, {object("a b c", null, list(list()), null), 3},
	} {
		if got := Depth(c.v); got != c.want {
			t.Errorf("Depth(%+v) = %d, not %d", c.v, got, c.want)
		}
		if got := Depth(list(null, c.v, null)); got != c.want+1 {
			t.Errorf("Depth of a list of %+v = %d", c.v, got)
		}
	}
}

// JS3: Depth of what may not be: lists and objects count by their List, whatever else they are; what is neither counts nothing.
func TestDepthOfNoValue(t *testing.T) {
	for _, c := range []struct {
		v    api.Value
		want int
	}{
		{object("", list()), 2},
		{object("a b"), 1},
		{object("a a", list(), list(list())), 3},
		{api.Value{Kind: api.JSONList, Text: "x", Int: 5, Names: []string{"\xff"}, List: []api.Value{{}, list()}}, 2},
		{api.Value{Kind: api.JSONText, List: []api.Value{list()}}, 0},
		{api.Value{Kind: api.JSONNull, List: []api.Value{list()}}, 0},
		{api.Value{Kind: 0, List: []api.Value{list()}}, 0},
		{api.Value{Kind: 7, List: []api.Value{list()}}, 0},
		{api.Value{Kind: -1, List: []api.Value{list()}}, 0},
		{list(api.Value{Kind: api.JSONText, List: []api.Value{list()}}), 1},
		{list(list(api.Value{Kind: 7, List: []api.Value{nest(5, null)}})), 2},
	} {
		if got := Depth(c.v); got != c.want {
			t.Errorf("Depth(%+v) = %d, not %d", c.v, got, c.want)
		}
	}
}

// JS3: at most 10,000 is told.
func TestDepthGreatest(t *testing.T) {
	for _, n := range []int{1, 31, 32, 33, 34, 100, 9_998, 9_999, 10_000, 10_001, 10_002, 20_000, 1 << 16} {
		want := min(n, 10_000)
		if got := Depth(nest(n, null)); got != want {
			t.Errorf("Depth of %d lists = %d", n, got)
		}
		if got := Depth(objects(n-1, list())); got != want {
			t.Errorf("Depth of %d objects = %d", n, got)
		}
		if got := Depth(list(list(), nest(n, null), list())); got != min(n+1, 10_000) {
			t.Errorf("Depth of %d lists beside others = %d", n+1, got)
		}
	}
}

// JS2, JS3, rule 1: of a list that stands in itself, once and twice, Depth, Valid and Print end.
func TestListInItself(t *testing.T) {
	v := list(null, null, null)
	v.List[1], v.List[2] = v, v
	if got := Depth(v); got != 10_000 {
		t.Errorf("Depth of a list in itself = %d", got)
	}
	if err := Valid(v); err != api.ErrDepth {
		t.Errorf("Valid of a list in itself = %v", err)
	}
	if s, err := Print(v); s != "" || err != api.ErrDepth {
		t.Errorf("Print of a list in itself = %q, %v", s, err)
	}
}
