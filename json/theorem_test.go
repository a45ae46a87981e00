package json

import (
	"bytes"
	library "encoding/json"
	"reflect"
	"strings"
	"testing"
	"turnstile/api"
	"unsafe"
)

// JS4: any values: Parse of Print is the value, and it is what the library reads.
func TestThereAndBack(t *testing.T) {
	m := newMaker(4)
	for range 20000 {
		v := m.value(5)
		checkValid(t, v)
		s, err := Print(v)
		if err != nil {
			t.Fatalf("Print(%+v) = %v", v, err)
		}
		checkParse(t, s, v)
		if !reflect.DeepEqual(read(t, s), meant(v)) {
			t.Fatalf("Print(%+v) = %q, which the library reads as %v", v, s, read(t, s))
		}
	}
}

// read is what the library reads, with numbers as they stand.
func read(t *testing.T, s string) (v any) {
	t.Helper()
	d := library.NewDecoder(strings.NewReader(s))
	d.UseNumber()
	if err := d.Decode(&v); err != nil {
		t.Fatalf("the library: %q: %v", s, err)
	}
	return v
}

// meant is a value in the library's form.
func meant(v api.Value) any {
	switch v.Kind {
	case api.JSONBool:
		return v.Bool
	case api.JSONNumber:
		return library.Number(v.Text)
	case api.JSONText:
		return v.Text
	case api.JSONList:
		all := []any{}
		for _, part := range v.List {
			all = append(all, meant(part))
		}
		return all
	case api.JSONObject:
		all := map[string]any{}
		for i, part := range v.List {
			all[v.Names[i]] = meant(part)
		}
		return all
	}
	return nil
}

// JS4: any texts: what Parse answers may be, and Print of it, parsed again, is the same; blanks and escapes change nothing.
func TestBackAndThere(t *testing.T) {
	m := newMaker(5)
	for range 20000 {
		v := m.value(5)
		s := m.spread(v)
		checkParse(t, s, v)
		first, _, _ := Parse(s)
		checkValid(t, first)
		printed, err := Print(first)
		if err != nil {
			t.Fatalf("Print of %q: %v", s, err)
		}
		second, at, err := Parse(printed)
		if !Same(first, second) || at != len(printed) || err != nil {
			t.Fatalf("%q, printed as %q, is %+v, %v", s, printed, second, err)
		}
		if !reflect.DeepEqual(read(t, s), meant(second)) {
			t.Fatalf("%q is %+v, which the library reads otherwise", s, second)
		}
	}
}

// JS4: values as deep as may be, there and back.
func TestThereAndBackDeep(t *testing.T) {
	for _, v := range []api.Value{nest(31, list()), nest(32, null), objects(32, text("x")), nest(16, objects(16, null))} {
		s, err := Print(v)
		if err != nil {
			t.Fatalf("Print(%+v) = %v", v, err)
		}
		checkParse(t, s, v)
	}
}

// JS4: blanks around each part, one by one, each of the four and many of them; within a part they are no blanks.
func TestBlanks(t *testing.T) {
	tokens := []string{"{", `"a b"`, ":", "[", "1", ",", "-2.5e3", ",", "true", ",", `"\u0020 "`, "]", ",", `"c"`, ":", "{", "}", ",", `"d"`, ":", "[", "]", ",", `"e"`, ":", "null", "}"}
	want := api.Value{Kind: api.JSONObject, Names: []string{"a b", "c", "d", "e"}, List: []api.Value{
		list(whole("1", 1), other("-2.5e3"), boolean(true), text("  ")), object(""), list(), null,
	}}
	checkParse(t, strings.Join(tokens, ""), want)
	for _, blanks := range []string{" ", "\t", "\n", "\r", "\r\n", " \t\n\r", strings.Repeat(" ", 500)} {
		checkParse(t, blanks+strings.Join(tokens, blanks)+blanks, want)
		for i := range len(tokens) + 1 {
			checkParse(t, strings.Join(tokens[:i], "")+blanks+strings.Join(tokens[i:], ""), want)
		}
	}
	for _, none := range []string{"\v", "\f", "\x00", "\u00a0", "\u2028", "\ufeff", "#", "//", "/* */"} {
		for i := range len(tokens) + 1 {
			ahead := strings.Join(tokens[:i], "")
			checkWrong(t, ahead+none+strings.Join(tokens[i:], ""), len(ahead), api.ErrForm)
		}
	}
}

// Rule 3: what is handed in is not changed, nor what stands in its spare room.
func TestArgumentsStay(t *testing.T) {
	m := newMaker(6)
	for range 2000 {
		v := object("a b c", m.value(3), m.value(3), m.value(3), object("x x", null), text("\xff"))
		room := plain(v)
		v.List, v.Names = v.List[:3], v.Names[:3]
		Valid(v)
		Print(v)
		Same(v, m.value(3))
		Same(m.value(3), v)
		Depth(v)
		v.List, v.Names = v.List[:5], v.Names[:3]
		if !alike(v, room) {
			t.Fatalf("%+v became %+v", room, v)
		}
	}
}

// spoil overwrites all that a value's lists have, their spare room too.
func spoil(v api.Value) {
	for _, part := range v.List {
		spoil(part)
	}
	parts, names := v.List[:cap(v.List)], v.Names[:cap(v.Names)]
	for i := range parts {
		parts[i] = text("spoilt")
	}
	for i := range names {
		names[i] = "spoilt"
	}
}

// Rule 3: what was handed out is its own: no two lists of it, and no two answers, share memory.
func TestAnswersAreTheirOwn(t *testing.T) {
	m := newMaker(7)
	for range 2000 {
		v := list(m.value(4), m.value(4), object("a b c d e", m.value(2), m.value(2), null, list(), list(null, null, null)))
		s := m.spread(v)
		one, _, _ := Parse(s)
		two, _, _ := Parse(s)
		for i := range one.List {
			spoil(one.List[i])
			one.List[i] = null
			for j := i + 1; j < len(one.List); j++ {
				if !alike(one.List[j], v.List[j]) {
					t.Fatalf("%q: part %d hangs on part %d", s, j, i)
				}
			}
		}
		if !alike(two, v) {
			t.Fatalf("%q: another answer became %+v", s, two)
		}
		checkParse(t, s, v)
	}
}

// Rule 3: the lists of one object have each a room of their own: what is put behind one does not reach another.
func TestSpareRoom(t *testing.T) {
	v, _, err := Parse(`[[1,2,3],[4,5,6],{"a":1,"b":2,"c":3},{"d":4}]`)
	if err != nil {
		t.Fatal(err)
	}
	want := plain(v)
	for _, part := range v.List {
		parts := part.List[len(part.List):cap(part.List)]
		for i := range parts {
			parts[i] = text("spoilt")
		}
		names := part.Names[len(part.Names):cap(part.Names)]
		for i := range names {
			names[i] = "spoilt"
		}
	}
	if !alike(v, want) {
		t.Errorf("%+v became %+v", want, v)
	}
}

// within tells whether a text stands in the memory of another.
func within(part, whole string) bool {
	if part == "" || whole == "" {
		return false
	}
	at, from := uintptr(unsafe.Pointer(unsafe.StringData(part))), uintptr(unsafe.Pointer(unsafe.StringData(whole)))
	return at >= from && at < from+uintptr(len(whole))
}

// Rule 3: no text that is handed out stands in the memory of one that was handed in.
func TestTextsAreTheirOwn(t *testing.T) {
	s := strings.Clone(`{"name":["some text",12345,-1.5e7]}`)
	v, _, _ := Parse(s)
	parts := v.List[0].List
	for _, got := range []string{v.Names[0], parts[0].Text, parts[1].Text, parts[2].Text} {
		if within(got, s) {
			t.Errorf("%q stands in the text that was parsed", got)
		}
	}
	if got, _ := Print(parts[1]); within(got, parts[1].Text) {
		t.Error("Print's text stands in the value")
	}
	if got, _ := Quote(s); within(got, s) {
		t.Error("Quote's text stands in the text")
	}
}

// Rule 1: any bytes: every call ends, and none panics; what is answered fits together.
func TestAnyBytes(t *testing.T) {
	m := newMaker(8)
	for range 50000 {
		b := make([]byte, m.Intn(12))
		m.Read(b)
		if m.Intn(2) == 0 {
			for i := range b {
				b[i] = "\"\\ud8c{}[]:,0 e\xed\xe2\x80"[m.Intn(18)]
			}
		}
		s := string(b)
		v, at, err := Parse(s)
		switch {
		case err == nil:
			checkValid(t, v)
		case at < 0 || at > len(s) || !reflect.DeepEqual(v, api.Value{}):
			t.Fatalf("Parse(%q) = %+v, %d, %v", s, v, at, err)
		}
		// What stands ahead of the place can't be the fault: cut off there, the text ends too early at most.
		if err == api.ErrForm && at < len(s) {
			if _, cut, again := Parse(s[:at]); again != nil && cut != at {
				t.Fatalf("Parse(%q) = %d, %v, but cut off there %d, %v", s, at, err, cut, again)
			}
		}
		Quote(s)
	}
}

func BenchmarkParse(b *testing.B) {
	text := benchmarkText(b)
	b.SetBytes(int64(len(text)))
	for b.Loop() {
		Parse(text)
	}
}

func BenchmarkPrint(b *testing.B) {
	v, _, _ := Parse(benchmarkText(b))
	for b.Loop() {
		Print(v)
	}
}

func benchmarkText(b *testing.B) string {
	part := []byte(`{"name":"a route","hosts":["example.org","*.example.org"],"limit":{"rate":10,"per":1000},"on":true,"é":"\u00e9\n"}`)
	text := "[" + string(bytes.Repeat(append(part, ','), 50)) + "null]"
	if _, _, err := Parse(text); err != nil {
		b.Fatal(err)
	}
	return text
}
