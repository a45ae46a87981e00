package pick

import (
	"strconv"
	"strings"
	"testing"
	"turnstile/api"
)

// The chapter's examples.
func TestTold(t *testing.T) {
	v := parse(t, `{"a": [1, {"b": "x"}]}`)
	if s, err := Text(v, "a.1.b"); s != "x" || err != nil {
		t.Errorf("Text: %q, %v", s, err)
	}
	if n, err := Int(v, "a.0", 0, 9); n != 1 || err != nil {
		t.Errorf("Int: %d, %v", n, err)
	}
	if n, err := Int(v, "a.0", 2, 9); n != 0 || err != api.ErrRange {
		t.Errorf("Int from 2: %d, %v", n, err)
	}
	checkWrong(t, v, "a.2", api.ErrNone)
	if n, err := Len(v, "a"); n != 2 || err != nil {
		t.Errorf("Len: %d, %v", n, err)
	}
	if err := Only(v, "", []string{"b"}); err != api.ErrName {
		t.Errorf("Only: %v", err)
	}
}

// PK1: ordinary paths, into objects and lists by turns.
func TestAt(t *testing.T) {
	v := parse(t, `{"a":{"b":[10,[true,{"c":null,"d":"x"}],{}]},"e":[],"long name":{"é":-1.5}}`)
	for path, want := range map[string]string{
		"a":             `{"b":[10,[true,{"c":null,"d":"x"}],{}]}`,
		"a.b":           `[10,[true,{"c":null,"d":"x"}],{}]`,
		"a.b.0":         `10`,
		"a.b.1":         `[true,{"c":null,"d":"x"}]`,
		"a.b.1.0":       `true`,
		"a.b.1.1":       `{"c":null,"d":"x"}`,
		"a.b.1.1.c":     `null`,
		"a.b.1.1.d":     `"x"`,
		"a.b.2":         `{}`,
		"e":             `[]`,
		"long name":     `{"é":-1.5}`,
		"long name.é":   `-1.5`,
		"":              `{"a":{"b":[10,[true,{"c":null,"d":"x"}],{}]},"e":[],"long name":{"é":-1.5}}`,
		"long name.e":   "",
		"b":             "",
		"a.a":           "",
		"a.b.3":         "",
		"a.b.b":         "",
		"a.b.1.1.0":     "",
		"a.b.1.1.c.c":   "",
		"a.b.1.1.d.0":   "",
		"a.b.2.c":       "",
		"e.0":           "",
		"a b":           "",
		"a/b":           "",
		"a.b[0]":        "",
		"a.b.1.1.d.x.y": "",
	} {
		if want == "" {
			checkWrong(t, v, path, api.ErrNone)
		} else {
			checkAt(t, v, path, parse(t, want))
		}
	}
}

// PK1: the empty path is the value itself, whatever it is.
func TestAtEmptyPath(t *testing.T) {
	for _, v := range []api.Value{
		{}, null, boolean(true), boolean(false), whole(7), other("1e5"), text(""), text("x"), list(), list(null, list()),
		object(nil), object([]string{"", "a"}, null, whole(1)), object([]string{"a", "a"}, null, whole(1)),
		object([]string{"a", "b", "c"}, null), object([]string{"a"}, null, null), object(nil, null), object([]string{"a"}),
	} {
		checkAt(t, v, "", v)
	}
	for kind := range 9 {
		checkAt(t, filled(kind), "", filled(kind))
	}
	for _, kind := range oddKinds {
		checkAt(t, filled(kind), "", filled(kind))
	}
}

// PK1: empty steps lead nowhere, though names are empty; a name with a point in it is reached by no path.
func TestAtPoints(t *testing.T) {
	inner := object([]string{"", "a", ".", "a.", ".a"}, text("1"), text("2"), text("3"), text("4"), text("5"))
	v := object([]string{"", ".", "..", "a.a", ".a", "a.", "a..a", "a", "b.a"}, inner, inner, inner, inner, inner, inner, inner, inner, inner)
	for _, path := range []string{
		".", "..", "...", "....", ".a", "a.", "..a", "a..", ".a.", "a..a", ".a.a", "a.a.", "a...a", "a.a..", "..a.a", "b.a", "b", ".a.a.", "a.a..a",
		strings.Repeat(".", 1000), "a" + strings.Repeat(".", 1000) + "a", strings.Repeat("a.", 1000),
	} {
		checkWrong(t, v, path, api.ErrNone)
		checkWrong(t, list(v, v), "0."+path, api.ErrNone)
		checkWrong(t, list(v, v), path+".0", api.ErrNone)
	}
	checkAt(t, v, "a.a", text("2"))
	for _, path := range []string{".", "..", ".0", "0.", "0..0", ".0.", "0.0."} {
		checkWrong(t, list(list(null)), path, api.ErrNone)
	}
	for _, path := range []string{".", "..", ".a"} {
		for _, v := range []api.Value{{}, null, boolean(true), whole(0), text("."), list(), object(nil)} {
			checkWrong(t, v, path, api.ErrNone)
		}
	}
}

// PK1: of several such names the first one counts, even where only a later one would lead on.
func TestAtFirstName(t *testing.T) {
	v := object([]string{"b", "a", "b", "a", "b"}, whole(0), list(whole(1)), object([]string{"c"}, null), list(whole(3), whole(4)), whole(5))
	checkAt(t, v, "a", list(whole(1)))
	checkAt(t, v, "b", whole(0))
	checkAt(t, v, "a.0", whole(1))
	checkWrong(t, v, "a.1", api.ErrNone)
	checkWrong(t, v, "b.c", api.ErrNone)
	first := object([]string{"a", "a"}, null, whole(1))
	checkAt(t, first, "a", null)
	if Has(first, "a") {
		t.Error("Has took the second of two names")
	}
	if _, err := Int(first, "a", 0, 9); err != api.ErrKind {
		t.Errorf("Int took the second of two names: %v", err)
	}
}

// PK1: a name is a step byte by byte: no size of letters, no blanks, no numbers are made alike, and bytes that are no UTF-8 may stand there.
func TestAtNames(t *testing.T) {
	names := []string{
		"a", "A", " a", "a ", "aa", "0", "00", "01", "-1", "1e0", "é", "e\u0301", "\x00", "\x00a", "\xff", "\xfe", "\ufffd", "null", "*", "$", "[0]", "a/b", `"a"`,
		`\u0061`, "😀", strings.Repeat("n", 10000), "\n",
	}
	v := object(names)
	for i := range names {
		v.List = append(v.List, whole(i))
	}
	for i, name := range names {
		checkAt(t, v, name, whole(i))
		checkAt(t, list(v), "0."+name, whole(i))
		checkAt(t, object([]string{name}, list(null, v)), name+".1."+name, whole(i))
	}
	for _, name := range []string{"b", "1", "000", "É", "E\u0301", "\x00\x00", "\xfd", "Null", "aaa", " ", " a ", "a\n", strings.Repeat("n", 9999), strings.Repeat("n", 10001)} {
		checkWrong(t, v, name, api.ErrNone)
	}
}

// PK1: the places of lists of several lengths: from the first to the last one, and those beyond.
func TestAtPlaces(t *testing.T) {
	for _, n := range []int{0, 1, 2, 9, 10, 11, 100, 101, 1001} {
		v := numbers(n)
		for i := range n {
			checkAt(t, v, strconv.Itoa(i), whole(10*i))
		}
		for _, i := range []int{n, n + 1, 2*n + 1, 10*n + 10, -1, -n - 1, 1 << 31, 1 << 32, 1<<32 + 1, 1<<63 - 1, -1 << 63} {
			checkWrong(t, v, strconv.Itoa(i), api.ErrNone)
		}
	}
}

// PK1: what is no place in decimal digits without needless noughts.
func TestAtNoPlaces(t *testing.T) {
	v := numbers(20)
	for _, step := range []string{
		"00", "01", "000", "007", "010", "0000000000000000000000001", "-0", "+0", "-1", "+1", "--1", "+-1", " 0", "0 ", " ", "1 1", "\t1", "1\n", "\x001", "1\x00",
		"0x1", "0b1", "0o1", "1e0", "1E1", "1_0", "1,0", "0,5", "a", "1a", "a1", "x", "é", "\xff", "1\xff", "first", "*", "-", "[0]", "0]",
		"١", "٣", "１", "०", "1١", "¹", "½", "Ⅷ", "𝟏",
		"9223372036854775807", "9223372036854775808", "18446744073709551615", "18446744073709551616", "18446744073709551617", "-18446744073709551615",
		"340282366920938463463374607431768211457", "4294967296", "4294967297", "1" + strings.Repeat("0", 100), strings.Repeat("0", 1000), strings.Repeat("9", 100000),
		"null", "true", "NaN", "Inf",
	} {
		checkWrong(t, v, step, api.ErrNone)
		checkWrong(t, list(v), "0."+step, api.ErrNone)
		checkWrong(t, list(v, v), step+".0", api.ErrNone)
	}
	for c := range 256 {
		step := string([]byte{byte(c)})
		if c >= '0' && c <= '9' {
			checkAt(t, v, step, whole(10*(c-'0')))
			continue
		}
		checkWrong(t, v, step, api.ErrNone)
		checkWrong(t, v, "1"+step, api.ErrNone)
		checkWrong(t, v, step+"1", api.ErrNone)
	}
}

// PK1: a list is asked by places and an object by names, never the other way round.
func TestAtListOrObject(t *testing.T) {
	asList, asObject := filled(api.JSONList), filled(api.JSONObject)
	checkAt(t, asList, "0", text("first"))
	checkAt(t, asList, "1", text("second"))
	checkAt(t, asObject, "a", text("first"))
	checkAt(t, asObject, "b", text("second"))
	for _, step := range []string{"a", "b", "2"} {
		checkWrong(t, asList, step, api.ErrNone)
	}
	for _, step := range []string{"0", "1", "2", "c"} {
		checkWrong(t, asObject, step, api.ErrNone)
	}
	v := object([]string{"1", "0"}, text("one"), text("nought"))
	checkAt(t, v, "0", text("nought"))
	checkAt(t, v, "1", text("one"))
}

// PK1: no step leads into what is neither an object nor a list, whatever fields it has.
func TestAtOtherKinds(t *testing.T) {
	kinds := append([]int{api.JSONNull, api.JSONBool, api.JSONNumber, api.JSONText}, oddKinds...)
	for _, kind := range kinds {
		for _, step := range []string{"a", "b", "0", "1", "", ".", "told", "x", "5"} {
			if step != "" {
				checkWrong(t, filled(kind), step, api.ErrNone)
			}
			checkWrong(t, list(filled(kind)), "0."+step, api.ErrNone)
			checkWrong(t, object([]string{"x"}, filled(kind)), "x."+step, api.ErrNone)
		}
		checkAt(t, list(filled(kind)), "0", filled(kind))
		checkAt(t, object([]string{"x"}, filled(kind)), "x", filled(kind))
	}
}

// PK1: a name without a value leads nowhere, and a value without a name is not reached; what both are there of stands.
func TestAtNamesMissing(t *testing.T) {
	more := object([]string{"a", "b", "c", "d"}, whole(1), whole(2))
	checkAt(t, more, "a", whole(1))
	checkAt(t, more, "b", whole(2))
	for _, path := range []string{"c", "d", "e", "2", "c.0", "d."} {
		checkWrong(t, more, path, api.ErrNone)
	}
	fewer := object([]string{"a"}, whole(1), list(whole(2)), whole(3))
	checkAt(t, fewer, "a", whole(1))
	for _, path := range []string{"b", "0", "1", "2", "1.0", "."} {
		checkWrong(t, fewer, path, api.ErrNone)
	}
	checkWrong(t, object([]string{"a"}), "a", api.ErrNone)
	checkWrong(t, object(nil, whole(1)), "a", api.ErrNone)
	checkWrong(t, object([]string{"b", "a"}, whole(1)), "a", api.ErrNone)
	// A value that lies behind the end of List, in its spare room, is not there.
	roomy := object([]string{"a", "b"}, whole(1), whole(2))
	roomy.List = roomy.List[:1]
	checkWrong(t, roomy, "b", api.ErrNone)
	short := numbers(5)
	short.List = short.List[:2]
	checkWrong(t, short, "2", api.ErrNone)
	checkWrong(t, short, "4", api.ErrNone)
}

// PK1: Has tells of every kind but JSONNull, and of nothing that is not there.
func TestHas(t *testing.T) {
	parts := []api.Value{boolean(false), boolean(true), whole(0), other("0.0"), text(""), text("null"), list(), list(null), object(nil), object([]string{"a"}, null)}
	for _, part := range parts {
		for path, v := range map[string]api.Value{"": part, "0": list(part), "a": object([]string{"a"}, part), "a.1": object([]string{"a"}, list(null, part))} {
			if !Has(v, path) {
				t.Errorf("Has(%+v, %q) is false", v, path)
			}
		}
	}
	for _, part := range []api.Value{null, filled(api.JSONNull)} {
		for path, v := range map[string]api.Value{"": part, "0": list(part), "a": object([]string{"a"}, part), "a.1": object([]string{"a"}, list(null, part))} {
			if Has(v, path) {
				t.Errorf("Has(%+v, %q)", v, path)
			}
			if _, err := At(v, path); err != nil {
				t.Errorf("At(%+v, %q): %v", v, path, err)
			}
		}
	}
	for _, kind := range oddKinds {
		if !Has(api.Value{Kind: kind}, "") || !Has(list(api.Value{Kind: kind}), "0") {
			t.Errorf("Has of the kind %d is false", kind)
		}
	}
	v := object([]string{"a", "b"}, null, list(null))
	for _, path := range []string{"a", "a.b", "b.0", "b.1", "c", "b.", ".b", "A"} {
		if Has(v, path) {
			t.Errorf("Has(%q)", path)
		}
	}
}

// PK1: any values and paths: what a path leads to is what stands there, and every other path leads nowhere.
func TestAtAny(t *testing.T) {
	m := newMaker(1)
	led := 0
	for range 20000 {
		v := m.value(3)
		there := reached(v)
		for path, want := range there {
			checkAt(t, v, path, want)
			if Has(v, path) != (want.Kind != api.JSONNull) {
				t.Fatalf("Has(%+v, %q) is not as At", v, path)
			}
		}
		for range 5 {
			path := m.path()
			if want, ok := there[path]; ok {
				checkAt(t, v, path, want)
				led += min(len(path), 1)
			} else {
				checkWrong(t, v, path, api.ErrNone)
			}
		}
	}
	if led < 1000 {
		t.Errorf("only %d paths led somewhere", led)
	}
}

// Rule 1: as many parts nested in one another as the document allows.
func TestDeep(t *testing.T) {
	const deep = 1 << 16
	v := text("ground")
	for i := range deep - 1 {
		if i%2 == 0 {
			v = list(v)
		} else {
			v = object([]string{"a"}, v)
		}
	}
	path := strings.TrimSuffix(strings.Repeat("0.a.", deep/2), ".a.")
	if s, err := Text(v, path); s != "ground" || err != nil {
		t.Errorf("Text: %q, %v", s, err)
	}
	if got, err := At(v, ""); err != nil || got.Kind != api.JSONList || len(got.List) != 1 {
		t.Errorf("At: %v", err)
	} else if s, err := Text(got, path); s != "ground" || err != nil {
		t.Errorf("Text of At: %q, %v", s, err)
	}
	if _, err := At(v, path+".0"); err != api.ErrNone {
		t.Errorf("At below the ground: %v", err)
	}
	if _, err := At(v, "a"+path[1:]); err != api.ErrNone {
		t.Errorf("At of another first step: %v", err)
	}
	if Has(v, path[:len(path)-1]+"1") {
		t.Error("Has of another last step")
	}
}
