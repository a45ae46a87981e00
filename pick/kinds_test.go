package pick

import (
	"reflect"
	"slices"
	"strconv"
	"testing"
	"turnstile/api"
)

// PK2: each call at each kind: its own kinds, and ErrKind of every other; fields that a kind does not name change nothing.
func TestEachCallAtEachKind(t *testing.T) {
	answer := map[string]map[int]answered{
		"Text":  {api.JSONText: {text: "told"}},
		"Int":   {api.JSONNumber: {int: 5}},
		"Bool":  {api.JSONBool: {bool: true}},
		"Len":   {api.JSONList: {int: 2}, api.JSONObject: {int: 2}},
		"Texts": {api.JSONList: {text: "first;second;"}},
		"Only":  {api.JSONObject: {err: api.ErrName}},
	}
	kinds := append([]int{1, 2, 3, 4, 5, 6}, oddKinds...)
	for _, kind := range kinds {
		v := filled(kind)
		for path, v := range map[string]api.Value{"": v, "1": list(null, v), "x.y": object([]string{"x"}, object([]string{"y"}, v))} {
			for name, got := range answers(v, path) {
				want, ok := answer[name][kind]
				if !ok {
					want = answered{err: api.ErrKind}
				}
				if got != want {
					t.Errorf("%s of the kind %d at %q: %+v, not %+v", name, kind, path, got, want)
				}
			}
		}
	}
}

// PK2: each call answers At's error where nothing is, whatever stands around.
func TestEachCallAtNothing(t *testing.T) {
	v := parse(t, `{"t":"x","n":1,"b":true,"l":["x"],"o":{"a":1},"z":null}`)
	for _, path := range []string{"x", "t.0", "t.x", "n.1", "b.true", "l.1", "l.x", "l.0.0", "o.b", "o.a.b", "z.z", ".", "t.", ".t", "o..a", "T"} {
		checkWrong(t, v, path, api.ErrNone)
	}
}

// PK2: Text is a text's Text as it stands; a number's Text is none.
func TestText(t *testing.T) {
	for _, s := range []string{"", "x", " ", "a.b", ".", "é😀", "\x00", "\xff", "null", "1"} {
		for path, v := range map[string]api.Value{"": text(s), "0": list(text(s)), "a": object([]string{"a"}, text(s))} {
			if got, err := Text(v, path); got != s || err != nil {
				t.Errorf("Text(%+v, %q) = %q, %v", v, path, got, err)
			}
		}
	}
	for _, v := range []api.Value{null, boolean(true), whole(1), other("1.5"), list(text("x")), object([]string{"x"}, text("x")), {}, {Text: "x"}} {
		if got, err := Text(v, ""); got != "" || err != api.ErrKind {
			t.Errorf("Text(%+v) = %q, %v", v, got, err)
		}
	}
}

// PK2: both truths, and what only looks like one.
func TestBool(t *testing.T) {
	for _, b := range []bool{true, false} {
		for path, v := range map[string]api.Value{"": boolean(b), "1": list(boolean(!b), boolean(b)), "a": object([]string{"b", "a"}, boolean(!b), boolean(b))} {
			if got, err := Bool(v, path); got != b || err != nil {
				t.Errorf("Bool(%+v, %q) = %v, %v", v, path, got, err)
			}
		}
	}
	for _, v := range []api.Value{null, text("true"), whole(1), whole(0), list(boolean(true)), object([]string{"true"}, boolean(true)), {Bool: true}} {
		if got, err := Bool(v, ""); got || err != api.ErrKind {
			t.Errorf("Bool(%+v) = %v, %v", v, got, err)
		}
	}
}

const (
	least    = -1 << 63
	greatest = 1<<63 - 1
)

// PK2: Int at low, at high, between, and one beyond each.
func TestInt(t *testing.T) {
	bounds := []int{least, least + 1, -1 << 32, -10, -1, 0, 1, 9, 10, 1 << 31, 1 << 40, greatest - 1, greatest}
	for _, low := range bounds {
		for _, high := range bounds {
			for _, n := range bounds {
				checkInt(t, n, low, high)
			}
			for _, bound := range []int{low, high} {
				if bound > least {
					checkInt(t, bound-1, low, high)
				}
				if bound < greatest {
					checkInt(t, bound+1, low, high)
				}
			}
		}
	}
}

// checkInt checks the number n between low and high, by itself and behind a path.
func checkInt(t *testing.T, n, low, high int) {
	t.Helper()
	wantN, wantErr := n, error(nil)
	switch {
	case low > high:
		wantN, wantErr = 0, api.ErrArg
	case n < low || high < n:
		wantN, wantErr = 0, api.ErrRange
	}
	for path, v := range map[string]api.Value{"": whole(n), "a.0": object([]string{"a"}, list(whole(n)))} {
		if got, err := Int(v, path, low, high); got != wantN || err != wantErr {
			t.Fatalf("Int of %d at %q from %d to %d = %d, %v, not %d, %v", n, path, low, high, got, err, wantN, wantErr)
		}
	}
}

// PK2: a number that is not Whole is of another kind, even where its Int would be within the bounds or out of them.
func TestIntNotWhole(t *testing.T) {
	for _, v := range []api.Value{
		other("1.0"), other("1e0"), other("0.5"), other("9223372036854775808"), other("-9223372036854775809"), {Kind: api.JSONNumber}, {Kind: api.JSONNumber, Int: 5}, {Kind: api.JSONNumber, Text: "5", Int: 5},
		text("5"), boolean(true), null, list(whole(5)), object([]string{"5"}, whole(5)), {Whole: true, Int: 5}, {Kind: api.JSONText, Text: "5", Whole: true, Int: 5},
	} {
		for _, most := range []int{0, 5, 9} {
			if n, err := Int(v, "", 0, most); n != 0 || err != api.ErrKind {
				t.Errorf("Int(%+v) = %d, %v", v, n, err)
			}
			if n, err := Int(list(v), "0", 6, 6+most); n != 0 || err != api.ErrKind {
				t.Errorf("Int(%+v) out of the bounds = %d, %v", v, n, err)
			}
		}
	}
}

// PK2: Int tells the field, not the Text; noughts and signs of JSON are read by layer 6.
func TestIntIsTheField(t *testing.T) {
	v := parse(t, `[-0, 9223372036854775807, -9223372036854775808, 0, -17]`)
	for i, want := range []int{0, greatest, least, 0, -17} {
		if n, err := Int(v, strconv.Itoa(i), least, greatest); n != want || err != nil {
			t.Errorf("Int of place %d = %d, %v", i, n, err)
		}
	}
	odd := api.Value{Kind: api.JSONNumber, Text: "7", Int: 3, Whole: true}
	if n, err := Int(odd, "", 3, 3); n != 3 || err != nil {
		t.Errorf("Int = %d, %v", n, err)
	}
}

// PK2: low above high comes first of all, beside every other fault and beside none.
func TestIntArg(t *testing.T) {
	v := parse(t, `{"n":5,"x":1.5,"t":"5","z":null}`)
	for _, path := range []string{"n", "x", "t", "z", "", "no", "n.n", ".", "n.", ".n", "t.0"} {
		for _, bounds := range [][2]int{{1, 0}, {6, 5}, {5, 4}, {0, -1}, {greatest, least}, {greatest, greatest - 1}, {least + 1, least}, {100, 99}} {
			if n, err := Int(v, path, bounds[0], bounds[1]); n != 0 || err != api.ErrArg {
				t.Errorf("Int(%q, %d, %d) = %d, %v", path, bounds[0], bounds[1], n, err)
			}
		}
	}
	for _, v := range []api.Value{{}, {Kind: 9}, filled(api.JSONNumber), filled(9)} {
		if n, err := Int(v, "", 6, 5); n != 0 || err != api.ErrArg {
			t.Errorf("Int(%+v) = %d, %v", v, n, err)
		}
	}
}

// PK2: At's error comes ahead of the kind's, and the kind's ahead of the bounds'.
func TestIntOrder(t *testing.T) {
	v := parse(t, `{"n":5,"x":1.5,"t":"5"}`)
	for path, want := range map[string]api.Errno{"n": api.ErrRange, "x": api.ErrKind, "t": api.ErrKind, "no": api.ErrNone, "n.5": api.ErrNone, "": api.ErrKind} {
		if n, err := Int(v, path, 6, 9); n != 0 || err != want {
			t.Errorf("Int(%q) = %d, %v, not %v", path, n, err, want)
		}
	}
}

// PK2: Len of lists and objects is how many values there are, not how many names; of anything else there is none.
func TestLen(t *testing.T) {
	for want := range 70 {
		v := object(nil)
		for i := range want {
			v.Names = append(v.Names, strconv.Itoa(i))
			v.List = append(v.List, list(null, null))
		}
		for _, v := range []api.Value{v, list(v.List...), list(v), object([]string{"a"}, v)} {
			if n, err := Len(v, ""); n != len(v.List) || err != nil {
				t.Errorf("Len of %d values = %d, %v", len(v.List), n, err)
			}
		}
		if n, err := Len(list(v), "0"); n != want || err != nil {
			t.Errorf("Len at a path = %d, %v, not %d", n, err, want)
		}
	}
	for _, c := range []struct {
		v    api.Value
		want int
	}{
		{list(), 0}, {object(nil), 0}, {object([]string{}, []api.Value{}...), 0}, {object([]string{"a", "b", "c"}, null), 1}, {object([]string{"a"}), 0},
		{object([]string{"a"}, null, null, null), 3}, {object(nil, null), 1}, {object([]string{"a", "a"}, null, null), 2}, {object([]string{"", "a.b"}, null, null), 2},
	} {
		if n, err := Len(c.v, ""); n != c.want || err != nil {
			t.Errorf("Len(%+v) = %d, %v, not %d", c.v, n, err, c.want)
		}
	}
	for _, v := range []api.Value{null, text(""), text("abc"), boolean(true), whole(3), other("1.5"), {}, {Kind: api.JSONText, List: []api.Value{null}}} {
		if n, err := Len(v, ""); n != 0 || err != api.ErrKind {
			t.Errorf("Len(%+v) = %d, %v", v, n, err)
		}
	}
}

// PK2: Texts of lists of texts, in their order; the same text twice is told twice.
func TestTexts(t *testing.T) {
	all := []string{"b", "a", "", "b", "a.b", "é", "\xff", "10", "9"}
	for n := range len(all) + 1 {
		v := list()
		for _, s := range all[:n] {
			v.List = append(v.List, text(s))
		}
		for path, v := range map[string]api.Value{"": v, "1": list(null, v), "a": object([]string{"a"}, v)} {
			if got, err := Texts(v, path); !slices.Equal(got, all[:n]) || err != nil {
				t.Errorf("Texts(%+v, %q) = %q, %v", v, path, got, err)
			}
		}
	}
	// A list of another kind's fields is a list all the same.
	if got, err := Texts(filled(api.JSONList), ""); !slices.Equal(got, []string{"first", "second"}) || err != nil {
		t.Errorf("Texts = %q, %v", got, err)
	}
}

// PK2: Texts of a list in which one value is no text, at each place; and of what is no list.
func TestTextsKind(t *testing.T) {
	for _, odd := range []api.Value{null, boolean(true), whole(1), other("1.5"), list(), list(text("x")), object(nil), object([]string{"a"}, text("x")), {}, {Text: "x"}, filled(7), filled(api.JSONNumber)} {
		for place := range 4 {
			v := list(text("a"), text("b"), text("c"))
			v.List = slices.Insert(v.List, place, odd)
			if got, err := Texts(v, ""); len(got) != 0 || err != api.ErrKind {
				t.Errorf("Texts(%+v) = %q, %v", v, got, err)
			}
		}
		if got, err := Texts(list(odd), ""); len(got) != 0 || err != api.ErrKind {
			t.Errorf("Texts of %+v alone = %q, %v", odd, got, err)
		}
	}
	for _, v := range []api.Value{null, text("x"), object([]string{"a"}, text("x")), object(nil), whole(0), {}, {List: []api.Value{text("x")}}} {
		if got, err := Texts(v, ""); len(got) != 0 || err != api.ErrKind {
			t.Errorf("Texts(%+v) = %q, %v", v, got, err)
		}
	}
}

// PK2: Only with fewer names than there are, with as many, with more, with a name twice, in any order.
func TestOnly(t *testing.T) {
	for _, c := range []struct {
		there, names []string
		want         error
	}{
		{nil, nil, nil},
		{nil, []string{}, nil},
		{nil, []string{"a"}, nil},
		{[]string{"a"}, nil, api.ErrName},
		{[]string{"a"}, []string{}, api.ErrName},
		{[]string{"a"}, []string{"a"}, nil},
		{[]string{"a"}, []string{"b"}, api.ErrName},
		{[]string{"a"}, []string{"a", "b"}, nil},
		{[]string{"a"}, []string{"b", "a"}, nil},
		{[]string{"a"}, []string{"a", "a"}, nil},
		{[]string{"a", "b"}, []string{"b", "a"}, nil},
		{[]string{"a", "b"}, []string{"b", "c", "a", "c"}, nil},
		{[]string{"a", "b"}, []string{"a"}, api.ErrName},
		{[]string{"a", "b"}, []string{"b"}, api.ErrName},
		{[]string{"a", "b"}, []string{"a", "a"}, api.ErrName},
		{[]string{"a", "b", "c"}, []string{"a", "b", "d"}, api.ErrName},
		{[]string{"a", "a"}, []string{"a"}, nil},
		{[]string{"a", "b", "a"}, []string{"a"}, api.ErrName},
		{[]string{"A"}, []string{"a"}, api.ErrName},
		{[]string{"a "}, []string{"a"}, api.ErrName},
		{[]string{"aa"}, []string{"a"}, api.ErrName},
		{[]string{"a"}, []string{"aa"}, api.ErrName},
		{[]string{""}, []string{"a"}, api.ErrName},
		{[]string{""}, []string{""}, nil},
		{[]string{"a"}, []string{""}, api.ErrName},
		{[]string{"a.b", "."}, []string{".", "a.b"}, nil},
		{[]string{"a.b"}, []string{"a", "b"}, api.ErrName},
		{[]string{"0"}, []string{"00"}, api.ErrName},
		{[]string{"\xff"}, []string{"\xfe"}, api.ErrName},
		{[]string{"é"}, []string{"e\u0301"}, api.ErrName},
	} {
		inner := object(c.there, make([]api.Value, len(c.there))...)
		for path, v := range map[string]api.Value{"": inner, "0": list(inner), "x.1": object([]string{"x"}, list(null, inner))} {
			if err := Only(v, path, c.names); err != c.want {
				t.Errorf("Only(%q, %q) at %q = %v, not %v", c.there, c.names, path, err, c.want)
			}
		}
	}
}

// PK2: only the object's own names count, not those of what stands in it or around it.
func TestOnlyOwnNames(t *testing.T) {
	v := parse(t, `{"a":{"b":{"c":1},"d":[{"e":1}]}}`)
	for path, names := range map[string][]string{"": {"a"}, "a": {"b", "d"}, "a.b": {"c"}, "a.d.0": {"e"}} {
		if err := Only(v, path, names); err != nil {
			t.Errorf("Only(%q, %q) = %v", path, names, err)
		}
		if err := Only(v, path, []string{"x"}); err != api.ErrName {
			t.Errorf("Only(%q) of another name = %v", path, err)
		}
	}
}

// PK2: a name without a value is a name that an object has; values without names change nothing.
func TestOnlyNamesMissing(t *testing.T) {
	more := object([]string{"a", "b"}, null)
	if err := Only(more, "", []string{"a"}); err != api.ErrName {
		t.Errorf("Only of a name without a value = %v", err)
	}
	if err := Only(more, "", []string{"a", "b"}); err != nil {
		t.Errorf("Only of both names = %v", err)
	}
	if err := Only(object([]string{"a"}, null, null), "", []string{"a"}); err != nil {
		t.Errorf("Only with a value without a name = %v", err)
	}
	if err := Only(object(nil, null), "", nil); err != nil {
		t.Errorf("Only without names = %v", err)
	}
}

// PK2: Only of what is no object is ErrKind, with or without names; where nothing is, ErrNone.
func TestOnlyKind(t *testing.T) {
	for _, names := range [][]string{nil, {"a"}, {"a", "b"}, {"0"}} {
		for _, v := range []api.Value{null, text("a"), boolean(true), whole(0), other("1.5"), list(), list(text("a")), filled(api.JSONList), filled(0), filled(7)} {
			if err := Only(v, "", names); err != api.ErrKind {
				t.Errorf("Only(%+v, %q) = %v", v, names, err)
			}
			if err := Only(list(v), "1", names); err != api.ErrNone {
				t.Errorf("Only of nothing = %v", err)
			}
		}
	}
}

// PK2: Only with many names: one too much is found at any place.
func TestOnlyMany(t *testing.T) {
	const many = 200_000
	names := make([]string, many)
	for i := range names {
		names[i] = strconv.Itoa(many - i)
	}
	v := object(slices.Clone(names), make([]api.Value, many)...)
	slices.Reverse(names)
	if err := Only(v, "", names); err != nil {
		t.Errorf("Only = %v", err)
	}
	for _, place := range []int{0, many / 2, many - 1} {
		kept := v.Names[place]
		v.Names[place] = "x"
		if err := Only(v, "", names); err != api.ErrName {
			t.Errorf("Only with another name at %d = %v", place, err)
		}
		v.Names[place] = kept
	}
}

// PK2: what a call with a kind answers at a path is what it answers of At's value.
func TestKindsAsAt(t *testing.T) {
	m := newMaker(2)
	for range 20000 {
		v := m.value(3)
		for path, value := range reached(v) {
			if !reflect.DeepEqual(answers(v, path), answers(value, "")) {
				t.Fatalf("at %q of %+v: %+v", path, v, answers(v, path))
			}
		}
	}
}
