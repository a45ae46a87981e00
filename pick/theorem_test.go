package pick

import (
	"reflect"
	"slices"
	"strings"
	"testing"
	"turnstile/api"
	"unsafe"
)

// atTwice is At of the first path, then of the second.
func atTwice(v api.Value, path, behind string) (api.Value, error) {
	first, err := At(v, path)
	if err != nil {
		return api.Value{}, err
	}
	return At(first, behind)
}

// checkBehind checks At of both paths at once against At of one behind the other.
func checkBehind(t *testing.T, v api.Value, path, behind string) {
	t.Helper()
	want, wantErr := atTwice(v, path, behind)
	got, err := At(v, join(path, behind))
	if err != wantErr || !alike(got, want) {
		t.Fatalf("At(%+v, %q) = %+v, %v, but %q behind %q: %+v, %v", v, join(path, behind), got, err, behind, path, want, wantErr)
	}
}

// PK3: every pair of some paths, those with empty steps and those that lead nowhere among them.
func TestPathBehindPath(t *testing.T) {
	v := parse(t, `{"a":{"a":[{"a":"x","b":[[],[1]]},null],"b":{"":1,"0":{"a":true}}},"0":[["a","b"],{"a":{"a":[1]}}],"":{"a":1},"a.b":2}`)
	paths := []string{
		"", "a", "b", "0", "1", "a.a", "a.b", "a.0", "0.a", "0.0", "0.1", "1.a", "a.a.0", "a.a.0.b", "a.b.0", "0.1.a", "b.1.0", "a.a.1", "b.0", "a.0.0", "x",
		".", "..", "a.", ".a", "0.", ".0", "a..a", "a.x", "x.a", "a.a.00", "0.-0", "a.b.",
	}
	led := 0
	for _, path := range paths {
		for _, behind := range paths {
			checkBehind(t, v, path, behind)
			if _, err := atTwice(v, path, behind); err == nil && path != "" && behind != "" {
				led++
			}
		}
	}
	if led < 20 {
		t.Errorf("only %d pairs lead somewhere", led)
	}
}

// PK3: any values and pairs of paths: all that lead somewhere, and any others.
func TestPathBehindPathAny(t *testing.T) {
	m := newMaker(3)
	for range 5000 {
		v := m.value(4)
		for path, value := range reached(v) {
			for behind := range reached(value) {
				checkBehind(t, v, path, behind)
			}
			checkBehind(t, v, path, m.path())
		}
		for range 5 {
			checkBehind(t, v, m.path(), m.path())
		}
	}
}

// spoil writes over every list of a value, and over its spare room.
func spoil(v api.Value) {
	for _, part := range v.List {
		spoil(part)
	}
	parts := v.List[:cap(v.List)]
	for i := range parts {
		parts[i] = text("spoilt")
	}
	names := v.Names[:cap(v.Names)]
	for i := range names {
		names[i] = "spoilt"
	}
}

// spare is what spare room is filled with, to see whether it stays.
var spare = text("spare")

// roomy is a value of which each list has spare room, that is filled.
func roomy(v api.Value) api.Value {
	var parts []api.Value
	for _, part := range v.List {
		parts = append(parts, roomy(part))
	}
	parts = append(parts, spare, spare)
	names := append(slices.Clone(v.Names), spare.Text, spare.Text)
	v.List, v.Names = parts[:len(v.List)], names[:len(v.Names)]
	return v
}

// withRoom is a value with each list to the end of its room.
func withRoom(v api.Value) api.Value {
	count := len(v.List)
	v.List = slices.Clone(v.List[:cap(v.List)])
	for i := range count {
		v.List[i] = withRoom(v.List[i])
	}
	v.Names = slices.Clone(v.Names[:cap(v.Names)])
	return v
}

// askAll makes every call, and spoils what is handed out.
func askAll(v api.Value, path string, names []string) {
	got, _ := At(v, path)
	spoil(got)
	Has(v, path)
	answers(v, path)
	texts, _ := Texts(v, path)
	texts = texts[:cap(texts)]
	for i := range texts {
		texts[i] = "spoilt"
	}
	Only(v, path, names)
}

// Rule 3: what was handed in stays as it was, its spare room too, whatever is done to what was handed out.
func TestArgumentsStay(t *testing.T) {
	m := newMaker(4)
	for range 5000 {
		v := roomy(m.value(4))
		before := withRoom(v)
		names := append(make([]string, 0, 4), "b", "a")
		for path := range reached(v) {
			askAll(v, path, names)
		}
		askAll(v, m.path(), names)
		if !alike(withRoom(v), before) {
			t.Fatalf("%+v became %+v", before, withRoom(v))
		}
		if !slices.Equal(names[:4], []string{"b", "a", "", ""}) {
			t.Fatalf("the names became %q", names[:4])
		}
	}
}

// Rule 3: what was handed out does not hang on what was handed in, once it is written over.
func TestAnswersStay(t *testing.T) {
	m := newMaker(5)
	for range 5000 {
		v := roomy(m.value(4))
		want := reached(plain(v))
		got := map[string]api.Value{}
		texts := map[string][]string{}
		for path := range want {
			got[path], _ = At(v, path)
			texts[path], _ = Texts(v, path)
		}
		before := map[string][]string{}
		for path := range texts {
			before[path] = slices.Clone(texts[path])
		}
		spoil(v)
		for path := range want {
			if !alike(got[path], want[path]) {
				t.Fatalf("At of %q became %+v, not %+v", path, got[path], want[path])
			}
		}
		if !reflect.DeepEqual(texts, before) {
			t.Fatalf("the texts became %q, not %q", texts, before)
		}
	}
}

// Rule 3: no two lists of one answer share memory, though those of the argument do; nor do two answers.
func TestAnswersAreTheirOwn(t *testing.T) {
	shared := []api.Value{text("x"), text("y")}
	names := []string{"a", "b"}
	v := list(list(shared...), list(shared...), object(names, shared...), object(names, shared[:1]...), object(names, list(shared...), list(shared[1:]...)))
	want := plain(v)
	one, _ := At(v, "")
	two, _ := At(v, "")
	for i := range one.List {
		spoil(one.List[i])
		for j := i + 1; j < len(one.List); j++ {
			if !alike(one.List[j], want.List[j]) {
				t.Errorf("part %d hangs on part %d", j, i)
			}
		}
	}
	if !alike(two, want) {
		t.Errorf("another answer became %+v", two)
	}
	first, _ := Texts(v, "0")
	second, _ := Texts(v, "0")
	first[0] = "spoilt"
	if second[0] != "x" {
		t.Error("two answers of Texts share memory")
	}
}

// within tells whether a text stands in the memory of another.
func within(part, whole string) bool {
	if part == "" || whole == "" {
		return false
	}
	at, from := uintptr(unsafe.Pointer(unsafe.StringData(part))), uintptr(unsafe.Pointer(unsafe.StringData(whole)))
	return at >= from && at < from+uintptr(len(whole))
}

// Rule 3: no text that is handed out stands in the memory of one that was handed in.
func TestTextsAreTheirOwn(t *testing.T) {
	some, name := strings.Repeat("some text", 3), strings.Repeat("name", 3)
	v := object([]string{name}, list(text(some), text(some)))
	got, _ := At(v, "")
	one, _ := Text(v, name+".1")
	all, _ := Texts(v, name)
	if within(got.Names[0], name) {
		t.Error("a name of At stands in the value")
	}
	for _, s := range []string{got.List[0].List[0].Text, got.List[0].List[1].Text, one, all[0], all[1]} {
		if s != some || within(s, some) {
			t.Errorf("%q stands in the value", s)
		}
	}
}

// Rule 4: the same arguments get the same answers, whatever was asked in between.
func TestSameAgain(t *testing.T) {
	m := newMaker(6)
	for range 2000 {
		v, path := m.value(4), m.path()
		first, firstErr := At(v, path)
		told := answers(v, path)
		askAll(m.value(4), m.path(), []string{m.name()})
		again, err := At(v, path)
		if err != firstErr || !alike(again, first) || !reflect.DeepEqual(answers(v, path), told) {
			t.Fatalf("%q of %+v: %+v, %v, then %+v, %v", path, v, first, firstErr, again, err)
		}
	}
}

// Rule 1: any bytes as a path.
func TestAnyPath(t *testing.T) {
	m := newMaker(7)
	for range 50000 {
		path := make([]byte, m.Intn(8))
		for i := range path {
			path[i] = "..ab01-+ \x00\xff"[m.Intn(11)]
		}
		v := m.value(3)
		if want, ok := reached(v)[string(path)]; ok {
			checkAt(t, v, string(path), want)
		} else {
			checkWrong(t, v, string(path), api.ErrNone)
		}
	}
}
