package pick

import (
	"math/rand"
	"reflect"
	"strconv"
	"strings"
	"testing"
	"turnstile/api"
	"turnstile/json"
)

var null = api.Value{Kind: api.JSONNull}

func boolean(b bool) api.Value { return api.Value{Kind: api.JSONBool, Bool: b} }

// whole is a number without point and exponent.
func whole(n int) api.Value {
	return api.Value{Kind: api.JSONNumber, Text: strconv.Itoa(n), Int: n, Whole: true}
}

// other is a number that is no int.
func other(text string) api.Value { return api.Value{Kind: api.JSONNumber, Text: text} }

func text(s string) api.Value { return api.Value{Kind: api.JSONText, Text: s} }

func list(parts ...api.Value) api.Value { return api.Value{Kind: api.JSONList, List: parts} }

// object has the names, and the parts: as many, where it may be.
func object(names []string, parts ...api.Value) api.Value {
	return api.Value{Kind: api.JSONObject, Names: names, List: parts}
}

// numbers is a list of 0, 10, 20 and so on.
func numbers(n int) api.Value {
	v := list()
	for i := range n {
		v.List = append(v.List, whole(10*i))
	}
	return v
}

func parse(t *testing.T, s string) api.Value {
	t.Helper()
	v, _, err := json.Parse(s)
	if err != nil {
		t.Fatalf("Parse(%q): %v", s, err)
	}
	return v
}

// plain is a value with nil for each empty list, in memory of its own.
func plain(v api.Value) api.Value {
	var parts []api.Value
	for _, part := range v.List {
		parts = append(parts, plain(part))
	}
	v.List = parts
	v.Names = append([]string(nil), v.Names...)
	return v
}

func alike(a, b api.Value) bool { return reflect.DeepEqual(plain(a), plain(b)) }

// short is a path that a message can hold.
func short(s string) string { return s[:min(len(s), 100)] }

func checkAt(t *testing.T, v api.Value, path string, want api.Value) {
	t.Helper()
	got, err := At(v, path)
	if err != nil || !alike(got, want) {
		t.Fatalf("At(%+v, %q) = %+v, %v, not %+v", v, short(path), got, err, want)
	}
}

// checkWrong checks that every call answers At's error, and nothing beside it.
func checkWrong(t *testing.T, v api.Value, path string, want api.Errno) {
	t.Helper()
	if got, err := At(v, path); err != want || !reflect.DeepEqual(got, api.Value{}) {
		t.Fatalf("At(%+v, %q) = %+v, %v, not %v", v, short(path), got, err, want)
	}
	if Has(v, path) {
		t.Fatalf("Has(%+v, %q)", v, short(path))
	}
	for name, answer := range answers(v, path) {
		if answer != (answered{err: want}) {
			t.Fatalf("%s(%+v, %q) = %+v, not %v", name, v, short(path), answer, want)
		}
	}
}

// answered is what a call with a kind answers, Texts as one text.
type answered struct {
	text string
	int  int
	bool bool
	err  error
}

// answers are those of the calls with a kind, by their names.
func answers(v api.Value, path string) map[string]answered {
	all := map[string]answered{}
	var a answered
	a.text, a.err = Text(v, path)
	all["Text"], a = a, answered{}
	a.int, a.err = Int(v, path, -1<<63, 1<<63-1)
	all["Int"], a = a, answered{}
	a.bool, a.err = Bool(v, path)
	all["Bool"], a = a, answered{}
	a.int, a.err = Len(v, path)
	all["Len"], a = a, answered{}
	texts, err := Texts(v, path)
	for _, s := range texts {
		a.text += s + ";"
	}
	a.err = err
	all["Texts"], a = a, answered{}
	a.err = Only(v, path, nil)
	all["Only"] = a
	return all
}

// oddKinds are numbers of kinds that are none.
var oddKinds = []int{0, -1, 7, 8, 100, 1 << 40, -1 << 63, 1<<63 - 1}

// filled is a value of a kind with every field set, though no kind names them all.
func filled(kind int) api.Value {
	return api.Value{
		Kind: kind, Bool: true, Text: "told", Int: 5, Whole: true,
		List: []api.Value{text("first"), text("second")}, Names: []string{"a", "b"},
	}
}

// reached is every value of v with the path that leads there: those that are not in it lead nowhere.
func reached(v api.Value) map[string]api.Value {
	found := map[string]api.Value{"": v}
	for i, part := range v.List {
		step := strconv.Itoa(i)
		if v.Kind == api.JSONObject {
			if i >= len(v.Names) {
				continue
			}
			step = v.Names[i]
			if step == "" || strings.Contains(step, ".") {
				continue
			}
		} else if v.Kind != api.JSONList {
			return found
		}
		if _, there := found[step]; there {
			continue
		}
		for behind, value := range reached(part) {
			found[join(step, behind)] = value
		}
	}
	return found
}

// join is a path and a path behind it.
func join(path, behind string) string {
	if path == "" || behind == "" {
		return path + behind
	}
	return path + "." + behind
}

// maker makes values and paths without an order.
type maker struct{ *rand.Rand }

func newMaker(seed int64) maker { return maker{rand.New(rand.NewSource(seed))} }

var someNames = []string{"", "a", "b", "A", "aa", "0", "1", "00", "2", ".", "a.b", "a.", ".a", " ", "é", "\x00", "\xff", "-1", "null"}

func (m maker) name() string { return someNames[m.Intn(len(someNames))] }

// value is any value in which lists and objects are at most so deep: a name may be there twice, names or values may be missing, and the kind may be none.
func (m maker) value(deep int) api.Value {
	switch kind := m.Intn(12); {
	case kind == 0:
		return null
	case kind == 1:
		return boolean(m.Intn(2) == 0)
	case kind == 2:
		return whole(m.Intn(100) - 50)
	case kind == 3:
		return other("1.5")
	case kind == 4:
		return filled(oddKinds[m.Intn(len(oddKinds))])
	case kind == 5 || deep == 0:
		return text(m.name())
	case kind < 9:
		v := list()
		for range m.Intn(4) {
			v.List = append(v.List, m.value(deep-1))
		}
		return v
	}
	v := object(nil)
	for range m.Intn(6) {
		v.Names = append(v.Names, m.name())
		v.List = append(v.List, m.value(deep-1))
	}
	if m.Intn(8) == 0 {
		v.Names = append(v.Names, m.name())
	}
	if m.Intn(8) == 0 {
		v.List = append(v.List, m.value(deep-1))
	}
	return v
}

// path is a row of some steps, that may lead somewhere.
func (m maker) path() string {
	steps := make([]string, m.Intn(4))
	for i := range steps {
		steps[i] = m.name()
	}
	return strings.Join(steps, ".")
}
