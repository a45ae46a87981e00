package write

import (
	"slices"
	"strings"
	"testing"
	"turnstile/api"
	"unsafe"
)

func checkGet(t *testing.T, l []api.Field, name, want string, has bool) {
	t.Helper()
	if got, ok := Get(l, name); got != want || ok != has {
		t.Errorf("Get(%q, %q) = %q, %v, not %q, %v", l, name, got, ok, want, has)
	}
}

func checkList(t *testing.T, call string, got, want []api.Field) {
	t.Helper()
	if !slices.Equal(got, want) {
		t.Errorf("%s = %q, not %q", call, got, want)
	}
}

// WR2: the first field's value, with names in great and small letters, and any bytes.
func TestGet(t *testing.T) {
	l := fieldsOf("A", "1", "b", "2", "a", "3", "C-d", "", "", "5", "c ", " 6\t", "É", "7", "[", "8", "K", "9", "\xff\r\n", "\x00")
	for _, f := range fieldsOf("A", "1", "a", "1", "b", "2", "B", "2", "c-D", "", "C-D", "", "", "5", "C ", " 6\t", "É", "7", "[", "8", "k", "9", "\xff\r\n", "\x00") {
		checkGet(t, l, f.Name, f.Value, true)
	}
	for _, name := range []string{"c", "d", "c_d", " ", "aa", "{", "é", "\u212a", "\xff", "a ", "a\x00"} {
		checkGet(t, l, name, "", false)
	}
	for _, none := range [][]api.Field{nil, {}} {
		checkGet(t, none, "a", "", false)
		checkGet(t, none, "", "", false)
	}
	checkGet(t, fieldsOf("a", "", "a", "x"), "A", "", true)
}

// WR2: one more, and the last, whatever stands there.
func TestAdd(t *testing.T) {
	checkList(t, "Add", Add(nil, "a", "b"), fieldsOf("a", "b"))
	checkList(t, "Add", Add([]api.Field{}, "", ""), fieldsOf("", ""))
	checkList(t, "Add", Add(fieldsOf("a", "1"), "a", "1"), fieldsOf("a", "1", "a", "1"))
	checkList(t, "Add", Add(fieldsOf("a", "1", "b", "2"), "A", " \r\n"), fieldsOf("a", "1", "b", "2", "A", " \r\n"))
	checkList(t, "Add", Add(fieldsOf("", "", "b c", "\x00"), "\xff:", ""), fieldsOf("", "", "b c", "\x00", "\xff:", ""))
	many := slices.Repeat(fieldsOf("a", "b"), 64)
	checkList(t, "Add", Add(many, "c", "d"), append(many, api.Field{Name: "c", Value: "d"}))
}

// WR2: without all of a name, at the beginning, in the middle and at the end.
func TestDel(t *testing.T) {
	checkList(t, "Del", Del(nil, "a"), nil)
	checkList(t, "Del", Del([]api.Field{}, ""), nil)
	checkList(t, "Del", Del(fieldsOf("a", "1"), "A"), nil)
	checkList(t, "Del", Del(fieldsOf("a", "1", "A", "2", "a", "3"), "a"), nil)
	checkList(t, "Del", Del(fieldsOf("a", "1", "b", "2", "c", "3"), "A"), fieldsOf("b", "2", "c", "3"))
	checkList(t, "Del", Del(fieldsOf("a", "1", "B", "2", "c", "3"), "b"), fieldsOf("a", "1", "c", "3"))
	checkList(t, "Del", Del(fieldsOf("a", "1", "b", "2", "C", "3"), "c"), fieldsOf("a", "1", "b", "2"))
	checkList(t, "Del", Del(fieldsOf("a", "1", "b", "2", "A", "3", "c", "4", "a", "5"), "a"), fieldsOf("b", "2", "c", "4"))
	checkList(t, "Del", Del(fieldsOf("a", "1", "b", "2"), "c"), fieldsOf("a", "1", "b", "2"))
	checkList(t, "Del", Del(fieldsOf("a", "1", "", "2", "b", "3", "", "4"), ""), fieldsOf("a", "1", "b", "3"))
	checkList(t, "Del", Del(fieldsOf("É", "1", "é", "2", "\r\nX", "3"), "é"), fieldsOf("É", "1", "\r\nX", "3"))
	checkList(t, "Del", Del(fieldsOf("É", "1", "\r\nX", "3"), "\r\nx"), fieldsOf("É", "1"))
	checkList(t, "Del", Del(slices.Repeat(fieldsOf("a", "1", "b", "2"), 1000), "A"), slices.Repeat(fieldsOf("b", "2"), 1000))
}

// WR2: where the first of a name stands, this name and value; without the others; the last, if there is none.
func TestSet(t *testing.T) {
	checkList(t, "Set", Set(nil, "a", "b"), fieldsOf("a", "b"))
	checkList(t, "Set", Set([]api.Field{}, "", ""), fieldsOf("", ""))
	checkList(t, "Set", Set(fieldsOf("a", "1"), "A", "2"), fieldsOf("A", "2"))
	checkList(t, "Set", Set(fieldsOf("a", "1", "b", "2", "c", "3"), "A", "x"), fieldsOf("A", "x", "b", "2", "c", "3"))
	checkList(t, "Set", Set(fieldsOf("a", "1", "B", "2", "c", "3"), "b", "x"), fieldsOf("a", "1", "b", "x", "c", "3"))
	checkList(t, "Set", Set(fieldsOf("a", "1", "b", "2", "c", "3"), "C", ""), fieldsOf("a", "1", "b", "2", "C", ""))
	checkList(t, "Set", Set(fieldsOf("a", "1", "b", "2"), "c", "x"), fieldsOf("a", "1", "b", "2", "c", "x"))
	checkList(t, "Set", Set(fieldsOf("A", "1", "b", "2", "a", "3"), "a", "4"), fieldsOf("a", "4", "b", "2"))
	checkList(t, "Set", Set(fieldsOf("b", "1", "aB", "2", "c", "3", "AB", "4", "ab", "5", "d", "6"), "Ab", "x"), fieldsOf("b", "1", "Ab", "x", "c", "3", "d", "6"))
	checkList(t, "Set", Set(fieldsOf("a", "1", "a", "1", "a", "1"), "a", "1"), fieldsOf("a", "1"))
	checkList(t, "Set", Set(fieldsOf("b", "1", "", "2", "", "3"), "", " \n"), fieldsOf("b", "1", "", " \n"))
	checkList(t, "Set", Set(fieldsOf("É", "1", "x\xff", "2"), "X\xff", "\x00"), fieldsOf("É", "1", "X\xff", "\x00"))
	checkList(t, "Set", Set(fieldsOf("É", "1"), "é", "2"), fieldsOf("É", "1", "é", "2"))
}

// WR2: names of one byte: those that are the same are it but for the size of letters.
func TestEveryNameOfOneByte(t *testing.T) {
	for c := range 256 {
		for d := range 256 {
			same := c == d || (c|32) == (d|32) && (c|32) >= 'a' && (c|32) <= 'z'
			l := fieldsOf("x"+one(c), "1")
			_, has := Get(l, "x"+one(d))
			set, del := len(Set(l, "x"+one(d), "2")) == 1, len(Del(l, "x"+one(d))) == 0
			if has != same || set != same || del != same {
				t.Errorf("names %d and %d: %v, %v, %v", c, d, has, set, del)
			}
		}
	}
}

// afterSet is what Set is to answer.
func afterSet(l []api.Field, name, value string) []api.Field {
	var want []api.Field
	done := false
	for _, f := range l {
		if !sameName(f.Name, name) {
			want = append(want, f)
		} else if !done {
			want = append(want, api.Field{Name: name, Value: value})
			done = true
		}
	}
	if !done {
		want = append(want, api.Field{Name: name, Value: value})
	}
	return want
}

// afterDel is what Del is to answer.
func afterDel(l []api.Field, name string) []api.Field {
	return slices.DeleteFunc(slices.Clone(l), func(f api.Field) bool { return sameName(f.Name, name) })
}

// checkCalls holds all four calls against the chapter's words, which are written down a second time.
func checkCalls(t *testing.T, l []api.Field, name, value string) {
	t.Helper()
	first, has := "", false
	for _, f := range slices.Backward(l) {
		if sameName(f.Name, name) {
			first, has = f.Value, true
		}
	}
	checkGet(t, l, name, first, has)
	checkList(t, "Set", Set(l, name, value), afterSet(l, name, value))
	checkList(t, "Add", Add(l, name, value), append(slices.Clone(l), api.Field{Name: name, Value: value}))
	checkList(t, "Del", Del(l, name), afterDel(l, name))
	checkGet(t, Set(l, name, value), name, value, true)
	checkGet(t, Del(l, name), name, "", false)
	if t.Failed() {
		t.Fatalf("fields %q, name %q, value %q", l, name, value)
	}
}

// WR2: any fields and names.
func TestAnyFields(t *testing.T) {
	m := newMaker(2)
	names := []string{"a", "A", "ab", "aB", "AB", "", "é", "É", "Host", "host", "\xff", "a ", "[", "{", "a\r\n"}
	for range 50000 {
		var l []api.Field
		for range m.Intn(8) {
			l = append(l, api.Field{Name: m.of(names...), Value: m.row(2, "1", "2", " ", "\r\n", "\x80")})
		}
		checkCalls(t, l, m.of(names...), m.row(2, "3", "", "\t", "\x00"))
	}
}

// WR2: every list of up to six fields of three names, one of them in both sizes.
func TestEveryShortList(t *testing.T) {
	names := []string{"a", "A", "b"}
	lists := [][]api.Field{nil}
	for range 6 {
		var longer [][]api.Field
		for _, l := range lists {
			for _, name := range names {
				longer = append(longer, append(slices.Clone(l), api.Field{Name: name, Value: one('0' + len(l))}))
			}
		}
		for _, l := range longer {
			checkCalls(t, l, "a", "x")
			checkCalls(t, l, "B", "x")
			checkCalls(t, l, "c", "x")
		}
		lists = longer
	}
}

// roomy is n fields, of which those of a set of places are named a, with so much room behind them, in which others stand.
func roomy(n, places, room int) []api.Field {
	var l []api.Field
	for i := range n + room {
		name := "b"
		if i < n && places>>i&1 == 1 {
			name = "A"
		}
		l = append(l, api.Field{Name: strings.Repeat(name, 1), Value: strings.Clone("value " + one('0'+i))})
	}
	return slices.Clip(l)[:n]
}

// answers is what the calls that answer fields do.
func answers(l []api.Field) map[string][]api.Field {
	return map[string][]api.Field{
		"Set": Set(l, "a", "x"), "Set of none": Set(l, "c", "x"),
		"Add": Add(l, "a", "x"), "Add of another": Add(l, "c", "x"),
		"Del": Del(l, "a"), "Del of none": Del(l, "c"), "Del of others": Del(l, "b"),
	}
}

// spoil changes fields, and the room behind them.
func spoil(l []api.Field) {
	for i := range l[:cap(l)] {
		l[:cap(l)][i] = api.Field{Name: "spoilt", Value: "spoilt"}
	}
}

// WR2, rule 3: fields stay as they were, and so does the room behind them; what is answered is new memory, its room too, also where nothing was found.
func TestAnswersAreNewMemory(t *testing.T) {
	for n := range 6 {
		for places := range 1 << n {
			for room := range 4 {
				l := roomy(n, places, room)
				before := slices.Clone(l[:cap(l)])
				got, again := answers(l), answers(l)
				if !slices.Equal(l[:cap(l)], before) {
					t.Fatalf("%q became %q", before, l[:cap(l)])
				}
				for _, answer := range got {
					spoil(answer)
					spoil(append(answer, api.Field{Name: "more"}))
				}
				if !slices.Equal(l[:cap(l)], before) {
					t.Fatalf("%q became %q behind what was answered", before, l[:cap(l)])
				}
				want := answers(slices.Clone(before[:n]))
				spoil(l)
				for call := range want {
					checkList(t, call, again[call], want[call])
				}
			}
		}
	}
}

// within tells whether a text stands in the memory of another.
func within(part, whole string) bool {
	if part == "" || whole == "" {
		return false
	}
	from := uintptr(unsafe.Pointer(unsafe.StringData(whole)))
	at := uintptr(unsafe.Pointer(unsafe.StringData(part)))
	return at >= from && at < from+uintptr(len(whole))
}

// Rule 3: no text that is answered is a piece of one that was handed in.
func TestTextsAreNewMemory(t *testing.T) {
	name, value := strings.Repeat("n", 3), strings.Repeat("v", 3)
	l := fieldsOf("a"+name, "b"+value, "c"+name, "d"+value, "A"+name, "e"+value)
	given := []string{name, value}
	for _, f := range l {
		given = append(given, f.Name, f.Value)
	}
	first, _ := Get(l, "a"+name)
	told := []string{first}
	for _, answer := range [][]api.Field{Set(l, name, value), Set(l, l[0].Name, value), Set(l, l[1].Name, value), Add(l, name, value), Del(l, name), Del(l, l[0].Name)} {
		for _, f := range answer {
			told = append(told, f.Name, f.Value)
		}
	}
	for _, s := range told {
		for _, g := range given {
			if within(s, g) {
				t.Errorf("%q stands in the memory of %q", s, g)
			}
		}
	}
}
