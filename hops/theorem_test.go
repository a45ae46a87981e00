package hops

import (
	"slices"
	"strings"
	"testing"
	"turnstile/api"
	"unsafe"
)

// HP1, HP2: any fields.
func TestAnyFields(t *testing.T) {
	m := newMaker(1)
	named, dropped := 0, 0
	for range 15000 {
		l := m.fields()
		names := ofNamed(l)
		checkNamed(t, l, names...)
		checkStrip(t, l, ofStrip(l))
		f := m.frame()
		checkFields(t, "Framing", Framing(l, f), ofFraming(l, f))
		minor := m.number(0, 1, 2, -1)
		checkFields(t, "Via", Via(l, minor), ofVia(l, minor))
		client := m.of("7", "", "a, b")
		checkFields(t, "Forwarded", Forwarded(l, client), ofForwarded(l, client))
		if t.Failed() {
			t.Fatalf("%q", l)
		}
		if len(names) > 1 {
			named++
		}
		if len(Strip(l)) < len(without(l, hopNames...)) {
			dropped++
		}
	}
	if named < 2000 || dropped < 1000 {
		t.Errorf("%d lists name fields, and %d have some of those", named, dropped)
	}
}

// HP3, HP4: any requests and responses.
func TestAnyHeads(t *testing.T) {
	m := newMaker(2)
	ends := map[error]int{}
	for range 15000 {
		q, client, length := m.request(), m.of("7", "10.0.0.1", ""), m.number(-1, 0, 1, 5, maxLength)
		want, err := ofRequest(q, client, length)
		checkRequest(t, q, client, length, want.Fields, err)
		ends[err]++
		p, f, minor, last := m.response(), m.frame(), m.number(0, 1, 1, 2), m.Intn(2) == 0
		wantBack, err := ofResponse(p, f, minor, last)
		checkResponse(t, p, f, minor, last, wantBack.Fields, err)
		ends[err]++
		if t.Failed() {
			t.FailNow()
		}
	}
	if len(ends) != 3 || ends[nil] < 10000 || ends[api.ErrField] < 200 || ends[api.ErrSize] < 50 {
		t.Errorf("errors %v", ends)
	}
}

// checkOnward holds fields that go on against those that came: what the theorem says.
func checkOnward(t *testing.T, came, on []api.Field, own ...string) {
	t.Helper()
	named := slices.DeleteFunc(ofNamed(came), func(name string) bool { return name == "host" })
	// What the gateway adds stands at the end (but for X-Forwarded-For, which stands where the first one stood) and is no field of the other side's.
	for _, f := range without(on, own...) {
		if is(f.Name, hopNames...) || is(f.Name, named...) {
			t.Errorf("%q goes on of %q", f, came)
		}
	}
	if framings := with(on, "content-length", "transfer-encoding"); len(framings) > 1 {
		t.Errorf("framings %q go on", framings)
	}
	left := slices.Concat(own, hopNames, named, []string{"content-length"})
	want := slices.DeleteFunc(slices.Clone(came), func(f api.Field) bool { return !is(f.Name, "host") && is(f.Name, left...) })
	checkFields(t, "end-to-end fields", without(on, own...), want)
	for _, name := range []string{"Keep-Alive", "Proxy-Connection", "Proxy-Authenticate", "Proxy-Authorization", "TE", "Trailer", "Upgrade"} {
		if gone := with(on, name); len(gone) != 0 {
			t.Errorf("%q goes on of %q", gone, came)
		}
	}
}

// HP5: what goes on, told by what the theorem says of it alone.
func TestTheorem(t *testing.T) {
	m := newMaker(3)
	passed := 0
	for range 15000 {
		q := m.request()
		if on, err := Request(q, "7", m.number(-1, 0, 5)); err == nil {
			checkOnward(t, q.Fields, on.Fields, "X-Forwarded-For", "Via", "Content-Length", "Expect")
			if n := len(with(on.Fields, "expect", "connection", "transfer-encoding")); n != 0 || len(with(on.Fields, "x-forwarded-for")) != 1 {
				t.Errorf("%s goes on", short(on))
			}
			passed++
		}
		p, last := m.response(), m.Intn(2) == 0
		if on, err := Response(p, m.frame(), 1, last); err == nil {
			checkOnward(t, p.Fields, on.Fields, "Via", "Content-Length", "Transfer-Encoding", "Connection")
			if got := with(on.Fields, "connection"); last != (len(got) == 1 && got[0].Value == "close") || len(got) > 1 {
				t.Errorf("%s goes on", short(on))
			}
			passed++
		}
		if t.Failed() {
			t.Fatalf("%s, %s", short(q), short(p))
		}
	}
	if passed < 20000 {
		t.Errorf("only %d heads went on", passed)
	}
}

// HP5: what one side names in Connection never reaches the other, be it named ahead of the field or behind it, together with others or alone.
func TestWhatIsNamedNeverReaches(t *testing.T) {
	for _, name := range []string{"X-Secret", "Accept", "Via", "X-Forwarded-For", "Expect", "Content-Length", "Cookie", "a"} {
		for _, list := range []string{name, lower(name), "close, " + upper(name), turned(name) + ",close", " , " + name + "\t,"} {
			for _, l := range [][]api.Field{fieldsOf("Connection", list, name, "secret"), fieldsOf(turned(name), "secret", "A-B", "1", "connection", list), fieldsOf("Connection", "", name, "secret", "CONNECTION", list, name, "secret")} {
				q, err := Request(get(l), "7", 0)
				p, errBack := Response(ok(200, l), none, 1, false)
				if err != nil || errBack != nil {
					t.Fatal(err, errBack)
				}
				for _, f := range slices.Concat(q.Fields, p.Fields, Strip(l)) {
					if strings.Contains(f.Value, "secret") || is(f.Name, "connection") {
						t.Errorf("%q reaches the other side of %q", f, l)
					}
				}
			}
		}
	}
}

// roomy is the same fields, with others in the room behind them.
func roomy(l []api.Field, room int) []api.Field {
	return slices.Clip(append(slices.Clone(l), some(room, "behind")...))[:len(l)]
}

// spoil changes fields, and the room behind them.
func spoil(l []api.Field) {
	for i := range l[:cap(l)] {
		l[:cap(l)][i] = api.Field{Name: "spoilt", Value: "spoilt"}
	}
}

// answers is what the calls that answer fields do.
func answers(l []api.Field) [][]api.Field {
	q, _ := Request(api.Request{Method: "PUT", Target: "/", Fields: l}, "7", 0)
	p, _ := Response(ok(200, l), chunked, 1, true)
	bare, _ := Response(ok(200, l), none, 1, false)
	return [][]api.Field{Strip(l), Framing(l, none), Framing(l, length(5)), Framing(l, chunked), Via(l, 1), Forwarded(l, "7"), q.Fields, p.Fields, bare.Fields}
}

// samples are fields of which something stays in each of the calls.
func samples() [][]api.Field {
	return [][]api.Field{
		nil, {}, fieldsOf("A", "1"), fieldsOf("A", "1", "B", "2", "C", "3"), fieldsOf("TE", "1"), fieldsOf("Content-Length", "5"),
		fieldsOf("A", "1", "Connection", "A", "B", "2"), fieldsOf("B", "2", "X-Forwarded-For", "3", "Host", "x"), fieldsOf("Content-Length", "5", "B", "2", "Connection", "c"),
	}
}

// Rule 3: fields that were handed in stay as they were, with the room behind them; what is answered is new memory, its room too.
func TestAnswersAreNewMemory(t *testing.T) {
	for _, sample := range samples() {
		for room := range 4 {
			l := roomy(sample, room)
			before := slices.Clone(l[:cap(l)])
			got, again := answers(l), answers(l)
			if !slices.Equal(l[:cap(l)], before) {
				t.Fatalf("%q became %q", before, l[:cap(l)])
			}
			for _, answer := range got {
				spoil(answer)
				spoil(append(answer, api.Field{Name: "more"}))
			}
			if !slices.Equal(l[:cap(l)], before) {
				t.Fatalf("%q became %q behind what was answered", before, l[:cap(l)])
			}
			want := answers(slices.Clone(before[:len(l)]))
			spoil(l)
			for i := range want {
				checkFields(t, "behind other calls", again[i], want[i])
			}
		}
	}
	l := fieldsOf("Connection", "x-a, x-b")
	names := Named(l)
	names[0], names[1] = "spoilt", "spoilt"
	_ = append(names, "more")
	checkNamed(t, l, "x-a", "x-b")
}

// within tells whether a text stands in the memory of another.
func within(part, whole string) bool {
	if part == "" || whole == "" {
		return false
	}
	from := uintptr(unsafe.Pointer(unsafe.StringData(whole)))
	at := uintptr(unsafe.Pointer(unsafe.StringData(part)))
	return at >= from && at < from+uintptr(len(whole))
}

// Rule 3: no text that is answered is a piece of one that was handed in.
func TestTextsAreNewMemory(t *testing.T) {
	text := func(s string) string { return strings.Clone(s + "x") }
	for _, l := range [][]api.Field{
		fieldsOf(text("a"), text("1"), text("b"), text("2")), fieldsOf(strings.Clone("connection"), text("a"), text("b"), text("1")),
		fieldsOf(strings.Clone("content-length"), strings.Clone("123")), fieldsOf(strings.Clone("x-forwarded-for"), text("1"), text("c"), ""),
	} {
		client := text("7")
		q := api.Request{Method: text("G"), Target: text("/"), Minor: 1, Fields: l}
		p := api.Response{Status: 304, Reason: text("w"), Minor: 1, Fields: l}
		given := []string{client, q.Method, q.Target, p.Reason}
		for _, f := range l {
			given = append(given, f.Name, f.Value)
		}
		on, _ := Request(q, client, 0)
		back, _ := Response(p, none, 1, true)
		told := append(Named(l), on.Method, on.Target, back.Reason)
		for _, f := range slices.Concat(on.Fields, back.Fields, Strip(l), Framing(l, chunked), Via(l, 0), Forwarded(l, client)) {
			told = append(told, f.Name, f.Value)
		}
		for _, s := range told {
			for _, g := range given {
				if within(s, g) {
					t.Errorf("%q stands in the memory of %q", s, g)
				}
			}
		}
	}
}

// Rule 4: what is answered hangs on what is handed in alone, in whatever order it is asked, also at the same time.
func TestInTurns(t *testing.T) {
	var want [][][]api.Field
	for _, l := range samples() {
		want = append(want, answers(l))
	}
	done := make(chan bool)
	for worker := range 8 {
		go func() {
			defer func() { done <- true }()
			for turn := range 200 {
				i := (turn*7 + worker) % len(want)
				for k, got := range answers(samples()[i]) {
					if !slices.Equal(got, want[i][k]) {
						t.Errorf("%q, not %q", got, want[i][k])
					}
				}
			}
		}()
	}
	for range 8 {
		<-done
	}
}
