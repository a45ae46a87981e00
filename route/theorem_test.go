package route

import (
	"slices"
	"strings"
	"sync"
	"testing"
	"turnstile/api"
	"unsafe"
)

// RO2, RO3: any routes and any requests, against the chapter's words.
func TestAnyWay(t *testing.T) {
	m := newMaker(2)
	ends := map[error]int{}
	for range 600 {
		b := of(t, m.fitting(m.Intn(20))...)
		for range 40 {
			name, path, method := m.host(), m.of(m.path(), m.path(), m.written(m.path()), m.path()+"/../..", m.path()+"%"), m.method()
			want, wantErr := ofFind(b.routes, name, path, method)
			b.check(name, path, method, want, wantErr)
			ends[wantErr]++
			q := ask(method, path+m.of("", "?", "?q=/u"), name+m.of("", "", ":80", ":080"))
			switch m.Intn(8) {
			case 0:
				q.Target = "http://" + q.Fields[0].Value + q.Target
			case 1:
				q.Target, q.Fields = "HTTP://"+strings.ToUpper(q.Fields[0].Value)+q.Target, nil
			case 2:
				q.Fields = append(q.Fields, api.Field{Name: m.of("hOST", "X"), Value: name})
			case 3:
				q.Fields = nil
			}
			want, wantErr = ofRequest(b.routes, q)
			b.request(q, want, wantErr)
			if b.Failed() {
				t.Fatalf("of %s", short(b.routes))
			}
		}
	}
	for _, end := range []error{nil, api.ErrForm, api.ErrTarget, api.ErrNone} {
		if ends[end] < 500 {
			t.Errorf("%v only %d times", end, ends[end])
		}
	}
}

// turned asks that routes in another order lead the same requests the same way.
func turned(t *testing.T, b *both, order []int, m *maker) (ways int) {
	t.Helper()
	var l []api.Route
	for _, i := range order {
		l = append(l, b.routes[i])
	}
	other := of(t, l...)
	for range 12 {
		name, path, method := m.host(), m.path(), m.method()
		one, err := b.table.Find(name, path, method)
		two, otherErr := other.table.Find(name, path, method)
		if err == nil && otherErr == nil {
			ways++
			two.Route = order[two.Route]
		}
		if !same(one, two) || err != otherErr {
			t.Fatalf("Find(%q, %q, %q) of %s: %v, %v; in the order %v: %v, %v", name, path, method, short(b.routes), one, err, order, two, otherErr)
		}
	}
	return ways
}

// RO4: the way does not hang on the order of the routes: turned round, in any order, in every order.
func TestOrder(t *testing.T) {
	m := newMaker(4)
	ways := 0
	for range 400 {
		b := of(t, m.fitting(25)...)
		round := m.Perm(len(b.routes))
		ways += turned(t, b, round, m)
		slices.Sort(round)
		slices.Reverse(round)
		ways += turned(t, b, round, m)
	}
	for range 6 {
		b := of(t, m.fitting(7)[:5]...)
		for _, order := range orders(len(b.routes)) {
			ways += turned(t, b, order, m)
		}
	}
	if ways < 1500 {
		t.Errorf("only %d ways", ways)
	}
}

// RO1, RO4: that routes may not stand beside each other does not hang on their order.
func TestTwiceInAnyOrder(t *testing.T) {
	m := newMaker(6)
	ends := map[error]int{}
	for range 3000 {
		l := m.fitting(9)
		l = append(l, m.fitting(9)...)
		_, want := New(l)
		ends[want]++
		for range 3 {
			m.Shuffle(len(l), func(i, k int) { l[i], l[k] = l[k], l[i] })
			if _, err := New(l); err != want {
				t.Fatalf("New(%s): %v, not %v", short(l), err, want)
			}
		}
	}
	if ends[nil] < 500 || ends[api.ErrTwice] < 500 {
		t.Errorf("ends: %v", ends)
	}
}

// RO4: a path goes the same way, however its codes and dot segments are written, and a host however large its letters are; the port changes nothing, nor does the query.
func TestHoweverWritten(t *testing.T) {
	m := newMaker(7)
	unlike, ways := 0, 0
	for range 800 {
		b := of(t, m.fitting(20)...)
		for range 10 {
			name, path, method := m.of("a", "a.x", "b.x", "c.x", "a.c", "a.b.c"), m.path(), m.method()
			want, wantErr := b.table.Find(name, path, method)
			if wantErr == nil {
				ways++
			}
			written := m.written(path)
			if written != path {
				unlike++
			}
			b.check(m.of(name, strings.ToUpper(name)), written, method, want, wantErr)
			q := ask(method, written+m.of("", "?", "?a=/../b"), m.of(name, strings.ToUpper(name))+m.of("", ":80", ":1"))
			b.request(q, want, wantErr)
			b.request(api.Request{Method: method, Target: "http://" + q.Fields[0].Value + q.Target}, want, wantErr)
			if b.Failed() {
				t.Fatalf("%q written %q, of %s", path, written, short(b.routes))
			}
		}
	}
	if unlike < 3000 || ways < 1000 {
		t.Errorf("%d unlike, %d ways", unlike, ways)
	}
}

// Rule 3: routes and their lists that are written over behind New change nothing, and New changes nothing of them.
func TestArguments(t *testing.T) {
	methods := append(make([]string, 0, 8), "GET", "HEAD")
	l := append(make([]api.Route, 0, 8), on("a.X", "/u/:id", methods...), on("*.x", "/u/me"))
	l[0].Methods = methods
	u, err := New(l)
	if err != nil {
		t.Fatal(err)
	}
	if !slices.Equal(methods, []string{"GET", "HEAD"}) || methods[:3][2] != "" || l[:3][2].Host != "" || l[0].Host != "a.X" || l[0].Path != "/u/:id" || l[1].Path != "/u/me" {
		t.Errorf("changed: %v, %v", l[:3], methods[:3])
	}
	methods[0], methods[1] = "PUT", "PUT"
	l[0], l[1] = on("z", "/z"), on("z", "/z")
	b := &both{t, u, []api.Route{on("a.x", "/u/:id", "GET", "HEAD"), on("*.x", "/u/me")}}
	b.find("a.x", "/u/7", "GET", 0, "/u/7", "id", "7")
	b.find("a.x", "/u/7", "HEAD", 0, "/u/7", "id", "7")
	b.none("a.x", "/u/7", "PUT", api.ErrNone)
	b.none("z", "/z", "PUT", api.ErrNone)
	b.find("b.x", "/u/me", "PUT", 1, "/u/me")
	q := ask("GET", "/u/7", "a.x")
	q.Fields = append(make([]api.Field, 0, 4), q.Fields...)
	b.request(q, Found{0, fieldsOf("id", "7"), "/u/7"}, nil)
	if !slices.Equal(q.Fields, fieldsOf("Host", "a.x")) || q.Fields[:2][1] != (api.Field{}) {
		t.Errorf("changed: %v", q.Fields[:2])
	}
}

// inside tells whether a text is a piece of another one's memory.
func inside(s, whole string) bool {
	if s == "" || whole == "" {
		return false
	}
	at, from := uintptr(unsafe.Pointer(unsafe.StringData(s))), uintptr(unsafe.Pointer(unsafe.StringData(whole)))
	return at >= from && at < from+uintptr(len(whole))
}

// Rule 3: what is handed out shares no memory with the table, with an argument or with another answer.
func TestAnswers(t *testing.T) {
	pattern, path := strings.Clone("/u/:id/*rest"), strings.Clone("/u/seven/8/9")
	b := of(t, on("a", pattern))
	want := Found{0, fieldsOf("id", "seven", "rest", "8/9"), "/u/seven/8/9"}
	for range 3 {
		f, err := b.table.Find("a", path, "GET")
		if err != nil || !same(f, want) {
			t.Fatalf("%v, %v", f, err)
		}
		for _, p := range f.Params {
			if inside(p.Name, pattern) || inside(p.Value, path) || inside(p.Value, f.Path) {
				t.Errorf("%v is a piece of another text", p)
			}
		}
		if inside(f.Path, path) {
			t.Errorf("the path is the argument")
		}
		for i := range f.Params[:cap(f.Params)] {
			f.Params[:cap(f.Params)][i] = api.Field{Name: "over", Value: "over"}
		}
	}
	one, _ := b.table.Find("a", path, "GET")
	two, _ := b.table.Find("a", path, "GET")
	one.Params[0].Value = "over"
	if !same(two, want) {
		t.Errorf("two answers share memory: %v", two)
	}
}

// Rule 4: asking changes nothing, and many may ask at once.
func TestAsking(t *testing.T) {
	m := newMaker(9)
	b := of(t, m.fitting(40)...)
	type question struct{ name, path, method string }
	var l []question
	for range 300 {
		l = append(l, question{m.host(), m.written(m.path()), m.method()})
	}
	var wait sync.WaitGroup
	for range 4 {
		wait.Go(func() {
			for _, x := range l {
				want, wantErr := ofFind(b.routes, x.name, x.path, x.method)
				if got, err := b.table.Find(x.name, x.path, x.method); !same(got, want) || err != wantErr {
					t.Errorf("Find(%q): %v, %v, not %v, %v", x, got, err, want, wantErr)
				}
			}
		})
	}
	wait.Wait()
}
