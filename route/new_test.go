package route

import (
	"slices"
	"strings"
	"testing"
	"turnstile/api"
)

// RO1: Methods of tokens, of none, and the errors in their order.
func TestMethods(t *testing.T) {
	checkMethods(t, nil)
	checkMethods(t, nil, "GET")
	checkMethods(t, nil, "GET", "PUT", "POST", "x-1", "!#$%&'*+-.^_`|~09")
	checkMethods(t, nil, "GET", "get", "Get")
	checkMethods(t, nil, "GET", "GETS", "GE")
	checkMethods(t, nil, strings.Repeat("M", 40), strings.Repeat("M", 41))
	checkMethods(t, api.ErrForm, "")
	checkMethods(t, api.ErrForm, "GET", "")
	checkMethods(t, api.ErrForm, "a b", "GET")
	checkMethods(t, api.ErrForm, "GET", "a/b")
	checkMethods(t, api.ErrTwice, "GET", "GET")
	checkMethods(t, api.ErrTwice, "GET", "PUT", "GET")
	checkMethods(t, api.ErrTwice, "PUT", "GET", "POST", "GET", "PUT")
	// What is no token goes ahead, wherever it stands.
	checkMethods(t, api.ErrForm, "GET", "GET", "")
	checkMethods(t, api.ErrForm, "", "", "GET")
	var l []string
	for i := range 300 {
		l = append(l, "M"+strings.Repeat("x", i))
	}
	checkMethods(t, nil, l...)
	checkMethods(t, api.ErrTwice, append(l, l[0])...)
	checkMethods(t, api.ErrTwice, append(l, l[299])...)
}

// RO1: every byte in a method, alone and at each place.
func TestMethodsBytes(t *testing.T) {
	for c := range 256 {
		s := string([]byte{byte(c)})
		var want error = api.ErrForm
		if tokenForm.MatchString(s) {
			want = nil
		}
		for _, m := range []string{s, s + "a", "a" + s, "a" + s + "b"} {
			checkMethods(t, want, m)
			checkMethods(t, want, "GET", m)
		}
	}
}

// RO1: no routes, just MaxRoutes of them, one more.
func TestNewCounts(t *testing.T) {
	checkNew(t, nil)
	checkNew(t, nil, many(1)...)
	checkNew(t, nil, many(63)...)
	checkNew(t, nil, many(64)...)
	checkNew(t, api.ErrFull, many(65)...)
	checkNew(t, api.ErrFull, many(300)...)
	// Too many goes ahead of all that may be wrong with one or with two.
	for _, at := range []int{0, 30, 63, 64} {
		for _, r := range []api.Route{on("a..", "/"), on("a", "x"), on("a", "/", ""), on("a", "/", "GET", "GET"), many(65)[(at+1)%65]} {
			l := many(65)
			l[at] = r
			checkNew(t, api.ErrFull, l...)
			checkNew(t, ofNew(l[at:]), l[at:]...)
		}
	}
}

// wrong is routes that may not be, with the errors that tell of it.
func wrong() (l []api.Route, errs []error) {
	return []api.Route{on("a..x", "/"), on("a", "no"), on("a", "/:x/:x"), on("a", "/", "a b"), on("a", "/", "GET", "GET")},
		[]error{api.ErrForm, api.ErrForm, api.ErrForm, api.ErrForm, api.ErrTwice}
}

// RO1: each error of a route alone, two in one route, two in two routes in both orders, and beside routes that are there twice.
func TestNewErrors(t *testing.T) {
	l, errs := wrong()
	twice := []api.Route{on("a", "/t"), on("A", "/t")}
	for i, r := range l {
		checkNew(t, errs[i], r)
		for k, s := range l {
			checkNew(t, errs[i], r, s)
			checkNew(t, errs[i], on("ok", "/"), r, on("ok", "/a"), s)
			if i == k {
				continue
			}
			checkNew(t, errs[i], slices.Concat(twice, []api.Route{r, s})...)
			checkNew(t, errs[i], slices.Concat([]api.Route{r}, twice, []api.Route{s})...)
			checkNew(t, errs[i], slices.Concat([]api.Route{r, s}, twice)...)
		}
	}
	checkNew(t, api.ErrTwice, twice...)
	// All that may be wrong with one route is told by ErrForm, but for methods that are there twice, which come last.
	checkNew(t, api.ErrForm, on("a..", "/", "GET", "GET"))
	checkNew(t, api.ErrForm, on("a", "no", "GET", "GET"))
	checkNew(t, api.ErrForm, on("a..", "no"))
	checkNew(t, api.ErrForm, on("a..", "no", "", ""))
	checkNew(t, api.ErrForm, on("a", "/", "GET", "GET", ""))
	checkNew(t, api.ErrTwice, on("a", "/", "GET", "GET"), on("a..", "/"))
	checkNew(t, api.ErrForm, on("a..", "/"), on("a", "/", "GET", "GET"))
}

// RO1: what other layers and other fields say of a route is not looked at.
func TestNewTakes(t *testing.T) {
	checkNew(t, nil, on("", "/"))
	checkNew(t, nil, on("*.*", "/*all"))
	checkNew(t, nil, on("a", "/?#%zz"))
	checkNew(t, nil, on("a", "/", strings.Split(strings.Repeat("x", 5), "")[0], strings.Repeat("M", 40)))
	checkNew(t, nil, api.Route{Host: "a", Path: "/", Pool: "no token", Auth: api.Auth{Leeway: -1}, Limit: api.Limit{By: 7}})
	var methods []string
	for i := range 40 {
		methods = append(methods, "M"+strings.Repeat("x", i))
	}
	checkNew(t, nil, on("a", "/", methods...))
	checkNew(t, api.ErrForm, on("*a", "/"))
	checkNew(t, api.ErrForm, on(strings.Repeat("a.", 127), "/"))
	checkNew(t, api.ErrForm, on("a", "/"+strings.Repeat("x", 256)))
	checkNew(t, nil, on("a", "/"+strings.Repeat("x", 255)))
	checkNew(t, api.ErrForm, on("a", "/*r/x"))
	checkNew(t, api.ErrForm, on("a", ""))
	checkNew(t, nil, on(strings.Repeat("a.", 126)+"a", strings.Repeat("/", 64)))
	checkNew(t, api.ErrForm, on("a", strings.Repeat("/", 65)))
}

// RO1: two routes of the same host's pattern and path's pattern, by their methods.
func TestNewMethodsInCommon(t *testing.T) {
	lists := [][]string{nil, {}, {"GET"}, {"get"}, {"PUT"}, {"GET", "PUT"}, {"POST", "DELETE"}, {"DELETE", "PUT", "x"}}
	clashes := 0
	for _, a := range lists {
		for _, b := range lists {
			var want error
			if inCommon(a, b) {
				want = api.ErrTwice
				clashes++
			}
			for _, p := range []string{"/", "/u/:id", "/u/*rest", "/u/:id/v/"} {
				checkNew(t, want, on("a.x", p, a...), on("a.x", p, b...))
				checkNew(t, want, on("a.x", p, a...), on("A.X", p, b...))
				checkNew(t, want, on("*.X", p, a...), on("b", p), on("*.x", p, b...))
				checkNew(t, want, on("", p, a...), on("*", p), on("", p, b...))
				checkNew(t, nil, on("", p, a...), on("*", p, b...))
				checkNew(t, nil, on("a.x", p, a...), on("*.x", p, b...))
				checkNew(t, nil, on("a.x", p, a...), on("a.x", "/z"+p, b...))
			}
		}
	}
	if clashes < 20 || clashes > len(lists)*len(lists)-20 {
		t.Errorf("%d clashes", clashes)
	}
	// The third route meets the first, the second, or none of both.
	checkNew(t, api.ErrTwice, on("a", "/", "GET"), on("a", "/", "PUT"), on("a", "/", "GET"))
	checkNew(t, api.ErrTwice, on("a", "/", "GET"), on("a", "/", "PUT"), on("a", "/", "POST", "PUT"))
	checkNew(t, nil, on("a", "/", "GET"), on("a", "/", "PUT"), on("a", "/", "POST"))
	checkNew(t, api.ErrTwice, on("a", "/", "GET"), on("a", "/", "PUT"), on("a", "/"))
}

// RO1: paths' patterns that part in tokens, in a token and a plain segment, or in more.
func TestNewTokens(t *testing.T) {
	alike := [][]string{{"/:a", "/:b"}, {"/*a", "/*b"}, {"/u/:a/v/:b", "/u/:a/v/:c"}, {"/:a/:b", "/:b/:a"}, {"/u/:a/*r", "/u/:a/*s"}, {"/:a", "/:A"}}
	for _, l := range alike {
		// No method in common is no way out where the tokens part.
		for _, methods := range [][2]string{{"GET", "PUT"}, {"GET", "GET"}} {
			for i := range l {
				a, b := on("h.x", l[i], methods[0]), on("H.x", l[1-i], methods[1])
				checkNew(t, api.ErrTwice, a, b)
				checkNew(t, api.ErrTwice, on("h.x", "/z"), a, on("*.x", "/z"), b)
				other := on("*.x", b.Path, b.Methods...)
				checkNew(t, nil, a, other)
				checkNew(t, nil, other, a)
			}
		}
		checkNew(t, api.ErrTwice, on("h", l[0]), on("h", l[1]))
	}
	for _, l := range [][2]string{{"/:a", "/a"}, {"/:a", "/*a"}, {"/u/:a", "/v/:b"}, {"/:a/u", "/:b/v"}, {"/:a", "/:a/"}, {"/a", "/A"}, {"/%7e", "/~"}, {"/", "//"}} {
		checkNew(t, nil, on("h", l[0]), on("h", l[1]))
		checkNew(t, nil, on("h", l[1]), on("h", l[0]))
	}
	// Of three routes the last two part in tokens, or one of them and the first.
	checkNew(t, api.ErrTwice, on("h", "/:a", "GET"), on("h", "/:a", "PUT"), on("h", "/:b", "POST"))
	checkNew(t, api.ErrTwice, on("h", "/x"), on("h", "/:a", "GET"), on("h", "/:b", "PUT"))
}

// RO1: any routes, right or wrong, against the chapter's words.
func TestNewAny(t *testing.T) {
	m := newMaker(18)
	ends := map[error]int{}
	for range 20000 {
		var l []api.Route
		for range m.Intn(12) {
			l = append(l, m.route())
		}
		want := ofNew(l)
		ends[want]++
		if u, err := New(l); err != want || (u == nil) != (err != nil) || u.Len() != len(l) && err == nil {
			t.Fatalf("New(%s): %v, %d, not %v", short(l), err, u.Len(), want)
		}
	}
	if ends[nil] < 5000 || ends[api.ErrForm] < 500 || ends[api.ErrTwice] < 2000 {
		t.Errorf("ends: %v", ends)
	}
}
