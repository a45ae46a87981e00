package route

import (
	"strings"
	"testing"
	"turnstile/api"
)

// ask is a request of a target, with the value of each of its fields Host.
func ask(method, target string, hosts ...string) api.Request {
	q := api.Request{Method: method, Target: target, Minor: 1}
	for _, h := range hosts {
		q.Fields = append(q.Fields, api.Field{Name: "Host", Value: h})
	}
	return q
}

// table is routes of which each tells which host was asked for.
func table(t *testing.T) *both {
	return of(t, on("a.x", "/u/:id", "GET"), on("b.x", "/*r"), on("*.x", "/u/me"), on("c", "/"))
}

// RO3: a FormOrigin goes by its field Host.
func TestRequestOrigin(t *testing.T) {
	b := table(t)
	b.request(ask("GET", "/u/7", "a.x"), Found{0, fieldsOf("id", "7"), "/u/7"}, nil)
	b.request(ask("GET", "/u/./7?q", "a.x"), Found{0, fieldsOf("id", "7"), "/u/7"}, nil)
	b.request(ask("GET", "/u/7?/u/me", "A.X:80"), Found{0, fieldsOf("id", "7"), "/u/7"}, nil)
	b.request(ask("PUT", "/u/7", "B.x:65535"), Found{1, fieldsOf("r", "u/7"), "/u/7"}, nil)
	b.request(ask("PUT", "/u/m%65?", "z.x"), Found{2, nil, "/u/me"}, nil)
	b.request(ask("PUT", "/u/7", "a.x"), Found{}, api.ErrNone)
	b.request(ask("GET", "/u/7", "z.x"), Found{}, api.ErrNone)
	b.request(ask("GET", "/u/7", "z"), Found{}, api.ErrNone)
	b.request(ask("", "/", "c"), Found{3, nil, "/"}, nil)
	q := ask("GET", "/", "c")
	for _, name := range []string{"host", "HOST", "hOsT"} {
		q.Fields = []api.Field{{Name: "X", Value: "a.x"}, {Name: name, Value: "c"}, {Name: "Hosts", Value: "b.x"}}
		b.request(q, Found{3, nil, "/"}, nil)
	}
}

// RO3: a FormOrigin without just one field Host, or with one that is no authority.
func TestRequestHosts(t *testing.T) {
	b := table(t)
	b.request(ask("GET", "/"), Found{}, api.ErrForm)
	b.request(ask("GET", "/", "c", "c"), Found{}, api.ErrForm)
	b.request(ask("GET", "/", "c", ""), Found{}, api.ErrForm)
	b.request(ask("GET", "/", "c", "c", "c"), Found{}, api.ErrForm)
	q := ask("GET", "/", "c")
	q.Fields = append(q.Fields, api.Field{Name: "hosT", Value: "c"})
	b.request(q, Found{}, api.ErrForm)
	for _, h := range []string{"", " ", "c ", " c", "c:", "c:0", "c:080", "c:65536", "c:x", ":80", "c:80:80", "*", "*.x", "c..", "c.", "a_b/", "[::1]", "é", "c,c", strings.Repeat("a", 64)} {
		b.request(ask("GET", "/", h), Found{}, api.ErrForm)
		// The host goes ahead of what the path, or the way, would tell.
		b.request(ask("GET", "/..", h), Found{}, api.ErrForm)
		b.request(ask("GET", "/none", h), Found{}, api.ErrForm)
	}
	b.request(ask("GET", "/..", "c"), Found{}, api.ErrTarget)
	b.request(ask("GET", "/..", "nobody"), Found{}, api.ErrTarget)
	b.request(ask("GET", "/..", "c", "c"), Found{}, api.ErrForm)
	// The version is not asked.
	for _, minor := range []int{0, 1, -1, 7} {
		q := ask("GET", "/")
		q.Minor = minor
		b.request(q, Found{}, api.ErrForm)
		q = ask("GET", "/", "c:1")
		q.Minor = minor
		b.request(q, Found{3, nil, "/"}, nil)
	}
}

// RO3: a FormAbsolute goes by its own host, whatever a field Host says.
func TestRequestAbsolute(t *testing.T) {
	b := table(t)
	for _, hosts := range [][]string{nil, {"c"}, {"b.x"}, {""}, {"no host"}, {"c", "b.x"}} {
		b.request(ask("GET", "http://a.x/u/7", hosts...), Found{0, fieldsOf("id", "7"), "/u/7"}, nil)
		b.request(ask("GET", "HTTP://A.X:80/u/%37?q", hosts...), Found{0, fieldsOf("id", "7"), "/u/7"}, nil)
		b.request(ask("PUT", "http://z.x/./u/me", hosts...), Found{2, nil, "/u/me"}, nil)
		b.request(ask("PUT", "http://c", hosts...), Found{3, nil, "/"}, nil)
		b.request(ask("PUT", "http://c:8080?q", hosts...), Found{3, nil, "/"}, nil)
		b.request(ask("PUT", "http://a.x/u/7", hosts...), Found{}, api.ErrNone)
		b.request(ask("PUT", "http://z/", hosts...), Found{}, api.ErrNone)
		for _, target := range []string{"http://:80/", "http://c:/", "http://c:0", "http://c:080/", "http://c:65536", "http://c..x/", "http://.", "http://c:80:80/", "http://" + strings.Repeat("a", 64) + "/", "http://c:x/.."} {
			b.request(ask("GET", target, hosts...), Found{}, api.ErrForm)
		}
		b.request(ask("GET", "http://c/..", hosts...), Found{}, api.ErrTarget)
		b.request(ask("GET", "http://nobody/..", hosts...), Found{}, api.ErrTarget)
	}
}

// RO3: a FormStar has no way, and what has no form is told as layer 8 does, ahead of all that is wrong with the host.
func TestRequestOtherForms(t *testing.T) {
	for _, b := range []*both{table(t), of(t, on("", "/*r")), of(t)} {
		for _, hosts := range [][]string{nil, {"c"}, {""}, {"c", "c"}} {
			b.request(ask("OPTIONS", "*", hosts...), Found{}, api.ErrNone)
			b.request(ask("GET", "*", hosts...), Found{}, api.ErrNone)
			for _, target := range []string{"", "c:80", "c", "a.x:443", "**", "*/", "https://c/", "http://", "http:///", "http://c*/", "/ ", "/%zz", "/%00", "/?#", "/#", "http://c/%"} {
				b.request(ask("GET", target, hosts...), Found{}, api.ErrTarget)
				b.request(ask("CONNECT", target, hosts...), Found{}, api.ErrTarget)
			}
			long := "/" + strings.Repeat("u", api.MaxHead)
			b.request(ask("GET", long, hosts...), Found{}, api.ErrLong)
			b.request(ask("GET", "*"+long, hosts...), Found{}, api.ErrLong)
		}
	}
	long := "/" + strings.Repeat("u", api.MaxHead-1)
	table(t).request(ask("GET", long, "b.x"), Found{1, fieldsOf("r", long[1:]), long}, nil)
}

// RO3: Len is how many routes there are.
func TestLen(t *testing.T) {
	for n := range maxRoutes + 1 {
		u, err := New(many(n))
		if err != nil || u.Len() != n {
			t.Errorf("%d routes: Len %d, %v", n, u.Len(), err)
		}
	}
	if n := of(t, on("a", "/", "GET"), on("a", "/", "PUT"), on("a", "/x"), on("A", "/", "POST")).table.Len(); n != 4 {
		t.Errorf("Len: %d", n)
	}
}

// RO3: a nil Table has no way, whatever else is wrong.
func TestNil(t *testing.T) {
	var u *Table
	for _, host := range []string{"a", "", "a b", "*"} {
		for _, path := range []string{"/", "", "/..", "u"} {
			for _, method := range []string{"GET", "", "a b"} {
				if f, err := u.Find(host, path, method); !same(f, Found{}) || err != api.ErrNone {
					t.Errorf("Find(%q, %q, %q): %v, %v", host, path, method, f, err)
				}
			}
		}
	}
	for _, target := range []string{"/", "*", "", "http://a/", "a:80", "/..", strings.Repeat("x", 70000)} {
		for _, hosts := range [][]string{nil, {"a"}, {"a", "a"}, {"a b"}} {
			if f, err := u.Request(ask("GET", target, hosts...)); !same(f, Found{}) || err != api.ErrNone {
				t.Errorf("Request(%s, %q): %v, %v", short(target), hosts, f, err)
			}
		}
	}
	if n := u.Len(); n != 0 {
		t.Errorf("Len: %d", n)
	}
}
