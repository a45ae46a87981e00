package route

import (
	"testing"
	"turnstile/api"
)

// The chapter's examples.
func TestExamples(t *testing.T) {
	b := of(t, on("a.x", "/u/:id", "GET"), on("*.x", "/u/me"))
	b.find("a.x", "/u/./7", "GET", 0, "/u/7", "id", "7")
	b.none("a.x", "/u/./7", "POST", api.ErrNone)
	b.find("b.x", "/u/me", "POST", 1, "/u/me")
}

// RO2: a host that no pattern fits, and that one, two, three and four fit, with letters of both sizes.
func TestFindHost(t *testing.T) {
	b := of(t, on("", "/"), on("*.x", "/"), on("A.x", "/"), on("a.*", "/"), on("*.*", "/"))
	for _, name := range []string{"a.x", "A.X", "a.X", "A.x"} {
		b.find(name, "/", "GET", 2, "/")
	}
	b.find("b.X", "/", "GET", 1, "/")
	b.find("A.y", "/", "GET", 3, "/")
	b.find("b.y", "/", "GET", 4, "/")
	b.find("b", "/", "GET", 0, "/")
	b.find("a.b.x", "/", "GET", 0, "/")
	b = of(t, on("*.x", "/"), on("a.x", "/"))
	b.none("x", "/", "GET", api.ErrNone)
	b.none("a.y", "/", "GET", api.ErrNone)
	b.none("b.a.x", "/", "GET", api.ErrNone)
	b.find("c.x", "/", "GET", 0, "/")
	of(t).none("a", "/", "GET", api.ErrNone)
}

// RO2: the host's pattern that goes ahead is the only one that is asked, whether it has the path, the method, or neither.
func TestFindNoOtherHost(t *testing.T) {
	b := of(t, on("a.x", "/u", "GET"), on("*.x", "/*all"), on("", "/*all"))
	b.find("a.x", "/u", "GET", 0, "/u")
	b.none("a.x", "/v", "GET", api.ErrNone)
	b.none("A.X", "/u", "PUT", api.ErrNone)
	b.none("a.x", "/v", "PUT", api.ErrNone)
	b.find("b.x", "/v", "PUT", 1, "/v", "all", "v")
	b.find("b", "/v", "PUT", 2, "/v", "all", "v")
	b = of(t, on("", "/*all"), on("*.x", "/*all"), on("a.x", "/u", "GET"))
	b.none("a.x", "/v", "GET", api.ErrNone)
	b.none("a.x", "/u", "PUT", api.ErrNone)
	b = of(t, on("", "/v"), on("*", "/u"))
	b.none("a", "/v", "GET", api.ErrNone)
	b.find("a.b", "/v", "GET", 0, "/v")
}

// RO2: the path's pattern that goes ahead is the only one that is asked for the method.
func TestFindNoOtherPath(t *testing.T) {
	for _, l := range [][]api.Route{
		{on("a", "/u/me", "GET"), on("a", "/u/:id", "PUT"), on("a", "/*all")},
		{on("a", "/*all"), on("a", "/u/:id", "PUT"), on("a", "/u/me", "GET")},
	} {
		b := of(t, l...)
		first, last := 0, 2
		if l[0].Path == "/*all" {
			first, last = 2, 0
		}
		b.find("a", "/u/me", "GET", first, "/u/me")
		b.none("a", "/u/me", "PUT", api.ErrNone)
		b.none("a", "/u/me", "POST", api.ErrNone)
		b.find("a", "/u/7", "PUT", 1, "/u/7", "id", "7")
		b.none("a", "/u/7", "GET", api.ErrNone)
		b.find("a", "/u/7/8", "GET", last, "/u/7/8", "all", "u/7/8")
	}
}

// RO2: of the routes of one host's and path's pattern the one that has the method, in both orders, beside others.
func TestFindMethod(t *testing.T) {
	get, put := on("a", "/u/:id", "GET", "HEAD"), on("A", "/u/:id", "PUT")
	b := of(t, get, put)
	b.find("a", "/u/7", "GET", 0, "/u/7", "id", "7")
	b.find("a", "/u/7", "HEAD", 0, "/u/7", "id", "7")
	b.find("a", "/u/7", "PUT", 1, "/u/7", "id", "7")
	b = of(t, put, on("b", "/u/:id"), on("a", "/u/:id/"), get)
	b.find("a", "/u/7", "GET", 3, "/u/7", "id", "7")
	b.find("a", "/u/7", "HEAD", 3, "/u/7", "id", "7")
	b.find("a", "/u/7", "PUT", 0, "/u/7", "id", "7")
	b.none("a", "/u/7", "POST", api.ErrNone)
	b.none("a", "/u/7", "get", api.ErrNone)
	b.none("a", "/u/7", "", api.ErrNone)
	b.none("a", "/u/7", "GET ", api.ErrNone)
	b.none("a", "/u/7", "GE", api.ErrNone)
	// A route without methods has every one: no method is refused by itself.
	for _, method := range []string{"GET", "get", "X", "", "a b", "\x00", "é"} {
		b.find("b", "/u/7", method, 1, "/u/7", "id", "7")
	}
	of(t, api.Route{Host: "a", Path: "/", Methods: []string{}}).find("a", "/", "PUT", 0, "/")
}

// RO2: patterns that part in tokens alone, in two hosts' groups, give each its own parameters; so do routes with the same path's pattern.
func TestFindGroups(t *testing.T) {
	b := of(t, on("a", "/u/:id"), on("b", "/u/:name"), on("*", "/u/:x"), on("", "/u/:id"), on("a", "/*r"), on("b", "/*r"))
	b.find("a", "/u/7", "GET", 0, "/u/7", "id", "7")
	b.find("b", "/u/7", "GET", 1, "/u/7", "name", "7")
	b.find("c", "/u/7", "GET", 2, "/u/7", "x", "7")
	b.find("c.d", "/u/7", "GET", 3, "/u/7", "id", "7")
	b.find("a", "/v", "GET", 4, "/v", "r", "v")
	b.find("b", "/v", "GET", 5, "/v", "r", "v")
	b.none("c", "/v", "GET", api.ErrNone)
}

// RO2: a path is asked for as it is meant, and told so.
func TestFindPath(t *testing.T) {
	b := of(t, on("a", "/u/me"), on("a", "/u/:id"), on("a", "/u/"), on("a", "/"), on("a", "/%7Ex"), on("a", "/a%2Fb"), on("a", "/.."))
	for _, path := range []string{"/u/me", "/u/m%65", "/%75/%6D%65", "/./u/./me", "/x/../u/me", "/u/x/../me", "/%2e/u/.%2E/u/me", "/u/./x/%2e%2e/me"} {
		b.find("a", path, "GET", 0, "/u/me")
	}
	b.find("a", "/u/.", "GET", 2, "/u/")
	b.none("a", "/u/7/.", "GET", api.ErrNone)
	b.find("a", "/u/7/..", "GET", 2, "/u/")
	b.find("a", "/u/..", "GET", 3, "/")
	b.find("a", "/.", "GET", 3, "/")
	b.find("a", "/u/a%2fb", "GET", 1, "/u/a%2Fb", "id", "a%2Fb")
	b.find("a", "/a%2fb", "GET", 5, "/a%2Fb")
	b.find("a", "/u/%7e", "GET", 1, "/u/~", "id", "~")
	b.none("a", "/u//", "GET", api.ErrNone)
	b.none("a", "/U/me", "GET", api.ErrNone)
	// A pattern that no path is meant as is never found.
	b.none("a", "/~x", "GET", api.ErrNone)
	b.none("a", "/%7Ex", "GET", api.ErrNone)
	for _, path := range []string{"", "u", "/..", "/u/../..", "/%2e%2e", "/%", "/%0", "/%zz", "/ ", "/?", "/a?b", "/%00", "/%1f", "/%7F", "/é", "*", "http://a/", "a/"} {
		b.none("a", path, "GET", api.ErrTarget)
	}
}

// RO2: the host's error goes ahead of the path's, both ahead of none.
func TestFindErrors(t *testing.T) {
	for _, b := range []*both{of(t), of(t, on("a", "/", "GET")), of(t, on("", "/*r"))} {
		for _, name := range []string{"", ".", "a.", ".a", "a..b", "a b", "a:80", "*", "*.x", "é", "a/", "[::1]"} {
			b.none(name, "/", "GET", api.ErrForm)
			b.none(name, "/..", "GET", api.ErrForm)
			b.none(name, "", "", api.ErrForm)
		}
		b.none("a", "/..", "GET", api.ErrTarget)
		b.none("zz", "/..", "POST", api.ErrTarget)
		b.none("zz", "", "", api.ErrTarget)
	}
	b := of(t, on("a", "/", "GET"))
	b.none("zz", "/", "GET", api.ErrNone)
	b.none("a", "/z", "GET", api.ErrNone)
	b.none("a", "/", "PUT", api.ErrNone)
}

// RO2: parameters of none, one, several, and of a rest.
func TestFindParams(t *testing.T) {
	b := of(t, on("a", "/"), on("a", "/:a"), on("a", "/:b/:a"), on("a", "/x/:b/y/:a/*rest"), on("a", "/f/*r"))
	b.find("a", "/", "GET", 0, "/")
	b.find("a", "/1", "GET", 1, "/1", "a", "1")
	b.find("a", "/1/2", "GET", 2, "/1/2", "b", "1", "a", "2")
	b.find("a", "/x/1/y/2/3/4/", "GET", 3, "/x/1/y/2/3/4/", "b", "1", "a", "2", "rest", "3/4/")
	b.find("a", "/x/1/y/2/", "GET", 3, "/x/1/y/2/", "b", "1", "a", "2", "rest", "")
	b.none("a", "/x/1/y/2", "GET", api.ErrNone)
	b.none("a", "/x//y/2/3", "GET", api.ErrNone)
	b.find("a", "/f/", "GET", 4, "/f/", "r", "")
	b.find("a", "/f//%20/./%2f%41", "GET", 4, "/f//%20/%2FA", "r", "/%20/%2FA")
	b.find("a", "/f", "GET", 1, "/f", "a", "f")
	b.find("a", "/%25/%C3%a9", "GET", 2, "/%25/%C3%A9", "b", "%25", "a", "%C3%A9")
}
