package route

import (
	"fmt"
	"math/rand"
	"regexp"
	"slices"
	"strings"
	"testing"
	"turnstile/api"
	"turnstile/host"
	"turnstile/target"
	"turnstile/trie"
)

// The bound and the forms, written down a second time.
const maxRoutes = 64

var (
	tokenForm = regexp.MustCompile("^[0-9A-Za-z!#$%&'*+.^_`|~-]+$")
	tokenOf   = regexp.MustCompile(`/[:*][^/]*`)
)

// on is a route of a host's pattern, a path's pattern, methods.
func on(host, path string, methods ...string) api.Route {
	return api.Route{Host: host, Path: path, Methods: methods}
}

// many is so many routes that may stand beside each other.
func many(n int) []api.Route {
	var l []api.Route
	for i := range n {
		l = append(l, on(fmt.Sprintf("h%d.x", i%7), fmt.Sprintf("/%d/:id", i/7), "GET"))
	}
	return l
}

// fieldsOf is fields of names and values by turns.
func fieldsOf(texts ...string) []api.Field {
	var l []api.Field
	for i := 0; i+1 < len(texts); i += 2 {
		l = append(l, api.Field{Name: texts[i], Value: texts[i+1]})
	}
	return l
}

// ofMethods is what Methods is to answer.
func ofMethods(l []string) error {
	for _, m := range l {
		if !tokenForm.MatchString(m) {
			return api.ErrForm
		}
	}
	seen := map[string]int{}
	for _, m := range l {
		if seen[m]++; seen[m] > 1 {
			return api.ErrTwice
		}
	}
	return nil
}

// shape is a path's pattern without its tokens.
func shape(pattern string) string {
	return tokenOf.ReplaceAllStringFunc(pattern, func(s string) string { return s[:2] })
}

// inCommon tells whether two lists of methods have one in common.
func inCommon(a, b []string) bool {
	if len(a) == 0 || len(b) == 0 {
		return true
	}
	for _, m := range a {
		if slices.Contains(b, m) {
			return true
		}
	}
	return false
}

// clash tells whether two routes may not stand beside each other.
func clash(a, b api.Route) bool {
	if !strings.EqualFold(a.Host, b.Host) || shape(a.Path) != shape(b.Path) {
		return false
	}
	return a.Path != b.Path || inCommon(a.Methods, b.Methods)
}

// ofNew is what New is to answer beside a table.
func ofNew(l []api.Route) error {
	if len(l) > maxRoutes {
		return api.ErrFull
	}
	for _, r := range l {
		for _, err := range []error{host.Check(r.Host), trie.Check(r.Path), ofMethods(r.Methods)} {
			if err != nil {
				return err
			}
		}
	}
	for i := range l {
		for k := range i {
			if clash(l[i], l[k]) {
				return api.ErrTwice
			}
		}
	}
	return nil
}

// ahead is, of the patterns that fit, the one that is told to go ahead of each other one.
func ahead(patterns []string, fits func(p string) bool, beats func(a, b string) bool) (string, bool) {
	patterns = slices.DeleteFunc(slices.Compact(slices.Sorted(slices.Values(patterns))), func(p string) bool { return !fits(p) })
	for _, p := range patterns {
		if !slices.ContainsFunc(patterns, func(q string) bool { return q != p && !beats(p, q) }) {
			return p, true
		}
	}
	return "", false
}

// hostAhead is the host's pattern that goes ahead, in small letters.
func hostAhead(l []api.Route, name string) (string, bool) {
	var patterns []string
	for _, r := range l {
		patterns = append(patterns, strings.ToLower(r.Host))
	}
	return ahead(patterns, func(p string) bool {
		fits, _ := host.Fits(p, name)
		return fits
	}, func(a, b string) bool {
		beats, _ := host.Beats(a, b, name)
		return beats
	})
}

// pathAhead is, of the paths' patterns of some routes, the one that is found.
func pathAhead(l []api.Route, path string) (string, bool) {
	var patterns []string
	for _, r := range l {
		patterns = append(patterns, r.Path)
	}
	return ahead(patterns, func(p string) bool {
		fits, _, _ := trie.Fits(p, path)
		return fits
	}, func(a, b string) bool {
		beats, _ := trie.Beats(a, b, path)
		return beats
	})
}

// ofFind is what Find is to answer.
func ofFind(l []api.Route, name, path, method string) (Found, error) {
	if _, err := host.Canon(name); err != nil {
		return Found{}, err
	}
	meant, err := target.Normal(path)
	if err != nil {
		return Found{}, err
	}
	h, has := hostAhead(l, name)
	if !has {
		return Found{}, api.ErrNone
	}
	group := slices.DeleteFunc(slices.Clone(l), func(r api.Route) bool { return !strings.EqualFold(r.Host, h) })
	p, has := pathAhead(group, meant)
	if !has {
		return Found{}, api.ErrNone
	}
	_, params, _ := trie.Fits(p, meant)
	for i, r := range l {
		if strings.EqualFold(r.Host, h) && r.Path == p && (len(r.Methods) == 0 || slices.Contains(r.Methods, method)) {
			return Found{i, params, meant}, nil
		}
	}
	return Found{}, api.ErrNone
}

// ofRequest is what Request is to answer.
func ofRequest(l []api.Route, q api.Request) (Found, error) {
	parts, err := target.Parse(q.Target)
	if err != nil {
		return Found{}, err
	}
	name := parts.Host
	switch parts.Form {
	case target.FormStar:
		return Found{}, api.ErrNone
	case target.FormOrigin:
		var values []string
		for _, f := range q.Fields {
			if strings.EqualFold(f.Name, "host") {
				values = append(values, f.Value)
			}
		}
		if len(values) != 1 {
			return Found{}, api.ErrForm
		}
		name = values[0]
	}
	if name, _, err = host.Split(name); err != nil {
		return Found{}, err
	}
	return ofFind(l, name, parts.Path, q.Method)
}

// both is a table and the routes it is of.
type both struct {
	*testing.T
	table  *Table
	routes []api.Route
}

// of is a table of routes.
func of(t *testing.T, l ...api.Route) *both {
	t.Helper()
	u, err := New(l)
	if err != nil || ofNew(l) != nil {
		t.Fatalf("New(%s): %v, by its words %v", short(l), err, ofNew(l))
	}
	return &both{t, u, l}
}

// same tells whether two are the same.
func same(a, b Found) bool {
	return a.Route == b.Route && slices.Equal(a.Params, b.Params) && a.Path == b.Path
}

// find asks for a route's place, the path as it is meant and the parameters.
func (b *both) find(name, path, method string, route int, meant string, params ...string) {
	b.Helper()
	b.check(name, path, method, Found{route, fieldsOf(params...), meant}, nil)
}

// none asks for an error.
func (b *both) none(name, path, method string, want error) {
	b.Helper()
	b.check(name, path, method, Found{}, want)
}

func (b *both) check(name, path, method string, want Found, wantErr error) {
	b.Helper()
	if got, err := b.table.Find(name, path, method); !same(got, want) || err != wantErr {
		b.Errorf("Find(%s, %s, %s): %s, %v, not %s, %v", short(name), short(path), short(method), short(got), err, short(want), wantErr)
	}
	if got, err := ofFind(b.routes, name, path, method); !same(got, want) || err != wantErr {
		b.Errorf("the words of Find(%s, %s, %s): %s, %v, not %s, %v", short(name), short(path), short(method), short(got), err, short(want), wantErr)
	}
}

// request asks for a request's way, or for an error.
func (b *both) request(q api.Request, want Found, wantErr error) {
	b.Helper()
	if got, err := b.table.Request(q); !same(got, want) || err != wantErr {
		b.Errorf("Request(%s): %s, %v, not %s, %v", short(q), short(got), err, short(want), wantErr)
	}
	if got, err := ofRequest(b.routes, q); !same(got, want) || err != wantErr {
		b.Errorf("the words of Request(%s): %s, %v, not %s, %v", short(q), short(got), err, short(want), wantErr)
	}
}

// checkNew asks for an error of New, or for a table of all routes.
func checkNew(t *testing.T, want error, l ...api.Route) {
	t.Helper()
	u, err := New(l)
	if err != want || (err == nil) != (u != nil) {
		t.Errorf("New(%s): %v, %v, not %v", short(l), u != nil, err, want)
	}
	if err == nil && u.Len() != len(l) {
		t.Errorf("New(%s): Len %d", short(l), u.Len())
	}
	if got := ofNew(l); got != want {
		t.Errorf("the words of New(%s): %v, not %v", short(l), got, want)
	}
}

// checkMethods asks whether methods may be.
func checkMethods(t *testing.T, want error, l ...string) {
	t.Helper()
	if err := Methods(l); err != want {
		t.Errorf("Methods(%s): %v, not %v", short(l), err, want)
	}
	if err := ofMethods(l); err != want {
		t.Errorf("the words of Methods(%s): %v, not %v", short(l), err, want)
	}
}

// short is what tells of a value, without what is too long to be read.
func short(value any) string {
	s := fmt.Sprintf("%q", value)
	if len(s) > 400 {
		return s[:200] + ".." + s[len(s)-200:]
	}
	return s
}

// orders is every order of so many.
func orders(n int) [][]int {
	if n == 0 {
		return [][]int{nil}
	}
	var all [][]int
	for _, o := range orders(n - 1) {
		for at := range n {
			all = append(all, slices.Insert(slices.Clone(o), at, n-1))
		}
	}
	return all
}

// maker makes any routes and requests.
type maker struct{ *rand.Rand }

func newMaker(seed int64) *maker { return &maker{rand.New(rand.NewSource(seed))} }

// of is one of some texts.
func (m *maker) of(texts ...string) string { return texts[m.Intn(len(texts))] }

// hostPattern is a pattern of few labels, so that many are alike.
func (m *maker) hostPattern() string {
	return m.of("", "*", "a", "a.x", "A.x", "*.x", "*.X", "a.*", "b.x")
}

// host is a host that some of these patterns fit.
func (m *maker) host() string {
	return m.of("a", "b", "a.x", "A.X", "b.x", "c.x", "a.c", "a.b.c", "a..x", "")
}

// pathPattern is a pattern of few segments.
func (m *maker) pathPattern() string {
	s := ""
	for i := range 1 + m.Intn(3)*m.Intn(2) {
		s += "/" + m.of("u", "u", "me", ":a", ":a", ":b", "", "%2F", "~")
		if strings.HasSuffix(s, ":a") || strings.HasSuffix(s, ":b") {
			s += fmt.Sprint(i)
		}
	}
	if m.Intn(4) == 0 {
		s += "/*" + m.of("r", "s")
	}
	return s
}

// methods is some methods.
func (m *maker) methods() []string {
	l := []string{"GET", "PUT", "POST", "get", "x-1"}
	m.Shuffle(len(l), func(i, k int) { l[i], l[k] = l[k], l[i] })
	return l[:m.Intn(4)]
}

// route is a route, seldom one that may not be.
func (m *maker) route() api.Route {
	r := on(m.hostPattern(), m.pathPattern(), m.methods()...)
	switch m.Intn(150) {
	case 0:
		r.Host = m.of("a..", "*x", "a b", ".")
	case 1:
		r.Path = m.of("", "u", "/*a/b", "/:a/:a", "/ ")
	case 2:
		r.Methods = append(r.Methods, m.of("", "a b", "é"))
	case 3:
		r.Methods = append(r.Methods, "PUT", "PUT")
	}
	return r
}

// fitting is routes that may stand beside each other.
func (m *maker) fitting(n int) []api.Route {
	var l []api.Route
	for range n {
		if r := m.route(); ofNew(append(slices.Clone(l), r)) == nil {
			l = append(l, r)
		}
	}
	return l
}

// path is a path, as it is meant, that some patterns fit.
func (m *maker) path() string {
	s := ""
	for range 1 + m.Intn(3)*m.Intn(2) {
		s += "/" + m.of("u", "u", "me", "x", "", "%2F", "~", "%C3%A9")
	}
	return s
}

// written is another path that is meant so.
func (m *maker) written(path string) string {
	s := ""
	for _, segment := range strings.Split(path, "/")[1:] {
		switch m.Intn(6) {
		case 0:
			s += m.of("/.", "/%2e", "/%2E")
		case 1:
			s += m.of("/x/..", "//%2e.", "/%7e/.%2E", "/x/y/../..")
		}
		s += "/" + m.coded(segment)
	}
	// What goes at the end leaves an empty segment there.
	if strings.HasSuffix(path, "/") && m.Intn(3) == 0 {
		s += m.of(".", "%2E", "x/..", "./x/%2e%2E")
	}
	return s
}

// coded is a segment with some of its bytes as codes, and codes in letters of any size.
func (m *maker) coded(segment string) string {
	s := ""
	for i := 0; i < len(segment); i++ {
		switch {
		case segment[i] == '%':
			s += "%" + m.of(strings.ToLower(segment[i+1:i+3]), segment[i+1:i+3])
			i += 2
		case m.Intn(3) == 0:
			s += fmt.Sprintf(m.of("%%%02x", "%%%02X"), segment[i])
		default:
			s += segment[i : i+1]
		}
	}
	return s
}

// method is a method, or a text that is none.
func (m *maker) method() string {
	return m.of("GET", "GET", "PUT", "POST", "get", "x-1", "DELETE", "", "a b")
}
