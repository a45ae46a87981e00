package route

import (
	"slices"
	"strings"
	"turnstile/api"
	"turnstile/chars"
	"turnstile/host"
	"turnstile/trie"
)

// New is a table of routes.
func New(l []api.Route) (*Table, error) {
	if len(l) > api.MaxRoutes {
		return nil, api.ErrFull
	}
	for _, r := range l {
		if err := check(r); err != nil {
			return nil, err
		}
	}
	t := &Table{hosts: host.New(), ways: make(map[way][]int)}
	for _, r := range l {
		if err := t.add(r); err != nil {
			return nil, err
		}
	}
	return t, nil
}

// check tells whether a route may be by itself.
func check(r api.Route) error {
	if err := host.Check(r.Host); err != nil {
		return err
	}
	if err := trie.Check(r.Path); err != nil {
		return err
	}
	return Methods(r.Methods)
}

// Methods tells whether methods may be.
func Methods(l []string) error {
	for _, m := range l {
		if !chars.IsToken(m) {
			return api.ErrForm
		}
	}
	for i, m := range l {
		if slices.Contains(l[:i], m) {
			return api.ErrTwice
		}
	}
	return nil
}

// add lays a route in behind those that are there, if no request could take one of them as well.
func (t *Table) add(r api.Route) error {
	e := entry{path: strings.Clone(r.Path)}
	for _, m := range r.Methods {
		e.methods = append(e.methods, strings.Clone(m))
	}
	w := way{t.group(r.Host), e.path}
	there := t.ways[w]
	if len(there) == 0 {
		// A pattern that parts from one that is there by its tokens alone is refused here.
		if err := t.paths[w.group].Add(e.path, len(t.routes)); err != nil {
			return err
		}
	}
	for _, i := range there {
		if e.meets(t.routes[i]) {
			return api.ErrTwice
		}
	}
	t.ways[w] = append(there, len(t.routes))
	t.routes = append(t.routes, e)
	return nil
}

// group is the number of a host's pattern, which is new where no route had it.
func (t *Table) group(pattern string) int {
	if g := slices.Index(t.hosts.All(), chars.Lower(pattern)); g >= 0 {
		return g
	}
	g := t.hosts.Len()
	t.hosts.Add(pattern, g)
	t.paths = append(t.paths, trie.New())
	return g
}

// takes tells whether a route has a method.
func (e entry) takes(method string) bool {
	return len(e.methods) == 0 || slices.Contains(e.methods, method)
}

// meets tells whether two routes have a method in common.
func (e entry) meets(other entry) bool {
	return len(e.methods) == 0 || slices.ContainsFunc(e.methods, other.takes)
}
