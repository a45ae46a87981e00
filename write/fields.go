package write

import (
	"slices"
	"strings"
	"turnstile/api"
	"turnstile/chars"
)

// Get is the first value of a name.
func Get(l []api.Field, name string) (string, bool) {
	i := slices.IndexFunc(l, named(name))
	if i < 0 {
		return "", false
	}
	return strings.Clone(l[i].Value), true
}

// Set is fields with one value of a name.
func Set(l []api.Field, name, value string) []api.Field {
	is := named(name)
	i := slices.IndexFunc(l, is)
	if i < 0 {
		return Add(l, name, value)
	}
	set := append(ahead(l, i), api.Field{Name: name, Value: value})
	return own(append(set, without(l[i+1:], is)...))
}

// Add is fields with one more.
func Add(l []api.Field, name, value string) []api.Field {
	return own(append(ahead(l, len(l)), api.Field{Name: name, Value: value}))
}

// Del is fields without a name.
func Del(l []api.Field, name string) []api.Field { return own(without(l, named(name))) }

// named is what tells whether a field has that name.
func named(name string) func(f api.Field) bool {
	return func(f api.Field) bool { return chars.Same(f.Name, name) }
}

// ahead is what stands ahead of place i, cut with its room: what is appended to it goes to new memory, and not over l.
func ahead(l []api.Field, i int) []api.Field { return l[:i:i] }

// without is the fields that are not such, in their order.
func without(l []api.Field, such func(f api.Field) bool) []api.Field {
	var others []api.Field
	for _, f := range l {
		if !such(f) {
			others = append(others, f)
		}
	}
	return others
}

// own is the same fields in new memory, their texts too, for a text could hold on to a longer one.
func own(l []api.Field) []api.Field {
	fields := make([]api.Field, len(l))
	for i, f := range l {
		fields[i] = api.Field{Name: strings.Clone(f.Name), Value: strings.Clone(f.Value)}
	}
	return fields
}
