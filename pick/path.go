package pick

import (
	"slices"
	"strconv"
	"strings"
	"turnstile/api"
)

// find is the value at a path. It shares its lists with v, so that a call that asks for little copies little; what is handed out is copied there.
func find(v api.Value, path string) (api.Value, error) {
	if path == "" {
		return v, nil
	}
	return follow(v, strings.Split(path, ".")...)
}

// findKind is the value at a path, if it is of one of the kinds.
func findKind(v api.Value, path string, kinds ...int) (api.Value, error) {
	at, err := find(v, path)
	if err != nil {
		return api.Value{}, err
	}
	if !slices.Contains(kinds, at.Kind) {
		return api.Value{}, api.ErrKind
	}
	return at, nil
}

// follow takes the first of the steps, and hands on those behind it.
func follow(v api.Value, steps ...string) (api.Value, error) {
	if len(steps) == 0 {
		return v, nil
	}
	place := placeOf(v, steps[0])
	// An object that may not be can have names without values.
	if place < 0 || place >= len(v.List) {
		return api.Value{}, api.ErrNone
	}
	return follow(v.List[place], steps[1:]...)
}

// placeOf is the place in a value's List that a step tells; below 0 it tells none.
func placeOf(v api.Value, step string) int {
	switch {
	case step == "":
		// An object may have the empty name, but no path leads there.
		return -1
	case v.Kind == api.JSONObject:
		return slices.Index(v.Names, step)
	case v.Kind == api.JSONList:
		return number(step)
	}
	return -1
}

// number is a place in digits; below 0 it is none. Atoi takes a sign and needless noughts as well: told again they are missing.
func number(step string) int {
	n, err := strconv.Atoi(step)
	if err != nil || strconv.Itoa(n) != step {
		return -1
	}
	return n
}

// copied is a value in memory of its own, with all its parts.
func copied(v api.Value) api.Value {
	v.Text = strings.Clone(v.Text)
	v.Names = slices.Clone(v.Names)
	for i, name := range v.Names {
		v.Names[i] = strings.Clone(name)
	}
	v.List = slices.Clone(v.List)
	for i, part := range v.List {
		v.List[i] = copied(part)
	}
	return v
}
