package json

import (
	"strconv"
	"turnstile/api"
	"unicode/utf8"
)

// fault is what is wrong with a value that is not too deep: a name that is there twice is told only where nothing else is wrong.
func fault(v api.Value) error {
	if !formed(v) {
		return api.ErrForm
	}
	var found error
	if twice(v.Names) {
		found = api.ErrTwice
	}
	for _, part := range v.List {
		err := fault(part)
		if err == api.ErrForm {
			return err
		}
		if err != nil {
			found = err
		}
	}
	return found
}

// formed tells whether a value may be but for its parts and for names that are there twice.
func formed(v api.Value) bool {
	switch v.Kind {
	case api.JSONNull:
		return Same(v, api.Value{Kind: v.Kind})
	case api.JSONBool:
		return Same(v, api.Value{Kind: v.Kind, Bool: v.Bool})
	case api.JSONNumber:
		return isNumber(v.Text) && Same(v, number(v.Text))
	case api.JSONText:
		return utf8.ValidString(v.Text) && Same(v, api.Value{Kind: v.Kind, Text: v.Text})
	case api.JSONList:
		v.List = nil
		return Same(v, api.Value{Kind: v.Kind})
	case api.JSONObject:
		if len(v.Names) != len(v.List) || !allValid(v.Names) {
			return false
		}
		v.List, v.Names = nil, nil
		return Same(v, api.Value{Kind: v.Kind})
	}
	return false
}

// number is the value of a text that is a number.
func number(text string) api.Value {
	v := api.Value{Kind: api.JSONNumber, Text: text}
	// Of a number with a point, with an exponent or out of range there is an error.
	if n, err := strconv.Atoi(text); err == nil {
		v.Whole, v.Int = true, n
	}
	return v
}

func isNumber(text string) bool {
	r := reader{s: text}
	return r.number() == nil && r.at == len(text)
}

func allValid(names []string) bool {
	for _, name := range names {
		if !utf8.ValidString(name) {
			return false
		}
	}
	return true
}

// twice tells whether one of the names is there twice.
func twice(names []string) bool {
	there := map[string]struct{}{}
	for _, name := range names {
		there[name] = struct{}{}
	}
	return len(there) < len(names)
}
