package json

import (
	"strings"
	"turnstile/api"
)

// reader goes through a text. Where one of its methods answers an error, the place is at.
type reader struct {
	s     string
	at    int
	depth int // how many lists and objects are open
}

// next is the byte that comes next. At the end it is 0, which no text can go on with either.
func (r *reader) next() byte {
	if r.at == len(r.s) {
		return 0
	}
	return r.s[r.at]
}

func (r *reader) blanks() {
	for r.skip(" \t\n\r") {
	}
}

// whole reads a value with blanks around, and nothing else.
func (r *reader) whole() (api.Value, error) {
	r.blanks()
	v, err := r.value()
	if err != nil {
		return api.Value{}, err
	}
	r.blanks()
	if r.at < len(r.s) {
		return api.Value{}, api.ErrForm
	}
	return v, nil
}

func (r *reader) value() (api.Value, error) {
	switch r.next() {
	case 'n':
		return api.Value{Kind: api.JSONNull}, r.word("null")
	case 't':
		return api.Value{Kind: api.JSONBool, Bool: true}, r.word("true")
	case 'f':
		return api.Value{Kind: api.JSONBool}, r.word("false")
	case '"':
		text, err := r.text()
		return api.Value{Kind: api.JSONText, Text: text}, err
	case '[':
		return r.list()
	case '{':
		return r.object()
	}
	from := r.at
	if err := r.number(); err != nil {
		return api.Value{}, err
	}
	// An answer is new memory: a piece of s would hold on to the whole of it.
	return number(strings.Clone(r.s[from:r.at])), nil
}

func (r *reader) word(word string) error {
	for i := range len(word) {
		if r.next() != word[i] {
			return api.ErrForm
		}
		r.at++
	}
	return nil
}

func (r *reader) list() (api.Value, error) {
	v := api.Value{Kind: api.JSONList}
	err := r.nested("]", func() error { return r.part(&v) })
	return v, err
}

func (r *reader) object() (api.Value, error) {
	v := api.Value{Kind: api.JSONObject}
	there := map[string]struct{}{}
	err := r.nested("}", func() error {
		name, err := r.name(there)
		if err != nil {
			return err
		}
		v.Names = append(v.Names, name)
		return r.part(&v)
	})
	return v, err
}

// nested reads a list or an object from its first byte to its last one, the end.
func (r *reader) nested(end string, part func() error) error {
	if r.depth == api.MaxDepth {
		return api.ErrDepth
	}
	r.depth++
	r.at++
	r.blanks()
	if !r.skip(end) {
		if err := r.parts(end, part); err != nil {
			return err
		}
	}
	r.depth--
	return nil
}

// parts reads one part or more, and the end behind the last one.
func (r *reader) parts(end string, part func() error) error {
	for {
		if err := part(); err != nil {
			return err
		}
		r.blanks()
		if r.skip(end) {
			return nil
		}
		if !r.skip(",") {
			return api.ErrForm
		}
		r.blanks()
	}
}

// part reads a value and puts it behind the others of v.
func (r *reader) part(v *api.Value) error {
	p, err := r.value()
	if err == nil {
		v.List = append(v.List, p)
	}
	return err
}

// name reads a name that is not there yet, and what stands between it and its value.
func (r *reader) name(there map[string]struct{}) (string, error) {
	if r.next() != '"' {
		return "", api.ErrForm
	}
	from := r.at
	name, err := r.text()
	if err != nil {
		return "", err
	}
	if _, found := there[name]; found {
		r.at = from
		return "", api.ErrTwice
	}
	there[name] = struct{}{}
	r.blanks()
	if !r.skip(":") {
		return "", api.ErrForm
	}
	r.blanks()
	return name, nil
}

// number reads a number. One that is too long is wrong at the first byte too many, whatever comes behind.
func (r *reader) number() error {
	from := r.at
	err := r.numberParts()
	if r.at > from+maxNumber {
		r.at = from + maxNumber
		return api.ErrForm
	}
	return err
}

func (r *reader) numberParts() error {
	r.skip("-")
	if !r.skip("0") {
		if err := r.digits(); err != nil {
			return err
		}
	}
	if r.skip(".") {
		if err := r.digits(); err != nil {
			return err
		}
	}
	if r.skip("eE") {
		r.skip("+-")
		return r.digits()
	}
	return nil
}

// digits reads one digit or more.
func (r *reader) digits() error {
	const digits = "0123456789"
	if !r.skip(digits) {
		return api.ErrForm
	}
	for r.skip(digits) {
	}
	return nil
}

// skip goes over the next byte, if it is one of some.
func (r *reader) skip(some string) bool {
	if strings.IndexByte(some, r.next()) < 0 {
		return false
	}
	r.at++
	return true
}
